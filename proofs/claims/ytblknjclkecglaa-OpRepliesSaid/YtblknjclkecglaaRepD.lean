/- What op.DecodeReply returns, of any bytes. -/
import Derived.Test.YtblknjclkecglaaRepRd
import Derived.Test.YtblknjclkecglaaRepA
namespace Go.Proofs.Ytblknjclkecglaa
open Go.RowKit
set_option linter.unusedVariables false
set_option linter.unusedSimpArgs false

theorem noU8_6 (a b c d e f : Int) : noU8 #[.int .i64 a, .int .i64 b, .int .i64 c, .int .i64 d, .int .i64 e, .int .i64 f] := by
  intro i x h
  match i with
  | 0 => simp at h
  | 1 => simp at h
  | 2 => simp at h
  | 3 => simp at h
  | 4 => simp at h
  | 5 => simp at h
  | i + 6 => simp at h
/-- six numbers, and what is left -/
def rnum (xs : List Nat) (k : Nat) : Int := match k with
  | 0 => ((nx (some xs)).1 : Int)
  | 1 => ((nx (nx (some xs)).2).1 : Int)
  | 2 => ((nx (nx (nx (some xs)).2).2).1 : Int)
  | 3 => ((nx (nx (nx (nx (some xs)).2).2).2).1 : Int)
  | 4 => ((nx (nx (nx (nx (nx (some xs)).2).2).2).2).1 : Int)
  | _ => ((nx (nx (nx (nx (nx (nx (some xs)).2).2).2).2).2).1 : Int)
def rpB (xs : List Nat) : Bool := allOf (nx (nx (nx (nx (nx (nx (some xs)).2).2).2).2).2).2 && repB (rnum xs 0) (rnum xs 1) (rnum xs 2) (rnum xs 3) (rnum xs 4) (rnum xs 5)
def rpV (xs : List Nat) : Value := if rpB xs = true then .tuple #[.agg #[.int .i64 (rnum xs 0), .int .i64 (rnum xs 1), .int .i64 (rnum xs 2), .int .i64 (rnum xs 3), .int .i64 (rnum xs 4), .int .i64 (rnum xs 5)], .int .i64 0] else .tuple #[.agg #[.int .i64 0, .int .i64 0, .int .i64 0, .int .i64 0, .int .i64 0, .int .i64 0], .int .i64 3]

set_option maxHeartbeats 4000000 in
set_option maxRecDepth 10000 in
theorem opDecodeReply (A : Option Addr) (c : Nat) (xs : List Nat) (w : World) (hn : xs.length ≤ 10000) (h256 : ∀ x ∈ xs, x < 256) (hx : Cells w w.heap.size A xs.length c 1 (flatU xs)) :
    Calls Try.prog 17 #[.slice A xs.length c] w fun e w' => e = .returned (rpV xs) ∧ Below w.heap.size w w' := by
  have hw2 : Below w.heap.size w ((w.alloc (.cells #[.int .i64 0, .int .i64 0, .int .i64 0, .int .i64 0, .int .i64 0, .int .i64 0] 43)).alloc (.cells #[.int .i64 0, .int .i64 0, .int .i64 0, .int .i64 0, .int .i64 0, .int .i64 0] 43)) := ((Below.refl _ _).alloc (Nat.le_refl _) _).alloc (by simp) _
  have HX := Lib.hid (cells_keep hx hw2 (by simp; omega : w.heap.size ≤ ((w.alloc (.cells #[.int .i64 0, .int .i64 0, .int .i64 0, .int .i64 0, .int .i64 0, .int .i64 0] 43)).alloc (.cells #[.int .i64 0, .int .i64 0, .int .i64 0, .int .i64 0, .int .i64 0, .int .i64 0] 43)).heap.size))
  have H256 := Lib.hid h256
  clear hx h256
  go_enter Try.func17, Try.ntmps17
  go_wp2_with fail
  refine (octNew A c xs _ (by omega) H256.out HX.out).mono ?_
  rintro e w1 ⟨b, rfl, hbs, hrs, hb⟩
  have hs1 := hb.size
  simp at hbs hs1
  have W0 : Whl w1 (w.heap.size + 1) 43 #[.int .i64 0, .int .i64 0, .int .i64 0, .int .i64 0, .int .i64 0, .int .i64 0] := Whl.below (Whl.new (by simp)) hb (by simp)
  have R0 : Whl w1 w.heap.size 43 #[.int .i64 0, .int .i64 0, .int .i64 0, .int .i64 0, .int .i64 0, .int .i64 0] := Whl.below (Whl.alloc (Whl.new rfl) _) hb (by simp; omega)
  have HS0 := Lib.hid hrs
  have B0 : Below w.heap.size w w1 := hw2.trans (hb.mono (by simp; omega))
  clear hw2 hrs
  go_wp2_with fail
  refine (octNx b (some xs) _ HS0.out).mono ?_
  rintro e v0 ⟨rfl, hrs0, hb0⟩
  have hl0 := hb0.size
  have W1 : Whl v0 (w.heap.size + 1) 43 #[.int .i64 0, .int .i64 0, .int .i64 0, .int .i64 0, .int .i64 0, .int .i64 0] := Whl.below W0 hb0 (by omega)
  have R1 : Whl v0 w.heap.size 43 #[.int .i64 0, .int .i64 0, .int .i64 0, .int .i64 0, .int .i64 0, .int .i64 0] := Whl.below R0 hb0 (by omega)
  have B1 : Below w.heap.size w v0 := B0.trans (hb0.mono (by omega))
  have HS1 := Lib.hid hrs0
  obtain ⟨n0, hn0⟩ : ∃ z : Int, z = ((nx (some xs)).1 : Int) := ⟨_, rfl⟩
  rw [← hn0]
  have HN0 := Lib.hid hn0
  clear hn0 hrs0
  go_wp2_with fail
  refine (octNx b (nx (some xs)).2 _ HS1.out).mono ?_
  rintro e v1 ⟨rfl, hrs1, hb1⟩
  have hl1 := hb1.size
  have W2 : Whl v1 (w.heap.size + 1) 43 #[.int .i64 0, .int .i64 0, .int .i64 0, .int .i64 0, .int .i64 0, .int .i64 0] := Whl.below W1 hb1 (by omega)
  have R2 : Whl v1 w.heap.size 43 #[.int .i64 0, .int .i64 0, .int .i64 0, .int .i64 0, .int .i64 0, .int .i64 0] := Whl.below R1 hb1 (by omega)
  have B2 : Below w.heap.size w v1 := B1.trans (hb1.mono (by omega))
  have HS2 := Lib.hid hrs1
  obtain ⟨n1, hn1⟩ : ∃ z : Int, z = ((nx (nx (some xs)).2).1 : Int) := ⟨_, rfl⟩
  rw [← hn1]
  have HN1 := Lib.hid hn1
  clear hn1 hrs1
  have ck0 := W2.cell 0
  have fk0 := W2.free 0
  have ck1 := W2.cell 1
  have fk1 := W2.free 1
  simp only [List.getElem?_toArray, List.getElem?_cons_succ, List.getElem?_cons_zero] at ck0 ck1
  go_wp2_with fail
  have X1 : Whl (v1.setCell ⟨w.heap.size + 1, 0, none⟩ (.int .i64 n0)) (w.heap.size + 1) 43 #[.int .i64 n0, .int .i64 0, .int .i64 0, .int .i64 0, .int .i64 0, .int .i64 0] := Whl.set W2 0 (.int .i64 n0)
  have X2 : Whl ((v1.setCell ⟨w.heap.size + 1, 0, none⟩ (.int .i64 n0)).setCell ⟨w.heap.size + 1, 1, none⟩ (.int .i64 n1)) (w.heap.size + 1) 43 #[.int .i64 n0, .int .i64 n1, .int .i64 0, .int .i64 0, .int .i64 0, .int .i64 0] := Whl.set X1 1 (.int .i64 n1)
  have S1 := RS.setBlk (i := 0) (v := .int .i64 n0) HS2.out W2 (noU8_6 _ _ _ _ _ _) (by omega)
  have HS3 := Lib.hid (RS.setBlk (i := 1) (v := .int .i64 n1) S1 X1 (noU8_6 _ _ _ _ _ _) (by omega))
  have R3 : Whl ((v1.setCell ⟨w.heap.size + 1, 0, none⟩ (.int .i64 n0)).setCell ⟨w.heap.size + 1, 1, none⟩ (.int .i64 n1)) w.heap.size 43 #[.int .i64 0, .int .i64 0, .int .i64 0, .int .i64 0, .int .i64 0, .int .i64 0] := (R2.far (by simp)).far (by simp)
  have B3 : Below w.heap.size w ((v1.setCell ⟨w.heap.size + 1, 0, none⟩ (.int .i64 n0)).setCell ⟨w.heap.size + 1, 1, none⟩ (.int .i64 n1)) := (B2.setCell (by simp) _).setCell (by simp) _
  have hz3 : ((v1.setCell ⟨w.heap.size + 1, 0, none⟩ (.int .i64 n0)).setCell ⟨w.heap.size + 1, 1, none⟩ (.int .i64 n1)).heap.size = v1.heap.size := by simp [World.setCell]
  clear ck0 fk0 ck1 fk1 S1 X1 W2 R2 B2 W1 R1 B1 W0 R0 B0
  generalize (v1.setCell ⟨w.heap.size + 1, 0, none⟩ (.int .i64 n0)).setCell ⟨w.heap.size + 1, 1, none⟩ (.int .i64 n1) = V2 at *
  refine wp_loop_rounds 5 ?_; rw [rounds_succ]
  go_wp2_with fail
  refine (octNx b (nx (nx (some xs)).2).2 _ HS3.out).mono ?_
  rintro e v2 ⟨rfl, hrs2, hb2⟩
  have hl2 := hb2.size
  have F2 : Whl v2 (w.heap.size + 1) 43 #[.int .i64 n0, .int .i64 n1, .int .i64 0, .int .i64 0, .int .i64 0, .int .i64 0] := Whl.below X2 hb2 (by omega)
  have Q2 : Whl v2 w.heap.size 43 #[.int .i64 0, .int .i64 0, .int .i64 0, .int .i64 0, .int .i64 0, .int .i64 0] := Whl.below R3 hb2 (by omega)
  have C2 : Below w.heap.size w v2 := B3.trans (hb2.mono (by omega))
  have ck := F2.cell 2
  have fk := F2.free 2
  simp only [List.getElem?_toArray, List.getElem?_cons_succ, List.getElem?_cons_zero] at ck
  obtain ⟨n2, hn2⟩ : ∃ z : Int, z = ((nx (nx (nx (some xs)).2).2).1 : Int) := ⟨_, rfl⟩
  rw [← hn2]
  have HN2 := Lib.hid hn2
  clear hn2
  go_wp2_with fail
  have X3 : Whl (v2.setCell ⟨w.heap.size + 1, 2, none⟩ (.int .i64 n2)) (w.heap.size + 1) 43 #[.int .i64 n0, .int .i64 n1, .int .i64 n2, .int .i64 0, .int .i64 0, .int .i64 0] := Whl.set F2 2 (.int .i64 n2)
  have HS4 := Lib.hid (RS.setBlk (i := 2) (v := .int .i64 n2) hrs2 F2 (noU8_6 _ _ _ _ _ _) (by omega))
  have R4 : Whl (v2.setCell ⟨w.heap.size + 1, 2, none⟩ (.int .i64 n2)) w.heap.size 43 #[.int .i64 0, .int .i64 0, .int .i64 0, .int .i64 0, .int .i64 0, .int .i64 0] := Q2.far (by simp)
  have B4 : Below w.heap.size w (v2.setCell ⟨w.heap.size + 1, 2, none⟩ (.int .i64 n2)) := C2.setCell (by simp) _
  have hz4 : (v2.setCell ⟨w.heap.size + 1, 2, none⟩ (.int .i64 n2)).heap.size = v2.heap.size := by simp [World.setCell]
  clear ck fk hrs2 F2 Q2 C2 X2 R3 B3
  generalize (v2.setCell ⟨w.heap.size + 1, 2, none⟩ (.int .i64 n2)) = V3 at *
  rw [rounds_succ]
  go_wp2_with fail
  refine (octNx b (nx (nx (nx (some xs)).2).2).2 _ HS4.out).mono ?_
  rintro e v3 ⟨rfl, hrs3, hb3⟩
  have hl3 := hb3.size
  have F3 : Whl v3 (w.heap.size + 1) 43 #[.int .i64 n0, .int .i64 n1, .int .i64 n2, .int .i64 0, .int .i64 0, .int .i64 0] := Whl.below X3 hb3 (by omega)
  have Q3 : Whl v3 w.heap.size 43 #[.int .i64 0, .int .i64 0, .int .i64 0, .int .i64 0, .int .i64 0, .int .i64 0] := Whl.below R4 hb3 (by omega)
  have C3 : Below w.heap.size w v3 := B4.trans (hb3.mono (by omega))
  have ck := F3.cell 3
  have fk := F3.free 3
  simp only [List.getElem?_toArray, List.getElem?_cons_succ, List.getElem?_cons_zero] at ck
  obtain ⟨n3, hn3⟩ : ∃ z : Int, z = ((nx (nx (nx (nx (some xs)).2).2).2).1 : Int) := ⟨_, rfl⟩
  rw [← hn3]
  have HN3 := Lib.hid hn3
  clear hn3
  go_wp2_with fail
  have X4 : Whl (v3.setCell ⟨w.heap.size + 1, 3, none⟩ (.int .i64 n3)) (w.heap.size + 1) 43 #[.int .i64 n0, .int .i64 n1, .int .i64 n2, .int .i64 n3, .int .i64 0, .int .i64 0] := Whl.set F3 3 (.int .i64 n3)
  have HS5 := Lib.hid (RS.setBlk (i := 3) (v := .int .i64 n3) hrs3 F3 (noU8_6 _ _ _ _ _ _) (by omega))
  have R5 : Whl (v3.setCell ⟨w.heap.size + 1, 3, none⟩ (.int .i64 n3)) w.heap.size 43 #[.int .i64 0, .int .i64 0, .int .i64 0, .int .i64 0, .int .i64 0, .int .i64 0] := Q3.far (by simp)
  have B5 : Below w.heap.size w (v3.setCell ⟨w.heap.size + 1, 3, none⟩ (.int .i64 n3)) := C3.setCell (by simp) _
  have hz5 : (v3.setCell ⟨w.heap.size + 1, 3, none⟩ (.int .i64 n3)).heap.size = v3.heap.size := by simp [World.setCell]
  clear ck fk hrs3 F3 Q3 C3 X3 R4 B4
  generalize (v3.setCell ⟨w.heap.size + 1, 3, none⟩ (.int .i64 n3)) = V4 at *
  rw [rounds_succ]
  go_wp2_with fail
  refine (octNx b (nx (nx (nx (nx (some xs)).2).2).2).2 _ HS5.out).mono ?_
  rintro e v4 ⟨rfl, hrs4, hb4⟩
  have hl4 := hb4.size
  have F4 : Whl v4 (w.heap.size + 1) 43 #[.int .i64 n0, .int .i64 n1, .int .i64 n2, .int .i64 n3, .int .i64 0, .int .i64 0] := Whl.below X4 hb4 (by omega)
  have Q4 : Whl v4 w.heap.size 43 #[.int .i64 0, .int .i64 0, .int .i64 0, .int .i64 0, .int .i64 0, .int .i64 0] := Whl.below R5 hb4 (by omega)
  have C4 : Below w.heap.size w v4 := B5.trans (hb4.mono (by omega))
  have ck := F4.cell 4
  have fk := F4.free 4
  simp only [List.getElem?_toArray, List.getElem?_cons_succ, List.getElem?_cons_zero] at ck
  obtain ⟨n4, hn4⟩ : ∃ z : Int, z = ((nx (nx (nx (nx (nx (some xs)).2).2).2).2).1 : Int) := ⟨_, rfl⟩
  rw [← hn4]
  have HN4 := Lib.hid hn4
  clear hn4
  go_wp2_with fail
  have X5 : Whl (v4.setCell ⟨w.heap.size + 1, 4, none⟩ (.int .i64 n4)) (w.heap.size + 1) 43 #[.int .i64 n0, .int .i64 n1, .int .i64 n2, .int .i64 n3, .int .i64 n4, .int .i64 0] := Whl.set F4 4 (.int .i64 n4)
  have HS6 := Lib.hid (RS.setBlk (i := 4) (v := .int .i64 n4) hrs4 F4 (noU8_6 _ _ _ _ _ _) (by omega))
  have R6 : Whl (v4.setCell ⟨w.heap.size + 1, 4, none⟩ (.int .i64 n4)) w.heap.size 43 #[.int .i64 0, .int .i64 0, .int .i64 0, .int .i64 0, .int .i64 0, .int .i64 0] := Q4.far (by simp)
  have B6 : Below w.heap.size w (v4.setCell ⟨w.heap.size + 1, 4, none⟩ (.int .i64 n4)) := C4.setCell (by simp) _
  have hz6 : (v4.setCell ⟨w.heap.size + 1, 4, none⟩ (.int .i64 n4)).heap.size = v4.heap.size := by simp [World.setCell]
  clear ck fk hrs4 F4 Q4 C4 X4 R5 B5
  generalize (v4.setCell ⟨w.heap.size + 1, 4, none⟩ (.int .i64 n4)) = V5 at *
  rw [rounds_succ]
  go_wp2_with fail
  refine (octNx b (nx (nx (nx (nx (nx (some xs)).2).2).2).2).2 _ HS6.out).mono ?_
  rintro e v5 ⟨rfl, hrs5, hb5⟩
  have hl5 := hb5.size
  have F5 : Whl v5 (w.heap.size + 1) 43 #[.int .i64 n0, .int .i64 n1, .int .i64 n2, .int .i64 n3, .int .i64 n4, .int .i64 0] := Whl.below X5 hb5 (by omega)
  have Q5 : Whl v5 w.heap.size 43 #[.int .i64 0, .int .i64 0, .int .i64 0, .int .i64 0, .int .i64 0, .int .i64 0] := Whl.below R6 hb5 (by omega)
  have C5 : Below w.heap.size w v5 := B6.trans (hb5.mono (by omega))
  have ck := F5.cell 5
  have fk := F5.free 5
  simp only [List.getElem?_toArray, List.getElem?_cons_succ, List.getElem?_cons_zero] at ck
  obtain ⟨n5, hn5⟩ : ∃ z : Int, z = ((nx (nx (nx (nx (nx (nx (some xs)).2).2).2).2).2).1 : Int) := ⟨_, rfl⟩
  rw [← hn5]
  have HN5 := Lib.hid hn5
  clear hn5
  go_wp2_with fail
  have X6 : Whl (v5.setCell ⟨w.heap.size + 1, 5, none⟩ (.int .i64 n5)) (w.heap.size + 1) 43 #[.int .i64 n0, .int .i64 n1, .int .i64 n2, .int .i64 n3, .int .i64 n4, .int .i64 n5] := Whl.set F5 5 (.int .i64 n5)
  have HS7 := Lib.hid (RS.setBlk (i := 5) (v := .int .i64 n5) hrs5 F5 (noU8_6 _ _ _ _ _ _) (by omega))
  have R7 : Whl (v5.setCell ⟨w.heap.size + 1, 5, none⟩ (.int .i64 n5)) w.heap.size 43 #[.int .i64 0, .int .i64 0, .int .i64 0, .int .i64 0, .int .i64 0, .int .i64 0] := Q5.far (by simp)
  have B7 : Below w.heap.size w (v5.setCell ⟨w.heap.size + 1, 5, none⟩ (.int .i64 n5)) := C5.setCell (by simp) _
  have hz7 : (v5.setCell ⟨w.heap.size + 1, 5, none⟩ (.int .i64 n5)).heap.size = v5.heap.size := by simp [World.setCell]
  clear ck fk hrs5 F5 Q5 C5 X5 R6 B6
  generalize (v5.setCell ⟨w.heap.size + 1, 5, none⟩ (.int .i64 n5)) = V6 at *
  rw [rounds_succ]
  go_wp2_with fail
  refine (octAll b _ _ HS7.out).mono ?_
  rintro e w5 ⟨rfl, rfl⟩
  have hVs : w.heap.size + 1 < V6.heap.size := X6.low
  have r0 := R7.cell 0
  have r1 := R7.cell 1
  have r2 := R7.cell 2
  have r3 := R7.cell 3
  have r4 := R7.cell 4
  have r5 := R7.cell 5
  have t0 := R7.free 0
  have t1 := R7.free 1
  have t2 := R7.free 2
  have t3 := R7.free 3
  have t4 := R7.free 4
  have t5 := R7.free 5
  have d0 := X6.cell 0
  have d1 := X6.cell 1
  have d2 := X6.cell 2
  have d3 := X6.cell 3
  have d4 := X6.cell 4
  have d5 := X6.cell 5
  simp only [List.getElem?_toArray, List.getElem?_cons_succ, List.getElem?_cons_zero] at r0 r1 r2 r3 r4 r5 d0 d1 d2 d3 d4 d5
  have hrep : repB (rnum xs 0) (rnum xs 1) (rnum xs 2) (rnum xs 3) (rnum xs 4) (rnum xs 5) = repB n0 n1 n2 n3 n4 n5 := by
    rw [HN0.out, HN1.out, HN2.out, HN3.out, HN4.out, HN5.out]; rfl
  have hval : (#[.int .i64 (rnum xs 0), .int .i64 (rnum xs 1), .int .i64 (rnum xs 2), .int .i64 (rnum xs 3), .int .i64 (rnum xs 4), .int .i64 (rnum xs 5)] : Array Value) = #[.int .i64 n0, .int .i64 n1, .int .i64 n2, .int .i64 n3, .int .i64 n4, .int .i64 n5] := by
    rw [HN0.out, HN1.out, HN2.out, HN3.out, HN4.out, HN5.out]; rfl
  have HREP := Lib.hid hrep
  have HVAL := Lib.hid hval
  clear hrep hval
  cases hall : allOf (nx (nx (nx (nx (nx (nx (some xs)).2).2).2).2).2).2
  · have hv : rpV xs = .tuple #[.agg #[.int .i64 0, .int .i64 0, .int .i64 0, .int .i64 0, .int .i64 0, .int .i64 0], .int .i64 3] := by
      have : rpB xs = false := by unfold rpB; rw [hall]; rfl
      unfold rpV; rw [this]; rfl
    have HVV := Lib.hid hv
    clear hv
    go_wp2_with fail
    refine bodyPost_ret (v := .tuple #[.agg #[.int .i64 0, .int .i64 0, .int .i64 0, .int .i64 0, .int .i64 0, .int .i64 0], .int .i64 3]) (by simp [results, Try.results17, go_sem, ↓IntWalk.iteOmega, *]) rfl ⟨by rw [HVV.out], ?_⟩
    exact (((((B7.setCell (Nat.le_refl _) _).setCell (Nat.le_refl _) _).setCell (Nat.le_refl _) _).setCell (Nat.le_refl _) _).setCell (Nat.le_refl _) _).setCell (Nat.le_refl _) _
  · go_wp2_with fail
    refine (opMayReply _ _ _ _ _ _ _).mono ?_
    rintro e w6 ⟨rfl, hb6⟩
    have hs6 := hb6.size
    have B8 : Below w.heap.size w w6 := B7.trans (hb6.mono (by omega))
    replace r0 := bkeep hb6 r0 (by omega)
    replace r1 := bkeep hb6 r1 (by omega)
    replace r2 := bkeep hb6 r2 (by omega)
    replace r3 := bkeep hb6 r3 (by omega)
    replace r4 := bkeep hb6 r4 (by omega)
    replace r5 := bkeep hb6 r5 (by omega)
    replace t0 := bfree hb6 t0 (by omega)
    replace t1 := bfree hb6 t1 (by omega)
    replace t2 := bfree hb6 t2 (by omega)
    replace t3 := bfree hb6 t3 (by omega)
    replace t4 := bfree hb6 t4 (by omega)
    replace t5 := bfree hb6 t5 (by omega)
    replace d0 := bkeep hb6 d0 (by omega)
    replace d1 := bkeep hb6 d1 (by omega)
    replace d2 := bkeep hb6 d2 (by omega)
    replace d3 := bkeep hb6 d3 (by omega)
    replace d4 := bkeep hb6 d4 (by omega)
    replace d5 := bkeep hb6 d5 (by omega)
    cases hp : repB n0 n1 n2 n3 n4 n5
    · have hv : rpV xs = .tuple #[.agg #[.int .i64 0, .int .i64 0, .int .i64 0, .int .i64 0, .int .i64 0, .int .i64 0], .int .i64 3] := by
        have : rpB xs = false := by unfold rpB; rw [HREP.out, hp, Bool.and_false]
        unfold rpV; rw [this]; rfl
      have HVV := Lib.hid hv
      clear hv
      go_wp2_with fail
      refine bodyPost_ret (v := .tuple #[.agg #[.int .i64 0, .int .i64 0, .int .i64 0, .int .i64 0, .int .i64 0, .int .i64 0], .int .i64 3]) (by simp [results, Try.results17, go_sem, ↓IntWalk.iteOmega, *]) rfl ⟨by rw [HVV.out], ?_⟩
      exact (((((B8.setCell (Nat.le_refl _) _).setCell (Nat.le_refl _) _).setCell (Nat.le_refl _) _).setCell (Nat.le_refl _) _).setCell (Nat.le_refl _) _).setCell (Nat.le_refl _) _
    · have hv : rpV xs = .tuple #[.agg #[.int .i64 n0, .int .i64 n1, .int .i64 n2, .int .i64 n3, .int .i64 n4, .int .i64 n5], .int .i64 0] := by
        have : rpB xs = true := by unfold rpB; rw [HREP.out, hp, hall]; rfl
        unfold rpV; rw [this, HVAL.out]; rfl
      have HVV := Lib.hid hv
      clear hv
      go_wp2_with fail
      refine bodyPost_ret (v := .tuple #[.agg #[.int .i64 n0, .int .i64 n1, .int .i64 n2, .int .i64 n3, .int .i64 n4, .int .i64 n5], .int .i64 0]) (by simp [results, Try.results17, go_sem, ↓IntWalk.iteOmega, *]) rfl ⟨by rw [HVV.out], ?_⟩
      exact (((((B8.setCell (Nat.le_refl _) _).setCell (Nat.le_refl _) _).setCell (Nat.le_refl _) _).setCell (Nat.le_refl _) _).setCell (Nat.le_refl _) _).setCell (Nat.le_refl _) _
end Go.Proofs.Ytblknjclkecglaa
