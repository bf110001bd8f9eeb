/- What purse.Decode, and the document's own Read and Decode, return. -/
import Derived.Test.YtehcbagllcogaaaBlk
import Derived.Test.YtehcbagllcogaaaPurseA
namespace Go.Proofs.Ytehcbagllcogaaa
open Go.RowKit
set_option linter.unusedVariables false
set_option linter.unusedSimpArgs false

theorem noU8_4 (a b c d : Int) : noU8 #[.int .i64 a, .int .i64 b, .int .i64 c, .int .i64 d] := by
  intro i x h
  match i with
  | 0 => simp at h
  | 1 => simp at h
  | 2 => simp at h
  | 3 => simp at h
  | i + 4 => simp at h
def nx1 (s : Option (List Nat)) : Option (List Nat) := (nx s).2
/-- four numbers, and what is left -/
def it0 (s : Option (List Nat)) : Int := (nx s).1
def it1 (s : Option (List Nat)) : Int := (nx (nx s).2).1
def it2 (s : Option (List Nat)) : Int := (nx (nx (nx s).2).2).1
def it3 (s : Option (List Nat)) : Int := (nx (nx (nx (nx s).2).2).2).1
def itR (s : Option (List Nat)) : Option (List Nat) := (nx (nx (nx (nx s).2).2).2).2
def decB (xs : List Nat) : Bool := allOf (itR (some xs)) && isP (it0 (some xs)) (it1 (some xs)) (it2 (some xs)) (it3 (some xs))
def decV (xs : List Nat) : Value := if decB xs = true then .tuple #[.agg #[.int .i64 (it0 (some xs)), .int .i64 (it1 (some xs)), .int .i64 (it2 (some xs)), .int .i64 (it3 (some xs))], .int .i64 0] else .tuple #[.agg #[.int .i64 0, .int .i64 0, .int .i64 0, .int .i64 0], .int .i64 3]

set_option maxHeartbeats 2000000 in
set_option maxRecDepth 10000 in
theorem purseDecode (A : Option Addr) (c : Nat) (xs : List Nat) (w : World) (hn : xs.length ≤ 10000) (h256 : ∀ x ∈ xs, x < 256) (hx : Cells w w.heap.size A xs.length c 1 (flatU xs)) :
    Calls Try.prog 4 #[.slice A xs.length c] w fun e w' => e = .returned (decV xs) ∧ Below w.heap.size w w' := by
  have hw2 : Below w.heap.size w ((w.alloc (.cells #[.int .i64 0, .int .i64 0, .int .i64 0, .int .i64 0] 23)).alloc (.cells #[.int .i64 0, .int .i64 0, .int .i64 0, .int .i64 0] 23)) := ((Below.refl _ _).alloc (Nat.le_refl _) _).alloc (by simp) _
  have HX := Lib.hid (cells_keep hx hw2 (by simp; omega : w.heap.size ≤ ((w.alloc (.cells #[.int .i64 0, .int .i64 0, .int .i64 0, .int .i64 0] 23)).alloc (.cells #[.int .i64 0, .int .i64 0, .int .i64 0, .int .i64 0] 23)).heap.size))
  have H256 := Lib.hid h256
  clear hx h256
  go_enter Try.func4, Try.ntmps4
  go_wp2_with fail
  refine (octNew A c xs _ (by omega) H256.out HX.out).mono ?_
  rintro e w1 ⟨b, rfl, hbs, hrs, hb⟩
  have hs1 := hb.size
  simp at hbs hs1
  have W0 : Whl w1 (w.heap.size + 1) 23 #[.int .i64 0, .int .i64 0, .int .i64 0, .int .i64 0] := Whl.below (Whl.new (by simp)) hb (by simp)
  have R0 : Whl w1 w.heap.size 23 #[.int .i64 0, .int .i64 0, .int .i64 0, .int .i64 0] := Whl.below (Whl.alloc (Whl.new rfl) _) hb (by simp; omega)
  have HS0 := Lib.hid hrs
  have B0 : Below w.heap.size w w1 := hw2.trans (hb.mono (by simp; omega))
  clear hw2 hrs
  go_wp2_with fail
  refine wp_loop_rounds 5 ?_; rw [rounds_succ]
  go_wp2_with fail
  refine (octNx b (some xs) _ HS0.out).mono ?_
  rintro e v0 ⟨rfl, hrs0, hb0⟩
  have hl0 := hb0.size
  have F0 : Whl v0 (w.heap.size + 1) 23 #[.int .i64 0, .int .i64 0, .int .i64 0, .int .i64 0] := Whl.below W0 hb0 (by omega)
  have B0' : Below w.heap.size w v0 := B0.trans (hb0.mono (by omega))
  have R0' : Whl v0 w.heap.size 23 #[.int .i64 0, .int .i64 0, .int .i64 0, .int .i64 0] := R0.below hb0 (by omega)
  have R1 : ∀ z, Whl (v0.setCell ⟨w.heap.size + 1, 0, none⟩ z) w.heap.size 23 #[.int .i64 0, .int .i64 0, .int .i64 0, .int .i64 0] := fun z => R0'.far (by simp)
  have B1 : ∀ z, Below w.heap.size w (v0.setCell ⟨w.heap.size + 1, 0, none⟩ z) := fun z => B0'.setCell (by simp) _
  have ck := F0.cell 0
  have fk := F0.free 0
  simp only [List.getElem?_toArray, List.getElem?_cons_succ, List.getElem?_cons_zero] at ck
  obtain ⟨n0, hn0⟩ : ∃ z : Int, z = ((nx (some xs)).1 : Int) := ⟨_, rfl⟩
  rw [← hn0]
  have HN0 := Lib.hid hn0
  clear hn0
  go_wp2_with fail
  have W1 : Whl (v0.setCell ⟨w.heap.size + 1, 0, none⟩ (.int .i64 n0)) (w.heap.size + 1) 23 #[.int .i64 (it0 (some xs)), .int .i64 0, .int .i64 0, .int .i64 0] := by
    have h := Whl.set F0 0 (.int .i64 n0)
    rw [HN0.out] at h ⊢
    exact h
  have HS1 := Lib.hid (RS.setBlk (i := 0) (v := .int .i64 n0) hrs0 F0 (noU8_4 _ _ _ _) (by omega))
  clear ck fk hrs0
  rw [rounds_succ]
  go_wp2_with fail
  refine (octNx b (nx (some xs)).2 _ HS1.out).mono ?_
  rintro e v1 ⟨rfl, hrs1, hb1⟩
  have hl1 := hb1.size
  have F1 : Whl v1 (w.heap.size + 1) 23 #[.int .i64 (it0 (some xs)), .int .i64 0, .int .i64 0, .int .i64 0] := Whl.below W1 hb1 (by omega)
  have B1' : Below w.heap.size w v1 := (B1 _).trans (hb1.mono (by omega))
  have R1' : Whl v1 w.heap.size 23 #[.int .i64 0, .int .i64 0, .int .i64 0, .int .i64 0] := (R1 _).below hb1 (by omega)
  have R2 : ∀ z, Whl (v1.setCell ⟨w.heap.size + 1, 1, none⟩ z) w.heap.size 23 #[.int .i64 0, .int .i64 0, .int .i64 0, .int .i64 0] := fun z => R1'.far (by simp)
  have B2 : ∀ z, Below w.heap.size w (v1.setCell ⟨w.heap.size + 1, 1, none⟩ z) := fun z => B1'.setCell (by simp) _
  have ck := F1.cell 1
  have fk := F1.free 1
  simp only [List.getElem?_toArray, List.getElem?_cons_succ, List.getElem?_cons_zero] at ck
  obtain ⟨n1, hn1⟩ : ∃ z : Int, z = ((nx (nx (some xs)).2).1 : Int) := ⟨_, rfl⟩
  rw [← hn1]
  have HN1 := Lib.hid hn1
  clear hn1
  go_wp2_with fail
  have W2 : Whl (v1.setCell ⟨w.heap.size + 1, 1, none⟩ (.int .i64 n1)) (w.heap.size + 1) 23 #[.int .i64 (it0 (some xs)), .int .i64 (it1 (some xs)), .int .i64 0, .int .i64 0] := by
    have h := Whl.set F1 1 (.int .i64 n1)
    rw [HN1.out] at h ⊢
    exact h
  have HS2 := Lib.hid (RS.setBlk (i := 1) (v := .int .i64 n1) hrs1 F1 (noU8_4 _ _ _ _) (by omega))
  clear ck fk hrs1
  rw [rounds_succ]
  go_wp2_with fail
  refine (octNx b (nx (nx (some xs)).2).2 _ HS2.out).mono ?_
  rintro e v2 ⟨rfl, hrs2, hb2⟩
  have hl2 := hb2.size
  have F2 : Whl v2 (w.heap.size + 1) 23 #[.int .i64 (it0 (some xs)), .int .i64 (it1 (some xs)), .int .i64 0, .int .i64 0] := Whl.below W2 hb2 (by omega)
  have B2' : Below w.heap.size w v2 := (B2 _).trans (hb2.mono (by omega))
  have R2' : Whl v2 w.heap.size 23 #[.int .i64 0, .int .i64 0, .int .i64 0, .int .i64 0] := (R2 _).below hb2 (by omega)
  have R3 : ∀ z, Whl (v2.setCell ⟨w.heap.size + 1, 2, none⟩ z) w.heap.size 23 #[.int .i64 0, .int .i64 0, .int .i64 0, .int .i64 0] := fun z => R2'.far (by simp)
  have B3 : ∀ z, Below w.heap.size w (v2.setCell ⟨w.heap.size + 1, 2, none⟩ z) := fun z => B2'.setCell (by simp) _
  have ck := F2.cell 2
  have fk := F2.free 2
  simp only [List.getElem?_toArray, List.getElem?_cons_succ, List.getElem?_cons_zero] at ck
  obtain ⟨n2, hn2⟩ : ∃ z : Int, z = ((nx (nx (nx (some xs)).2).2).1 : Int) := ⟨_, rfl⟩
  rw [← hn2]
  have HN2 := Lib.hid hn2
  clear hn2
  go_wp2_with fail
  have W3 : Whl (v2.setCell ⟨w.heap.size + 1, 2, none⟩ (.int .i64 n2)) (w.heap.size + 1) 23 #[.int .i64 (it0 (some xs)), .int .i64 (it1 (some xs)), .int .i64 (it2 (some xs)), .int .i64 0] := by
    have h := Whl.set F2 2 (.int .i64 n2)
    rw [HN2.out] at h ⊢
    exact h
  have HS3 := Lib.hid (RS.setBlk (i := 2) (v := .int .i64 n2) hrs2 F2 (noU8_4 _ _ _ _) (by omega))
  clear ck fk hrs2
  rw [rounds_succ]
  go_wp2_with fail
  refine (octNx b (nx (nx (nx (some xs)).2).2).2 _ HS3.out).mono ?_
  rintro e v3 ⟨rfl, hrs3, hb3⟩
  have hl3 := hb3.size
  have F3 : Whl v3 (w.heap.size + 1) 23 #[.int .i64 (it0 (some xs)), .int .i64 (it1 (some xs)), .int .i64 (it2 (some xs)), .int .i64 0] := Whl.below W3 hb3 (by omega)
  have B3' : Below w.heap.size w v3 := (B3 _).trans (hb3.mono (by omega))
  have R3' : Whl v3 w.heap.size 23 #[.int .i64 0, .int .i64 0, .int .i64 0, .int .i64 0] := (R3 _).below hb3 (by omega)
  have R4 : ∀ z, Whl (v3.setCell ⟨w.heap.size + 1, 3, none⟩ z) w.heap.size 23 #[.int .i64 0, .int .i64 0, .int .i64 0, .int .i64 0] := fun z => R3'.far (by simp)
  have B4 : ∀ z, Below w.heap.size w (v3.setCell ⟨w.heap.size + 1, 3, none⟩ z) := fun z => B3'.setCell (by simp) _
  have ck := F3.cell 3
  have fk := F3.free 3
  simp only [List.getElem?_toArray, List.getElem?_cons_succ, List.getElem?_cons_zero] at ck
  obtain ⟨n3, hn3⟩ : ∃ z : Int, z = ((nx (nx (nx (nx (some xs)).2).2).2).1 : Int) := ⟨_, rfl⟩
  rw [← hn3]
  have HN3 := Lib.hid hn3
  clear hn3
  go_wp2_with fail
  have W4 : Whl (v3.setCell ⟨w.heap.size + 1, 3, none⟩ (.int .i64 n3)) (w.heap.size + 1) 23 #[.int .i64 (it0 (some xs)), .int .i64 (it1 (some xs)), .int .i64 (it2 (some xs)), .int .i64 (it3 (some xs))] := by
    have h := Whl.set F3 3 (.int .i64 n3)
    rw [HN3.out] at h ⊢
    exact h
  have HS4 := Lib.hid (RS.setBlk (i := 3) (v := .int .i64 n3) hrs3 F3 (noU8_4 _ _ _ _) (by omega))
  clear ck fk hrs3
  rw [rounds_succ]
  have R5 := R4 (.int .i64 n3)
  have B5 := B4 (.int .i64 n3)
  generalize hV : v3.setCell ⟨w.heap.size + 1, 3, none⟩ (.int .i64 n3) = V at *
  clear hV
  go_wp2_with fail
  refine (octAll b _ _ HS4.out).mono ?_
  rintro e w5 ⟨rfl, rfl⟩
  have hVs : w.heap.size + 1 < V.heap.size := W4.low
  have r0 := R5.cell 0
  have r1 := R5.cell 1
  have r2 := R5.cell 2
  have r3 := R5.cell 3
  have t0 := R5.free 0
  have t1 := R5.free 1
  have t2 := R5.free 2
  have t3 := R5.free 3
  have d0 := W4.cell 0
  have d1 := W4.cell 1
  have d2 := W4.cell 2
  have d3 := W4.cell 3
  simp only [List.getElem?_toArray, List.getElem?_cons_succ, List.getElem?_cons_zero] at r0 r1 r2 r3 d0 d1 d2 d3
  cases hall : allOf (nx (nx (nx (nx (some xs)).2).2).2).2
  · have hv : decV xs = .tuple #[.agg #[.int .i64 0, .int .i64 0, .int .i64 0, .int .i64 0], .int .i64 3] := by
      have : decB xs = false := by unfold decB itR; rw [hall]; rfl
      unfold decV; rw [this]; rfl
    have HVV := Lib.hid hv
    clear hv
    go_wp2_with fail
    refine bodyPost_ret (v := .tuple #[.agg #[.int .i64 0, .int .i64 0, .int .i64 0, .int .i64 0], .int .i64 3]) (by simp [results, Try.results4, go_sem, ↓IntWalk.iteOmega, *]) rfl ⟨by rw [HVV.out], ?_⟩
    exact (((B5.setCell (Nat.le_refl _) _).setCell (Nat.le_refl _) _).setCell (Nat.le_refl _) _).setCell (Nat.le_refl _) _
  · go_wp2_with fail
    refine (purseIs _ _ _ _ _).mono ?_
    rintro e w6 ⟨rfl, hb6⟩
    have hs6 := hb6.size
    have B6 : Below w.heap.size w w6 := B5.trans (hb6.mono (by omega))
    replace r0 := bkeep hb6 r0 (by omega)
    replace r1 := bkeep hb6 r1 (by omega)
    replace r2 := bkeep hb6 r2 (by omega)
    replace r3 := bkeep hb6 r3 (by omega)
    replace t0 := bfree hb6 t0 (by omega)
    replace t1 := bfree hb6 t1 (by omega)
    replace t2 := bfree hb6 t2 (by omega)
    replace t3 := bfree hb6 t3 (by omega)
    replace d0 := bkeep hb6 d0 (by omega)
    replace d1 := bkeep hb6 d1 (by omega)
    replace d2 := bkeep hb6 d2 (by omega)
    replace d3 := bkeep hb6 d3 (by omega)
    cases hp : isP (it0 (some xs)) (it1 (some xs)) (it2 (some xs)) (it3 (some xs))
    · have hv : decV xs = .tuple #[.agg #[.int .i64 0, .int .i64 0, .int .i64 0, .int .i64 0], .int .i64 3] := by
        have : decB xs = false := by unfold decB; rw [hp, Bool.and_false]
        unfold decV; rw [this]; rfl
      have HVV := Lib.hid hv
      clear hv
      go_wp2_with fail
      refine bodyPost_ret (v := .tuple #[.agg #[.int .i64 0, .int .i64 0, .int .i64 0, .int .i64 0], .int .i64 3]) (by simp [results, Try.results4, go_sem, ↓IntWalk.iteOmega, *]) rfl ⟨by rw [HVV.out], ?_⟩
      exact (((B6.setCell (Nat.le_refl _) _).setCell (Nat.le_refl _) _).setCell (Nat.le_refl _) _).setCell (Nat.le_refl _) _
    · have hv : decV xs = .tuple #[.agg #[.int .i64 (it0 (some xs)), .int .i64 (it1 (some xs)), .int .i64 (it2 (some xs)), .int .i64 (it3 (some xs))], .int .i64 0] := by
        have : decB xs = true := by unfold decB itR; rw [hall, hp]; rfl
        unfold decV; rw [this]; rfl
      have HVV := Lib.hid hv
      clear hv
      go_wp2_with fail
      refine bodyPost_ret (v := .tuple #[.agg #[.int .i64 (it0 (some xs)), .int .i64 (it1 (some xs)), .int .i64 (it2 (some xs)), .int .i64 (it3 (some xs))], .int .i64 0]) (by simp [results, Try.results4, go_sem, ↓IntWalk.iteOmega, *]) rfl ⟨by rw [HVV.out], ?_⟩
      exact (((B6.setCell (Nat.le_refl _) _).setCell (Nat.le_refl _) _).setCell (Nat.le_refl _) _).setCell (Nat.le_refl _) _

end Go.Proofs.Ytehcbagllcogaaa
