/- What the document's own Read of a purse returns. -/
import Derived.Test.YtblknjclkecglaaRepI
import Derived.Test.YtblknjclkecglaaOctetT
namespace Go.Proofs.Ytblknjclkecglaa
open Go.RowKit
set_option linter.unusedVariables false
set_option linter.unusedSimpArgs false

theorem Whl.tch {w w' : World} {g b : Nat} {t : TypeId} {cs : Array Value} (h : Whl w g t cs) (hb : Tch b w w') (hB : g ≠ b) : Whl w' g t cs := (hb.block g h.low hB).trans h
theorem RS.fresh {w w' : World} {b : Nat} {st : Option (List Nat)} (h : RS w b st) (hb : Below w.heap.size w w') : RS w' b st := h.below hb h.low
/-- what Read leaves: it errs where they are no purse -/
def readR (s : Option (List Nat)) : Option (List Nat) := if isP (it0 s) (it1 s) (it2 s) (it3 s) = true then itR s else none

theorem tchSet {b H : Nat} {w w' : World} (h : Tch b w w') (hH : w.heap.size ≤ H) (j : Nat) (v : Value) : Tch b w (w'.setCell ⟨H, j, none⟩ v) := ⟨h.os, h.tape, h.output, by simpa [World.setCell] using h.size, fun k hk hn => (Below.heap_setCell _ _ _ _ (by simp; omega)).trans (h.block k hk hn)⟩
set_option maxHeartbeats 2000000 in
set_option maxRecDepth 10000 in
theorem refRead (b : Nat) (s : Option (List Nat)) (w : World) (hr : RS w b s) :
    Calls Try.prog 40 #[.pointer (some ⟨b, 0, none⟩)] w fun e w' => e = .returned (.agg #[.int .i64 (it0 s), .int .i64 (it1 s), .int .i64 (it2 s), .int .i64 (it3 s)]) ∧ RS w' b (readR s) ∧ Tch b w w' := by
  have hbl := hr.low
  have HS0 := Lib.hid ((hr.alloc (.cells #[.int .i64 0, .int .i64 0, .int .i64 0, .int .i64 0] 41)).alloc (.cells #[.int .i64 0, .int .i64 0, .int .i64 0, .int .i64 0] 41))
  have W0 : Whl ((w.alloc (.cells #[.int .i64 0, .int .i64 0, .int .i64 0, .int .i64 0] 41)).alloc (.cells #[.int .i64 0, .int .i64 0, .int .i64 0, .int .i64 0] 41)) (w.heap.size + 1) 41 #[.int .i64 0, .int .i64 0, .int .i64 0, .int .i64 0] := Whl.new (by simp)
  have R0 : Whl ((w.alloc (.cells #[.int .i64 0, .int .i64 0, .int .i64 0, .int .i64 0] 41)).alloc (.cells #[.int .i64 0, .int .i64 0, .int .i64 0, .int .i64 0] 41)) w.heap.size 41 #[.int .i64 0, .int .i64 0, .int .i64 0, .int .i64 0] := Whl.alloc (Whl.new rfl) _
  have B0 : Tch b w ((w.alloc (.cells #[.int .i64 0, .int .i64 0, .int .i64 0, .int .i64 0] 41)).alloc (.cells #[.int .i64 0, .int .i64 0, .int .i64 0, .int .i64 0] 41)) := Tch.of_fresh b (((Below.refl _ _).alloc (Nat.le_refl _) _).alloc (by simp) _)
  clear hr
  go_enter Try.func40, Try.ntmps40
  go_wp2_with fail
  refine wp_loop_rounds 5 ?_; rw [rounds_succ]
  go_wp2_with fail
  refine (rfNxT b s _ HS0.out).mono ?_
  rintro e v0 ⟨rfl, hrs0, hb0⟩
  have hl0 := hb0.size
  have F0 : Whl v0 (w.heap.size + 1) 41 #[.int .i64 0, .int .i64 0, .int .i64 0, .int .i64 0] := Whl.tch W0 hb0 (by omega)
  have B0' : Tch b w v0 := B0.trans hb0
  have R0' : Whl v0 w.heap.size 41 #[.int .i64 0, .int .i64 0, .int .i64 0, .int .i64 0] := R0.tch hb0 (by omega)
  have R1 : ∀ z, Whl (v0.setCell ⟨w.heap.size + 1, 0, none⟩ z) w.heap.size 41 #[.int .i64 0, .int .i64 0, .int .i64 0, .int .i64 0] := fun z => R0'.far (by simp)
  have B1 : ∀ z, Tch b w (v0.setCell ⟨w.heap.size + 1, 0, none⟩ z) := fun z => ⟨B0'.os, B0'.tape, B0'.output, by simpa [World.setCell] using B0'.size, fun j hj hn => (Below.heap_setCell _ _ _ _ (by simp; omega)).trans (B0'.block j hj hn)⟩
  have ck := F0.cell 0
  have fk := F0.free 0
  simp only [List.getElem?_toArray, List.getElem?_cons_succ, List.getElem?_cons_zero] at ck
  obtain ⟨n0, hn0⟩ : ∃ z : Int, z = ((nx s).1 : Int) := ⟨_, rfl⟩
  rw [← hn0]
  have HN0 := Lib.hid hn0
  clear hn0
  go_wp2_with fail
  have W1 : Whl (v0.setCell ⟨w.heap.size + 1, 0, none⟩ (.int .i64 n0)) (w.heap.size + 1) 41 #[.int .i64 (it0 s), .int .i64 0, .int .i64 0, .int .i64 0] := by
    have h := Whl.set F0 0 (.int .i64 n0)
    rw [HN0.out] at h ⊢
    exact h
  have HS1 := Lib.hid (RS.setBlk (i := 0) (v := .int .i64 n0) hrs0 F0 (noU8_4 _ _ _ _) (by omega))
  clear ck fk hrs0
  rw [rounds_succ]
  go_wp2_with fail
  refine (rfNxT b (nx s).2 _ HS1.out).mono ?_
  rintro e v1 ⟨rfl, hrs1, hb1⟩
  have hl1 := hb1.size
  have F1 : Whl v1 (w.heap.size + 1) 41 #[.int .i64 (it0 s), .int .i64 0, .int .i64 0, .int .i64 0] := Whl.tch W1 hb1 (by omega)
  have B1' : Tch b w v1 := (B1 _).trans hb1
  have R1' : Whl v1 w.heap.size 41 #[.int .i64 0, .int .i64 0, .int .i64 0, .int .i64 0] := (R1 _).tch hb1 (by omega)
  have R2 : ∀ z, Whl (v1.setCell ⟨w.heap.size + 1, 1, none⟩ z) w.heap.size 41 #[.int .i64 0, .int .i64 0, .int .i64 0, .int .i64 0] := fun z => R1'.far (by simp)
  have B2 : ∀ z, Tch b w (v1.setCell ⟨w.heap.size + 1, 1, none⟩ z) := fun z => ⟨B1'.os, B1'.tape, B1'.output, by simpa [World.setCell] using B1'.size, fun j hj hn => (Below.heap_setCell _ _ _ _ (by simp; omega)).trans (B1'.block j hj hn)⟩
  have ck := F1.cell 1
  have fk := F1.free 1
  simp only [List.getElem?_toArray, List.getElem?_cons_succ, List.getElem?_cons_zero] at ck
  obtain ⟨n1, hn1⟩ : ∃ z : Int, z = ((nx (nx s).2).1 : Int) := ⟨_, rfl⟩
  rw [← hn1]
  have HN1 := Lib.hid hn1
  clear hn1
  go_wp2_with fail
  have W2 : Whl (v1.setCell ⟨w.heap.size + 1, 1, none⟩ (.int .i64 n1)) (w.heap.size + 1) 41 #[.int .i64 (it0 s), .int .i64 (it1 s), .int .i64 0, .int .i64 0] := by
    have h := Whl.set F1 1 (.int .i64 n1)
    rw [HN1.out] at h ⊢
    exact h
  have HS2 := Lib.hid (RS.setBlk (i := 1) (v := .int .i64 n1) hrs1 F1 (noU8_4 _ _ _ _) (by omega))
  clear ck fk hrs1
  rw [rounds_succ]
  go_wp2_with fail
  refine (rfNxT b (nx (nx s).2).2 _ HS2.out).mono ?_
  rintro e v2 ⟨rfl, hrs2, hb2⟩
  have hl2 := hb2.size
  have F2 : Whl v2 (w.heap.size + 1) 41 #[.int .i64 (it0 s), .int .i64 (it1 s), .int .i64 0, .int .i64 0] := Whl.tch W2 hb2 (by omega)
  have B2' : Tch b w v2 := (B2 _).trans hb2
  have R2' : Whl v2 w.heap.size 41 #[.int .i64 0, .int .i64 0, .int .i64 0, .int .i64 0] := (R2 _).tch hb2 (by omega)
  have R3 : ∀ z, Whl (v2.setCell ⟨w.heap.size + 1, 2, none⟩ z) w.heap.size 41 #[.int .i64 0, .int .i64 0, .int .i64 0, .int .i64 0] := fun z => R2'.far (by simp)
  have B3 : ∀ z, Tch b w (v2.setCell ⟨w.heap.size + 1, 2, none⟩ z) := fun z => ⟨B2'.os, B2'.tape, B2'.output, by simpa [World.setCell] using B2'.size, fun j hj hn => (Below.heap_setCell _ _ _ _ (by simp; omega)).trans (B2'.block j hj hn)⟩
  have ck := F2.cell 2
  have fk := F2.free 2
  simp only [List.getElem?_toArray, List.getElem?_cons_succ, List.getElem?_cons_zero] at ck
  obtain ⟨n2, hn2⟩ : ∃ z : Int, z = ((nx (nx (nx s).2).2).1 : Int) := ⟨_, rfl⟩
  rw [← hn2]
  have HN2 := Lib.hid hn2
  clear hn2
  go_wp2_with fail
  have W3 : Whl (v2.setCell ⟨w.heap.size + 1, 2, none⟩ (.int .i64 n2)) (w.heap.size + 1) 41 #[.int .i64 (it0 s), .int .i64 (it1 s), .int .i64 (it2 s), .int .i64 0] := by
    have h := Whl.set F2 2 (.int .i64 n2)
    rw [HN2.out] at h ⊢
    exact h
  have HS3 := Lib.hid (RS.setBlk (i := 2) (v := .int .i64 n2) hrs2 F2 (noU8_4 _ _ _ _) (by omega))
  clear ck fk hrs2
  rw [rounds_succ]
  go_wp2_with fail
  refine (rfNxT b (nx (nx (nx s).2).2).2 _ HS3.out).mono ?_
  rintro e v3 ⟨rfl, hrs3, hb3⟩
  have hl3 := hb3.size
  have F3 : Whl v3 (w.heap.size + 1) 41 #[.int .i64 (it0 s), .int .i64 (it1 s), .int .i64 (it2 s), .int .i64 0] := Whl.tch W3 hb3 (by omega)
  have B3' : Tch b w v3 := (B3 _).trans hb3
  have R3' : Whl v3 w.heap.size 41 #[.int .i64 0, .int .i64 0, .int .i64 0, .int .i64 0] := (R3 _).tch hb3 (by omega)
  have R4 : ∀ z, Whl (v3.setCell ⟨w.heap.size + 1, 3, none⟩ z) w.heap.size 41 #[.int .i64 0, .int .i64 0, .int .i64 0, .int .i64 0] := fun z => R3'.far (by simp)
  have B4 : ∀ z, Tch b w (v3.setCell ⟨w.heap.size + 1, 3, none⟩ z) := fun z => ⟨B3'.os, B3'.tape, B3'.output, by simpa [World.setCell] using B3'.size, fun j hj hn => (Below.heap_setCell _ _ _ _ (by simp; omega)).trans (B3'.block j hj hn)⟩
  have ck := F3.cell 3
  have fk := F3.free 3
  simp only [List.getElem?_toArray, List.getElem?_cons_succ, List.getElem?_cons_zero] at ck
  obtain ⟨n3, hn3⟩ : ∃ z : Int, z = ((nx (nx (nx (nx s).2).2).2).1 : Int) := ⟨_, rfl⟩
  rw [← hn3]
  have HN3 := Lib.hid hn3
  clear hn3
  go_wp2_with fail
  have W4 : Whl (v3.setCell ⟨w.heap.size + 1, 3, none⟩ (.int .i64 n3)) (w.heap.size + 1) 41 #[.int .i64 (it0 s), .int .i64 (it1 s), .int .i64 (it2 s), .int .i64 (it3 s)] := by
    have h := Whl.set F3 3 (.int .i64 n3)
    rw [HN3.out] at h ⊢
    exact h
  have HS4 := Lib.hid (RS.setBlk (i := 3) (v := .int .i64 n3) hrs3 F3 (noU8_4 _ _ _ _) (by omega))
  clear ck fk hrs3
  rw [rounds_succ]
  have R5 := R4 (.int .i64 n3)
  have B5 := B4 (.int .i64 n3)
  have d0 := W4.cell 0
  have d1 := W4.cell 1
  have d2 := W4.cell 2
  have d3 := W4.cell 3
  simp only [List.getElem?_toArray, List.getElem?_cons_succ, List.getElem?_cons_zero] at d0 d1 d2 d3
  generalize hV : v3.setCell ⟨w.heap.size + 1, 3, none⟩ (.int .i64 n3) = V at *
  clear hV
  have hVs : w.heap.size + 1 < V.heap.size := W4.low
  go_wp2_with fail
  refine (refPIs _ _ _ _ _).mono ?_
  rintro e w6 ⟨rfl, hb6⟩
  have hs6 := hb6.size
  have B6 : Tch b w w6 := B5.trans (Tch.of_fresh b hb6)
  have R6 := R5.below hb6 (by omega)
  have W6 := W4.below hb6 (by omega)
  have HS6 := Lib.hid (HS4.out.fresh hb6)
  clear d0 d1 d2 d3
  cases hp : isP (it0 s) (it1 s) (it2 s) (it3 s)
  · have HR : Hid (readR s = none) := Lib.hid (by unfold readR; rw [hp]; rfl)
    clear hp
    go_wp2_with fail
    refine (rfBadST b _ _ HS6.out).mono ?_
    rintro e V7 ⟨rfl, hrs7, hb7⟩
    have R7 := R6.tch hb7 (by omega)
    have W7 := W6.tch hb7 (by omega)
    have B7 := B6.trans hb7
    have HS7 := Lib.hid hrs7
    have hs7 := hb7.size
    clear hrs7
    have r0 := R7.cell 0
    have r1 := R7.cell 1
    have r2 := R7.cell 2
    have r3 := R7.cell 3
    have t0 := R7.free 0
    have t1 := R7.free 1
    have t2 := R7.free 2
    have t3 := R7.free 3
    have d0 := W7.cell 0
    have d1 := W7.cell 1
    have d2 := W7.cell 2
    have d3 := W7.cell 3
    simp only [List.getElem?_toArray, List.getElem?_cons_succ, List.getElem?_cons_zero] at r0 r1 r2 r3 d0 d1 d2 d3
    have X0 := R7.set 0 (.int .i64 (it0 s))
    have X1 := X0.set 1 (.int .i64 (it1 s))
    have X2 := X1.set 2 (.int .i64 (it2 s))
    have S1 := RS.setBlk (i := 0) (v := .int .i64 (it0 s)) HS7.out R7 (noU8_4 _ _ _ _) (by omega)
    have S2 := RS.setBlk (i := 1) (v := .int .i64 (it1 s)) S1 X0 (noU8_4 _ _ _ _) (by omega)
    have S3 := RS.setBlk (i := 2) (v := .int .i64 (it2 s)) S2 X1 (noU8_4 _ _ _ _) (by omega)
    have S4 := Lib.hid (RS.setBlk (i := 3) (v := .int .i64 (it3 s)) S3 X2 (noU8_4 _ _ _ _) (by omega))
    have U4 : Tch b w ((((V7.setCell ⟨w.heap.size, 0, none⟩ (.int .i64 (it0 s))).setCell ⟨w.heap.size, 1, none⟩ (.int .i64 (it1 s))).setCell ⟨w.heap.size, 2, none⟩ (.int .i64 (it2 s))).setCell ⟨w.heap.size, 3, none⟩ (.int .i64 (it3 s))) := tchSet (tchSet (tchSet (tchSet B7 (Nat.le_refl _) _ _) (Nat.le_refl _) _ _) (Nat.le_refl _) _ _) (Nat.le_refl _) _ _
    clear X0 X1 X2 S1 S2 S3
    go_wp2_with fail
    refine bodyPost_ret (v := .agg #[.int .i64 (it0 s), .int .i64 (it1 s), .int .i64 (it2 s), .int .i64 (it3 s)]) (by simp [results, Try.results40, go_sem, ↓IntWalk.iteOmega, *]) rfl ⟨rfl, by rw [HR.out]; exact S4.out, U4⟩
  · have HR : Hid (readR s = (nx (nx (nx (nx s).2).2).2).2) := Lib.hid (by unfold readR; rw [hp]; rfl)
    clear hp
    obtain ⟨V7, hV7⟩ : ∃ z, z = w6 := ⟨_, rfl⟩
    rw [← hV7] at R6 W6 B6 HS6 hs6
    rw [← hV7]
    clear hV7
    have R7 := R6
    have W7 := W6
    have B7 := B6
    have HS7 := HS6
    have r0 := R7.cell 0
    have r1 := R7.cell 1
    have r2 := R7.cell 2
    have r3 := R7.cell 3
    have t0 := R7.free 0
    have t1 := R7.free 1
    have t2 := R7.free 2
    have t3 := R7.free 3
    have d0 := W7.cell 0
    have d1 := W7.cell 1
    have d2 := W7.cell 2
    have d3 := W7.cell 3
    simp only [List.getElem?_toArray, List.getElem?_cons_succ, List.getElem?_cons_zero] at r0 r1 r2 r3 d0 d1 d2 d3
    have X0 := R7.set 0 (.int .i64 (it0 s))
    have X1 := X0.set 1 (.int .i64 (it1 s))
    have X2 := X1.set 2 (.int .i64 (it2 s))
    have S1 := RS.setBlk (i := 0) (v := .int .i64 (it0 s)) HS7.out R7 (noU8_4 _ _ _ _) (by omega)
    have S2 := RS.setBlk (i := 1) (v := .int .i64 (it1 s)) S1 X0 (noU8_4 _ _ _ _) (by omega)
    have S3 := RS.setBlk (i := 2) (v := .int .i64 (it2 s)) S2 X1 (noU8_4 _ _ _ _) (by omega)
    have S4 := Lib.hid (RS.setBlk (i := 3) (v := .int .i64 (it3 s)) S3 X2 (noU8_4 _ _ _ _) (by omega))
    have U4 : Tch b w ((((V7.setCell ⟨w.heap.size, 0, none⟩ (.int .i64 (it0 s))).setCell ⟨w.heap.size, 1, none⟩ (.int .i64 (it1 s))).setCell ⟨w.heap.size, 2, none⟩ (.int .i64 (it2 s))).setCell ⟨w.heap.size, 3, none⟩ (.int .i64 (it3 s))) := tchSet (tchSet (tchSet (tchSet B7 (Nat.le_refl _) _ _) (Nat.le_refl _) _ _) (Nat.le_refl _) _ _) (Nat.le_refl _) _ _
    clear X0 X1 X2 S1 S2 S3
    go_wp2_with fail
    refine bodyPost_ret (v := .agg #[.int .i64 (it0 s), .int .i64 (it1 s), .int .i64 (it2 s), .int .i64 (it3 s)]) (by simp [results, Try.results40, go_sem, ↓IntWalk.iteOmega, *]) rfl ⟨rfl, by rw [HR.out]; exact S4.out, U4⟩

end Go.Proofs.Ytblknjclkecglaa
