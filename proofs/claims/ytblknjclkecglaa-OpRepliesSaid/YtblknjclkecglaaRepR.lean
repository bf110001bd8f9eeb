/- What the document's own DecodeReply returns, of any bytes. -/
import Derived.Test.YtblknjclkecglaaRepD
import Derived.Laws.BytesArg
namespace Go.Proofs.Ytblknjclkecglaa
open Go.RowKit
set_option linter.unusedVariables false
set_option linter.unusedSimpArgs false

theorem allOf_read (s : Option (List Nat)) : allOf (readR s) = (allOf (itR s) && isP (it0 s) (it1 s) (it2 s) (it3 s)) := by
  unfold readR
  cases isP (it0 s) (it1 s) (it2 s) (it3 s)
  · simp [allOf]
  · simp
set_option maxHeartbeats 4000000 in
set_option maxRecDepth 10000 in
theorem refDecodeReply (A : Option Addr) (c : Nat) (xs : List Nat) (w : World) (hn : xs.length ≤ 10000) (hcap : xs.length ≤ c) (hcm : c ≤ maxLen) (h256 : ∀ x ∈ xs, x < 256) (hx : Cells w w.heap.size A xs.length c 1 (flatU xs)) :
    Calls Try.prog 18 #[.slice A xs.length c] w fun e w' => e = .returned (rpV xs) ∧ Below w.heap.size w w' := by
  have hw2 : Below w.heap.size w ((w.alloc (.cells #[.int .i64 0, .int .i64 0, .int .i64 0, .int .i64 0, .int .i64 0, .int .i64 0] 43)).alloc (.cells #[.slice A xs.length c, .bool false] 75)) := ((Below.refl _ _).alloc (Nat.le_refl _) _).alloc (by simp) _
  have HX := Lib.hid (cells_keep hx hw2 (by omega : w.heap.size ≤ w.heap.size + 1))
  have HR : Hid (RS ((w.alloc (.cells #[.int .i64 0, .int .i64 0, .int .i64 0, .int .i64 0, .int .i64 0, .int .i64 0] 43)).alloc (.cells #[.slice A xs.length c, .bool false] 75)) (w.heap.size + 1) (some xs)) :=
    Lib.hid (RS.of ⟨⟨A, c, by ((repeat (first | (with_reducible assumption) | ((with_reducible refine c_set_same ?_); ((repeat (first | (with_reducible exact h_of (by assumption)) | (with_reducible assumption) | (with_reducible refine h_set ?_) | ((with_reducible refine h_alloc ?_ ?_); · (first | omega | (simp; done) | (simp; omega))) | ((with_reducible refine h_new ?_ ?_) <;> (first | omega | (simp; done) | (simp; omega))) | (with_reducible refine h_drew ?_) | (with_reducible refine h_drewN ?_) | ((with_reducible refine h_keep (by assumption) ?_ ?_); · (first | omega | (simp; done) | (simp; omega))))); done)) | ((with_reducible refine c_set_other ?_ ?_); · (first | omega | (simp; done) | (simp; omega))) | ((with_reducible refine c_alloc ?_ ?_); · (first | omega | (simp; done) | (simp; omega))) | ((with_reducible refine c_new ?_ ?_) <;> (first | omega | (simp; done) | (simp; omega))) | (with_reducible refine c_drew ?_) | (with_reducible refine c_drewN ?_) | ((with_reducible refine c_keep (by assumption) ?_ ?_); · (first | omega | (simp; done) | (simp; omega))))); done), hcap, hcm, HX.out⟩, by ((repeat (first | (with_reducible assumption) | ((with_reducible refine c_set_same ?_); ((repeat (first | (with_reducible exact h_of (by assumption)) | (with_reducible assumption) | (with_reducible refine h_set ?_) | ((with_reducible refine h_alloc ?_ ?_); · (first | omega | (simp; done) | (simp; omega))) | ((with_reducible refine h_new ?_ ?_) <;> (first | omega | (simp; done) | (simp; omega))) | (with_reducible refine h_drew ?_) | (with_reducible refine h_drewN ?_) | ((with_reducible refine h_keep (by assumption) ?_ ?_); · (first | omega | (simp; done) | (simp; omega))))); done)) | ((with_reducible refine c_set_other ?_ ?_); · (first | omega | (simp; done) | (simp; omega))) | ((with_reducible refine c_alloc ?_ ?_); · (first | omega | (simp; done) | (simp; omega))) | ((with_reducible refine c_new ?_ ?_) <;> (first | omega | (simp; done) | (simp; omega))) | (with_reducible refine c_drew ?_) | (with_reducible refine c_drewN ?_) | ((with_reducible refine c_keep (by assumption) ?_ ?_); · (first | omega | (simp; done) | (simp; omega))))); done), by intro j; ((repeat (first | (with_reducible assumption) | (with_reducible refine f_set ?_) | ((with_reducible refine f_alloc ?_ ?_); · (first | omega | (simp; done) | (simp; omega))) | ((with_reducible refine f_new ?_); (first | omega | (simp; done) | (simp; omega)); done) | (with_reducible refine f_drew ?_) | (with_reducible refine f_drewN ?_) | ((with_reducible refine f_keep (by assumption) ?_ ?_); · (first | omega | (simp; done) | (simp; omega))))); done), by simp⟩ (by omega) h256)
  have R0 : Whl ((w.alloc (.cells #[.int .i64 0, .int .i64 0, .int .i64 0, .int .i64 0, .int .i64 0, .int .i64 0] 43)).alloc (.cells #[.slice A xs.length c, .bool false] 75)) w.heap.size 43 #[.int .i64 0, .int .i64 0, .int .i64 0, .int .i64 0, .int .i64 0, .int .i64 0] := Whl.alloc (Whl.new rfl) _
  have HB := Lib.hid hw2
  clear hx h256 hw2 HX
  go_enter Try.func18, Try.ntmps18
  go_wp2_with fail
  refine (rfNxT (w.heap.size + 1) (some xs) _ HR.out).mono ?_
  rintro e v0 ⟨rfl, hrs0, ht0⟩
  have hl0 := ht0.size
  simp at hl0
  have R1 := R0.tch ht0 (by omega)
  have B1 : Below w.heap.size w v0 := HB.out.trans (ht0.below (by omega) (by simp; omega))
  obtain ⟨n0, hn0⟩ : ∃ z : Int, z = ((nx (some xs)).1 : Int) := ⟨_, rfl⟩
  rw [← hn0]
  have HN0 := Lib.hid hn0
  have HS1 := Lib.hid hrs0
  clear hn0 hrs0 R0 HB HR ht0
  go_wp2_with fail
  refine (rfNxT (w.heap.size + 1) (nx (some xs)).2 _ HS1.out).mono ?_
  rintro e v1 ⟨rfl, hrs1, ht1⟩
  have hl1 := ht1.size
  have R2 := R1.tch ht1 (by omega)
  have B2 : Below w.heap.size w v1 := B1.trans (ht1.below (by omega) (by omega))
  obtain ⟨n1, hn1⟩ : ∃ z : Int, z = ((nx (nx (some xs)).2).1 : Int) := ⟨_, rfl⟩
  rw [← hn1]
  have HN1 := Lib.hid hn1
  have HS2 := Lib.hid hrs1
  clear hn1 hrs1 R1 B1 ht1
  go_wp2_with fail
  have X0 : Whl (v1.alloc (.cells #[.int .i64 n0, .int .i64 n1, .int .i64 0, .int .i64 0, .int .i64 0, .int .i64 0] 43)) v1.heap.size 43 #[.int .i64 n0, .int .i64 n1, .int .i64 0, .int .i64 0, .int .i64 0, .int .i64 0] := Whl.new rfl
  have R3 : Whl (v1.alloc (.cells #[.int .i64 n0, .int .i64 n1, .int .i64 0, .int .i64 0, .int .i64 0, .int .i64 0] 43)) w.heap.size 43 #[.int .i64 0, .int .i64 0, .int .i64 0, .int .i64 0, .int .i64 0, .int .i64 0] := R2.alloc _
  have HS3 := Lib.hid (RS.alloc HS2.out (.cells #[.int .i64 n0, .int .i64 n1, .int .i64 0, .int .i64 0, .int .i64 0, .int .i64 0] 43))
  have B3 : Below w.heap.size w (v1.alloc (.cells #[.int .i64 n0, .int .i64 n1, .int .i64 0, .int .i64 0, .int .i64 0, .int .i64 0] 43)) := B2.alloc (by omega) (.cells #[.int .i64 n0, .int .i64 n1, .int .i64 0, .int .i64 0, .int .i64 0, .int .i64 0] 43)
  have hz3 : v1.heap.size < (v1.alloc (.cells #[.int .i64 n0, .int .i64 n1, .int .i64 0, .int .i64 0, .int .i64 0, .int .i64 0] 43)).heap.size := by simp
  have hgw : w.heap.size + 1 < v1.heap.size := by omega
  generalize (v1.alloc (.cells #[.int .i64 n0, .int .i64 n1, .int .i64 0, .int .i64 0, .int .i64 0, .int .i64 0] 43)) = U at *
  clear R2 B2 HS2
  refine (refRead (w.heap.size + 1) (nx (nx (some xs)).2).2 _ HS3.out).mono ?_
  rintro e w2 ⟨rfl, hrs2, ht2⟩
  have hl2 := ht2.size
  have X2 := X0.tch ht2 (by omega)
  have R4 := R3.tch ht2 (by omega)
  have B4 : Below w.heap.size w w2 := B3.trans (ht2.below (by omega) (by omega))
  obtain ⟨n2, hn2⟩ : ∃ z : Int, z = it0 (nx (nx (some xs)).2).2 := ⟨_, rfl⟩
  obtain ⟨n3, hn3⟩ : ∃ z : Int, z = it1 (nx (nx (some xs)).2).2 := ⟨_, rfl⟩
  obtain ⟨n4, hn4⟩ : ∃ z : Int, z = it2 (nx (nx (some xs)).2).2 := ⟨_, rfl⟩
  obtain ⟨n5, hn5⟩ : ∃ z : Int, z = it3 (nx (nx (some xs)).2).2 := ⟨_, rfl⟩
  rw [← hn2, ← hn3, ← hn4, ← hn5]
  have hrd : allOf (readR (nx (nx (some xs)).2).2) = (allOf (nx (nx (nx (nx (nx (nx (some xs)).2).2).2).2).2).2 && isP n2 n3 n4 n5) := by rw [allOf_read, hn2, hn3, hn4, hn5]; rfl
  have hrep : repB (rnum xs 0) (rnum xs 1) (rnum xs 2) (rnum xs 3) (rnum xs 4) (rnum xs 5) = repB n0 n1 n2 n3 n4 n5 := by
    rw [HN0.out, HN1.out, hn2, hn3, hn4, hn5]; rfl
  have hval : (#[.int .i64 (rnum xs 0), .int .i64 (rnum xs 1), .int .i64 (rnum xs 2), .int .i64 (rnum xs 3), .int .i64 (rnum xs 4), .int .i64 (rnum xs 5)] : Array Value) = #[.int .i64 n0, .int .i64 n1, .int .i64 n2, .int .i64 n3, .int .i64 n4, .int .i64 n5] := by
    rw [HN0.out, HN1.out, hn2, hn3, hn4, hn5]; rfl
  have HRD := Lib.hid hrd
  have HREP := Lib.hid hrep
  have HVAL := Lib.hid hval
  have hbad : rpB xs = false → rpV xs = .tuple #[.agg #[.int .i64 0, .int .i64 0, .int .i64 0, .int .i64 0, .int .i64 0, .int .i64 0], .int .i64 3] := fun h => by unfold rpV; rw [h]; rfl
  have hgood : rpB xs = true → rpV xs = .tuple #[.agg #[.int .i64 n0, .int .i64 n1, .int .i64 n2, .int .i64 n3, .int .i64 n4, .int .i64 n5], .int .i64 0] := fun h => by unfold rpV; rw [h, HVAL.out]; rfl
  have HBAD := Lib.hid hbad
  have HGOOD := Lib.hid hgood
  clear hrd hrep hval hn2 hn3 hn4 hn5 hbad hgood X0 R3 B3 HS3 HN0 HN1
  have ck2 := X2.cell 2
  have fk2 := X2.free 2
  have ck3 := X2.cell 3
  have fk3 := X2.free 3
  have ck4 := X2.cell 4
  have fk4 := X2.free 4
  have ck5 := X2.cell 5
  have fk5 := X2.free 5
  simp only [List.getElem?_toArray, List.getElem?_cons_succ, List.getElem?_cons_zero] at ck2 ck3 ck4 ck5
  have Y0 := RS.setBlk (i := 2) (v := .int .i64 n2) hrs2 X2 (noU8_6 _ _ _ _ _ _) (by omega)
  have X3 : Whl (w2.setCell ⟨v1.heap.size, 2, none⟩ (.int .i64 n2)) v1.heap.size 43 #[.int .i64 n0, .int .i64 n1, .int .i64 n2, .int .i64 0, .int .i64 0, .int .i64 0] := Whl.set X2 2 (.int .i64 n2)
  have Y1 := RS.setBlk (i := 3) (v := .int .i64 n3) Y0 X3 (noU8_6 _ _ _ _ _ _) (by omega)
  have X4 : Whl ((w2.setCell ⟨v1.heap.size, 2, none⟩ (.int .i64 n2)).setCell ⟨v1.heap.size, 3, none⟩ (.int .i64 n3)) v1.heap.size 43 #[.int .i64 n0, .int .i64 n1, .int .i64 n2, .int .i64 n3, .int .i64 0, .int .i64 0] := Whl.set X3 3 (.int .i64 n3)
  have Y2 := RS.setBlk (i := 4) (v := .int .i64 n4) Y1 X4 (noU8_6 _ _ _ _ _ _) (by omega)
  have X5 : Whl (((w2.setCell ⟨v1.heap.size, 2, none⟩ (.int .i64 n2)).setCell ⟨v1.heap.size, 3, none⟩ (.int .i64 n3)).setCell ⟨v1.heap.size, 4, none⟩ (.int .i64 n4)) v1.heap.size 43 #[.int .i64 n0, .int .i64 n1, .int .i64 n2, .int .i64 n3, .int .i64 n4, .int .i64 0] := Whl.set X4 4 (.int .i64 n4)
  have HS4 := Lib.hid (RS.setBlk (i := 5) (v := .int .i64 n5) Y2 X5 (noU8_6 _ _ _ _ _ _) (by omega))
  have X6 : Whl ((((w2.setCell ⟨v1.heap.size, 2, none⟩ (.int .i64 n2)).setCell ⟨v1.heap.size, 3, none⟩ (.int .i64 n3)).setCell ⟨v1.heap.size, 4, none⟩ (.int .i64 n4)).setCell ⟨v1.heap.size, 5, none⟩ (.int .i64 n5)) v1.heap.size 43 #[.int .i64 n0, .int .i64 n1, .int .i64 n2, .int .i64 n3, .int .i64 n4, .int .i64 n5] := Whl.set X5 5 (.int .i64 n5)
  have R5 : Whl ((((w2.setCell ⟨v1.heap.size, 2, none⟩ (.int .i64 n2)).setCell ⟨v1.heap.size, 3, none⟩ (.int .i64 n3)).setCell ⟨v1.heap.size, 4, none⟩ (.int .i64 n4)).setCell ⟨v1.heap.size, 5, none⟩ (.int .i64 n5)) w.heap.size 43 #[.int .i64 0, .int .i64 0, .int .i64 0, .int .i64 0, .int .i64 0, .int .i64 0] := (((R4.far (by simp; omega)).far (by simp; omega)).far (by simp; omega)).far (by simp; omega)
  have B5 : Below w.heap.size w ((((w2.setCell ⟨v1.heap.size, 2, none⟩ (.int .i64 n2)).setCell ⟨v1.heap.size, 3, none⟩ (.int .i64 n3)).setCell ⟨v1.heap.size, 4, none⟩ (.int .i64 n4)).setCell ⟨v1.heap.size, 5, none⟩ (.int .i64 n5)) := (((B4.setCell (by simp; omega) _).setCell (by simp; omega) _).setCell (by simp; omega) _).setCell (by simp; omega) _
  clear Y0 Y1 Y2 X3 X4 X5 hrs2 R4 B4
  go_wp2_with fail
  generalize ((((w2.setCell ⟨v1.heap.size, 2, none⟩ (.int .i64 n2)).setCell ⟨v1.heap.size, 3, none⟩ (.int .i64 n3)).setCell ⟨v1.heap.size, 4, none⟩ (.int .i64 n4)).setCell ⟨v1.heap.size, 5, none⟩ (.int .i64 n5)) = V at *
  clear ck2 ck3 ck4 ck5 fk2 fk3 fk4 fk5 X2 ht2
  refine (rfAll (w.heap.size + 1) _ _ HS4.out).mono ?_
  rintro e w5 ⟨rfl, rfl⟩
  have hVs : v1.heap.size < V.heap.size := X6.low
  have r0 := R5.cell 0
  have r1 := R5.cell 1
  have r2 := R5.cell 2
  have r3 := R5.cell 3
  have r4 := R5.cell 4
  have r5 := R5.cell 5
  have t0 := R5.free 0
  have t1 := R5.free 1
  have t2 := R5.free 2
  have t3 := R5.free 3
  have t4 := R5.free 4
  have t5 := R5.free 5
  have d0 := X6.cell 0
  have d1 := X6.cell 1
  have d2 := X6.cell 2
  have d3 := X6.cell 3
  have d4 := X6.cell 4
  have d5 := X6.cell 5
  simp only [List.getElem?_toArray, List.getElem?_cons_succ, List.getElem?_cons_zero] at r0 r1 r2 r3 r4 r5 d0 d1 d2 d3 d4 d5
  cases hall : allOf (readR (nx (nx (some xs)).2).2)
  · have hf : allOf (nx (nx (nx (nx (nx (nx (some xs)).2).2).2).2).2).2 = false ∨ isP n2 n3 n4 n5 = false := by rw [HRD.out, Bool.and_eq_false_iff] at hall; exact hall
    have HF := Lib.hid hf
    clear hf
    have HVV := Lib.hid (HBAD.out (by unfold rpB; rw [HREP.out]; rcases HF.out with h | h <;> simp [repB, h]))
    go_wp2_with fail
    refine bodyPost_ret (v := .tuple #[.agg #[.int .i64 0, .int .i64 0, .int .i64 0, .int .i64 0, .int .i64 0, .int .i64 0], .int .i64 3]) (by simp [results, Try.results18, go_sem, ↓IntWalk.iteOmega, *]) rfl ⟨by rw [HVV.out], ?_⟩
    exact (((((B5.setCell (Nat.le_refl _) _).setCell (Nat.le_refl _) _).setCell (Nat.le_refl _) _).setCell (Nat.le_refl _) _).setCell (Nat.le_refl _) _).setCell (Nat.le_refl _) _
  · have hf : allOf (nx (nx (nx (nx (nx (nx (some xs)).2).2).2).2).2).2 = true ∧ isP n2 n3 n4 n5 = true := by rw [HRD.out, Bool.and_eq_true] at hall; exact hall
    have HF := Lib.hid hf
    clear hf
    by_cases h19 : 19 < n0
    · have HVV := Lib.hid (HBAD.out (by
        unfold rpB; rw [HREP.out]; unfold repB; rw [wiB_not.2 (.inr h19)]; simp))
      go_wp2_with fail
      refine bodyPost_ret (v := .tuple #[.agg #[.int .i64 0, .int .i64 0, .int .i64 0, .int .i64 0, .int .i64 0, .int .i64 0], .int .i64 3]) (by simp [results, Try.results18, go_sem, ↓IntWalk.iteOmega, *]) rfl ⟨by rw [HVV.out], ?_⟩
      exact (((((B5.setCell (Nat.le_refl _) _).setCell (Nat.le_refl _) _).setCell (Nat.le_refl _) _).setCell (Nat.le_refl _) _).setCell (Nat.le_refl _) _).setCell (Nat.le_refl _) _
    · go_wp2_with fail
      refine (refMayReply _ _ _ _ _ _ _).mono ?_
      rintro e w6 ⟨rfl, hb6⟩
      have hs6 := hb6.size
      have B8 : Below w.heap.size w w6 := B5.trans (hb6.mono (by omega))
      replace r0 := bkeep hb6 r0 (by omega)
      replace r1 := bkeep hb6 r1 (by omega)
      replace r2 := bkeep hb6 r2 (by omega)
      replace r3 := bkeep hb6 r3 (by omega)
      replace r4 := bkeep hb6 r4 (by omega)
      replace r5 := bkeep hb6 r5 (by omega)
      replace t0 := bfree hb6 t0 (by omega)
      replace t1 := bfree hb6 t1 (by omega)
      replace t2 := bfree hb6 t2 (by omega)
      replace t3 := bfree hb6 t3 (by omega)
      replace t4 := bfree hb6 t4 (by omega)
      replace t5 := bfree hb6 t5 (by omega)
      replace d0 := bkeep hb6 d0 (by omega)
      replace d1 := bkeep hb6 d1 (by omega)
      replace d2 := bkeep hb6 d2 (by omega)
      replace d3 := bkeep hb6 d3 (by omega)
      replace d4 := bkeep hb6 d4 (by omega)
      replace d5 := bkeep hb6 d5 (by omega)
      cases hp : repB n0 n1 n2 n3 n4 n5
      · have HVV := Lib.hid (HBAD.out (by unfold rpB; rw [HREP.out, hp, Bool.and_false]))
        go_wp2_with fail
        refine bodyPost_ret (v := .tuple #[.agg #[.int .i64 0, .int .i64 0, .int .i64 0, .int .i64 0, .int .i64 0, .int .i64 0], .int .i64 3]) (by simp [results, Try.results18, go_sem, ↓IntWalk.iteOmega, *]) rfl ⟨by rw [HVV.out], ?_⟩
        exact (((((B8.setCell (Nat.le_refl _) _).setCell (Nat.le_refl _) _).setCell (Nat.le_refl _) _).setCell (Nat.le_refl _) _).setCell (Nat.le_refl _) _).setCell (Nat.le_refl _) _
      · have HVV := Lib.hid (HGOOD.out (by unfold rpB; rw [HREP.out, hp, HF.out.1]; rfl))
        go_wp2_with fail
        refine bodyPost_ret (v := .tuple #[.agg #[.int .i64 n0, .int .i64 n1, .int .i64 n2, .int .i64 n3, .int .i64 n4, .int .i64 n5], .int .i64 0]) (by simp [results, Try.results18, go_sem, ↓IntWalk.iteOmega, *]) rfl ⟨by rw [HVV.out], ?_⟩
        exact (((((B8.setCell (Nat.le_refl _) _).setCell (Nat.le_refl _) _).setCell (Nat.le_refl _) _).setCell (Nat.le_refl _) _).setCell (Nat.le_refl _) _).setCell (Nat.le_refl _) _
end Go.Proofs.Ytblknjclkecglaa
