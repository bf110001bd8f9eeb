/- The document's Read: items out of a row of bytes. -/
import Derived.Test.YtdlbiobjnohfbaaGreatVd26
import Derived.Test.YtdlbiobjnohfbaaGreatVd41
namespace Go.Proofs.YtdlbiobjnohfbaaGreat
open Go.RowKit Go.ChangeMaps Go.MapKept
set_option linter.unusedVariables false
set_option linter.unusedSimpArgs false
theorem noU8_itD (a b c d : Int) : noU8 #[.int .i64 a, .int .i64 b, .int .i64 c, .int .i64 d] := by
  intro i x h
  match i with
  | 0 => cases h
  | 1 => cases h
  | 2 => cases h
  | 3 => cases h
  | n + 4 => simp at h
set_option maxHeartbeats 8000000 in
set_option maxRecDepth 10000 in
theorem refRead (rb : Nat) (s : Rs) (w : World) (hr : RS w rb s) :
    Calls Tryz.prog 91 #[.pointer (some ⟨rb, 0, none⟩)] w fun e w' => e = .returned (.agg #[.int .i64 (itR s).1, .int .i64 (itR s).2.1, .int .i64 (itR s).2.2.1, .int .i64 (itR s).2.2.2]) ∧ RS w' rb (if isI (itR s) = true then itE s else none) ∧ Tch rb w w' := by
  obtain ⟨I, hI⟩ : ∃ I, I = itR s := ⟨_, rfl⟩
  obtain ⟨E, hE⟩ : ∃ E, E = itE s := ⟨_, rfl⟩
  rw [← hI, ← hE]
  obtain ⟨F, hF⟩ : ∃ F, F = (if isI I = true then E else none) := ⟨_, rfl⟩
  rw [← hF]
  have HF := Lib.hid hF
  have HI := Lib.hid hI
  have HE := Lib.hid hE
  have hrl := hr.low
  have X : Whl ((w.alloc (.cells #[.int .i64 0, .int .i64 0, .int .i64 0, .int .i64 0] 36)).alloc (.cells #[.int .i64 0, .int .i64 0, .int .i64 0, .int .i64 0] 36)) (w.heap.size + 1) 36 #[.int .i64 0, .int .i64 0, .int .i64 0, .int .i64 0] := Whl.new (by simp)
  have Y : Whl ((w.alloc (.cells #[.int .i64 0, .int .i64 0, .int .i64 0, .int .i64 0] 36)).alloc (.cells #[.int .i64 0, .int .i64 0, .int .i64 0, .int .i64 0] 36)) w.heap.size 36 #[.int .i64 0, .int .i64 0, .int .i64 0, .int .i64 0] := (Whl.new rfl : Whl (w.alloc (.cells #[.int .i64 0, .int .i64 0, .int .i64 0, .int .i64 0] 36)) w.heap.size 36 #[.int .i64 0, .int .i64 0, .int .i64 0, .int .i64 0]).alloc _
  have U : Tch rb w ((w.alloc (.cells #[.int .i64 0, .int .i64 0, .int .i64 0, .int .i64 0] 36)).alloc (.cells #[.int .i64 0, .int .i64 0, .int .i64 0, .int .i64 0] 36)) := Tch.of_fresh rb (((Below.refl _ _).alloc (Nat.le_refl _) _).alloc (by simp) _)
  have HS0 := Lib.hid ((hr.alloc (.cells #[.int .i64 0, .int .i64 0, .int .i64 0, .int .i64 0] 36)).alloc (.cells #[.int .i64 0, .int .i64 0, .int .i64 0, .int .i64 0] 36))
  clear hr hI hE hF
  go_enter Tryz.func91, Tryz.ntmps91
  go_wp2_with fail
  generalize ((w.alloc (.cells #[.int .i64 0, .int .i64 0, .int .i64 0, .int .i64 0] 36)).alloc (.cells #[.int .i64 0, .int .i64 0, .int .i64 0, .int .i64 0] 36)) = x0 at *
  obtain ⟨q0, hq0⟩ : ∃ z, z = w.heap.size := ⟨_, rfl⟩
  rw [← hq0] at X Y ⊢
  have hq1 : rb < q0 := by omega
  have hq2 : w.heap.size ≤ q0 := by omega
  clear hq0
  refine wp_loop_rounds 5 ?_
  rw [rounds_succ]
  go_wp2_with fail
  refine (rfNxT rb s _ HS0.out).mono ?_
  rintro e y0 ⟨rfl, hrs, ht⟩
  replace X := X.tch ht (by omega)
  replace Y := Y.tch ht (by omega)
  replace U := U.trans ht
  obtain ⟨n0, hn0⟩ : ∃ z : Int, z = ((nx s).1 : Int) := ⟨_, rfl⟩
  rw [← hn0]
  have HN0 := Lib.hid hn0
  have ck := X.cell 0
  have fk := X.free 0
  simp only [List.getElem?_toArray, List.getElem?_cons_succ, List.getElem?_cons_zero] at ck
  have XN : Whl (y0.setCell ⟨q0 + 1, 0, none⟩ (.int .i64 n0)) (q0 + 1) 36 #[.int .i64 n0, .int .i64 0, .int .i64 0, .int .i64 0] := Whl.set X 0 (.int .i64 n0)
  have YN : Whl (y0.setCell ⟨q0 + 1, 0, none⟩ (.int .i64 n0)) q0 36 #[.int .i64 0, .int .i64 0, .int .i64 0, .int .i64 0] := Y.far (by simp)
  have UN : Tch rb w (y0.setCell ⟨q0 + 1, 0, none⟩ (.int .i64 n0)) := tchSet U (by omega) _ _
  have HS1 := Lib.hid (RS.setBlk (i := 0) (v := .int .i64 n0) hrs X (noU8_itD _ _ _ _) (by omega))
  clear hrs ht hn0 HS0 X Y U
  go_wp2_with fail
  generalize (y0.setCell ⟨q0 + 1, 0, none⟩ (.int .i64 n0)) = x1 at *
  have X := XN
  have Y := YN
  have U := UN
  clear ck fk XN YN UN
  rw [rounds_succ]
  go_wp2_with fail
  refine (rfNxT rb (nx s).2 _ HS1.out).mono ?_
  rintro e y1 ⟨rfl, hrs, ht⟩
  replace X := X.tch ht (by omega)
  replace Y := Y.tch ht (by omega)
  replace U := U.trans ht
  obtain ⟨n1, hn1⟩ : ∃ z : Int, z = ((nx (nx s).2).1 : Int) := ⟨_, rfl⟩
  rw [← hn1]
  have HN1 := Lib.hid hn1
  have ck := X.cell 1
  have fk := X.free 1
  simp only [List.getElem?_toArray, List.getElem?_cons_succ, List.getElem?_cons_zero] at ck
  have XN : Whl (y1.setCell ⟨q0 + 1, 1, none⟩ (.int .i64 n1)) (q0 + 1) 36 #[.int .i64 n0, .int .i64 n1, .int .i64 0, .int .i64 0] := Whl.set X 1 (.int .i64 n1)
  have YN : Whl (y1.setCell ⟨q0 + 1, 1, none⟩ (.int .i64 n1)) q0 36 #[.int .i64 0, .int .i64 0, .int .i64 0, .int .i64 0] := Y.far (by simp)
  have UN : Tch rb w (y1.setCell ⟨q0 + 1, 1, none⟩ (.int .i64 n1)) := tchSet U (by omega) _ _
  have HS2 := Lib.hid (RS.setBlk (i := 1) (v := .int .i64 n1) hrs X (noU8_itD _ _ _ _) (by omega))
  clear hrs ht hn1 HS1 X Y U
  go_wp2_with fail
  generalize (y1.setCell ⟨q0 + 1, 1, none⟩ (.int .i64 n1)) = x2 at *
  have X := XN
  have Y := YN
  have U := UN
  clear ck fk XN YN UN
  rw [rounds_succ]
  go_wp2_with fail
  refine (rfNxT rb (nx (nx s).2).2 _ HS2.out).mono ?_
  rintro e y2 ⟨rfl, hrs, ht⟩
  replace X := X.tch ht (by omega)
  replace Y := Y.tch ht (by omega)
  replace U := U.trans ht
  obtain ⟨n2, hn2⟩ : ∃ z : Int, z = ((nx (nx (nx s).2).2).1 : Int) := ⟨_, rfl⟩
  rw [← hn2]
  have HN2 := Lib.hid hn2
  have ck := X.cell 2
  have fk := X.free 2
  simp only [List.getElem?_toArray, List.getElem?_cons_succ, List.getElem?_cons_zero] at ck
  have XN : Whl (y2.setCell ⟨q0 + 1, 2, none⟩ (.int .i64 n2)) (q0 + 1) 36 #[.int .i64 n0, .int .i64 n1, .int .i64 n2, .int .i64 0] := Whl.set X 2 (.int .i64 n2)
  have YN : Whl (y2.setCell ⟨q0 + 1, 2, none⟩ (.int .i64 n2)) q0 36 #[.int .i64 0, .int .i64 0, .int .i64 0, .int .i64 0] := Y.far (by simp)
  have UN : Tch rb w (y2.setCell ⟨q0 + 1, 2, none⟩ (.int .i64 n2)) := tchSet U (by omega) _ _
  have HS3 := Lib.hid (RS.setBlk (i := 2) (v := .int .i64 n2) hrs X (noU8_itD _ _ _ _) (by omega))
  clear hrs ht hn2 HS2 X Y U
  go_wp2_with fail
  generalize (y2.setCell ⟨q0 + 1, 2, none⟩ (.int .i64 n2)) = x3 at *
  have X := XN
  have Y := YN
  have U := UN
  clear ck fk XN YN UN
  rw [rounds_succ]
  go_wp2_with fail
  refine (rfNxT rb (nx (nx (nx s).2).2).2 _ HS3.out).mono ?_
  rintro e y3 ⟨rfl, hrs, ht⟩
  replace X := X.tch ht (by omega)
  replace Y := Y.tch ht (by omega)
  replace U := U.trans ht
  obtain ⟨n3, hn3⟩ : ∃ z : Int, z = ((nx (nx (nx (nx s).2).2).2).1 : Int) := ⟨_, rfl⟩
  rw [← hn3]
  have HN3 := Lib.hid hn3
  have ck := X.cell 3
  have fk := X.free 3
  simp only [List.getElem?_toArray, List.getElem?_cons_succ, List.getElem?_cons_zero] at ck
  have XN : Whl (y3.setCell ⟨q0 + 1, 3, none⟩ (.int .i64 n3)) (q0 + 1) 36 #[.int .i64 n0, .int .i64 n1, .int .i64 n2, .int .i64 n3] := Whl.set X 3 (.int .i64 n3)
  have YN : Whl (y3.setCell ⟨q0 + 1, 3, none⟩ (.int .i64 n3)) q0 36 #[.int .i64 0, .int .i64 0, .int .i64 0, .int .i64 0] := Y.far (by simp)
  have UN : Tch rb w (y3.setCell ⟨q0 + 1, 3, none⟩ (.int .i64 n3)) := tchSet U (by omega) _ _
  have HS4 := Lib.hid (RS.setBlk (i := 3) (v := .int .i64 n3) hrs X (noU8_itD _ _ _ _) (by omega))
  clear hrs ht hn3 HS3 X Y U
  go_wp2_with fail
  generalize (y3.setCell ⟨q0 + 1, 3, none⟩ (.int .i64 n3)) = x4 at *
  have X := XN
  have Y := YN
  have U := UN
  clear ck fk XN YN UN
  rw [rounds_succ]
  have a0 := X.cell 0
  have a1 := X.cell 1
  have a2 := X.cell 2
  have a3 := X.cell 3
  simp only [List.getElem?_toArray, List.getElem?_cons_succ, List.getElem?_cons_zero] at a0 a1 a2 a3
  have hit : I = (n0, n1, n2, n3) := by rw [HI.out]; unfold itR; rw [HN0.out, HN1.out, HN2.out, HN3.out]
  have hie : (nx (nx (nx (nx s).2).2).2).2 = E := HE.out.symm
  rw [hie] at HS4
  subst hit
  clear hie HN0 HN1 HN2 HN3 HI HE
  go_wp2_with fail
  refine (refPIs n0 n1 n2 n3 _).mono ?_
  rintro e w5 ⟨rfl, hb5⟩
  have Z5 := Y.below hb5 Y.low
  have X5 := X.below hb5 X.low
  have U5 := U.trans (Tch.of_fresh rb hb5)
  have HS5 := Lib.hid (HS4.out.fresh hb5)
  clear X Y U hb5 HS4 a0 a1 a2 a3
  cases hm : isP n0 n1 n2 n3 with
  | true =>
    have hi : isI (n0, n1, n2, n3) = true := hm
    have a0 := X5.cell 0
    have a1 := X5.cell 1
    have a2 := X5.cell 2
    have a3 := X5.cell 3
    have z0 := Z5.cell 0
    have z1 := Z5.cell 1
    have z2 := Z5.cell 2
    have z3 := Z5.cell 3
    have f0 := Z5.free 0
    have f1 := Z5.free 1
    have f2 := Z5.free 2
    have f3 := Z5.free 3
    simp only [List.getElem?_toArray, List.getElem?_cons_succ, List.getElem?_cons_zero] at a0 a1 a2 a3 z0 z1 z2 z3
    have hf : F = E := by rw [HF.out, hi]; rfl
    go_wp2_with fail
    have ZA0 : Whl (w5.setCell ⟨q0, 0, none⟩ (.int .i64 n0)) q0 36 #[.int .i64 n0, .int .i64 0, .int .i64 0, .int .i64 0] := Whl.set Z5 0 (.int .i64 n0)
    have UA0 : Tch rb w (w5.setCell ⟨q0, 0, none⟩ (.int .i64 n0)) := tchSet U5 hq2 _ _
    have SA0 : RS (w5.setCell ⟨q0, 0, none⟩ (.int .i64 n0)) rb E := (HS5.out).setBlk (i := 0) Z5 (noU8_itD _ _ _ _) (by omega) (.int .i64 n0)
    have ZA1 : Whl ((w5.setCell ⟨q0, 0, none⟩ (.int .i64 n0)).setCell ⟨q0, 1, none⟩ (.int .i64 n1)) q0 36 #[.int .i64 n0, .int .i64 n1, .int .i64 0, .int .i64 0] := Whl.set ZA0 1 (.int .i64 n1)
    have UA1 : Tch rb w ((w5.setCell ⟨q0, 0, none⟩ (.int .i64 n0)).setCell ⟨q0, 1, none⟩ (.int .i64 n1)) := tchSet UA0 hq2 _ _
    have SA1 : RS ((w5.setCell ⟨q0, 0, none⟩ (.int .i64 n0)).setCell ⟨q0, 1, none⟩ (.int .i64 n1)) rb E := (SA0).setBlk (i := 1) ZA0 (noU8_itD _ _ _ _) (by omega) (.int .i64 n1)
    have ZA2 : Whl (((w5.setCell ⟨q0, 0, none⟩ (.int .i64 n0)).setCell ⟨q0, 1, none⟩ (.int .i64 n1)).setCell ⟨q0, 2, none⟩ (.int .i64 n2)) q0 36 #[.int .i64 n0, .int .i64 n1, .int .i64 n2, .int .i64 0] := Whl.set ZA1 2 (.int .i64 n2)
    have UA2 : Tch rb w (((w5.setCell ⟨q0, 0, none⟩ (.int .i64 n0)).setCell ⟨q0, 1, none⟩ (.int .i64 n1)).setCell ⟨q0, 2, none⟩ (.int .i64 n2)) := tchSet UA1 hq2 _ _
    have SA2 : RS (((w5.setCell ⟨q0, 0, none⟩ (.int .i64 n0)).setCell ⟨q0, 1, none⟩ (.int .i64 n1)).setCell ⟨q0, 2, none⟩ (.int .i64 n2)) rb E := (SA1).setBlk (i := 2) ZA1 (noU8_itD _ _ _ _) (by omega) (.int .i64 n2)
    have ZA3 : Whl ((((w5.setCell ⟨q0, 0, none⟩ (.int .i64 n0)).setCell ⟨q0, 1, none⟩ (.int .i64 n1)).setCell ⟨q0, 2, none⟩ (.int .i64 n2)).setCell ⟨q0, 3, none⟩ (.int .i64 n3)) q0 36 #[.int .i64 n0, .int .i64 n1, .int .i64 n2, .int .i64 n3] := Whl.set ZA2 3 (.int .i64 n3)
    have UA3 : Tch rb w ((((w5.setCell ⟨q0, 0, none⟩ (.int .i64 n0)).setCell ⟨q0, 1, none⟩ (.int .i64 n1)).setCell ⟨q0, 2, none⟩ (.int .i64 n2)).setCell ⟨q0, 3, none⟩ (.int .i64 n3)) := tchSet UA2 hq2 _ _
    have SA3 : RS ((((w5.setCell ⟨q0, 0, none⟩ (.int .i64 n0)).setCell ⟨q0, 1, none⟩ (.int .i64 n1)).setCell ⟨q0, 2, none⟩ (.int .i64 n2)).setCell ⟨q0, 3, none⟩ (.int .i64 n3)) rb E := (SA2).setBlk (i := 3) ZA2 (noU8_itD _ _ _ _) (by omega) (.int .i64 n3)
    generalize ((((w5.setCell ⟨q0, 0, none⟩ (.int .i64 n0)).setCell ⟨q0, 1, none⟩ (.int .i64 n1)).setCell ⟨q0, 2, none⟩ (.int .i64 n2)).setCell ⟨q0, 3, none⟩ (.int .i64 n3)) = WW at *
    have b0 := ZA3.cell 0
    have b1 := ZA3.cell 1
    have b2 := ZA3.cell 2
    have b3 := ZA3.cell 3
    simp only [List.getElem?_toArray, List.getElem?_cons_succ, List.getElem?_cons_zero] at b0 b1 b2 b3
    refine bodyPost_ret (v := .agg #[.int .i64 n0, .int .i64 n1, .int .i64 n2, .int .i64 n3]) (by simp [results, Tryz.results91, go_sem, *]) (by rfl) ⟨rfl, by first | exact SA3 | (rw [hf]; exact SA3), UA3⟩
  | false =>
    have hi : isI (n0, n1, n2, n3) = false := hm
    have hf : F = none := by rw [HF.out, hi]; rfl
    go_wp2_with fail
    refine (rfBadST rb E _ HS5.out).mono ?_
    rintro e w6 ⟨rfl, hrs6, ht6⟩
    have X6 := X5.tch ht6 (by omega)
    have Z6 := Z5.tch ht6 (by omega)
    have U6 := U5.trans ht6
    have HS6 := Lib.hid hrs6
    have a0 := X6.cell 0
    have a1 := X6.cell 1
    have a2 := X6.cell 2
    have a3 := X6.cell 3
    have z0 := Z6.cell 0
    have z1 := Z6.cell 1
    have z2 := Z6.cell 2
    have z3 := Z6.cell 3
    have f0 := Z6.free 0
    have f1 := Z6.free 1
    have f2 := Z6.free 2
    have f3 := Z6.free 3
    simp only [List.getElem?_toArray, List.getElem?_cons_succ, List.getElem?_cons_zero] at a0 a1 a2 a3 z0 z1 z2 z3
    clear hrs6 ht6 X5 Z5 U5
    go_wp2_with fail
    have ZA0 : Whl (w6.setCell ⟨q0, 0, none⟩ (.int .i64 n0)) q0 36 #[.int .i64 n0, .int .i64 0, .int .i64 0, .int .i64 0] := Whl.set Z6 0 (.int .i64 n0)
    have UA0 : Tch rb w (w6.setCell ⟨q0, 0, none⟩ (.int .i64 n0)) := tchSet U6 hq2 _ _
    have SA0 : RS (w6.setCell ⟨q0, 0, none⟩ (.int .i64 n0)) rb none := (HS6.out).setBlk (i := 0) Z6 (noU8_itD _ _ _ _) (by omega) (.int .i64 n0)
    have ZA1 : Whl ((w6.setCell ⟨q0, 0, none⟩ (.int .i64 n0)).setCell ⟨q0, 1, none⟩ (.int .i64 n1)) q0 36 #[.int .i64 n0, .int .i64 n1, .int .i64 0, .int .i64 0] := Whl.set ZA0 1 (.int .i64 n1)
    have UA1 : Tch rb w ((w6.setCell ⟨q0, 0, none⟩ (.int .i64 n0)).setCell ⟨q0, 1, none⟩ (.int .i64 n1)) := tchSet UA0 hq2 _ _
    have SA1 : RS ((w6.setCell ⟨q0, 0, none⟩ (.int .i64 n0)).setCell ⟨q0, 1, none⟩ (.int .i64 n1)) rb none := (SA0).setBlk (i := 1) ZA0 (noU8_itD _ _ _ _) (by omega) (.int .i64 n1)
    have ZA2 : Whl (((w6.setCell ⟨q0, 0, none⟩ (.int .i64 n0)).setCell ⟨q0, 1, none⟩ (.int .i64 n1)).setCell ⟨q0, 2, none⟩ (.int .i64 n2)) q0 36 #[.int .i64 n0, .int .i64 n1, .int .i64 n2, .int .i64 0] := Whl.set ZA1 2 (.int .i64 n2)
    have UA2 : Tch rb w (((w6.setCell ⟨q0, 0, none⟩ (.int .i64 n0)).setCell ⟨q0, 1, none⟩ (.int .i64 n1)).setCell ⟨q0, 2, none⟩ (.int .i64 n2)) := tchSet UA1 hq2 _ _
    have SA2 : RS (((w6.setCell ⟨q0, 0, none⟩ (.int .i64 n0)).setCell ⟨q0, 1, none⟩ (.int .i64 n1)).setCell ⟨q0, 2, none⟩ (.int .i64 n2)) rb none := (SA1).setBlk (i := 2) ZA1 (noU8_itD _ _ _ _) (by omega) (.int .i64 n2)
    have ZA3 : Whl ((((w6.setCell ⟨q0, 0, none⟩ (.int .i64 n0)).setCell ⟨q0, 1, none⟩ (.int .i64 n1)).setCell ⟨q0, 2, none⟩ (.int .i64 n2)).setCell ⟨q0, 3, none⟩ (.int .i64 n3)) q0 36 #[.int .i64 n0, .int .i64 n1, .int .i64 n2, .int .i64 n3] := Whl.set ZA2 3 (.int .i64 n3)
    have UA3 : Tch rb w ((((w6.setCell ⟨q0, 0, none⟩ (.int .i64 n0)).setCell ⟨q0, 1, none⟩ (.int .i64 n1)).setCell ⟨q0, 2, none⟩ (.int .i64 n2)).setCell ⟨q0, 3, none⟩ (.int .i64 n3)) := tchSet UA2 hq2 _ _
    have SA3 : RS ((((w6.setCell ⟨q0, 0, none⟩ (.int .i64 n0)).setCell ⟨q0, 1, none⟩ (.int .i64 n1)).setCell ⟨q0, 2, none⟩ (.int .i64 n2)).setCell ⟨q0, 3, none⟩ (.int .i64 n3)) rb none := (SA2).setBlk (i := 3) ZA2 (noU8_itD _ _ _ _) (by omega) (.int .i64 n3)
    generalize ((((w6.setCell ⟨q0, 0, none⟩ (.int .i64 n0)).setCell ⟨q0, 1, none⟩ (.int .i64 n1)).setCell ⟨q0, 2, none⟩ (.int .i64 n2)).setCell ⟨q0, 3, none⟩ (.int .i64 n3)) = WW at *
    have b0 := ZA3.cell 0
    have b1 := ZA3.cell 1
    have b2 := ZA3.cell 2
    have b3 := ZA3.cell 3
    simp only [List.getElem?_toArray, List.getElem?_cons_succ, List.getElem?_cons_zero] at b0 b1 b2 b3
    refine bodyPost_ret (v := .agg #[.int .i64 n0, .int .i64 n1, .int .i64 n2, .int .i64 n3]) (by simp [results, Tryz.results91, go_sem, *]) (by rfl) ⟨rfl, by first | exact SA3 | (rw [hf]; exact SA3), UA3⟩
end Go.Proofs.YtdlbiobjnohfbaaGreat
