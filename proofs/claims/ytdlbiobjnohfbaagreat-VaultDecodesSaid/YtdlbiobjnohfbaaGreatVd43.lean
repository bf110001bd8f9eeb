/- The document's purses. -/
import Derived.Test.YtdlbiobjnohfbaaGreatVd33
import Derived.Test.YtdlbiobjnohfbaaGreatVd42
namespace Go.Proofs.YtdlbiobjnohfbaaGreat
open Go.RowKit Go.ChangeMaps Go.MapKept
set_option linter.unusedVariables false
set_option linter.unusedSimpArgs false
theorem noU8_hd (s : ByteArray) (a b c d : Int) : noU8 #[.string s, .int .i64 a, .int .i64 b, .int .i64 c, .int .i64 d] := by
  intro i x h
  match i with
  | 0 => cases h
  | 1 => cases h
  | 2 => cases h
  | 3 => cases h
  | 4 => cases h
  | n + 5 => simp at h
/-- the last name of a row -/
def LastK (l : List Hd) (a : By) : Prop := (l = [] ∧ a = []) ∨ ∃ (m : List Hd) (x : Hd), l = m ++ [x] ∧ a = x.1
theorem hd_cells (w : World) (s : ByteArray) (a b c d : Int) : Cells (w.alloc (.cells #[.string s, .int .i64 a, .int .i64 b, .int .i64 c, .int .i64 d] 85)) (w.heap.size + 1) (some ⟨w.heap.size, 0, none⟩) 1 1 5 (rowH (s.data.toList, (a, b, c, d))) :=
  ⟨rfl, (fun e => by cases e), fun k u hu => ⟨_, _, rfl, by omega, by rw [Nat.zero_add, (Whl.new rfl).cell]; simpa [rowH, bytes_dataB] using hu⟩⟩
theorem rowH_one (r : Hd) : ∀ u ∈ rowH r, u.oneCell' = true := by
  intro u hu
  simp only [rowH, List.mem_cons, List.not_mem_nil, or_false] at hu
  rcases hu with rfl | rfl | rfl | rfl | rfl <;> rfl
theorem flatH_snoc (l : List Hd) (r : Hd) : flatH (l ++ [r]) = flatH l ++ rowH r := by simp [flatH]
theorem bl_nil {s : ByteArray} (h : keyB s = true) : BL [] s.data.toList := by
  unfold BL
  refine nil_less (fun e => ?_)
  unfold keyB at h
  simp only [Bool.and_eq_true, decide_eq_true_eq] at h
  have e2 : s.data.toList.length = s.size := Array.length_toList
  rw [e] at e2
  simp at e2
  omega
set_option maxHeartbeats 12000000 in
set_option maxRecDepth 10000 in
theorem refPurses (rb : Nat) (s : Rs) (w : World) (hr : RS w rb s) :
    Calls Tryz.prog 51 #[.pointer (some ⟨rb, 0, none⟩)] w fun e w' => ∃ (v : Value) (l : List Hd), e = .returned v ∧ w'.ownsRow w.heap.size 85 5 v l.length (flatH l) ∧ RS w' rb (rS (nx s).1 [] (nx s).2).2 ∧ ((rS (nx s).1 [] (nx s).2).2 ≠ none → l = (rS (nx s).1 [] (nx s).2).1) ∧ Tch rb w w' := by
  obtain ⟨i0, hi, hz0, hz1, hz2⟩ := info_parts Tryz.infoHold
  obtain ⟨R, hR⟩ : ∃ R, R = rS (nx s).1 [] (nx s).2 := ⟨_, rfl⟩
  rw [← hR]
  have HR := Lib.hid hR
  have HS := Lib.hid hr
  have hrl0 := hr.low
  clear hR hr
  go_enter Tryz.func51, Tryz.ntmps51
  go_wp2_with fail
  refine (rfNxT rb s _ HS.out).mono ?_
  rintro e w1 ⟨rfl, hrs, ht⟩
  have hnl := nx_le s
  have hz1' := ht.size
  obtain ⟨N, hN⟩ : ∃ N, N = (nx s).1 := ⟨_, rfl⟩
  obtain ⟨s1, hs1⟩ : ∃ t, t = (nx s).2 := ⟨_, rfl⟩
  replace HR : Hid (R = rS N [] s1) := Lib.hid (by rw [hN, hs1]; exact HR.out)
  rw [← hN] at hnl ⊢
  rw [← hs1] at hrs
  clear hN hs1 HS
  have HS1 := Lib.hid hrs
  have HT1 := Lib.hid ht
  clear hrs ht
  obtain ⟨M, hM⟩ : ∃ M, M = (s1.getD []).length := ⟨_, rfl⟩
  have hM2 : M ≤ 100000 := by rw [hM]; exact HS1.out.len
  have HM := Lib.hid hM
  clear hM
  go_wp2_with fail
  go_loopw [5, 3] (fun iv lv wr => ∃ (i k : Nat) (t : Rs) (l : List Hd) (a : By), iv = .int .i64 i ∧ i + k = N ∧ RS wr rb t ∧ wr.ownsRow w.heap.size 85 5 lv l.length (flatH l) ∧ l.length = i ∧ Tch rb w wr ∧ R.2 = (rS k a t).2 ∧ (t ≠ none → R.1 = l ++ (rS k a t).1 ∧ LastK l a ∧ 5 * l.length + (t.getD []).length ≤ M) ∧ 5 * l.length ≤ M + 5) (fun iv _ _ => N - (intOf iv).toNat)
  case atStart => exact ⟨0, N, s1, [], [], rfl, by omega, HS1.out, World.ownsRow_nil _ _ _ _, rfl, HT1.out, by rw [HR.out], fun _ => ⟨by rw [HR.out]; rfl, .inl ⟨rfl, rfl⟩, by rw [HM.out]; simp⟩, by simp⟩
  case round =>
    obtain ⟨i, k, t, l, a, rfl, hik, hrs, hown, hll, htc, hq1, hq2, hxl⟩ := hrel
    have HS := Lib.hid hrs
    have HO := Lib.hid hown
    have HT := Lib.hid htc
    have HQ1 := Lib.hid hq1
    have HQ2 := Lib.hid hq2
    have hsz := htc.size
    have hrb : rb < wr.heap.size := by omega
    subst hll
    obtain ⟨Al, cl, rfl, hc1, hc2, hc3⟩ := own_slice hown
    have e1 : wr.cell? ⟨rb, 1, none⟩ = some (.bool t.isNone) := hrs.rd.flag
    clear hrs hq1 hq2 hown htc HS1 HT1 HR HM hc1 hc2 hc3
    cases k with
    | zero =>
      have hNl : N = l.length := by omega
      subst hNl
      have hr2 : R.2 = t := by rw [HQ1.out]; rfl
      have HR2 := Lib.hid hr2
      clear hr2
      go_wp2_with fail
      refine bodyPost_ret (v := .slice Al l.length cl) (by simp [results, Tryz.results51, go_sem]) rfl ⟨_, l, rfl, HO.out, by rw [HR2.out]; exact HS.out, fun hn => ?_, HT.out⟩
      rw [HR2.out] at hn
      rw [(HQ2.out hn).1]
      simp [rS]
    | succ k =>
      have q0 : (l.length : Int) < (N : Int) := by omega
      cases t with
      | none =>
        have hr2 : R.2 = none := by rw [HQ1.out, rS_none]
        have HR2 := Lib.hid hr2
        have e1 : wr.cell? ⟨rb, 1, none⟩ = some (.bool true) := e1
        clear hr2
        go_wp2_with fail
        refine bodyPost_ret (v := .slice Al l.length cl) (by simp [results, Tryz.results51, go_sem]) rfl ⟨_, l, rfl, HO.out, by rw [HR2.out]; exact HS.out, fun hn => ?_, HT.out⟩
        exact absurd HR2.out hn
      | some r =>
        have e1 : wr.cell? ⟨rb, 1, none⟩ = some (.bool false) := e1
        obtain ⟨hR1, hLK, hlr⟩ := HQ2.out (by simp)
        simp only [Option.getD_some] at hlr
        have HLK := Lib.hid hLK
        have HR1 := Lib.hid hR1
        clear hLK hR1 HQ2
        go_wp2_with fail
        refine (rfNb rb (some r) _ HS.out).mono ?_
        rintro e y1 ⟨v1, rfl, hown1, hrs, ht⟩
        have F1 := (Touch.refl (fun k => k = rb) wr).trans ht.touch (D := fun k => k = rb) (fun n _ e => e)
        have cv := conv_own hown1
        obtain ⟨sw, hsw⟩ : ∃ z : ByteArray, z = strU (nb (some r)).1 := ⟨_, rfl⟩
        obtain ⟨t0, ht0⟩ : ∃ z : Rs, z = (nb (some r)).2 := ⟨_, rfl⟩
        rw [← hsw] at cv
        rw [← ht0] at hrs
        have HSW := Lib.hid hsw
        have HT0 := Lib.hid ht0
        have X : Whl (y1.alloc (.cells #[.string sw, .int .i64 0, .int .i64 0, .int .i64 0, .int .i64 0] 85)) y1.heap.size 85 #[.string sw, .int .i64 0, .int .i64 0, .int .i64 0, .int .i64 0] := Whl.new rfl
        have hrs0 := hrs.alloc (.cells #[.string sw, .int .i64 0, .int .i64 0, .int .i64 0, .int .i64 0] 85)
        have F := F1.alloc (.cells #[.string sw, .int .i64 0, .int .i64 0, .int .i64 0, .int .i64 0] 85)
        have hsy : wr.heap.size ≤ y1.heap.size := F1.size
        have HS0 := Lib.hid hrs0
        clear hsw ht0 hown1 hrs ht hrs0 F1
        go_wp2_with fail
        refine (refRead rb t0 _ HS0.out).mono ?_
        rintro e y2 ⟨rfl, hrs2, ht2⟩
        obtain ⟨hb, hhb⟩ : ∃ z, z = y1.heap.size := ⟨_, rfl⟩
        obtain ⟨⟨n0, n1, n2, n3⟩, hit⟩ : ∃ I : It4, I = itR t0 := ⟨_, rfl⟩
        obtain ⟨t1, ht1⟩ : ∃ z, z = (if isI (itR t0) = true then itE t0 else none) := ⟨_, rfl⟩
        rw [← ht1] at hrs2
        rw [← hit, ← hhb]
        have hit2 := hit
        have ht12 := ht1
        rw [← hit] at ht12
        have HIT := Lib.hid hit2
        have HT1 := Lib.hid ht12
        rw [← hhb] at X
        have hrh : rb < hb := by omega
        have hwh : wr.heap.size ≤ hb := by omega
        replace X := X.tch ht2 (by omega)
        replace F := F.trans ht2.touch (D := fun k => k = rb) (fun n _ e => e)
        clear hit ht1 hit2 ht12 ht2 hhb
        simp only
        have d0 := X.cell 0
        have d1 := X.cell 1
        have d2 := X.cell 2
        have d3 := X.cell 3
        have d4 := X.cell 4
        have f1 := X.free 1
        have f2 := X.free 2
        have f3 := X.free 3
        have f4 := X.free 4
        simp only [List.getElem?_toArray, List.getElem?_cons_succ, List.getElem?_cons_zero] at d0 d1 d2 d3 d4
        have X0 : Whl (y2.setCell ⟨hb, 1, none⟩ (.int .i64 n0)) hb 85 #[.string sw, .int .i64 n0, .int .i64 0, .int .i64 0, .int .i64 0] := Whl.set X 1 (.int .i64 n0)
        have F0 : Touch (fun k => k = rb) wr (y2.setCell ⟨hb, 1, none⟩ (.int .i64 n0)) := F.set (fun hlt => by simp only at hlt; omega)
        have S0 : RS (y2.setCell ⟨hb, 1, none⟩ (.int .i64 n0)) rb t1 := hrs2.setBlk (i := 1) X (noU8_hd _ _ _ _ _) (by omega) (.int .i64 n0)
        have X1 : Whl ((y2.setCell ⟨hb, 1, none⟩ (.int .i64 n0)).setCell ⟨hb, 2, none⟩ (.int .i64 n1)) hb 85 #[.string sw, .int .i64 n0, .int .i64 n1, .int .i64 0, .int .i64 0] := Whl.set X0 2 (.int .i64 n1)
        have F1 : Touch (fun k => k = rb) wr ((y2.setCell ⟨hb, 1, none⟩ (.int .i64 n0)).setCell ⟨hb, 2, none⟩ (.int .i64 n1)) := F0.set (fun hlt => by simp only at hlt; omega)
        have S1 : RS ((y2.setCell ⟨hb, 1, none⟩ (.int .i64 n0)).setCell ⟨hb, 2, none⟩ (.int .i64 n1)) rb t1 := S0.setBlk (i := 2) X0 (noU8_hd _ _ _ _ _) (by omega) (.int .i64 n1)
        have X2 : Whl (((y2.setCell ⟨hb, 1, none⟩ (.int .i64 n0)).setCell ⟨hb, 2, none⟩ (.int .i64 n1)).setCell ⟨hb, 3, none⟩ (.int .i64 n2)) hb 85 #[.string sw, .int .i64 n0, .int .i64 n1, .int .i64 n2, .int .i64 0] := Whl.set X1 3 (.int .i64 n2)
        have F2 : Touch (fun k => k = rb) wr (((y2.setCell ⟨hb, 1, none⟩ (.int .i64 n0)).setCell ⟨hb, 2, none⟩ (.int .i64 n1)).setCell ⟨hb, 3, none⟩ (.int .i64 n2)) := F1.set (fun hlt => by simp only at hlt; omega)
        have S2 : RS (((y2.setCell ⟨hb, 1, none⟩ (.int .i64 n0)).setCell ⟨hb, 2, none⟩ (.int .i64 n1)).setCell ⟨hb, 3, none⟩ (.int .i64 n2)) rb t1 := S1.setBlk (i := 3) X1 (noU8_hd _ _ _ _ _) (by omega) (.int .i64 n2)
        have X3 : Whl ((((y2.setCell ⟨hb, 1, none⟩ (.int .i64 n0)).setCell ⟨hb, 2, none⟩ (.int .i64 n1)).setCell ⟨hb, 3, none⟩ (.int .i64 n2)).setCell ⟨hb, 4, none⟩ (.int .i64 n3)) hb 85 #[.string sw, .int .i64 n0, .int .i64 n1, .int .i64 n2, .int .i64 n3] := Whl.set X2 4 (.int .i64 n3)
        have F3 : Touch (fun k => k = rb) wr ((((y2.setCell ⟨hb, 1, none⟩ (.int .i64 n0)).setCell ⟨hb, 2, none⟩ (.int .i64 n1)).setCell ⟨hb, 3, none⟩ (.int .i64 n2)).setCell ⟨hb, 4, none⟩ (.int .i64 n3)) := F2.set (fun hlt => by simp only at hlt; omega)
        have S3 : RS ((((y2.setCell ⟨hb, 1, none⟩ (.int .i64 n0)).setCell ⟨hb, 2, none⟩ (.int .i64 n1)).setCell ⟨hb, 3, none⟩ (.int .i64 n2)).setCell ⟨hb, 4, none⟩ (.int .i64 n3)) rb t1 := S2.setBlk (i := 4) X2 (noU8_hd _ _ _ _ _) (by omega) (.int .i64 n3)
        have HSZ : Hid (y2.heap.size ≤ ((((y2.setCell ⟨hb, 1, none⟩ (.int .i64 n0)).setCell ⟨hb, 2, none⟩ (.int .i64 n1)).setCell ⟨hb, 3, none⟩ (.int .i64 n2)).setCell ⟨hb, 4, none⟩ (.int .i64 n3)).heap.size) := Lib.hid (by simp [World.setCell])
        clear X F hrs2 X0 X1 X2 F0 F1 F2 S0 S1 S2
        go_wp2_with fail
        have hsz2 := HSZ.out
        generalize ((((y2.setCell ⟨hb, 1, none⟩ (.int .i64 n0)).setCell ⟨hb, 2, none⟩ (.int .i64 n1)).setCell ⟨hb, 3, none⟩ (.int .i64 n2)).setCell ⟨hb, 4, none⟩ (.int .i64 n3)) = x3 at *
        have HX3 := Lib.hid X3
        have HF3 := Lib.hid F3
        have HS3 := Lib.hid S3
        have b0 := X3.cell 0
        have b1 := X3.cell 1
        have b2 := X3.cell 2
        have b3 := X3.cell 3
        have b4 := X3.cell 4
        have hbl := X3.low
        simp only [List.getElem?_toArray, List.getElem?_cons_succ, List.getElem?_cons_zero] at b0 b1 b2 b3 b4
        clear X3 F3 S3 HSZ d0 d1 d2 d3 d4 f1 f2 f3 f4 cv hsz2
        have HKEY : Hid (∀ t2 : Rs, (t2 = none ∧ (rS (k + 1) a (some r)).2 = none) ∨ (t2 ≠ none ∧ t2 = itE t0 ∧ rowOk a sw (n0, n1, n2, n3)) → R.2 = (rS k sw.data.toList t2).2 ∧ (t2 ≠ none → R.1 = (l ++ [(sw.data.toList, (n0, n1, n2, n3))]) ++ (rS k sw.data.toList t2).1 ∧ LastK (l ++ [(sw.data.toList, (n0, n1, n2, n3))]) sw.data.toList ∧ 5 * (l ++ [(sw.data.toList, (n0, n1, n2, n3))]).length + (t2.getD []).length ≤ M)) := by
          refine Lib.hid (fun t2 h => ?_)
          rcases h with ⟨rfl, h⟩ | ⟨h1, h2, h3⟩
          · exact ⟨by rw [HQ1.out, h, rS_none], fun h => absurd rfl h⟩
          · have hc : rS (k + 1) a (some r) = ((sw.data.toList, (n0, n1, n2, n3)) :: (rS k sw.data.toList t2).1, (rS k sw.data.toList t2).2) := by
              rw [rS, ← HSW.out, ← HT0.out, ← HIT.out, ← h2, if_pos ⟨by simp, h1, h3⟩]
            have h5 := row_ne (s := some r) (by rw [← HT0.out, ← h2]; exact h1)
            rw [← HT0.out, ← h2] at h5
            simp only [Option.getD_some] at h5
            refine ⟨by rw [HQ1.out, hc], fun _ => ⟨by rw [HR1.out, hc]; simp, .inr ⟨l, _, rfl, rfl⟩, by simp only [List.length_append, List.length_cons, List.length_nil]; omega⟩⟩
        have HNO : Hid (¬ rowOk a sw (n0, n1, n2, n3) → (rS (k + 1) a (some r)).2 = none) := by
          refine Lib.hid (fun h => ?_)
          rw [rS, if_neg (fun hc => h (by have := hc.2.2; rw [← HSW.out, ← HT0.out, ← HIT.out] at this; exact this))]
        have HNE : Hid (itE t0 = none → (rS (k + 1) a (some r)).2 = none) := by
          refine Lib.hid (fun h => ?_)
          rw [rS, if_neg (fun hc => hc.2.1 (by rw [← HT0.out]; exact h))]
        clear HQ1 HR1 HSW HT0 HIT
        cases hkb : keyB sw with
        | false =>
          have HKB := Lib.hid hkb
          have HBAD : Hid (¬ rowOk a sw (n0, n1, n2, n3)) := Lib.hid (fun h => by have h2 := h.2.2; rw [mayB_eq, HKB.out] at h2; cases h2)
          clear hkb
          refine wp_region_held_drew (S := (fun W => Below x3.heap.size x3 W ∧ W.cell? ⟨hb, 0, none⟩ = some (.string sw) ∧ W.cell? ⟨hb, 1, none⟩ = some (.int .i64 n0) ∧ W.cell? ⟨hb, 2, none⟩ = some (.int .i64 n1) ∧ W.cell? ⟨hb, 3, none⟩ = some (.int .i64 n2) ∧ W.cell? ⟨hb, 4, none⟩ = some (.int .i64 n3))) (by kernel_rfl) ⟨(Below.refl _ _).drew, b0, b1, b2, b3, b4⟩ (fun hHeld => ?_)
          refine wpAnyH_take (i := 0) (oi := ⟨some 28, _, _, _, _, _⟩) (v := ?v0a_1) rfl (by kernel_rfl) (by kernel_rfl) (by kernel_rfl) (fun _ _ _ h => h) (Or.inl ⟨by rfl, ?y0a_1⟩) (by assumption) ?r0a_1
          case y0a_1 => (intro w hSw; (try dsimp only at hSw); (try go_split_ands); go_simp); (try with_reducible rfl)
          case r0a_1 =>
          (try simp only [Act.put, List.setIfInBounds_toArray, List.set_cons_zero, List.set_cons_succ])
          refine wpAnyH_take (i := 1) (oi := ⟨some 29, _, _, _, _, _⟩) (v := ?v1a_4) rfl (by kernel_rfl) (by kernel_rfl) (by kernel_rfl) (fun _ _ _ h => h) (Or.inl ⟨by rfl, ?y1a_4⟩) (by assumption) ?r1a_4
          case y1a_4 => (intro w hSw; (try dsimp only at hSw); (try go_split_ands); go_simp); (try with_reducible rfl)
          case r1a_4 =>
          (try simp only [Act.put, List.setIfInBounds_toArray, List.set_cons_zero, List.set_cons_succ])
          refine wpAnyH_ready (rs := [2]) (by kernel_rfl) (by simp) ?_
          refine AllReadyH.cons (o := ⟨some 30, _, _, _, _, _⟩) rfl (fun K hK => ?_) AllReadyH.nil
          go_simp
          refine (refIsKey sw _).mono ?_
          rintro e w5 ⟨he, hb5⟩
          rw [HKB.out] at he
          subst he
          go_wp2_with fail
          have hbX := hHeld.1.trans (hb5.mono hHeld.1.size)
          refine hK.out _ _ ⟨hbX, bkeep hbX b0 (by omega), bkeep hbX b1 (by omega), bkeep hbX b2 (by omega), bkeep hbX b3 (by omega), bkeep hbX b4 (by omega)⟩ (fun hHeld => ?_)
          clear hK K
          (try simp only [Act.put, List.setIfInBounds_toArray, List.set_cons_zero, List.set_cons_succ])
          refine wpAnyH_take (i := 3) (oi := ⟨some 31, _, _, _, _, _⟩) (v := .bool true) rfl (by kernel_rfl) (by kernel_rfl) (by kernel_rfl) (fun _ _ _ h => h) (Or.inl ⟨by rfl, ?y3a_19⟩) (by assumption) ?r3a_19
          case y3a_19 => (intro w hSw; (try dsimp only at hSw); (try go_split_ands); (first | (go_simp; done) | (go_simp; exact HL0.out) | (go_simp; simp [*]; done) | (go_simp; omega)))
          case r3a_19 =>
          (try simp only [Act.put, List.setIfInBounds_toArray, List.set_cons_zero, List.set_cons_succ])
          refine wpAnyH_take (i := 4) (oi := ⟨some 32, _, _, _, _, _⟩) (v := .bool true) rfl (by kernel_rfl) (by kernel_rfl) (by kernel_rfl) (fun _ _ _ h => h) (Or.inl ⟨by rfl, ?y4a_22⟩) (by assumption) ?r4a_22
          case y4a_22 => (intro w hSw; (try dsimp only at hSw); (try go_split_ands); (first | (go_simp; done) | (go_simp; exact HL0.out) | (go_simp; simp [*]; done) | (go_simp; omega)))
          case r4a_22 =>
          (try simp only [Act.put, List.setIfInBounds_toArray, List.set_cons_zero, List.set_cons_succ])
          refine wpAnyH_take (i := 5) (oi := ⟨some 33, _, _, _, _, _⟩) (v := undef) rfl (by kernel_rfl) (by kernel_rfl) (by kernel_rfl) (fun _ _ _ h => h) (Or.inr ⟨by rfl, rfl⟩) (by assumption) ?_
          (try simp only [Act.put, List.setIfInBounds_toArray, List.set_cons_zero, List.set_cons_succ])
          refine wpAnyH_take (i := 6) (oi := ⟨some 34, _, _, _, _, _⟩) (v := undef) rfl (by kernel_rfl) (by kernel_rfl) (by kernel_rfl) (fun _ _ _ h => h) (Or.inr ⟨by rfl, rfl⟩) (by assumption) ?_
          (try simp only [Act.put, List.setIfInBounds_toArray, List.set_cons_zero, List.set_cons_succ])
          refine wpAnyH_take (i := 7) (oi := ⟨some 35, _, _, _, _, _⟩) (v := undef) rfl (by kernel_rfl) (by kernel_rfl) (by kernel_rfl) (fun _ _ _ h => h) (Or.inr ⟨by rfl, rfl⟩) (by assumption) ?_
          (try simp only [Act.put, List.setIfInBounds_toArray, List.set_cons_zero, List.set_cons_succ])
          refine wpAnyH_take (i := 8) (oi := ⟨some 36, _, _, _, _, _⟩) (v := undef) rfl (by kernel_rfl) (by kernel_rfl) (by kernel_rfl) (fun _ _ _ h => h) (Or.inr ⟨by rfl, rfl⟩) (by assumption) ?_
          (try simp only [Act.put, List.setIfInBounds_toArray, List.set_cons_zero, List.set_cons_succ])
          refine wpAnyH_take (i := 9) (oi := ⟨some 37, _, _, _, _, _⟩) (v := .bool true) rfl (by kernel_rfl) (by kernel_rfl) (by kernel_rfl) (fun _ _ _ h => h) (Or.inl ⟨by rfl, ?y9a_33⟩) (by assumption) ?r9a_33
          case y9a_33 => (intro w hSw; (try dsimp only at hSw); (try go_split_ands); (first | (go_simp; done) | (go_simp; exact HL0.out) | (go_simp; simp [*]; done) | (go_simp; omega)))
          case r9a_33 =>
          (try simp only [Act.put, List.setIfInBounds_toArray, List.set_cons_zero, List.set_cons_succ])
          refine wpAnyH_take (i := 10) (oi := ⟨some 38, _, _, _, _, _⟩) (v := .bool true) rfl (by kernel_rfl) (by kernel_rfl) (by kernel_rfl) (fun _ _ _ h => h) (Or.inl ⟨by rfl, ?y10a_36⟩) (by assumption) ?r10a_36
          case y10a_36 => (intro w hSw; (try dsimp only at hSw); (try go_split_ands); (first | (go_simp; done) | (go_simp; exact HL0.out) | (go_simp; simp [*]; done) | (go_simp; omega)))
          case r10a_36 =>
          (try simp only [Act.put, List.setIfInBounds_toArray, List.set_cons_zero, List.set_cons_succ])
          refine wpAnyH_take (i := 11) (oi := ⟨some 39, _, _, _, _, _⟩) (v := undef) rfl (by kernel_rfl) (by kernel_rfl) (by kernel_rfl) (fun _ _ _ h => h) (Or.inr ⟨by rfl, rfl⟩) (by assumption) ?_
          (try simp only [Act.put, List.setIfInBounds_toArray, List.set_cons_zero, List.set_cons_succ])
          refine wpAnyH_take (i := 12) (oi := ⟨some 40, _, _, _, _, _⟩) (v := undef) rfl (by kernel_rfl) (by kernel_rfl) (by kernel_rfl) (fun _ _ _ h => h) (Or.inr ⟨by rfl, rfl⟩) (by assumption) ?_
          (try simp only [Act.put, List.setIfInBounds_toArray, List.set_cons_zero, List.set_cons_succ])
          refine wpAnyH_take (i := 13) (oi := ⟨some 41, _, _, _, _, _⟩) (v := undef) rfl (by kernel_rfl) (by kernel_rfl) (by kernel_rfl) (fun _ _ _ h => h) (Or.inr ⟨by rfl, rfl⟩) (by assumption) ?_
          (try simp only [Act.put, List.setIfInBounds_toArray, List.set_cons_zero, List.set_cons_succ])
          refine wpAnyH_take (i := 14) (oi := ⟨some 42, _, _, _, _, _⟩) (v := undef) rfl (by kernel_rfl) (by kernel_rfl) (by kernel_rfl) (fun _ _ _ h => h) (Or.inr ⟨by rfl, rfl⟩) (by assumption) ?_
          (try simp only [Act.put, List.setIfInBounds_toArray, List.set_cons_zero, List.set_cons_succ])
          refine wpAnyH_take (i := 15) (oi := ⟨some 43, _, _, _, _, _⟩) (v := undef) rfl (by kernel_rfl) (by kernel_rfl) (by kernel_rfl) (fun _ _ _ h => h) (Or.inr ⟨by rfl, rfl⟩) (by assumption) ?_
          (try simp only [Act.put, List.setIfInBounds_toArray, List.set_cons_zero, List.set_cons_succ])
          refine wpAnyH_take (i := 16) (oi := ⟨some 44, _, _, _, _, _⟩) (v := undef) rfl (by kernel_rfl) (by kernel_rfl) (by kernel_rfl) (fun _ _ _ h => h) (Or.inr ⟨by rfl, rfl⟩) (by assumption) ?_
          (try simp only [Act.put, List.setIfInBounds_toArray, List.set_cons_zero, List.set_cons_succ])
          refine wpAnyH_take (i := 17) (oi := ⟨some 45, _, _, _, _, _⟩) (v := undef) rfl (by kernel_rfl) (by kernel_rfl) (by kernel_rfl) (fun _ _ _ h => h) (Or.inr ⟨by rfl, rfl⟩) (by assumption) ?_
          (try simp only [Act.put, List.setIfInBounds_toArray, List.set_cons_zero, List.set_cons_succ])
          refine wpAnyH_take (i := 18) (oi := ⟨some 46, _, _, _, _, _⟩) (v := undef) rfl (by kernel_rfl) (by kernel_rfl) (by kernel_rfl) (fun _ _ _ h => h) (Or.inr ⟨by rfl, rfl⟩) (by assumption) ?_
          (try simp only [Act.put, List.setIfInBounds_toArray, List.set_cons_zero, List.set_cons_succ])
          refine wpAnyH_take (i := 19) (oi := ⟨some 47, _, _, _, _, _⟩) (v := undef) rfl (by kernel_rfl) (by kernel_rfl) (by kernel_rfl) (fun _ _ _ h => h) (Or.inr ⟨by rfl, rfl⟩) (by assumption) ?_
          (try simp only [Act.put, List.setIfInBounds_toArray, List.set_cons_zero, List.set_cons_succ])
          refine wpAnyH_take (i := 20) (oi := ⟨some 48, _, _, _, _, _⟩) (v := undef) rfl (by kernel_rfl) (by kernel_rfl) (by kernel_rfl) (fun _ _ _ h => h) (Or.inr ⟨by rfl, rfl⟩) (by assumption) ?_
          (try simp only [Act.put, List.setIfInBounds_toArray, List.set_cons_zero, List.set_cons_succ])
          refine wpAnyH_take (i := 21) (oi := ⟨some 49, _, _, _, _, _⟩) (v := undef) rfl (by kernel_rfl) (by kernel_rfl) (by kernel_rfl) (fun _ _ _ h => h) (Or.inr ⟨by rfl, rfl⟩) (by assumption) ?_
          (try simp only [Act.put, List.setIfInBounds_toArray, List.set_cons_zero, List.set_cons_succ])
          refine wpAnyH_take (i := 22) (oi := ⟨some 50, _, _, _, _, _⟩) (v := undef) rfl (by kernel_rfl) (by kernel_rfl) (by kernel_rfl) (fun _ _ _ h => h) (Or.inr ⟨by rfl, rfl⟩) (by assumption) ?_
          (try simp only [Act.put, List.setIfInBounds_toArray, List.set_cons_zero, List.set_cons_succ])
          refine wpAnyH_take (i := 23) (oi := ⟨some 51, _, _, _, _, _⟩) (v := undef) rfl (by kernel_rfl) (by kernel_rfl) (by kernel_rfl) (fun _ _ _ h => h) (Or.inr ⟨by rfl, rfl⟩) (by assumption) ?_
          (try simp only [Act.put, List.setIfInBounds_toArray, List.set_cons_zero, List.set_cons_succ])
          refine wpAnyH_take (i := 24) (oi := ⟨some 52, _, _, _, _, _⟩) (v := .bool true) rfl (by kernel_rfl) (by kernel_rfl) (by kernel_rfl) (fun _ _ _ h => h) (Or.inl ⟨by rfl, ?y24a_65⟩) (by assumption) ?r24a_65
          case y24a_65 => (intro w hSw; (try dsimp only at hSw); (try go_split_ands); (first | (go_simp; done) | (go_simp; exact HL0.out) | (go_simp; simp [*]; done) | (go_simp; omega)))
          case r24a_65 =>
          (try simp only [Act.put, List.setIfInBounds_toArray, List.set_cons_zero, List.set_cons_succ])
          refine wpAnyH_done (by kernel_rfl) ?_ _
          have hbE := hHeld.1
          have X6 := HX3.out.below hbE HX3.out.low
          have F6 := HF3.out.trans (Touch.of_below hbE) (D := fun k => k = rb) (fun n hn e => by have := HF3.out.size; have e2 : x3.heap.size ≤ n := e; omega)
          have HS6 := Lib.hid (HS3.out.fresh hbE)
          clear hHeld b0 b1 b2 b3 b4
          go_wp2_with fail
          refine (rfBadST rb t1 _ HS6.out).mono ?_
          rintro e w7 ⟨rfl, hrs7, ht7⟩
          have X7 := X6.tch ht7 (by omega)
          have F7 := F6.trans ht7.touch (D := fun k => k = rb) (fun n _ e => e)
          have HS7 := Lib.hid hrs7
          clear hrs7 ht7
          have g0 := X7.cell 0
          have g1 := X7.cell 1
          have g2 := X7.cell 2
          have g3 := X7.cell 3
          have g4 := X7.cell 4
          simp only [List.getElem?_toArray, List.getElem?_cons_succ, List.getElem?_cons_zero] at g0 g1 g2 g3 g4
          have HOA := Lib.hid ((F7.alloc (.cells #[.string sw, .int .i64 n0, .int .i64 n1, .int .i64 n2, .int .i64 n3] 85)).own HO.out (fun g hg e => by have := (HO.out.lt g hg).1; have e2 : g = rb := e; omega))
          have HCO := Lib.hid (hd_cells w7 sw n0 n1 n2 n3)
          have hsz7 : wr.heap.size ≤ w7.heap.size := F7.size
          have hsz6 : w.heap.size ≤ (w7.alloc (.cells #[.string sw, .int .i64 n0, .int .i64 n1, .int .i64 n2, .int .i64 n3] 85)).heap.size := Nat.le_trans hsz (Nat.le_trans hsz7 (by simp))
          have HF7 := Lib.hid (F7.alloc (.cells #[.string sw, .int .i64 n0, .int .i64 n1, .int .i64 n2, .int .i64 n3] 85))
          have HS8 := Lib.hid (HS7.out.alloc (.cells #[.string sw, .int .i64 n0, .int .i64 n1, .int .i64 n2, .int .i64 n3] 85))
          clear X7 F7 X6 F6 hsz7
          go_wp2_with (first
            | (at_builtin; go_must (refine wpList_append_touch rfl (.tmp 55) (.tmp 57) 56 rfl w.heap.size 85 i0 (.agg #[.string ⟨#[]⟩, .int .i64 0, .int .i64 0, .int .i64 0, .int .i64 0]) 5 48 Tryz.underlying56 hi hz0 hz1 hz2 rfl (by decide) (.slice Al l.length cl) l.length (flatH l) rfl HOA.out (w7.heap.size + 1) (some ⟨w7.heap.size, 0, none⟩) 1 1 (rowH (sw.data.toList, (n0, n1, n2, n3))) rfl HCO.out (rowH_one _) (by unfold maxLen; omega) (by omega) hsz6 ?_); intro v8 w8 ho8 ht8 hv8; go_loud (have HF9 := Lib.hid ((HF7.out.mono (D' := fun k => k = rb ∨ Value.ownBlock (.slice Al l.length cl) = some k) (fun _ e => .inl e)).trans ht8 (fun n _ e => .inr e)); have HS9 := Lib.hid (HS8.out.below (ht8.below hsz6 (fun k hk => (HO.out.lt k hk).1)) hrl0); obtain ⟨A8, c8, rfl, _, _, _⟩ := own_slice ho8; have HO9 := Lib.hid ho8; clear ho8 ht8 hv8))
            | fail)
          have HTC : Tch rb w _ := ⟨HF9.out.os.trans HT.out.os, HF9.out.tape.trans HT.out.tape, HF9.out.output.trans HT.out.output, Nat.le_trans HT.out.size HF9.out.size, fun q hq hn => (HF9.out.block q (Nat.lt_of_lt_of_le hq HT.out.size) (fun e => by rcases e with e | e; exact hn e; have := (HO.out.lt q e).1; omega)).trans (HT.out.block q hq hn)⟩
          have hfin : ((none : Rs) = none ∧ (rS (k + 1) a (some r)).2 = none) ∨ ((none : Rs) ≠ none ∧ (none : Rs) = itE t0 ∧ rowOk a sw (n0, n1, n2, n3)) := .inl ⟨rfl, HNO.out (fun h => HBAD.out h)⟩
          obtain ⟨hp1, hp2⟩ := HKEY.out none hfin
          exact ⟨⟨l.length + 1, k, none, l ++ [(sw.data.toList, (n0, n1, n2, n3))], sw.data.toList, by go_num, by omega, HS9.out, by rw [flatH_snoc, List.length_append]; exact HO9.out, by simp, HTC, hp1, hp2, by simp only [List.length_append, List.length_cons, List.length_nil]; omega⟩, by simp [intOf]; omega⟩

        | true =>
        have HKB := Lib.hid hkb
        clear hkb
        by_cases hz : (n0, n1, n2, n3) = z4
        · have HBAD : Hid (¬ rowOk a sw (n0, n1, n2, n3)) := Lib.hid (fun h => h.2.1 hz)
          have hze : (n0 == 0 && n1 == 0 && n2 == 0 && n3 == 0) = true := by simp only [z4, Prod.mk.injEq] at hz; obtain ⟨rfl, rfl, rfl, rfl⟩ := hz; rfl
          clear hz
          refine wp_region_held_drew (S := (fun W => Below x3.heap.size x3 W ∧ W.cell? ⟨hb, 0, none⟩ = some (.string sw) ∧ W.cell? ⟨hb, 1, none⟩ = some (.int .i64 n0) ∧ W.cell? ⟨hb, 2, none⟩ = some (.int .i64 n1) ∧ W.cell? ⟨hb, 3, none⟩ = some (.int .i64 n2) ∧ W.cell? ⟨hb, 4, none⟩ = some (.int .i64 n3))) (by kernel_rfl) ⟨(Below.refl _ _).drew, b0, b1, b2, b3, b4⟩ (fun hHeld => ?_)
          refine wpAnyH_take (i := 0) (oi := ⟨some 28, _, _, _, _, _⟩) (v := ?v0b_1) rfl (by kernel_rfl) (by kernel_rfl) (by kernel_rfl) (fun _ _ _ h => h) (Or.inl ⟨by rfl, ?y0b_1⟩) (by assumption) ?r0b_1
          case y0b_1 => (intro w hSw; (try dsimp only at hSw); (try go_split_ands); go_simp); (try with_reducible rfl)
          case r0b_1 =>
          (try simp only [Act.put, List.setIfInBounds_toArray, List.set_cons_zero, List.set_cons_succ])
          refine wpAnyH_take (i := 1) (oi := ⟨some 29, _, _, _, _, _⟩) (v := ?v1b_4) rfl (by kernel_rfl) (by kernel_rfl) (by kernel_rfl) (fun _ _ _ h => h) (Or.inl ⟨by rfl, ?y1b_4⟩) (by assumption) ?r1b_4
          case y1b_4 => (intro w hSw; (try dsimp only at hSw); (try go_split_ands); go_simp); (try with_reducible rfl)
          case r1b_4 =>
          (try simp only [Act.put, List.setIfInBounds_toArray, List.set_cons_zero, List.set_cons_succ])
          refine wpAnyH_ready (rs := [2]) (by kernel_rfl) (by simp) ?_
          refine AllReadyH.cons (o := ⟨some 30, _, _, _, _, _⟩) rfl (fun K hK => ?_) AllReadyH.nil
          go_simp
          refine (refIsKey sw _).mono ?_
          rintro e w5 ⟨he, hb5⟩
          rw [HKB.out] at he
          subst he
          go_wp2_with fail
          have hbX := hHeld.1.trans (hb5.mono hHeld.1.size)
          refine hK.out _ _ ⟨hbX, bkeep hbX b0 (by omega), bkeep hbX b1 (by omega), bkeep hbX b2 (by omega), bkeep hbX b3 (by omega), bkeep hbX b4 (by omega)⟩ (fun hHeld => ?_)
          clear hK K
          (try simp only [Act.put, List.setIfInBounds_toArray, List.set_cons_zero, List.set_cons_succ])
          refine wpAnyH_take (i := 3) (oi := ⟨some 31, _, _, _, _, _⟩) (v := .bool false) rfl (by kernel_rfl) (by kernel_rfl) (by kernel_rfl) (fun _ _ _ h => h) (Or.inl ⟨by rfl, ?y3b_19⟩) (by assumption) ?r3b_19
          case y3b_19 => (intro w hSw; (try dsimp only at hSw); (try go_split_ands); (first | (go_simp; done) | (go_simp; exact HL0.out) | (go_simp; simp [*]; done) | (go_simp; omega)))
          case r3b_19 =>
          (try simp only [Act.put, List.setIfInBounds_toArray, List.set_cons_zero, List.set_cons_succ])
          refine wpAnyH_take (i := 4) (oi := ⟨some 32, _, _, _, _, _⟩) (v := .bool false) rfl (by kernel_rfl) (by kernel_rfl) (by kernel_rfl) (fun _ _ _ h => h) (Or.inl ⟨by rfl, ?y4b_22⟩) (by assumption) ?r4b_22
          case y4b_22 => (intro w hSw; (try dsimp only at hSw); (try go_split_ands); (first | (go_simp; done) | (go_simp; exact HL0.out) | (go_simp; simp [*]; done) | (go_simp; omega)))
          case r4b_22 =>
          (try simp only [Act.put, List.setIfInBounds_toArray, List.set_cons_zero, List.set_cons_succ])
          refine wpAnyH_take (i := 5) (oi := ⟨some 33, _, _, _, _, _⟩) (v := ?v5b_25) rfl (by kernel_rfl) (by kernel_rfl) (by kernel_rfl) (fun _ _ _ h => h) (Or.inl ⟨by rfl, ?y5b_25⟩) (by assumption) ?r5b_25
          case y5b_25 => (intro w hSw; (try dsimp only at hSw); (try go_split_ands); go_simp); (try with_reducible rfl)
          case r5b_25 =>
          (try simp only [Act.put, List.setIfInBounds_toArray, List.set_cons_zero, List.set_cons_succ])
          refine wpAnyH_take (i := 6) (oi := ⟨some 34, _, _, _, _, _⟩) (v := ?v6b_28) rfl (by kernel_rfl) (by kernel_rfl) (by kernel_rfl) (fun _ _ _ h => h) (Or.inl ⟨by rfl, ?y6b_28⟩) (by assumption) ?r6b_28
          case y6b_28 => (intro w hSw; (try dsimp only at hSw); (try go_split_ands); go_simp); (try with_reducible rfl)
          case r6b_28 =>
          (try simp only [Act.put, List.setIfInBounds_toArray, List.set_cons_zero, List.set_cons_succ])
          refine wpAnyH_take (i := 7) (oi := ⟨some 35, _, _, _, _, _⟩) (v := ?v7b_31) rfl (by kernel_rfl) (by kernel_rfl) (by kernel_rfl) (fun _ _ _ h => h) (Or.inl ⟨by rfl, ?y7b_31⟩) (by assumption) ?r7b_31
          case y7b_31 => (intro w hSw; (try dsimp only at hSw); (try go_split_ands); go_simp); (try with_reducible rfl)
          case r7b_31 =>
          (try simp only [Act.put, List.setIfInBounds_toArray, List.set_cons_zero, List.set_cons_succ])
          refine wpAnyH_take (i := 8) (oi := ⟨some 36, _, _, _, _, _⟩) (v := .bool true) rfl (by kernel_rfl) (by kernel_rfl) (by kernel_rfl) (fun _ _ _ h => h) (Or.inl ⟨by rfl, ?y8b_34⟩) (by assumption) ?r8b_34
          case y8b_34 => (intro w hSw; (try dsimp only at hSw); (try go_split_ands); (first | (go_simp; done) | (go_simp; exact HL0.out) | (go_simp; simp [*]; done) | (go_simp; omega)))
          case r8b_34 =>
          (try simp only [Act.put, List.setIfInBounds_toArray, List.set_cons_zero, List.set_cons_succ])
          refine wpAnyH_take (i := 9) (oi := ⟨some 37, _, _, _, _, _⟩) (v := .bool true) rfl (by kernel_rfl) (by kernel_rfl) (by kernel_rfl) (fun _ _ _ h => h) (Or.inl ⟨by rfl, ?y9b_37⟩) (by assumption) ?r9b_37
          case y9b_37 => (intro w hSw; (try dsimp only at hSw); (try go_split_ands); (first | (go_simp; done) | (go_simp; exact HL0.out) | (go_simp; simp [*]; done) | (go_simp; omega)))
          case r9b_37 =>
          (try simp only [Act.put, List.setIfInBounds_toArray, List.set_cons_zero, List.set_cons_succ])
          refine wpAnyH_take (i := 10) (oi := ⟨some 38, _, _, _, _, _⟩) (v := .bool true) rfl (by kernel_rfl) (by kernel_rfl) (by kernel_rfl) (fun _ _ _ h => h) (Or.inl ⟨by rfl, ?y10b_40⟩) (by assumption) ?r10b_40
          case y10b_40 => (intro w hSw; (try dsimp only at hSw); (try go_split_ands); (first | (go_simp; done) | (go_simp; exact HL0.out) | (go_simp; simp [*]; done) | (go_simp; omega)))
          case r10b_40 =>
          (try simp only [Act.put, List.setIfInBounds_toArray, List.set_cons_zero, List.set_cons_succ])
          refine wpAnyH_take (i := 11) (oi := ⟨some 39, _, _, _, _, _⟩) (v := undef) rfl (by kernel_rfl) (by kernel_rfl) (by kernel_rfl) (fun _ _ _ h => h) (Or.inr ⟨by rfl, rfl⟩) (by assumption) ?_
          (try simp only [Act.put, List.setIfInBounds_toArray, List.set_cons_zero, List.set_cons_succ])
          refine wpAnyH_take (i := 12) (oi := ⟨some 40, _, _, _, _, _⟩) (v := undef) rfl (by kernel_rfl) (by kernel_rfl) (by kernel_rfl) (fun _ _ _ h => h) (Or.inr ⟨by rfl, rfl⟩) (by assumption) ?_
          (try simp only [Act.put, List.setIfInBounds_toArray, List.set_cons_zero, List.set_cons_succ])
          refine wpAnyH_take (i := 13) (oi := ⟨some 41, _, _, _, _, _⟩) (v := undef) rfl (by kernel_rfl) (by kernel_rfl) (by kernel_rfl) (fun _ _ _ h => h) (Or.inr ⟨by rfl, rfl⟩) (by assumption) ?_
          (try simp only [Act.put, List.setIfInBounds_toArray, List.set_cons_zero, List.set_cons_succ])
          refine wpAnyH_take (i := 14) (oi := ⟨some 42, _, _, _, _, _⟩) (v := undef) rfl (by kernel_rfl) (by kernel_rfl) (by kernel_rfl) (fun _ _ _ h => h) (Or.inr ⟨by rfl, rfl⟩) (by assumption) ?_
          (try simp only [Act.put, List.setIfInBounds_toArray, List.set_cons_zero, List.set_cons_succ])
          refine wpAnyH_take (i := 15) (oi := ⟨some 43, _, _, _, _, _⟩) (v := undef) rfl (by kernel_rfl) (by kernel_rfl) (by kernel_rfl) (fun _ _ _ h => h) (Or.inr ⟨by rfl, rfl⟩) (by assumption) ?_
          (try simp only [Act.put, List.setIfInBounds_toArray, List.set_cons_zero, List.set_cons_succ])
          refine wpAnyH_take (i := 16) (oi := ⟨some 44, _, _, _, _, _⟩) (v := undef) rfl (by kernel_rfl) (by kernel_rfl) (by kernel_rfl) (fun _ _ _ h => h) (Or.inr ⟨by rfl, rfl⟩) (by assumption) ?_
          (try simp only [Act.put, List.setIfInBounds_toArray, List.set_cons_zero, List.set_cons_succ])
          refine wpAnyH_take (i := 17) (oi := ⟨some 45, _, _, _, _, _⟩) (v := undef) rfl (by kernel_rfl) (by kernel_rfl) (by kernel_rfl) (fun _ _ _ h => h) (Or.inr ⟨by rfl, rfl⟩) (by assumption) ?_
          (try simp only [Act.put, List.setIfInBounds_toArray, List.set_cons_zero, List.set_cons_succ])
          refine wpAnyH_take (i := 18) (oi := ⟨some 46, _, _, _, _, _⟩) (v := undef) rfl (by kernel_rfl) (by kernel_rfl) (by kernel_rfl) (fun _ _ _ h => h) (Or.inr ⟨by rfl, rfl⟩) (by assumption) ?_
          (try simp only [Act.put, List.setIfInBounds_toArray, List.set_cons_zero, List.set_cons_succ])
          refine wpAnyH_take (i := 19) (oi := ⟨some 47, _, _, _, _, _⟩) (v := undef) rfl (by kernel_rfl) (by kernel_rfl) (by kernel_rfl) (fun _ _ _ h => h) (Or.inr ⟨by rfl, rfl⟩) (by assumption) ?_
          (try simp only [Act.put, List.setIfInBounds_toArray, List.set_cons_zero, List.set_cons_succ])
          refine wpAnyH_take (i := 20) (oi := ⟨some 48, _, _, _, _, _⟩) (v := undef) rfl (by kernel_rfl) (by kernel_rfl) (by kernel_rfl) (fun _ _ _ h => h) (Or.inr ⟨by rfl, rfl⟩) (by assumption) ?_
          (try simp only [Act.put, List.setIfInBounds_toArray, List.set_cons_zero, List.set_cons_succ])
          refine wpAnyH_take (i := 21) (oi := ⟨some 49, _, _, _, _, _⟩) (v := undef) rfl (by kernel_rfl) (by kernel_rfl) (by kernel_rfl) (fun _ _ _ h => h) (Or.inr ⟨by rfl, rfl⟩) (by assumption) ?_
          (try simp only [Act.put, List.setIfInBounds_toArray, List.set_cons_zero, List.set_cons_succ])
          refine wpAnyH_take (i := 22) (oi := ⟨some 50, _, _, _, _, _⟩) (v := undef) rfl (by kernel_rfl) (by kernel_rfl) (by kernel_rfl) (fun _ _ _ h => h) (Or.inr ⟨by rfl, rfl⟩) (by assumption) ?_
          (try simp only [Act.put, List.setIfInBounds_toArray, List.set_cons_zero, List.set_cons_succ])
          refine wpAnyH_take (i := 23) (oi := ⟨some 51, _, _, _, _, _⟩) (v := undef) rfl (by kernel_rfl) (by kernel_rfl) (by kernel_rfl) (fun _ _ _ h => h) (Or.inr ⟨by rfl, rfl⟩) (by assumption) ?_
          (try simp only [Act.put, List.setIfInBounds_toArray, List.set_cons_zero, List.set_cons_succ])
          refine wpAnyH_take (i := 24) (oi := ⟨some 52, _, _, _, _, _⟩) (v := .bool true) rfl (by kernel_rfl) (by kernel_rfl) (by kernel_rfl) (fun _ _ _ h => h) (Or.inl ⟨by rfl, ?y24b_69⟩) (by assumption) ?r24b_69
          case y24b_69 => (intro w hSw; (try dsimp only at hSw); (try go_split_ands); (first | (go_simp; done) | (go_simp; exact HL0.out) | (go_simp; simp [*]; done) | (go_simp; omega)))
          case r24b_69 =>
          (try simp only [Act.put, List.setIfInBounds_toArray, List.set_cons_zero, List.set_cons_succ])
          refine wpAnyH_done (by kernel_rfl) ?_ _
          have hbE := hHeld.1
          have X6 := HX3.out.below hbE HX3.out.low
          have F6 := HF3.out.trans (Touch.of_below hbE) (D := fun k => k = rb) (fun n hn e => by have := HF3.out.size; have e2 : x3.heap.size ≤ n := e; omega)
          have HS6 := Lib.hid (HS3.out.fresh hbE)
          clear hHeld b0 b1 b2 b3 b4
          go_wp2_with fail
          refine (rfBadST rb t1 _ HS6.out).mono ?_
          rintro e w7 ⟨rfl, hrs7, ht7⟩
          have X7 := X6.tch ht7 (by omega)
          have F7 := F6.trans ht7.touch (D := fun k => k = rb) (fun n _ e => e)
          have HS7 := Lib.hid hrs7
          clear hrs7 ht7
          have g0 := X7.cell 0
          have g1 := X7.cell 1
          have g2 := X7.cell 2
          have g3 := X7.cell 3
          have g4 := X7.cell 4
          simp only [List.getElem?_toArray, List.getElem?_cons_succ, List.getElem?_cons_zero] at g0 g1 g2 g3 g4
          have HOA := Lib.hid ((F7.alloc (.cells #[.string sw, .int .i64 n0, .int .i64 n1, .int .i64 n2, .int .i64 n3] 85)).own HO.out (fun g hg e => by have := (HO.out.lt g hg).1; have e2 : g = rb := e; omega))
          have HCO := Lib.hid (hd_cells w7 sw n0 n1 n2 n3)
          have hsz7 : wr.heap.size ≤ w7.heap.size := F7.size
          have hsz6 : w.heap.size ≤ (w7.alloc (.cells #[.string sw, .int .i64 n0, .int .i64 n1, .int .i64 n2, .int .i64 n3] 85)).heap.size := Nat.le_trans hsz (Nat.le_trans hsz7 (by simp))
          have HF7 := Lib.hid (F7.alloc (.cells #[.string sw, .int .i64 n0, .int .i64 n1, .int .i64 n2, .int .i64 n3] 85))
          have HS8 := Lib.hid (HS7.out.alloc (.cells #[.string sw, .int .i64 n0, .int .i64 n1, .int .i64 n2, .int .i64 n3] 85))
          clear X7 F7 X6 F6 hsz7
          go_wp2_with (first
            | (at_builtin; go_must (refine wpList_append_touch rfl (.tmp 55) (.tmp 57) 56 rfl w.heap.size 85 i0 (.agg #[.string ⟨#[]⟩, .int .i64 0, .int .i64 0, .int .i64 0, .int .i64 0]) 5 48 Tryz.underlying56 hi hz0 hz1 hz2 rfl (by decide) (.slice Al l.length cl) l.length (flatH l) rfl HOA.out (w7.heap.size + 1) (some ⟨w7.heap.size, 0, none⟩) 1 1 (rowH (sw.data.toList, (n0, n1, n2, n3))) rfl HCO.out (rowH_one _) (by unfold maxLen; omega) (by omega) hsz6 ?_); intro v8 w8 ho8 ht8 hv8; go_loud (have HF9 := Lib.hid ((HF7.out.mono (D' := fun k => k = rb ∨ Value.ownBlock (.slice Al l.length cl) = some k) (fun _ e => .inl e)).trans ht8 (fun n _ e => .inr e)); have HS9 := Lib.hid (HS8.out.below (ht8.below hsz6 (fun k hk => (HO.out.lt k hk).1)) hrl0); obtain ⟨A8, c8, rfl, _, _, _⟩ := own_slice ho8; have HO9 := Lib.hid ho8; clear ho8 ht8 hv8))
            | fail)
          have HTC : Tch rb w _ := ⟨HF9.out.os.trans HT.out.os, HF9.out.tape.trans HT.out.tape, HF9.out.output.trans HT.out.output, Nat.le_trans HT.out.size HF9.out.size, fun q hq hn => (HF9.out.block q (Nat.lt_of_lt_of_le hq HT.out.size) (fun e => by rcases e with e | e; exact hn e; have := (HO.out.lt q e).1; omega)).trans (HT.out.block q hq hn)⟩
          have hfin : ((none : Rs) = none ∧ (rS (k + 1) a (some r)).2 = none) ∨ ((none : Rs) ≠ none ∧ (none : Rs) = itE t0 ∧ rowOk a sw (n0, n1, n2, n3)) := .inl ⟨rfl, HNO.out (fun h => HBAD.out h)⟩
          obtain ⟨hp1, hp2⟩ := HKEY.out none hfin
          exact ⟨⟨l.length + 1, k, none, l ++ [(sw.data.toList, (n0, n1, n2, n3))], sw.data.toList, by go_num, by omega, HS9.out, by rw [flatH_snoc, List.length_append]; exact HO9.out, by simp, HTC, hp1, hp2, by simp only [List.length_append, List.length_cons, List.length_nil]; omega⟩, by simp [intOf]; omega⟩

        have HZ := Lib.hid hz
        have hze : (n0 == 0 && n1 == 0 && n2 == 0 && n3 == 0) = false := by
          cases h : (n0 == 0 && n1 == 0 && n2 == 0 && n3 == 0) with
          | false => rfl
          | true =>
            simp only [Bool.and_eq_true, beq_iff_eq] at h
            exact absurd (by rw [h.1.1.1, h.1.1.2, h.1.2, h.2]; rfl) hz
        clear hz
        rcases HLK.out with ⟨hl0, rfl⟩ | ⟨m, x, hm, rfl⟩
        · have HGOOD : Hid (BL [] sw.data.toList ∧ (n0, n1, n2, n3) ≠ z4 ∧ keyB sw = true) := Lib.hid ⟨bl_nil HKB.out, HZ.out, HKB.out⟩
          have hli : ¬ (0 : Int) < (l.length : Int) := by rw [hl0]; simp
          have HL0 := Lib.hid hl0
          clear hl0
          refine wp_region_held_drew (S := (fun W => Below x3.heap.size x3 W ∧ W.cell? ⟨hb, 0, none⟩ = some (.string sw) ∧ W.cell? ⟨hb, 1, none⟩ = some (.int .i64 n0) ∧ W.cell? ⟨hb, 2, none⟩ = some (.int .i64 n1) ∧ W.cell? ⟨hb, 3, none⟩ = some (.int .i64 n2) ∧ W.cell? ⟨hb, 4, none⟩ = some (.int .i64 n3))) (by kernel_rfl) ⟨(Below.refl _ _).drew, b0, b1, b2, b3, b4⟩ (fun hHeld => ?_)
          refine wpAnyH_take (i := 0) (oi := ⟨some 28, _, _, _, _, _⟩) (v := ?v0c_1) rfl (by kernel_rfl) (by kernel_rfl) (by kernel_rfl) (fun _ _ _ h => h) (Or.inl ⟨by rfl, ?y0c_1⟩) (by assumption) ?r0c_1
          case y0c_1 => (intro w hSw; (try dsimp only at hSw); (try go_split_ands); go_simp); (try with_reducible rfl)
          case r0c_1 =>
          (try simp only [Act.put, List.setIfInBounds_toArray, List.set_cons_zero, List.set_cons_succ])
          refine wpAnyH_take (i := 1) (oi := ⟨some 29, _, _, _, _, _⟩) (v := ?v1c_4) rfl (by kernel_rfl) (by kernel_rfl) (by kernel_rfl) (fun _ _ _ h => h) (Or.inl ⟨by rfl, ?y1c_4⟩) (by assumption) ?r1c_4
          case y1c_4 => (intro w hSw; (try dsimp only at hSw); (try go_split_ands); go_simp); (try with_reducible rfl)
          case r1c_4 =>
          (try simp only [Act.put, List.setIfInBounds_toArray, List.set_cons_zero, List.set_cons_succ])
          refine wpAnyH_ready (rs := [2]) (by kernel_rfl) (by simp) ?_
          refine AllReadyH.cons (o := ⟨some 30, _, _, _, _, _⟩) rfl (fun K hK => ?_) AllReadyH.nil
          go_simp
          refine (refIsKey sw _).mono ?_
          rintro e w5 ⟨he, hb5⟩
          rw [HKB.out] at he
          subst he
          go_wp2_with fail
          have hbX := hHeld.1.trans (hb5.mono hHeld.1.size)
          refine hK.out _ _ ⟨hbX, bkeep hbX b0 (by omega), bkeep hbX b1 (by omega), bkeep hbX b2 (by omega), bkeep hbX b3 (by omega), bkeep hbX b4 (by omega)⟩ (fun hHeld => ?_)
          clear hK K
          (try simp only [Act.put, List.setIfInBounds_toArray, List.set_cons_zero, List.set_cons_succ])
          refine wpAnyH_take (i := 3) (oi := ⟨some 31, _, _, _, _, _⟩) (v := .bool false) rfl (by kernel_rfl) (by kernel_rfl) (by kernel_rfl) (fun _ _ _ h => h) (Or.inl ⟨by rfl, ?y3c_19⟩) (by assumption) ?r3c_19
          case y3c_19 => (intro w hSw; (try dsimp only at hSw); (try go_split_ands); (first | (go_simp; done) | (go_simp; exact HL0.out) | (go_simp; simp [*]; done) | (go_simp; omega)))
          case r3c_19 =>
          (try simp only [Act.put, List.setIfInBounds_toArray, List.set_cons_zero, List.set_cons_succ])
          refine wpAnyH_take (i := 4) (oi := ⟨some 32, _, _, _, _, _⟩) (v := .bool false) rfl (by kernel_rfl) (by kernel_rfl) (by kernel_rfl) (fun _ _ _ h => h) (Or.inl ⟨by rfl, ?y4c_22⟩) (by assumption) ?r4c_22
          case y4c_22 => (intro w hSw; (try dsimp only at hSw); (try go_split_ands); (first | (go_simp; done) | (go_simp; exact HL0.out) | (go_simp; simp [*]; done) | (go_simp; omega)))
          case r4c_22 =>
          (try simp only [Act.put, List.setIfInBounds_toArray, List.set_cons_zero, List.set_cons_succ])
          refine wpAnyH_take (i := 5) (oi := ⟨some 33, _, _, _, _, _⟩) (v := ?v5c_25) rfl (by kernel_rfl) (by kernel_rfl) (by kernel_rfl) (fun _ _ _ h => h) (Or.inl ⟨by rfl, ?y5c_25⟩) (by assumption) ?r5c_25
          case y5c_25 => (intro w hSw; (try dsimp only at hSw); (try go_split_ands); go_simp); (try with_reducible rfl)
          case r5c_25 =>
          (try simp only [Act.put, List.setIfInBounds_toArray, List.set_cons_zero, List.set_cons_succ])
          refine wpAnyH_take (i := 6) (oi := ⟨some 34, _, _, _, _, _⟩) (v := ?v6c_28) rfl (by kernel_rfl) (by kernel_rfl) (by kernel_rfl) (fun _ _ _ h => h) (Or.inl ⟨by rfl, ?y6c_28⟩) (by assumption) ?r6c_28
          case y6c_28 => (intro w hSw; (try dsimp only at hSw); (try go_split_ands); go_simp); (try with_reducible rfl)
          case r6c_28 =>
          (try simp only [Act.put, List.setIfInBounds_toArray, List.set_cons_zero, List.set_cons_succ])
          refine wpAnyH_take (i := 7) (oi := ⟨some 35, _, _, _, _, _⟩) (v := ?v7c_31) rfl (by kernel_rfl) (by kernel_rfl) (by kernel_rfl) (fun _ _ _ h => h) (Or.inl ⟨by rfl, ?y7c_31⟩) (by assumption) ?r7c_31
          case y7c_31 => (intro w hSw; (try dsimp only at hSw); (try go_split_ands); go_simp); (try with_reducible rfl)
          case r7c_31 =>
          (try simp only [Act.put, List.setIfInBounds_toArray, List.set_cons_zero, List.set_cons_succ])
          refine wpAnyH_take (i := 8) (oi := ⟨some 36, _, _, _, _, _⟩) (v := .bool false) rfl (by kernel_rfl) (by kernel_rfl) (by kernel_rfl) (fun _ _ _ h => h) (Or.inl ⟨by rfl, ?y8c_34⟩) (by assumption) ?r8c_34
          case y8c_34 => (intro w hSw; (try dsimp only at hSw); (try go_split_ands); (first | (go_simp; done) | (go_simp; exact HL0.out) | (go_simp; simp [*]; done) | (go_simp; omega)))
          case r8c_34 =>
          (try simp only [Act.put, List.setIfInBounds_toArray, List.set_cons_zero, List.set_cons_succ])
          refine wpAnyH_take (i := 9) (oi := ⟨some 37, _, _, _, _, _⟩) (v := .bool false) rfl (by kernel_rfl) (by kernel_rfl) (by kernel_rfl) (fun _ _ _ h => h) (Or.inl ⟨by rfl, ?y9c_37⟩) (by assumption) ?r9c_37
          case y9c_37 => (intro w hSw; (try dsimp only at hSw); (try go_split_ands); (first | (go_simp; done) | (go_simp; exact HL0.out) | (go_simp; simp [*]; done) | (go_simp; omega)))
          case r9c_37 =>
          (try simp only [Act.put, List.setIfInBounds_toArray, List.set_cons_zero, List.set_cons_succ])
          refine wpAnyH_take (i := 10) (oi := ⟨some 38, _, _, _, _, _⟩) (v := .bool false) rfl (by kernel_rfl) (by kernel_rfl) (by kernel_rfl) (fun _ _ _ h => h) (Or.inl ⟨by rfl, ?y10c_40⟩) (by assumption) ?r10c_40
          case y10c_40 => (intro w hSw; (try dsimp only at hSw); (try go_split_ands); (first | (go_simp; done) | (go_simp; exact HL0.out) | (go_simp; simp [*]; done) | (go_simp; omega)))
          case r10c_40 =>
          (try simp only [Act.put, List.setIfInBounds_toArray, List.set_cons_zero, List.set_cons_succ])
          refine wpAnyH_take (i := 11) (oi := ⟨some 39, _, _, _, _, _⟩) (v := ?v11c_43) rfl (by kernel_rfl) (by kernel_rfl) (by kernel_rfl) (fun _ _ _ h => h) (Or.inl ⟨by rfl, ?y11c_43⟩) (by assumption) ?r11c_43
          case y11c_43 => (intro w hSw; (try dsimp only at hSw); (try go_split_ands); go_simp); (try with_reducible rfl)
          case r11c_43 =>
          (try simp only [Act.put, List.setIfInBounds_toArray, List.set_cons_zero, List.set_cons_succ])
          refine wpAnyH_take (i := 12) (oi := ⟨some 40, _, _, _, _, _⟩) (v := .bool false) rfl (by kernel_rfl) (by kernel_rfl) (by kernel_rfl) (fun _ _ _ h => h) (Or.inl ⟨by rfl, ?y12c_46⟩) (by assumption) ?r12c_46
          case y12c_46 => (intro w hSw; (try dsimp only at hSw); (try go_split_ands); (first | (go_simp; done) | (go_simp; exact HL0.out) | (go_simp; simp [*]; done) | (go_simp; omega)))
          case r12c_46 =>
          (try simp only [Act.put, List.setIfInBounds_toArray, List.set_cons_zero, List.set_cons_succ])
          refine wpAnyH_take (i := 13) (oi := ⟨some 41, _, _, _, _, _⟩) (v := .bool false) rfl (by kernel_rfl) (by kernel_rfl) (by kernel_rfl) (fun _ _ _ h => h) (Or.inl ⟨by rfl, ?y13c_49⟩) (by assumption) ?r13c_49
          case y13c_49 => (intro w hSw; (try dsimp only at hSw); (try go_split_ands); (first | (go_simp; done) | (go_simp; exact HL0.out) | (go_simp; simp [*]; done) | (go_simp; omega)))
          case r13c_49 =>
          (try simp only [Act.put, List.setIfInBounds_toArray, List.set_cons_zero, List.set_cons_succ])
          refine wpAnyH_take (i := 14) (oi := ⟨some 42, _, _, _, _, _⟩) (v := undef) rfl (by kernel_rfl) (by kernel_rfl) (by kernel_rfl) (fun _ _ _ h => h) (Or.inr ⟨by rfl, rfl⟩) (by assumption) ?_
          (try simp only [Act.put, List.setIfInBounds_toArray, List.set_cons_zero, List.set_cons_succ])
          refine wpAnyH_take (i := 15) (oi := ⟨some 43, _, _, _, _, _⟩) (v := undef) rfl (by kernel_rfl) (by kernel_rfl) (by kernel_rfl) (fun _ _ _ h => h) (Or.inr ⟨by rfl, rfl⟩) (by assumption) ?_
          (try simp only [Act.put, List.setIfInBounds_toArray, List.set_cons_zero, List.set_cons_succ])
          refine wpAnyH_take (i := 16) (oi := ⟨some 44, _, _, _, _, _⟩) (v := undef) rfl (by kernel_rfl) (by kernel_rfl) (by kernel_rfl) (fun _ _ _ h => h) (Or.inr ⟨by rfl, rfl⟩) (by assumption) ?_
          (try simp only [Act.put, List.setIfInBounds_toArray, List.set_cons_zero, List.set_cons_succ])
          refine wpAnyH_take (i := 17) (oi := ⟨some 45, _, _, _, _, _⟩) (v := undef) rfl (by kernel_rfl) (by kernel_rfl) (by kernel_rfl) (fun _ _ _ h => h) (Or.inr ⟨by rfl, rfl⟩) (by assumption) ?_
          (try simp only [Act.put, List.setIfInBounds_toArray, List.set_cons_zero, List.set_cons_succ])
          refine wpAnyH_take (i := 18) (oi := ⟨some 46, _, _, _, _, _⟩) (v := undef) rfl (by kernel_rfl) (by kernel_rfl) (by kernel_rfl) (fun _ _ _ h => h) (Or.inr ⟨by rfl, rfl⟩) (by assumption) ?_
          (try simp only [Act.put, List.setIfInBounds_toArray, List.set_cons_zero, List.set_cons_succ])
          refine wpAnyH_take (i := 19) (oi := ⟨some 47, _, _, _, _, _⟩) (v := undef) rfl (by kernel_rfl) (by kernel_rfl) (by kernel_rfl) (fun _ _ _ h => h) (Or.inr ⟨by rfl, rfl⟩) (by assumption) ?_
          (try simp only [Act.put, List.setIfInBounds_toArray, List.set_cons_zero, List.set_cons_succ])
          refine wpAnyH_take (i := 20) (oi := ⟨some 48, _, _, _, _, _⟩) (v := undef) rfl (by kernel_rfl) (by kernel_rfl) (by kernel_rfl) (fun _ _ _ h => h) (Or.inr ⟨by rfl, rfl⟩) (by assumption) ?_
          (try simp only [Act.put, List.setIfInBounds_toArray, List.set_cons_zero, List.set_cons_succ])
          refine wpAnyH_take (i := 21) (oi := ⟨some 49, _, _, _, _, _⟩) (v := undef) rfl (by kernel_rfl) (by kernel_rfl) (by kernel_rfl) (fun _ _ _ h => h) (Or.inr ⟨by rfl, rfl⟩) (by assumption) ?_
          (try simp only [Act.put, List.setIfInBounds_toArray, List.set_cons_zero, List.set_cons_succ])
          refine wpAnyH_take (i := 22) (oi := ⟨some 50, _, _, _, _, _⟩) (v := undef) rfl (by kernel_rfl) (by kernel_rfl) (by kernel_rfl) (fun _ _ _ h => h) (Or.inr ⟨by rfl, rfl⟩) (by assumption) ?_
          (try simp only [Act.put, List.setIfInBounds_toArray, List.set_cons_zero, List.set_cons_succ])
          refine wpAnyH_take (i := 23) (oi := ⟨some 51, _, _, _, _, _⟩) (v := .bool false) rfl (by kernel_rfl) (by kernel_rfl) (by kernel_rfl) (fun _ _ _ h => h) (Or.inl ⟨by rfl, ?y23c_70⟩) (by assumption) ?r23c_70
          case y23c_70 => (intro w hSw; (try dsimp only at hSw); (try go_split_ands); (first | (go_simp; done) | (go_simp; exact HL0.out) | (go_simp; simp [*]; done) | (go_simp; omega)))
          case r23c_70 =>
          (try simp only [Act.put, List.setIfInBounds_toArray, List.set_cons_zero, List.set_cons_succ])
          refine wpAnyH_take (i := 24) (oi := ⟨some 52, _, _, _, _, _⟩) (v := .bool false) rfl (by kernel_rfl) (by kernel_rfl) (by kernel_rfl) (fun _ _ _ h => h) (Or.inl ⟨by rfl, ?y24c_73⟩) (by assumption) ?r24c_73
          case y24c_73 => (intro w hSw; (try dsimp only at hSw); (try go_split_ands); (first | (go_simp; done) | (go_simp; exact HL0.out) | (go_simp; simp [*]; done) | (go_simp; omega)))
          case r24c_73 =>
          (try simp only [Act.put, List.setIfInBounds_toArray, List.set_cons_zero, List.set_cons_succ])
          refine wpAnyH_done (by kernel_rfl) ?_ _
          have hbE := hHeld.1
          have X6 := HX3.out.below hbE HX3.out.low
          have F6 := HF3.out.trans (Touch.of_below hbE) (D := fun k => k = rb) (fun n hn e => by have := HF3.out.size; have e2 : x3.heap.size ≤ n := e; omega)
          have HS6 := Lib.hid (HS3.out.fresh hbE)
          clear hHeld b0 b1 b2 b3 b4
          obtain ⟨w7, hw7⟩ : ∃ z, z = w5 := ⟨_, rfl⟩
          have X7 : Whl w7 hb 85 #[.string sw, .int .i64 n0, .int .i64 n1, .int .i64 n2, .int .i64 n3] := by rw [hw7]; exact X6
          have F7 : Touch (fun k => k = rb) wr w7 := by rw [hw7]; exact F6
          have HS7 : Hid (RS w7 rb t1) := by rw [hw7]; exact HS6
          rw [← hw7]
          clear hw7
          have g0 := X7.cell 0
          have g1 := X7.cell 1
          have g2 := X7.cell 2
          have g3 := X7.cell 3
          have g4 := X7.cell 4
          simp only [List.getElem?_toArray, List.getElem?_cons_succ, List.getElem?_cons_zero] at g0 g1 g2 g3 g4
          have HOA := Lib.hid ((F7.alloc (.cells #[.string sw, .int .i64 n0, .int .i64 n1, .int .i64 n2, .int .i64 n3] 85)).own HO.out (fun g hg e => by have := (HO.out.lt g hg).1; have e2 : g = rb := e; omega))
          have HCO := Lib.hid (hd_cells w7 sw n0 n1 n2 n3)
          have hsz7 : wr.heap.size ≤ w7.heap.size := F7.size
          have hsz6 : w.heap.size ≤ (w7.alloc (.cells #[.string sw, .int .i64 n0, .int .i64 n1, .int .i64 n2, .int .i64 n3] 85)).heap.size := Nat.le_trans hsz (Nat.le_trans hsz7 (by simp))
          have HF7 := Lib.hid (F7.alloc (.cells #[.string sw, .int .i64 n0, .int .i64 n1, .int .i64 n2, .int .i64 n3] 85))
          have HS8 := Lib.hid (HS7.out.alloc (.cells #[.string sw, .int .i64 n0, .int .i64 n1, .int .i64 n2, .int .i64 n3] 85))
          clear X7 F7 X6 F6 hsz7
          go_wp2_with (first
            | (at_builtin; go_must (refine wpList_append_touch rfl (.tmp 55) (.tmp 57) 56 rfl w.heap.size 85 i0 (.agg #[.string ⟨#[]⟩, .int .i64 0, .int .i64 0, .int .i64 0, .int .i64 0]) 5 48 Tryz.underlying56 hi hz0 hz1 hz2 rfl (by decide) (.slice Al l.length cl) l.length (flatH l) rfl HOA.out (w7.heap.size + 1) (some ⟨w7.heap.size, 0, none⟩) 1 1 (rowH (sw.data.toList, (n0, n1, n2, n3))) rfl HCO.out (rowH_one _) (by unfold maxLen; omega) (by omega) hsz6 ?_); intro v8 w8 ho8 ht8 hv8; go_loud (have HF9 := Lib.hid ((HF7.out.mono (D' := fun k => k = rb ∨ Value.ownBlock (.slice Al l.length cl) = some k) (fun _ e => .inl e)).trans ht8 (fun n _ e => .inr e)); have HS9 := Lib.hid (HS8.out.below (ht8.below hsz6 (fun k hk => (HO.out.lt k hk).1)) hrl0); obtain ⟨A8, c8, rfl, _, _, _⟩ := own_slice ho8; have HO9 := Lib.hid ho8; clear ho8 ht8 hv8))
            | fail)
          have HTC : Tch rb w _ := ⟨HF9.out.os.trans HT.out.os, HF9.out.tape.trans HT.out.tape, HF9.out.output.trans HT.out.output, Nat.le_trans HT.out.size HF9.out.size, fun q hq hn => (HF9.out.block q (Nat.lt_of_lt_of_le hq HT.out.size) (fun e => by rcases e with e | e; exact hn e; have := (HO.out.lt q e).1; omega)).trans (HT.out.block q hq hn)⟩
          have hfin : (t1 = none ∧ (rS (k + 1) [] (some r)).2 = none) ∨ (t1 ≠ none ∧ t1 = itE t0 ∧ rowOk [] sw (n0, n1, n2, n3)) := by
            have h1 := HT1.out
            cases hI : isI (n0, n1, n2, n3) with
            | false =>
              rw [hI] at h1
              exact .inl ⟨h1, HNO.out (fun h => by have h2 := h.2.2; rw [mayB_eq] at h2; have h3 : isP n0 n1 n2 n3 = false := hI; simp only [h3, Bool.and_false] at h2; cases h2)⟩
            | true =>
              rw [hI] at h1
              have h1 : t1 = itE t0 := h1
              by_cases hn : itE t0 = none
              · exact .inl ⟨by rw [h1, hn], HNE.out hn⟩
              · exact .inr ⟨by rw [h1]; exact hn, h1, HGOOD.out.1, HGOOD.out.2.1, by rw [mayB_eq, HGOOD.out.2.2]; exact hI⟩
          obtain ⟨hp1, hp2⟩ := HKEY.out t1 hfin
          exact ⟨⟨l.length + 1, k, t1, l ++ [(sw.data.toList, (n0, n1, n2, n3))], sw.data.toList, by go_num, by omega, HS9.out, by rw [flatH_snoc, List.length_append]; exact HO9.out, by simp, HTC, hp1, hp2, by simp only [List.length_append, List.length_cons, List.length_nil]; omega⟩, by simp [intOf]; omega⟩

        have HM := Lib.hid hm
        have hml : l.length = m.length + 1 := by rw [hm]; simp
        have HML := Lib.hid hml
        have hli : (0 : Int) < (l.length : Int) := by omega
        have hsub : IntKind.i64.wrap ((l.length : Int) - 1) = (m.length : Int) := by rw [IntKind.wrap_i64]; omega
        have p4 : (m.length : Int) < (l.length : Int) := by omega
        have hfr : ∃ sx : ByteArray, sx.data.toList = x.1 ∧ (flatH l)[m.length * 5]? = some (.string sx) := by
          refine ⟨⟨x.1.toArray⟩, rfl, ?_⟩
          rw [hm]
          have h := (flatH_at (m ++ [x]) m.length (by simp)).1
          rw [List.getElem_append_right (Nat.le_refl _)] at h
          simp only [Nat.sub_self, List.getElem_cons_zero] at h
          exact h
        obtain ⟨sx, hsk, hfx⟩ := hfr
        cases Al with
        | none => have h9 := HO.out.2; rcases h9 with ⟨_, h0⟩ | ⟨g0, _, _, e, _⟩; (exact absurd h0 (by omega)); injection e with e; cases e
        | some ad =>
        obtain ⟨gq, cq, e9, hq5, hq6, _, _⟩ := own_form HO.out (by omega)
        simp only [Value.slice.injEq, Option.some.injEq, true_and] at e9
        obtain ⟨rfl, rfl⟩ := e9
        have zr := HO.out.cellAt (m.length * 5) (by omega)
        have zr := HF3.out.cell (zr.trans hfx) (by omega)
        have hgx : gq < x3.heap.size := by have := HF3.out.size; omega
        clear hm hml hfx
        have HSK := Lib.hid hsk
        clear hsk
        by_cases hlt : BL x.1 sw.data.toList
        · have HGOOD : Hid (BL x.1 sw.data.toList ∧ (n0, n1, n2, n3) ≠ z4 ∧ keyB sw = true) := Lib.hid ⟨hlt, HZ.out, HKB.out⟩
          have f0 : Op.bytesLess sx.toList sw.toList = true := by rw [Lib.toList_data, Lib.toList_data, HSK.out]; exact hlt
          have f1 : Op.bytesLess sw.toList sx.toList = false := less_asymm f0
          have f2 : (sx.toList == sw.toList) = false := by
            cases h : (sx.toList == sw.toList) with
            | false => rfl
            | true => rw [beq_iff_eq] at h; rw [h, less_irrefl] at f0; cases f0
          clear hlt
          refine wp_region_held_drew (S := (fun W => Below x3.heap.size x3 W ∧ W.cell? ⟨hb, 0, none⟩ = some (.string sw) ∧ W.cell? ⟨hb, 1, none⟩ = some (.int .i64 n0) ∧ W.cell? ⟨hb, 2, none⟩ = some (.int .i64 n1) ∧ W.cell? ⟨hb, 3, none⟩ = some (.int .i64 n2) ∧ W.cell? ⟨hb, 4, none⟩ = some (.int .i64 n3) ∧ W.cell? ⟨gq, m.length * 5, none⟩ = some (.string sx))) (by kernel_rfl) ⟨(Below.refl _ _).drew, b0, b1, b2, b3, b4, zr⟩ (fun hHeld => ?_)
          refine wpAnyH_take (i := 0) (oi := ⟨some 28, _, _, _, _, _⟩) (v := ?v0d_1) rfl (by kernel_rfl) (by kernel_rfl) (by kernel_rfl) (fun _ _ _ h => h) (Or.inl ⟨by rfl, ?y0d_1⟩) (by assumption) ?r0d_1
          case y0d_1 => (intro w hSw; (try dsimp only at hSw); (try go_split_ands); go_simp); (try with_reducible rfl)
          case r0d_1 =>
          (try simp only [Act.put, List.setIfInBounds_toArray, List.set_cons_zero, List.set_cons_succ])
          refine wpAnyH_take (i := 1) (oi := ⟨some 29, _, _, _, _, _⟩) (v := ?v1d_4) rfl (by kernel_rfl) (by kernel_rfl) (by kernel_rfl) (fun _ _ _ h => h) (Or.inl ⟨by rfl, ?y1d_4⟩) (by assumption) ?r1d_4
          case y1d_4 => (intro w hSw; (try dsimp only at hSw); (try go_split_ands); go_simp); (try with_reducible rfl)
          case r1d_4 =>
          (try simp only [Act.put, List.setIfInBounds_toArray, List.set_cons_zero, List.set_cons_succ])
          refine wpAnyH_ready (rs := [2]) (by kernel_rfl) (by simp) ?_
          refine AllReadyH.cons (o := ⟨some 30, _, _, _, _, _⟩) rfl (fun K hK => ?_) AllReadyH.nil
          go_simp
          refine (refIsKey sw _).mono ?_
          rintro e w5 ⟨he, hb5⟩
          rw [HKB.out] at he
          subst he
          go_wp2_with fail
          have hbX := hHeld.1.trans (hb5.mono hHeld.1.size)
          refine hK.out _ _ ⟨hbX, bkeep hbX b0 (by omega), bkeep hbX b1 (by omega), bkeep hbX b2 (by omega), bkeep hbX b3 (by omega), bkeep hbX b4 (by omega), bkeep hbX zr (by omega)⟩ (fun hHeld => ?_)
          clear hK K
          (try simp only [Act.put, List.setIfInBounds_toArray, List.set_cons_zero, List.set_cons_succ])
          refine wpAnyH_take (i := 3) (oi := ⟨some 31, _, _, _, _, _⟩) (v := .bool false) rfl (by kernel_rfl) (by kernel_rfl) (by kernel_rfl) (fun _ _ _ h => h) (Or.inl ⟨by rfl, ?y3d_19⟩) (by assumption) ?r3d_19
          case y3d_19 => (intro w hSw; (try dsimp only at hSw); (try go_split_ands); (first | (go_simp; done) | (go_simp; exact HL0.out) | (go_simp; simp [*]; done) | (go_simp; omega)))
          case r3d_19 =>
          (try simp only [Act.put, List.setIfInBounds_toArray, List.set_cons_zero, List.set_cons_succ])
          refine wpAnyH_take (i := 4) (oi := ⟨some 32, _, _, _, _, _⟩) (v := .bool false) rfl (by kernel_rfl) (by kernel_rfl) (by kernel_rfl) (fun _ _ _ h => h) (Or.inl ⟨by rfl, ?y4d_22⟩) (by assumption) ?r4d_22
          case y4d_22 => (intro w hSw; (try dsimp only at hSw); (try go_split_ands); (first | (go_simp; done) | (go_simp; exact HL0.out) | (go_simp; simp [*]; done) | (go_simp; omega)))
          case r4d_22 =>
          (try simp only [Act.put, List.setIfInBounds_toArray, List.set_cons_zero, List.set_cons_succ])
          refine wpAnyH_take (i := 5) (oi := ⟨some 33, _, _, _, _, _⟩) (v := ?v5d_25) rfl (by kernel_rfl) (by kernel_rfl) (by kernel_rfl) (fun _ _ _ h => h) (Or.inl ⟨by rfl, ?y5d_25⟩) (by assumption) ?r5d_25
          case y5d_25 => (intro w hSw; (try dsimp only at hSw); (try go_split_ands); go_simp); (try with_reducible rfl)
          case r5d_25 =>
          (try simp only [Act.put, List.setIfInBounds_toArray, List.set_cons_zero, List.set_cons_succ])
          refine wpAnyH_take (i := 6) (oi := ⟨some 34, _, _, _, _, _⟩) (v := ?v6d_28) rfl (by kernel_rfl) (by kernel_rfl) (by kernel_rfl) (fun _ _ _ h => h) (Or.inl ⟨by rfl, ?y6d_28⟩) (by assumption) ?r6d_28
          case y6d_28 => (intro w hSw; (try dsimp only at hSw); (try go_split_ands); go_simp); (try with_reducible rfl)
          case r6d_28 =>
          (try simp only [Act.put, List.setIfInBounds_toArray, List.set_cons_zero, List.set_cons_succ])
          refine wpAnyH_take (i := 7) (oi := ⟨some 35, _, _, _, _, _⟩) (v := ?v7d_31) rfl (by kernel_rfl) (by kernel_rfl) (by kernel_rfl) (fun _ _ _ h => h) (Or.inl ⟨by rfl, ?y7d_31⟩) (by assumption) ?r7d_31
          case y7d_31 => (intro w hSw; (try dsimp only at hSw); (try go_split_ands); go_simp); (try with_reducible rfl)
          case r7d_31 =>
          (try simp only [Act.put, List.setIfInBounds_toArray, List.set_cons_zero, List.set_cons_succ])
          refine wpAnyH_take (i := 8) (oi := ⟨some 36, _, _, _, _, _⟩) (v := .bool false) rfl (by kernel_rfl) (by kernel_rfl) (by kernel_rfl) (fun _ _ _ h => h) (Or.inl ⟨by rfl, ?y8d_34⟩) (by assumption) ?r8d_34
          case y8d_34 => (intro w hSw; (try dsimp only at hSw); (try go_split_ands); (first | (go_simp; done) | (go_simp; exact HL0.out) | (go_simp; simp [*]; done) | (go_simp; omega)))
          case r8d_34 =>
          (try simp only [Act.put, List.setIfInBounds_toArray, List.set_cons_zero, List.set_cons_succ])
          refine wpAnyH_take (i := 9) (oi := ⟨some 37, _, _, _, _, _⟩) (v := .bool false) rfl (by kernel_rfl) (by kernel_rfl) (by kernel_rfl) (fun _ _ _ h => h) (Or.inl ⟨by rfl, ?y9d_37⟩) (by assumption) ?r9d_37
          case y9d_37 => (intro w hSw; (try dsimp only at hSw); (try go_split_ands); (first | (go_simp; done) | (go_simp; exact HL0.out) | (go_simp; simp [*]; done) | (go_simp; omega)))
          case r9d_37 =>
          (try simp only [Act.put, List.setIfInBounds_toArray, List.set_cons_zero, List.set_cons_succ])
          refine wpAnyH_take (i := 10) (oi := ⟨some 38, _, _, _, _, _⟩) (v := .bool false) rfl (by kernel_rfl) (by kernel_rfl) (by kernel_rfl) (fun _ _ _ h => h) (Or.inl ⟨by rfl, ?y10d_40⟩) (by assumption) ?r10d_40
          case y10d_40 => (intro w hSw; (try dsimp only at hSw); (try go_split_ands); (first | (go_simp; done) | (go_simp; exact HL0.out) | (go_simp; simp [*]; done) | (go_simp; omega)))
          case r10d_40 =>
          (try simp only [Act.put, List.setIfInBounds_toArray, List.set_cons_zero, List.set_cons_succ])
          refine wpAnyH_take (i := 11) (oi := ⟨some 39, _, _, _, _, _⟩) (v := ?v11d_43) rfl (by kernel_rfl) (by kernel_rfl) (by kernel_rfl) (fun _ _ _ h => h) (Or.inl ⟨by rfl, ?y11d_43⟩) (by assumption) ?r11d_43
          case y11d_43 => (intro w hSw; (try dsimp only at hSw); (try go_split_ands); go_simp); (try with_reducible rfl)
          case r11d_43 =>
          (try simp only [Act.put, List.setIfInBounds_toArray, List.set_cons_zero, List.set_cons_succ])
          refine wpAnyH_take (i := 12) (oi := ⟨some 40, _, _, _, _, _⟩) (v := .bool true) rfl (by kernel_rfl) (by kernel_rfl) (by kernel_rfl) (fun _ _ _ h => h) (Or.inl ⟨by rfl, ?y12d_46⟩) (by assumption) ?r12d_46
          case y12d_46 => (intro w hSw; (try dsimp only at hSw); (try go_split_ands); (first | (go_simp; done) | (go_simp; exact HL0.out) | (go_simp; simp [*]; done) | (go_simp; omega)))
          case r12d_46 =>
          (try simp only [Act.put, List.setIfInBounds_toArray, List.set_cons_zero, List.set_cons_succ])
          refine wpAnyH_take (i := 13) (oi := ⟨some 41, _, _, _, _, _⟩) (v := .bool true) rfl (by kernel_rfl) (by kernel_rfl) (by kernel_rfl) (fun _ _ _ h => h) (Or.inl ⟨by rfl, ?y13d_49⟩) (by assumption) ?r13d_49
          case y13d_49 => (intro w hSw; (try dsimp only at hSw); (try go_split_ands); (first | (go_simp; done) | (go_simp; exact HL0.out) | (go_simp; simp [*]; done) | (go_simp; omega)))
          case r13d_49 =>
          (try simp only [Act.put, List.setIfInBounds_toArray, List.set_cons_zero, List.set_cons_succ])
          refine wpAnyH_take (i := 14) (oi := ⟨some 42, _, _, _, _, _⟩) (v := ?v14d_52) rfl (by kernel_rfl) (by kernel_rfl) (by kernel_rfl) (fun _ _ _ h => h) (Or.inl ⟨by rfl, ?y14d_52⟩) (by assumption) ?r14d_52
          case y14d_52 => (intro w hSw; (try dsimp only at hSw); (try go_split_ands); go_simp); (try with_reducible rfl)
          case r14d_52 =>
          (try simp only [Act.put, List.setIfInBounds_toArray, List.set_cons_zero, List.set_cons_succ])
          refine wpAnyH_take (i := 15) (oi := ⟨some 43, _, _, _, _, _⟩) (v := ?v15d_55) rfl (by kernel_rfl) (by kernel_rfl) (by kernel_rfl) (fun _ _ _ h => h) (Or.inl ⟨by rfl, ?y15d_55⟩) (by assumption) ?r15d_55
          case y15d_55 => (intro w hSw; (try dsimp only at hSw); (try go_split_ands); go_simp); (try with_reducible rfl)
          case r15d_55 =>
          (try simp only [Act.put, List.setIfInBounds_toArray, List.set_cons_zero, List.set_cons_succ])
          refine wpAnyH_take (i := 16) (oi := ⟨some 44, _, _, _, _, _⟩) (v := ?v16d_58) rfl (by kernel_rfl) (by kernel_rfl) (by kernel_rfl) (fun _ _ _ h => h) (Or.inl ⟨by rfl, ?y16d_58⟩) (by assumption) ?r16d_58
          case y16d_58 => (intro w hSw; (try dsimp only at hSw); (try go_split_ands); go_simp); (try with_reducible rfl)
          case r16d_58 =>
          (try simp only [Act.put, List.setIfInBounds_toArray, List.set_cons_zero, List.set_cons_succ])
          refine wpAnyH_take (i := 17) (oi := ⟨some 45, _, _, _, _, _⟩) (v := ?v17d_61) rfl (by kernel_rfl) (by kernel_rfl) (by kernel_rfl) (fun _ _ _ h => h) (Or.inl ⟨by rfl, ?y17d_61⟩) (by assumption) ?r17d_61
          case y17d_61 => (intro w hSw; (try dsimp only at hSw); (try go_split_ands); go_simp); (try with_reducible rfl)
          case r17d_61 =>
          (try simp only [Act.put, List.setIfInBounds_toArray, List.set_cons_zero, List.set_cons_succ])
          refine wpAnyH_take (i := 18) (oi := ⟨some 46, _, _, _, _, _⟩) (v := ?v18d_64) rfl (by kernel_rfl) (by kernel_rfl) (by kernel_rfl) (fun _ _ _ h => h) (Or.inl ⟨by rfl, ?y18d_64⟩) (by assumption) ?r18d_64
          case y18d_64 => (intro w hSw; (try dsimp only at hSw); (try go_split_ands); go_simp); (try with_reducible rfl)
          case r18d_64 =>
          (try simp only [Act.put, List.setIfInBounds_toArray, List.set_cons_zero, List.set_cons_succ])
          refine wpAnyH_take (i := 19) (oi := ⟨some 47, _, _, _, _, _⟩) (v := ?v19d_67) rfl (by kernel_rfl) (by kernel_rfl) (by kernel_rfl) (fun _ _ _ h => h) (Or.inl ⟨by rfl, ?y19d_67⟩) (by assumption) ?r19d_67
          case y19d_67 => (intro w hSw; (try dsimp only at hSw); (try go_split_ands); go_simp); (try with_reducible rfl)
          case r19d_67 =>
          (try simp only [Act.put, List.setIfInBounds_toArray, List.set_cons_zero, List.set_cons_succ])
          refine wpAnyH_take (i := 20) (oi := ⟨some 48, _, _, _, _, _⟩) (v := ?v20d_70) rfl (by kernel_rfl) (by kernel_rfl) (by kernel_rfl) (fun _ _ _ h => h) (Or.inl ⟨by rfl, ?y20d_70⟩) (by assumption) ?r20d_70
          case y20d_70 => (intro w hSw; (try dsimp only at hSw); (try go_split_ands); go_simp); (try with_reducible rfl)
          case r20d_70 =>
          (try simp only [Act.put, List.setIfInBounds_toArray, List.set_cons_zero, List.set_cons_succ])
          refine wpAnyH_take (i := 21) (oi := ⟨some 49, _, _, _, _, _⟩) (v := ?v21d_73) rfl (by kernel_rfl) (by kernel_rfl) (by kernel_rfl) (fun _ _ _ h => h) (Or.inl ⟨by rfl, ?y21d_73⟩) (by assumption) ?r21d_73
          case y21d_73 => (intro w hSw; (try dsimp only at hSw); (try go_split_ands); go_simp); (try with_reducible rfl)
          case r21d_73 =>
          (try simp only [Act.put, List.setIfInBounds_toArray, List.set_cons_zero, List.set_cons_succ])
          refine wpAnyH_take (i := 22) (oi := ⟨some 50, _, _, _, _, _⟩) (v := .bool false) rfl (by kernel_rfl) (by kernel_rfl) (by kernel_rfl) (fun _ _ _ h => h) (Or.inl ⟨by rfl, ?y22d_76⟩) (by assumption) ?r22d_76
          case y22d_76 => (intro w hSw; (try dsimp only at hSw); (try go_split_ands); (first | (go_simp; done) | (go_simp; exact HL0.out) | (go_simp; simp [*]; done) | (go_simp; omega)))
          case r22d_76 =>
          (try simp only [Act.put, List.setIfInBounds_toArray, List.set_cons_zero, List.set_cons_succ])
          refine wpAnyH_take (i := 23) (oi := ⟨some 51, _, _, _, _, _⟩) (v := .bool false) rfl (by kernel_rfl) (by kernel_rfl) (by kernel_rfl) (fun _ _ _ h => h) (Or.inl ⟨by rfl, ?y23d_79⟩) (by assumption) ?r23d_79
          case y23d_79 => (intro w hSw; (try dsimp only at hSw); (try go_split_ands); (first | (go_simp; done) | (go_simp; exact HL0.out) | (go_simp; simp [*]; done) | (go_simp; omega)))
          case r23d_79 =>
          (try simp only [Act.put, List.setIfInBounds_toArray, List.set_cons_zero, List.set_cons_succ])
          refine wpAnyH_take (i := 24) (oi := ⟨some 52, _, _, _, _, _⟩) (v := .bool false) rfl (by kernel_rfl) (by kernel_rfl) (by kernel_rfl) (fun _ _ _ h => h) (Or.inl ⟨by rfl, ?y24d_82⟩) (by assumption) ?r24d_82
          case y24d_82 => (intro w hSw; (try dsimp only at hSw); (try go_split_ands); (first | (go_simp; done) | (go_simp; exact HL0.out) | (go_simp; simp [*]; done) | (go_simp; omega)))
          case r24d_82 =>
          (try simp only [Act.put, List.setIfInBounds_toArray, List.set_cons_zero, List.set_cons_succ])
          refine wpAnyH_done (by kernel_rfl) ?_ _
          have hbE := hHeld.1
          have X6 := HX3.out.below hbE HX3.out.low
          have F6 := HF3.out.trans (Touch.of_below hbE) (D := fun k => k = rb) (fun n hn e => by have := HF3.out.size; have e2 : x3.heap.size ≤ n := e; omega)
          have HS6 := Lib.hid (HS3.out.fresh hbE)
          clear hHeld b0 b1 b2 b3 b4
          obtain ⟨w7, hw7⟩ : ∃ z, z = w5 := ⟨_, rfl⟩
          have X7 : Whl w7 hb 85 #[.string sw, .int .i64 n0, .int .i64 n1, .int .i64 n2, .int .i64 n3] := by rw [hw7]; exact X6
          have F7 : Touch (fun k => k = rb) wr w7 := by rw [hw7]; exact F6
          have HS7 : Hid (RS w7 rb t1) := by rw [hw7]; exact HS6
          rw [← hw7]
          clear hw7
          have g0 := X7.cell 0
          have g1 := X7.cell 1
          have g2 := X7.cell 2
          have g3 := X7.cell 3
          have g4 := X7.cell 4
          simp only [List.getElem?_toArray, List.getElem?_cons_succ, List.getElem?_cons_zero] at g0 g1 g2 g3 g4
          have HOA := Lib.hid ((F7.alloc (.cells #[.string sw, .int .i64 n0, .int .i64 n1, .int .i64 n2, .int .i64 n3] 85)).own HO.out (fun g hg e => by have := (HO.out.lt g hg).1; have e2 : g = rb := e; omega))
          have HCO := Lib.hid (hd_cells w7 sw n0 n1 n2 n3)
          have hsz7 : wr.heap.size ≤ w7.heap.size := F7.size
          have hsz6 : w.heap.size ≤ (w7.alloc (.cells #[.string sw, .int .i64 n0, .int .i64 n1, .int .i64 n2, .int .i64 n3] 85)).heap.size := Nat.le_trans hsz (Nat.le_trans hsz7 (by simp))
          have HF7 := Lib.hid (F7.alloc (.cells #[.string sw, .int .i64 n0, .int .i64 n1, .int .i64 n2, .int .i64 n3] 85))
          have HS8 := Lib.hid (HS7.out.alloc (.cells #[.string sw, .int .i64 n0, .int .i64 n1, .int .i64 n2, .int .i64 n3] 85))
          clear X7 F7 X6 F6 hsz7
          go_wp2_with (first
            | (at_builtin; go_must (refine wpList_append_touch rfl (.tmp 55) (.tmp 57) 56 rfl w.heap.size 85 i0 (.agg #[.string ⟨#[]⟩, .int .i64 0, .int .i64 0, .int .i64 0, .int .i64 0]) 5 48 Tryz.underlying56 hi hz0 hz1 hz2 rfl (by decide) (.slice (some ⟨gq, 0, none⟩) l.length cl) l.length (flatH l) rfl HOA.out (w7.heap.size + 1) (some ⟨w7.heap.size, 0, none⟩) 1 1 (rowH (sw.data.toList, (n0, n1, n2, n3))) rfl HCO.out (rowH_one _) (by unfold maxLen; omega) (by omega) hsz6 ?_); intro v8 w8 ho8 ht8 hv8; go_loud (have HF9 := Lib.hid ((HF7.out.mono (D' := fun k => k = rb ∨ Value.ownBlock (.slice (some ⟨gq, 0, none⟩) l.length cl) = some k) (fun _ e => .inl e)).trans ht8 (fun n _ e => .inr e)); have HS9 := Lib.hid (HS8.out.below (ht8.below hsz6 (fun k hk => (HO.out.lt k hk).1)) hrl0); obtain ⟨A8, c8, rfl, _, _, _⟩ := own_slice ho8; have HO9 := Lib.hid ho8; clear ho8 ht8 hv8))
            | fail)
          have HTC : Tch rb w _ := ⟨HF9.out.os.trans HT.out.os, HF9.out.tape.trans HT.out.tape, HF9.out.output.trans HT.out.output, Nat.le_trans HT.out.size HF9.out.size, fun q hq hn => (HF9.out.block q (Nat.lt_of_lt_of_le hq HT.out.size) (fun e => by rcases e with e | e; exact hn e; have := (HO.out.lt q e).1; omega)).trans (HT.out.block q hq hn)⟩
          have hfin : (t1 = none ∧ (rS (k + 1) x.1 (some r)).2 = none) ∨ (t1 ≠ none ∧ t1 = itE t0 ∧ rowOk x.1 sw (n0, n1, n2, n3)) := by
            have h1 := HT1.out
            cases hI : isI (n0, n1, n2, n3) with
            | false =>
              rw [hI] at h1
              exact .inl ⟨h1, HNO.out (fun h => by have h2 := h.2.2; rw [mayB_eq] at h2; have h3 : isP n0 n1 n2 n3 = false := hI; simp only [h3, Bool.and_false] at h2; cases h2)⟩
            | true =>
              rw [hI] at h1
              have h1 : t1 = itE t0 := h1
              by_cases hn : itE t0 = none
              · exact .inl ⟨by rw [h1, hn], HNE.out hn⟩
              · exact .inr ⟨by rw [h1]; exact hn, h1, HGOOD.out.1, HGOOD.out.2.1, by rw [mayB_eq, HGOOD.out.2.2]; exact hI⟩
          obtain ⟨hp1, hp2⟩ := HKEY.out t1 hfin
          exact ⟨⟨l.length + 1, k, t1, l ++ [(sw.data.toList, (n0, n1, n2, n3))], sw.data.toList, by go_num, by omega, HS9.out, by rw [flatH_snoc, List.length_append]; exact HO9.out, by simp, HTC, hp1, hp2, by simp only [List.length_append, List.length_cons, List.length_nil]; omega⟩, by simp [intOf]; omega⟩

        have HBAD : Hid (¬ rowOk x.1 sw (n0, n1, n2, n3)) := Lib.hid (fun h => hlt h.1)
        have f0 : Op.bytesLess sx.toList sw.toList = false := by rw [Lib.toList_data, Lib.toList_data, HSK.out]; unfold BL at hlt; simpa using hlt
        have f3 : Op.bytesLess sw.toList sx.toList = true ∨ (Op.bytesLess sw.toList sx.toList = false ∧ (sx.toList == sw.toList) = true) := by
          cases h : Op.bytesLess sw.toList sx.toList with
          | true => exact .inl rfl
          | false => exact .inr ⟨rfl, by simpa using less_eq f0 h⟩
        clear hlt
        rcases f3 with f1 | ⟨f1, f2⟩
        · skip
          refine wp_region_held_drew (S := (fun W => Below x3.heap.size x3 W ∧ W.cell? ⟨hb, 0, none⟩ = some (.string sw) ∧ W.cell? ⟨hb, 1, none⟩ = some (.int .i64 n0) ∧ W.cell? ⟨hb, 2, none⟩ = some (.int .i64 n1) ∧ W.cell? ⟨hb, 3, none⟩ = some (.int .i64 n2) ∧ W.cell? ⟨hb, 4, none⟩ = some (.int .i64 n3) ∧ W.cell? ⟨gq, m.length * 5, none⟩ = some (.string sx))) (by kernel_rfl) ⟨(Below.refl _ _).drew, b0, b1, b2, b3, b4, zr⟩ (fun hHeld => ?_)
          refine wpAnyH_take (i := 0) (oi := ⟨some 28, _, _, _, _, _⟩) (v := ?v0e_1) rfl (by kernel_rfl) (by kernel_rfl) (by kernel_rfl) (fun _ _ _ h => h) (Or.inl ⟨by rfl, ?y0e_1⟩) (by assumption) ?r0e_1
          case y0e_1 => (intro w hSw; (try dsimp only at hSw); (try go_split_ands); go_simp); (try with_reducible rfl)
          case r0e_1 =>
          (try simp only [Act.put, List.setIfInBounds_toArray, List.set_cons_zero, List.set_cons_succ])
          refine wpAnyH_take (i := 1) (oi := ⟨some 29, _, _, _, _, _⟩) (v := ?v1e_4) rfl (by kernel_rfl) (by kernel_rfl) (by kernel_rfl) (fun _ _ _ h => h) (Or.inl ⟨by rfl, ?y1e_4⟩) (by assumption) ?r1e_4
          case y1e_4 => (intro w hSw; (try dsimp only at hSw); (try go_split_ands); go_simp); (try with_reducible rfl)
          case r1e_4 =>
          (try simp only [Act.put, List.setIfInBounds_toArray, List.set_cons_zero, List.set_cons_succ])
          refine wpAnyH_ready (rs := [2]) (by kernel_rfl) (by simp) ?_
          refine AllReadyH.cons (o := ⟨some 30, _, _, _, _, _⟩) rfl (fun K hK => ?_) AllReadyH.nil
          go_simp
          refine (refIsKey sw _).mono ?_
          rintro e w5 ⟨he, hb5⟩
          rw [HKB.out] at he
          subst he
          go_wp2_with fail
          have hbX := hHeld.1.trans (hb5.mono hHeld.1.size)
          refine hK.out _ _ ⟨hbX, bkeep hbX b0 (by omega), bkeep hbX b1 (by omega), bkeep hbX b2 (by omega), bkeep hbX b3 (by omega), bkeep hbX b4 (by omega), bkeep hbX zr (by omega)⟩ (fun hHeld => ?_)
          clear hK K
          (try simp only [Act.put, List.setIfInBounds_toArray, List.set_cons_zero, List.set_cons_succ])
          refine wpAnyH_take (i := 3) (oi := ⟨some 31, _, _, _, _, _⟩) (v := .bool false) rfl (by kernel_rfl) (by kernel_rfl) (by kernel_rfl) (fun _ _ _ h => h) (Or.inl ⟨by rfl, ?y3e_19⟩) (by assumption) ?r3e_19
          case y3e_19 => (intro w hSw; (try dsimp only at hSw); (try go_split_ands); (first | (go_simp; done) | (go_simp; exact HL0.out) | (go_simp; simp [*]; done) | (go_simp; omega)))
          case r3e_19 =>
          (try simp only [Act.put, List.setIfInBounds_toArray, List.set_cons_zero, List.set_cons_succ])
          refine wpAnyH_take (i := 4) (oi := ⟨some 32, _, _, _, _, _⟩) (v := .bool false) rfl (by kernel_rfl) (by kernel_rfl) (by kernel_rfl) (fun _ _ _ h => h) (Or.inl ⟨by rfl, ?y4e_22⟩) (by assumption) ?r4e_22
          case y4e_22 => (intro w hSw; (try dsimp only at hSw); (try go_split_ands); (first | (go_simp; done) | (go_simp; exact HL0.out) | (go_simp; simp [*]; done) | (go_simp; omega)))
          case r4e_22 =>
          (try simp only [Act.put, List.setIfInBounds_toArray, List.set_cons_zero, List.set_cons_succ])
          refine wpAnyH_take (i := 5) (oi := ⟨some 33, _, _, _, _, _⟩) (v := ?v5e_25) rfl (by kernel_rfl) (by kernel_rfl) (by kernel_rfl) (fun _ _ _ h => h) (Or.inl ⟨by rfl, ?y5e_25⟩) (by assumption) ?r5e_25
          case y5e_25 => (intro w hSw; (try dsimp only at hSw); (try go_split_ands); go_simp); (try with_reducible rfl)
          case r5e_25 =>
          (try simp only [Act.put, List.setIfInBounds_toArray, List.set_cons_zero, List.set_cons_succ])
          refine wpAnyH_take (i := 6) (oi := ⟨some 34, _, _, _, _, _⟩) (v := ?v6e_28) rfl (by kernel_rfl) (by kernel_rfl) (by kernel_rfl) (fun _ _ _ h => h) (Or.inl ⟨by rfl, ?y6e_28⟩) (by assumption) ?r6e_28
          case y6e_28 => (intro w hSw; (try dsimp only at hSw); (try go_split_ands); go_simp); (try with_reducible rfl)
          case r6e_28 =>
          (try simp only [Act.put, List.setIfInBounds_toArray, List.set_cons_zero, List.set_cons_succ])
          refine wpAnyH_take (i := 7) (oi := ⟨some 35, _, _, _, _, _⟩) (v := ?v7e_31) rfl (by kernel_rfl) (by kernel_rfl) (by kernel_rfl) (fun _ _ _ h => h) (Or.inl ⟨by rfl, ?y7e_31⟩) (by assumption) ?r7e_31
          case y7e_31 => (intro w hSw; (try dsimp only at hSw); (try go_split_ands); go_simp); (try with_reducible rfl)
          case r7e_31 =>
          (try simp only [Act.put, List.setIfInBounds_toArray, List.set_cons_zero, List.set_cons_succ])
          refine wpAnyH_take (i := 8) (oi := ⟨some 36, _, _, _, _, _⟩) (v := .bool false) rfl (by kernel_rfl) (by kernel_rfl) (by kernel_rfl) (fun _ _ _ h => h) (Or.inl ⟨by rfl, ?y8e_34⟩) (by assumption) ?r8e_34
          case y8e_34 => (intro w hSw; (try dsimp only at hSw); (try go_split_ands); (first | (go_simp; done) | (go_simp; exact HL0.out) | (go_simp; simp [*]; done) | (go_simp; omega)))
          case r8e_34 =>
          (try simp only [Act.put, List.setIfInBounds_toArray, List.set_cons_zero, List.set_cons_succ])
          refine wpAnyH_take (i := 9) (oi := ⟨some 37, _, _, _, _, _⟩) (v := .bool false) rfl (by kernel_rfl) (by kernel_rfl) (by kernel_rfl) (fun _ _ _ h => h) (Or.inl ⟨by rfl, ?y9e_37⟩) (by assumption) ?r9e_37
          case y9e_37 => (intro w hSw; (try dsimp only at hSw); (try go_split_ands); (first | (go_simp; done) | (go_simp; exact HL0.out) | (go_simp; simp [*]; done) | (go_simp; omega)))
          case r9e_37 =>
          (try simp only [Act.put, List.setIfInBounds_toArray, List.set_cons_zero, List.set_cons_succ])
          refine wpAnyH_take (i := 10) (oi := ⟨some 38, _, _, _, _, _⟩) (v := .bool false) rfl (by kernel_rfl) (by kernel_rfl) (by kernel_rfl) (fun _ _ _ h => h) (Or.inl ⟨by rfl, ?y10e_40⟩) (by assumption) ?r10e_40
          case y10e_40 => (intro w hSw; (try dsimp only at hSw); (try go_split_ands); (first | (go_simp; done) | (go_simp; exact HL0.out) | (go_simp; simp [*]; done) | (go_simp; omega)))
          case r10e_40 =>
          (try simp only [Act.put, List.setIfInBounds_toArray, List.set_cons_zero, List.set_cons_succ])
          refine wpAnyH_take (i := 11) (oi := ⟨some 39, _, _, _, _, _⟩) (v := ?v11e_43) rfl (by kernel_rfl) (by kernel_rfl) (by kernel_rfl) (fun _ _ _ h => h) (Or.inl ⟨by rfl, ?y11e_43⟩) (by assumption) ?r11e_43
          case y11e_43 => (intro w hSw; (try dsimp only at hSw); (try go_split_ands); go_simp); (try with_reducible rfl)
          case r11e_43 =>
          (try simp only [Act.put, List.setIfInBounds_toArray, List.set_cons_zero, List.set_cons_succ])
          refine wpAnyH_take (i := 12) (oi := ⟨some 40, _, _, _, _, _⟩) (v := .bool true) rfl (by kernel_rfl) (by kernel_rfl) (by kernel_rfl) (fun _ _ _ h => h) (Or.inl ⟨by rfl, ?y12e_46⟩) (by assumption) ?r12e_46
          case y12e_46 => (intro w hSw; (try dsimp only at hSw); (try go_split_ands); (first | (go_simp; done) | (go_simp; exact HL0.out) | (go_simp; simp [*]; done) | (go_simp; omega)))
          case r12e_46 =>
          (try simp only [Act.put, List.setIfInBounds_toArray, List.set_cons_zero, List.set_cons_succ])
          refine wpAnyH_take (i := 13) (oi := ⟨some 41, _, _, _, _, _⟩) (v := .bool true) rfl (by kernel_rfl) (by kernel_rfl) (by kernel_rfl) (fun _ _ _ h => h) (Or.inl ⟨by rfl, ?y13e_49⟩) (by assumption) ?r13e_49
          case y13e_49 => (intro w hSw; (try dsimp only at hSw); (try go_split_ands); (first | (go_simp; done) | (go_simp; exact HL0.out) | (go_simp; simp [*]; done) | (go_simp; omega)))
          case r13e_49 =>
          (try simp only [Act.put, List.setIfInBounds_toArray, List.set_cons_zero, List.set_cons_succ])
          refine wpAnyH_take (i := 14) (oi := ⟨some 42, _, _, _, _, _⟩) (v := ?v14e_52) rfl (by kernel_rfl) (by kernel_rfl) (by kernel_rfl) (fun _ _ _ h => h) (Or.inl ⟨by rfl, ?y14e_52⟩) (by assumption) ?r14e_52
          case y14e_52 => (intro w hSw; (try dsimp only at hSw); (try go_split_ands); go_simp); (try with_reducible rfl)
          case r14e_52 =>
          (try simp only [Act.put, List.setIfInBounds_toArray, List.set_cons_zero, List.set_cons_succ])
          refine wpAnyH_take (i := 15) (oi := ⟨some 43, _, _, _, _, _⟩) (v := ?v15e_55) rfl (by kernel_rfl) (by kernel_rfl) (by kernel_rfl) (fun _ _ _ h => h) (Or.inl ⟨by rfl, ?y15e_55⟩) (by assumption) ?r15e_55
          case y15e_55 => (intro w hSw; (try dsimp only at hSw); (try go_split_ands); go_simp); (try with_reducible rfl)
          case r15e_55 =>
          (try simp only [Act.put, List.setIfInBounds_toArray, List.set_cons_zero, List.set_cons_succ])
          refine wpAnyH_take (i := 16) (oi := ⟨some 44, _, _, _, _, _⟩) (v := ?v16e_58) rfl (by kernel_rfl) (by kernel_rfl) (by kernel_rfl) (fun _ _ _ h => h) (Or.inl ⟨by rfl, ?y16e_58⟩) (by assumption) ?r16e_58
          case y16e_58 => (intro w hSw; (try dsimp only at hSw); (try go_split_ands); go_simp); (try with_reducible rfl)
          case r16e_58 =>
          (try simp only [Act.put, List.setIfInBounds_toArray, List.set_cons_zero, List.set_cons_succ])
          refine wpAnyH_take (i := 17) (oi := ⟨some 45, _, _, _, _, _⟩) (v := ?v17e_61) rfl (by kernel_rfl) (by kernel_rfl) (by kernel_rfl) (fun _ _ _ h => h) (Or.inl ⟨by rfl, ?y17e_61⟩) (by assumption) ?r17e_61
          case y17e_61 => (intro w hSw; (try dsimp only at hSw); (try go_split_ands); go_simp); (try with_reducible rfl)
          case r17e_61 =>
          (try simp only [Act.put, List.setIfInBounds_toArray, List.set_cons_zero, List.set_cons_succ])
          refine wpAnyH_take (i := 18) (oi := ⟨some 46, _, _, _, _, _⟩) (v := ?v18e_64) rfl (by kernel_rfl) (by kernel_rfl) (by kernel_rfl) (fun _ _ _ h => h) (Or.inl ⟨by rfl, ?y18e_64⟩) (by assumption) ?r18e_64
          case y18e_64 => (intro w hSw; (try dsimp only at hSw); (try go_split_ands); go_simp); (try with_reducible rfl)
          case r18e_64 =>
          (try simp only [Act.put, List.setIfInBounds_toArray, List.set_cons_zero, List.set_cons_succ])
          refine wpAnyH_take (i := 19) (oi := ⟨some 47, _, _, _, _, _⟩) (v := ?v19e_67) rfl (by kernel_rfl) (by kernel_rfl) (by kernel_rfl) (fun _ _ _ h => h) (Or.inl ⟨by rfl, ?y19e_67⟩) (by assumption) ?r19e_67
          case y19e_67 => (intro w hSw; (try dsimp only at hSw); (try go_split_ands); go_simp); (try with_reducible rfl)
          case r19e_67 =>
          (try simp only [Act.put, List.setIfInBounds_toArray, List.set_cons_zero, List.set_cons_succ])
          refine wpAnyH_take (i := 20) (oi := ⟨some 48, _, _, _, _, _⟩) (v := ?v20e_70) rfl (by kernel_rfl) (by kernel_rfl) (by kernel_rfl) (fun _ _ _ h => h) (Or.inl ⟨by rfl, ?y20e_70⟩) (by assumption) ?r20e_70
          case y20e_70 => (intro w hSw; (try dsimp only at hSw); (try go_split_ands); go_simp); (try with_reducible rfl)
          case r20e_70 =>
          (try simp only [Act.put, List.setIfInBounds_toArray, List.set_cons_zero, List.set_cons_succ])
          refine wpAnyH_take (i := 21) (oi := ⟨some 49, _, _, _, _, _⟩) (v := ?v21e_73) rfl (by kernel_rfl) (by kernel_rfl) (by kernel_rfl) (fun _ _ _ h => h) (Or.inl ⟨by rfl, ?y21e_73⟩) (by assumption) ?r21e_73
          case y21e_73 => (intro w hSw; (try dsimp only at hSw); (try go_split_ands); go_simp); (try with_reducible rfl)
          case r21e_73 =>
          (try simp only [Act.put, List.setIfInBounds_toArray, List.set_cons_zero, List.set_cons_succ])
          refine wpAnyH_take (i := 22) (oi := ⟨some 50, _, _, _, _, _⟩) (v := .bool true) rfl (by kernel_rfl) (by kernel_rfl) (by kernel_rfl) (fun _ _ _ h => h) (Or.inl ⟨by rfl, ?y22e_76⟩) (by assumption) ?r22e_76
          case y22e_76 => (intro w hSw; (try dsimp only at hSw); (try go_split_ands); (first | (go_simp; done) | (go_simp; exact HL0.out) | (go_simp; simp [*]; done) | (go_simp; omega)))
          case r22e_76 =>
          (try simp only [Act.put, List.setIfInBounds_toArray, List.set_cons_zero, List.set_cons_succ])
          refine wpAnyH_take (i := 23) (oi := ⟨some 51, _, _, _, _, _⟩) (v := .bool true) rfl (by kernel_rfl) (by kernel_rfl) (by kernel_rfl) (fun _ _ _ h => h) (Or.inl ⟨by rfl, ?y23e_79⟩) (by assumption) ?r23e_79
          case y23e_79 => (intro w hSw; (try dsimp only at hSw); (try go_split_ands); (first | (go_simp; done) | (go_simp; exact HL0.out) | (go_simp; simp [*]; done) | (go_simp; omega)))
          case r23e_79 =>
          (try simp only [Act.put, List.setIfInBounds_toArray, List.set_cons_zero, List.set_cons_succ])
          refine wpAnyH_take (i := 24) (oi := ⟨some 52, _, _, _, _, _⟩) (v := .bool true) rfl (by kernel_rfl) (by kernel_rfl) (by kernel_rfl) (fun _ _ _ h => h) (Or.inl ⟨by rfl, ?y24e_82⟩) (by assumption) ?r24e_82
          case y24e_82 => (intro w hSw; (try dsimp only at hSw); (try go_split_ands); (first | (go_simp; done) | (go_simp; exact HL0.out) | (go_simp; simp [*]; done) | (go_simp; omega)))
          case r24e_82 =>
          (try simp only [Act.put, List.setIfInBounds_toArray, List.set_cons_zero, List.set_cons_succ])
          refine wpAnyH_done (by kernel_rfl) ?_ _
          have hbE := hHeld.1
          have X6 := HX3.out.below hbE HX3.out.low
          have F6 := HF3.out.trans (Touch.of_below hbE) (D := fun k => k = rb) (fun n hn e => by have := HF3.out.size; have e2 : x3.heap.size ≤ n := e; omega)
          have HS6 := Lib.hid (HS3.out.fresh hbE)
          clear hHeld b0 b1 b2 b3 b4
          go_wp2_with fail
          refine (rfBadST rb t1 _ HS6.out).mono ?_
          rintro e w7 ⟨rfl, hrs7, ht7⟩
          have X7 := X6.tch ht7 (by omega)
          have F7 := F6.trans ht7.touch (D := fun k => k = rb) (fun n _ e => e)
          have HS7 := Lib.hid hrs7
          clear hrs7 ht7
          have g0 := X7.cell 0
          have g1 := X7.cell 1
          have g2 := X7.cell 2
          have g3 := X7.cell 3
          have g4 := X7.cell 4
          simp only [List.getElem?_toArray, List.getElem?_cons_succ, List.getElem?_cons_zero] at g0 g1 g2 g3 g4
          have HOA := Lib.hid ((F7.alloc (.cells #[.string sw, .int .i64 n0, .int .i64 n1, .int .i64 n2, .int .i64 n3] 85)).own HO.out (fun g hg e => by have := (HO.out.lt g hg).1; have e2 : g = rb := e; omega))
          have HCO := Lib.hid (hd_cells w7 sw n0 n1 n2 n3)
          have hsz7 : wr.heap.size ≤ w7.heap.size := F7.size
          have hsz6 : w.heap.size ≤ (w7.alloc (.cells #[.string sw, .int .i64 n0, .int .i64 n1, .int .i64 n2, .int .i64 n3] 85)).heap.size := Nat.le_trans hsz (Nat.le_trans hsz7 (by simp))
          have HF7 := Lib.hid (F7.alloc (.cells #[.string sw, .int .i64 n0, .int .i64 n1, .int .i64 n2, .int .i64 n3] 85))
          have HS8 := Lib.hid (HS7.out.alloc (.cells #[.string sw, .int .i64 n0, .int .i64 n1, .int .i64 n2, .int .i64 n3] 85))
          clear X7 F7 X6 F6 hsz7
          go_wp2_with (first
            | (at_builtin; go_must (refine wpList_append_touch rfl (.tmp 55) (.tmp 57) 56 rfl w.heap.size 85 i0 (.agg #[.string ⟨#[]⟩, .int .i64 0, .int .i64 0, .int .i64 0, .int .i64 0]) 5 48 Tryz.underlying56 hi hz0 hz1 hz2 rfl (by decide) (.slice (some ⟨gq, 0, none⟩) l.length cl) l.length (flatH l) rfl HOA.out (w7.heap.size + 1) (some ⟨w7.heap.size, 0, none⟩) 1 1 (rowH (sw.data.toList, (n0, n1, n2, n3))) rfl HCO.out (rowH_one _) (by unfold maxLen; omega) (by omega) hsz6 ?_); intro v8 w8 ho8 ht8 hv8; go_loud (have HF9 := Lib.hid ((HF7.out.mono (D' := fun k => k = rb ∨ Value.ownBlock (.slice (some ⟨gq, 0, none⟩) l.length cl) = some k) (fun _ e => .inl e)).trans ht8 (fun n _ e => .inr e)); have HS9 := Lib.hid (HS8.out.below (ht8.below hsz6 (fun k hk => (HO.out.lt k hk).1)) hrl0); obtain ⟨A8, c8, rfl, _, _, _⟩ := own_slice ho8; have HO9 := Lib.hid ho8; clear ho8 ht8 hv8))
            | fail)
          have HTC : Tch rb w _ := ⟨HF9.out.os.trans HT.out.os, HF9.out.tape.trans HT.out.tape, HF9.out.output.trans HT.out.output, Nat.le_trans HT.out.size HF9.out.size, fun q hq hn => (HF9.out.block q (Nat.lt_of_lt_of_le hq HT.out.size) (fun e => by rcases e with e | e; exact hn e; have := (HO.out.lt q e).1; omega)).trans (HT.out.block q hq hn)⟩
          have hfin : ((none : Rs) = none ∧ (rS (k + 1) x.1 (some r)).2 = none) ∨ ((none : Rs) ≠ none ∧ (none : Rs) = itE t0 ∧ rowOk x.1 sw (n0, n1, n2, n3)) := .inl ⟨rfl, HNO.out (fun h => HBAD.out h)⟩
          obtain ⟨hp1, hp2⟩ := HKEY.out none hfin
          exact ⟨⟨l.length + 1, k, none, l ++ [(sw.data.toList, (n0, n1, n2, n3))], sw.data.toList, by go_num, by omega, HS9.out, by rw [flatH_snoc, List.length_append]; exact HO9.out, by simp, HTC, hp1, hp2, by simp only [List.length_append, List.length_cons, List.length_nil]; omega⟩, by simp [intOf]; omega⟩

        · skip
          refine wp_region_held_drew (S := (fun W => Below x3.heap.size x3 W ∧ W.cell? ⟨hb, 0, none⟩ = some (.string sw) ∧ W.cell? ⟨hb, 1, none⟩ = some (.int .i64 n0) ∧ W.cell? ⟨hb, 2, none⟩ = some (.int .i64 n1) ∧ W.cell? ⟨hb, 3, none⟩ = some (.int .i64 n2) ∧ W.cell? ⟨hb, 4, none⟩ = some (.int .i64 n3) ∧ W.cell? ⟨gq, m.length * 5, none⟩ = some (.string sx))) (by kernel_rfl) ⟨(Below.refl _ _).drew, b0, b1, b2, b3, b4, zr⟩ (fun hHeld => ?_)
          refine wpAnyH_take (i := 0) (oi := ⟨some 28, _, _, _, _, _⟩) (v := ?v0f_1) rfl (by kernel_rfl) (by kernel_rfl) (by kernel_rfl) (fun _ _ _ h => h) (Or.inl ⟨by rfl, ?y0f_1⟩) (by assumption) ?r0f_1
          case y0f_1 => (intro w hSw; (try dsimp only at hSw); (try go_split_ands); go_simp); (try with_reducible rfl)
          case r0f_1 =>
          (try simp only [Act.put, List.setIfInBounds_toArray, List.set_cons_zero, List.set_cons_succ])
          refine wpAnyH_take (i := 1) (oi := ⟨some 29, _, _, _, _, _⟩) (v := ?v1f_4) rfl (by kernel_rfl) (by kernel_rfl) (by kernel_rfl) (fun _ _ _ h => h) (Or.inl ⟨by rfl, ?y1f_4⟩) (by assumption) ?r1f_4
          case y1f_4 => (intro w hSw; (try dsimp only at hSw); (try go_split_ands); go_simp); (try with_reducible rfl)
          case r1f_4 =>
          (try simp only [Act.put, List.setIfInBounds_toArray, List.set_cons_zero, List.set_cons_succ])
          refine wpAnyH_ready (rs := [2]) (by kernel_rfl) (by simp) ?_
          refine AllReadyH.cons (o := ⟨some 30, _, _, _, _, _⟩) rfl (fun K hK => ?_) AllReadyH.nil
          go_simp
          refine (refIsKey sw _).mono ?_
          rintro e w5 ⟨he, hb5⟩
          rw [HKB.out] at he
          subst he
          go_wp2_with fail
          have hbX := hHeld.1.trans (hb5.mono hHeld.1.size)
          refine hK.out _ _ ⟨hbX, bkeep hbX b0 (by omega), bkeep hbX b1 (by omega), bkeep hbX b2 (by omega), bkeep hbX b3 (by omega), bkeep hbX b4 (by omega), bkeep hbX zr (by omega)⟩ (fun hHeld => ?_)
          clear hK K
          (try simp only [Act.put, List.setIfInBounds_toArray, List.set_cons_zero, List.set_cons_succ])
          refine wpAnyH_take (i := 3) (oi := ⟨some 31, _, _, _, _, _⟩) (v := .bool false) rfl (by kernel_rfl) (by kernel_rfl) (by kernel_rfl) (fun _ _ _ h => h) (Or.inl ⟨by rfl, ?y3f_19⟩) (by assumption) ?r3f_19
          case y3f_19 => (intro w hSw; (try dsimp only at hSw); (try go_split_ands); (first | (go_simp; done) | (go_simp; exact HL0.out) | (go_simp; simp [*]; done) | (go_simp; omega)))
          case r3f_19 =>
          (try simp only [Act.put, List.setIfInBounds_toArray, List.set_cons_zero, List.set_cons_succ])
          refine wpAnyH_take (i := 4) (oi := ⟨some 32, _, _, _, _, _⟩) (v := .bool false) rfl (by kernel_rfl) (by kernel_rfl) (by kernel_rfl) (fun _ _ _ h => h) (Or.inl ⟨by rfl, ?y4f_22⟩) (by assumption) ?r4f_22
          case y4f_22 => (intro w hSw; (try dsimp only at hSw); (try go_split_ands); (first | (go_simp; done) | (go_simp; exact HL0.out) | (go_simp; simp [*]; done) | (go_simp; omega)))
          case r4f_22 =>
          (try simp only [Act.put, List.setIfInBounds_toArray, List.set_cons_zero, List.set_cons_succ])
          refine wpAnyH_take (i := 5) (oi := ⟨some 33, _, _, _, _, _⟩) (v := ?v5f_25) rfl (by kernel_rfl) (by kernel_rfl) (by kernel_rfl) (fun _ _ _ h => h) (Or.inl ⟨by rfl, ?y5f_25⟩) (by assumption) ?r5f_25
          case y5f_25 => (intro w hSw; (try dsimp only at hSw); (try go_split_ands); go_simp); (try with_reducible rfl)
          case r5f_25 =>
          (try simp only [Act.put, List.setIfInBounds_toArray, List.set_cons_zero, List.set_cons_succ])
          refine wpAnyH_take (i := 6) (oi := ⟨some 34, _, _, _, _, _⟩) (v := ?v6f_28) rfl (by kernel_rfl) (by kernel_rfl) (by kernel_rfl) (fun _ _ _ h => h) (Or.inl ⟨by rfl, ?y6f_28⟩) (by assumption) ?r6f_28
          case y6f_28 => (intro w hSw; (try dsimp only at hSw); (try go_split_ands); go_simp); (try with_reducible rfl)
          case r6f_28 =>
          (try simp only [Act.put, List.setIfInBounds_toArray, List.set_cons_zero, List.set_cons_succ])
          refine wpAnyH_take (i := 7) (oi := ⟨some 35, _, _, _, _, _⟩) (v := ?v7f_31) rfl (by kernel_rfl) (by kernel_rfl) (by kernel_rfl) (fun _ _ _ h => h) (Or.inl ⟨by rfl, ?y7f_31⟩) (by assumption) ?r7f_31
          case y7f_31 => (intro w hSw; (try dsimp only at hSw); (try go_split_ands); go_simp); (try with_reducible rfl)
          case r7f_31 =>
          (try simp only [Act.put, List.setIfInBounds_toArray, List.set_cons_zero, List.set_cons_succ])
          refine wpAnyH_take (i := 8) (oi := ⟨some 36, _, _, _, _, _⟩) (v := .bool false) rfl (by kernel_rfl) (by kernel_rfl) (by kernel_rfl) (fun _ _ _ h => h) (Or.inl ⟨by rfl, ?y8f_34⟩) (by assumption) ?r8f_34
          case y8f_34 => (intro w hSw; (try dsimp only at hSw); (try go_split_ands); (first | (go_simp; done) | (go_simp; exact HL0.out) | (go_simp; simp [*]; done) | (go_simp; omega)))
          case r8f_34 =>
          (try simp only [Act.put, List.setIfInBounds_toArray, List.set_cons_zero, List.set_cons_succ])
          refine wpAnyH_take (i := 9) (oi := ⟨some 37, _, _, _, _, _⟩) (v := .bool false) rfl (by kernel_rfl) (by kernel_rfl) (by kernel_rfl) (fun _ _ _ h => h) (Or.inl ⟨by rfl, ?y9f_37⟩) (by assumption) ?r9f_37
          case y9f_37 => (intro w hSw; (try dsimp only at hSw); (try go_split_ands); (first | (go_simp; done) | (go_simp; exact HL0.out) | (go_simp; simp [*]; done) | (go_simp; omega)))
          case r9f_37 =>
          (try simp only [Act.put, List.setIfInBounds_toArray, List.set_cons_zero, List.set_cons_succ])
          refine wpAnyH_take (i := 10) (oi := ⟨some 38, _, _, _, _, _⟩) (v := .bool false) rfl (by kernel_rfl) (by kernel_rfl) (by kernel_rfl) (fun _ _ _ h => h) (Or.inl ⟨by rfl, ?y10f_40⟩) (by assumption) ?r10f_40
          case y10f_40 => (intro w hSw; (try dsimp only at hSw); (try go_split_ands); (first | (go_simp; done) | (go_simp; exact HL0.out) | (go_simp; simp [*]; done) | (go_simp; omega)))
          case r10f_40 =>
          (try simp only [Act.put, List.setIfInBounds_toArray, List.set_cons_zero, List.set_cons_succ])
          refine wpAnyH_take (i := 11) (oi := ⟨some 39, _, _, _, _, _⟩) (v := ?v11f_43) rfl (by kernel_rfl) (by kernel_rfl) (by kernel_rfl) (fun _ _ _ h => h) (Or.inl ⟨by rfl, ?y11f_43⟩) (by assumption) ?r11f_43
          case y11f_43 => (intro w hSw; (try dsimp only at hSw); (try go_split_ands); go_simp); (try with_reducible rfl)
          case r11f_43 =>
          (try simp only [Act.put, List.setIfInBounds_toArray, List.set_cons_zero, List.set_cons_succ])
          refine wpAnyH_take (i := 12) (oi := ⟨some 40, _, _, _, _, _⟩) (v := .bool true) rfl (by kernel_rfl) (by kernel_rfl) (by kernel_rfl) (fun _ _ _ h => h) (Or.inl ⟨by rfl, ?y12f_46⟩) (by assumption) ?r12f_46
          case y12f_46 => (intro w hSw; (try dsimp only at hSw); (try go_split_ands); (first | (go_simp; done) | (go_simp; exact HL0.out) | (go_simp; simp [*]; done) | (go_simp; omega)))
          case r12f_46 =>
          (try simp only [Act.put, List.setIfInBounds_toArray, List.set_cons_zero, List.set_cons_succ])
          refine wpAnyH_take (i := 13) (oi := ⟨some 41, _, _, _, _, _⟩) (v := .bool true) rfl (by kernel_rfl) (by kernel_rfl) (by kernel_rfl) (fun _ _ _ h => h) (Or.inl ⟨by rfl, ?y13f_49⟩) (by assumption) ?r13f_49
          case y13f_49 => (intro w hSw; (try dsimp only at hSw); (try go_split_ands); (first | (go_simp; done) | (go_simp; exact HL0.out) | (go_simp; simp [*]; done) | (go_simp; omega)))
          case r13f_49 =>
          (try simp only [Act.put, List.setIfInBounds_toArray, List.set_cons_zero, List.set_cons_succ])
          refine wpAnyH_take (i := 14) (oi := ⟨some 42, _, _, _, _, _⟩) (v := ?v14f_52) rfl (by kernel_rfl) (by kernel_rfl) (by kernel_rfl) (fun _ _ _ h => h) (Or.inl ⟨by rfl, ?y14f_52⟩) (by assumption) ?r14f_52
          case y14f_52 => (intro w hSw; (try dsimp only at hSw); (try go_split_ands); go_simp); (try with_reducible rfl)
          case r14f_52 =>
          (try simp only [Act.put, List.setIfInBounds_toArray, List.set_cons_zero, List.set_cons_succ])
          refine wpAnyH_take (i := 15) (oi := ⟨some 43, _, _, _, _, _⟩) (v := ?v15f_55) rfl (by kernel_rfl) (by kernel_rfl) (by kernel_rfl) (fun _ _ _ h => h) (Or.inl ⟨by rfl, ?y15f_55⟩) (by assumption) ?r15f_55
          case y15f_55 => (intro w hSw; (try dsimp only at hSw); (try go_split_ands); go_simp); (try with_reducible rfl)
          case r15f_55 =>
          (try simp only [Act.put, List.setIfInBounds_toArray, List.set_cons_zero, List.set_cons_succ])
          refine wpAnyH_take (i := 16) (oi := ⟨some 44, _, _, _, _, _⟩) (v := ?v16f_58) rfl (by kernel_rfl) (by kernel_rfl) (by kernel_rfl) (fun _ _ _ h => h) (Or.inl ⟨by rfl, ?y16f_58⟩) (by assumption) ?r16f_58
          case y16f_58 => (intro w hSw; (try dsimp only at hSw); (try go_split_ands); go_simp); (try with_reducible rfl)
          case r16f_58 =>
          (try simp only [Act.put, List.setIfInBounds_toArray, List.set_cons_zero, List.set_cons_succ])
          refine wpAnyH_take (i := 17) (oi := ⟨some 45, _, _, _, _, _⟩) (v := ?v17f_61) rfl (by kernel_rfl) (by kernel_rfl) (by kernel_rfl) (fun _ _ _ h => h) (Or.inl ⟨by rfl, ?y17f_61⟩) (by assumption) ?r17f_61
          case y17f_61 => (intro w hSw; (try dsimp only at hSw); (try go_split_ands); go_simp); (try with_reducible rfl)
          case r17f_61 =>
          (try simp only [Act.put, List.setIfInBounds_toArray, List.set_cons_zero, List.set_cons_succ])
          refine wpAnyH_take (i := 18) (oi := ⟨some 46, _, _, _, _, _⟩) (v := ?v18f_64) rfl (by kernel_rfl) (by kernel_rfl) (by kernel_rfl) (fun _ _ _ h => h) (Or.inl ⟨by rfl, ?y18f_64⟩) (by assumption) ?r18f_64
          case y18f_64 => (intro w hSw; (try dsimp only at hSw); (try go_split_ands); go_simp); (try with_reducible rfl)
          case r18f_64 =>
          (try simp only [Act.put, List.setIfInBounds_toArray, List.set_cons_zero, List.set_cons_succ])
          refine wpAnyH_take (i := 19) (oi := ⟨some 47, _, _, _, _, _⟩) (v := ?v19f_67) rfl (by kernel_rfl) (by kernel_rfl) (by kernel_rfl) (fun _ _ _ h => h) (Or.inl ⟨by rfl, ?y19f_67⟩) (by assumption) ?r19f_67
          case y19f_67 => (intro w hSw; (try dsimp only at hSw); (try go_split_ands); go_simp); (try with_reducible rfl)
          case r19f_67 =>
          (try simp only [Act.put, List.setIfInBounds_toArray, List.set_cons_zero, List.set_cons_succ])
          refine wpAnyH_take (i := 20) (oi := ⟨some 48, _, _, _, _, _⟩) (v := ?v20f_70) rfl (by kernel_rfl) (by kernel_rfl) (by kernel_rfl) (fun _ _ _ h => h) (Or.inl ⟨by rfl, ?y20f_70⟩) (by assumption) ?r20f_70
          case y20f_70 => (intro w hSw; (try dsimp only at hSw); (try go_split_ands); go_simp); (try with_reducible rfl)
          case r20f_70 =>
          (try simp only [Act.put, List.setIfInBounds_toArray, List.set_cons_zero, List.set_cons_succ])
          refine wpAnyH_take (i := 21) (oi := ⟨some 49, _, _, _, _, _⟩) (v := ?v21f_73) rfl (by kernel_rfl) (by kernel_rfl) (by kernel_rfl) (fun _ _ _ h => h) (Or.inl ⟨by rfl, ?y21f_73⟩) (by assumption) ?r21f_73
          case y21f_73 => (intro w hSw; (try dsimp only at hSw); (try go_split_ands); go_simp); (try with_reducible rfl)
          case r21f_73 =>
          (try simp only [Act.put, List.setIfInBounds_toArray, List.set_cons_zero, List.set_cons_succ])
          refine wpAnyH_take (i := 22) (oi := ⟨some 50, _, _, _, _, _⟩) (v := .bool true) rfl (by kernel_rfl) (by kernel_rfl) (by kernel_rfl) (fun _ _ _ h => h) (Or.inl ⟨by rfl, ?y22f_76⟩) (by assumption) ?r22f_76
          case y22f_76 => (intro w hSw; (try dsimp only at hSw); (try go_split_ands); (first | (go_simp; done) | (go_simp; exact HL0.out) | (go_simp; simp [*]; done) | (go_simp; omega)))
          case r22f_76 =>
          (try simp only [Act.put, List.setIfInBounds_toArray, List.set_cons_zero, List.set_cons_succ])
          refine wpAnyH_take (i := 23) (oi := ⟨some 51, _, _, _, _, _⟩) (v := .bool true) rfl (by kernel_rfl) (by kernel_rfl) (by kernel_rfl) (fun _ _ _ h => h) (Or.inl ⟨by rfl, ?y23f_79⟩) (by assumption) ?r23f_79
          case y23f_79 => (intro w hSw; (try dsimp only at hSw); (try go_split_ands); (first | (go_simp; done) | (go_simp; exact HL0.out) | (go_simp; simp [*]; done) | (go_simp; omega)))
          case r23f_79 =>
          (try simp only [Act.put, List.setIfInBounds_toArray, List.set_cons_zero, List.set_cons_succ])
          refine wpAnyH_take (i := 24) (oi := ⟨some 52, _, _, _, _, _⟩) (v := .bool true) rfl (by kernel_rfl) (by kernel_rfl) (by kernel_rfl) (fun _ _ _ h => h) (Or.inl ⟨by rfl, ?y24f_82⟩) (by assumption) ?r24f_82
          case y24f_82 => (intro w hSw; (try dsimp only at hSw); (try go_split_ands); (first | (go_simp; done) | (go_simp; exact HL0.out) | (go_simp; simp [*]; done) | (go_simp; omega)))
          case r24f_82 =>
          (try simp only [Act.put, List.setIfInBounds_toArray, List.set_cons_zero, List.set_cons_succ])
          refine wpAnyH_done (by kernel_rfl) ?_ _
          have hbE := hHeld.1
          have X6 := HX3.out.below hbE HX3.out.low
          have F6 := HF3.out.trans (Touch.of_below hbE) (D := fun k => k = rb) (fun n hn e => by have := HF3.out.size; have e2 : x3.heap.size ≤ n := e; omega)
          have HS6 := Lib.hid (HS3.out.fresh hbE)
          clear hHeld b0 b1 b2 b3 b4
          go_wp2_with fail
          refine (rfBadST rb t1 _ HS6.out).mono ?_
          rintro e w7 ⟨rfl, hrs7, ht7⟩
          have X7 := X6.tch ht7 (by omega)
          have F7 := F6.trans ht7.touch (D := fun k => k = rb) (fun n _ e => e)
          have HS7 := Lib.hid hrs7
          clear hrs7 ht7
          have g0 := X7.cell 0
          have g1 := X7.cell 1
          have g2 := X7.cell 2
          have g3 := X7.cell 3
          have g4 := X7.cell 4
          simp only [List.getElem?_toArray, List.getElem?_cons_succ, List.getElem?_cons_zero] at g0 g1 g2 g3 g4
          have HOA := Lib.hid ((F7.alloc (.cells #[.string sw, .int .i64 n0, .int .i64 n1, .int .i64 n2, .int .i64 n3] 85)).own HO.out (fun g hg e => by have := (HO.out.lt g hg).1; have e2 : g = rb := e; omega))
          have HCO := Lib.hid (hd_cells w7 sw n0 n1 n2 n3)
          have hsz7 : wr.heap.size ≤ w7.heap.size := F7.size
          have hsz6 : w.heap.size ≤ (w7.alloc (.cells #[.string sw, .int .i64 n0, .int .i64 n1, .int .i64 n2, .int .i64 n3] 85)).heap.size := Nat.le_trans hsz (Nat.le_trans hsz7 (by simp))
          have HF7 := Lib.hid (F7.alloc (.cells #[.string sw, .int .i64 n0, .int .i64 n1, .int .i64 n2, .int .i64 n3] 85))
          have HS8 := Lib.hid (HS7.out.alloc (.cells #[.string sw, .int .i64 n0, .int .i64 n1, .int .i64 n2, .int .i64 n3] 85))
          clear X7 F7 X6 F6 hsz7
          go_wp2_with (first
            | (at_builtin; go_must (refine wpList_append_touch rfl (.tmp 55) (.tmp 57) 56 rfl w.heap.size 85 i0 (.agg #[.string ⟨#[]⟩, .int .i64 0, .int .i64 0, .int .i64 0, .int .i64 0]) 5 48 Tryz.underlying56 hi hz0 hz1 hz2 rfl (by decide) (.slice (some ⟨gq, 0, none⟩) l.length cl) l.length (flatH l) rfl HOA.out (w7.heap.size + 1) (some ⟨w7.heap.size, 0, none⟩) 1 1 (rowH (sw.data.toList, (n0, n1, n2, n3))) rfl HCO.out (rowH_one _) (by unfold maxLen; omega) (by omega) hsz6 ?_); intro v8 w8 ho8 ht8 hv8; go_loud (have HF9 := Lib.hid ((HF7.out.mono (D' := fun k => k = rb ∨ Value.ownBlock (.slice (some ⟨gq, 0, none⟩) l.length cl) = some k) (fun _ e => .inl e)).trans ht8 (fun n _ e => .inr e)); have HS9 := Lib.hid (HS8.out.below (ht8.below hsz6 (fun k hk => (HO.out.lt k hk).1)) hrl0); obtain ⟨A8, c8, rfl, _, _, _⟩ := own_slice ho8; have HO9 := Lib.hid ho8; clear ho8 ht8 hv8))
            | fail)
          have HTC : Tch rb w _ := ⟨HF9.out.os.trans HT.out.os, HF9.out.tape.trans HT.out.tape, HF9.out.output.trans HT.out.output, Nat.le_trans HT.out.size HF9.out.size, fun q hq hn => (HF9.out.block q (Nat.lt_of_lt_of_le hq HT.out.size) (fun e => by rcases e with e | e; exact hn e; have := (HO.out.lt q e).1; omega)).trans (HT.out.block q hq hn)⟩
          have hfin : ((none : Rs) = none ∧ (rS (k + 1) x.1 (some r)).2 = none) ∨ ((none : Rs) ≠ none ∧ (none : Rs) = itE t0 ∧ rowOk x.1 sw (n0, n1, n2, n3)) := .inl ⟨rfl, HNO.out (fun h => HBAD.out h)⟩
          obtain ⟨hp1, hp2⟩ := HKEY.out none hfin
          exact ⟨⟨l.length + 1, k, none, l ++ [(sw.data.toList, (n0, n1, n2, n3))], sw.data.toList, by go_num, by omega, HS9.out, by rw [flatH_snoc, List.length_append]; exact HO9.out, by simp, HTC, hp1, hp2, by simp only [List.length_append, List.length_cons, List.length_nil]; omega⟩, by simp [intOf]; omega⟩
end Go.Proofs.YtdlbiobjnohfbaaGreat
