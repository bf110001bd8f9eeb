/- container/heap on a side: down. -/
import Derived.ProofKit
import Derived.Test.YtdlbiobjnohfbaaProg
import Derived.WalkKit
import Derived.WalkSpells
import Derived.WalkLawsBesides
import Derived.Deep.QuietTactic
import Derived.BigQuiet
import Derived.RegionTactic
import Derived.BigRegion
import Derived.Outline
import Derived.LoopTactic
import Derived.Lib.Hide
import Derived.Deep.RegionHeld3
import Derived.Laws.AppendOwnNone
import Derived.Deep.AppendLies
import Derived.Maps.AppendAt
import Derived.Laws.Rows
import Derived.Laws.OwnMore
import Derived.Deep.RegionLaw
import Derived.Deep.Onto
import Derived.Test.YtdlbiobjnohfbaaVi0
import Derived.Test.YtdlbiobjnohfbaaVi1
import Derived.Test.YtdlbiobjnohfbaaVi2
import Derived.Test.YtdlbiobjnohfbaaVi3
import Derived.Test.YtdlbiobjnohfbaaVi4
import Derived.Test.YtdlbiobjnohfbaaVi5
import Derived.Test.YtdlbiobjnohfbaaVi6
import Derived.Test.YtdlbiobjnohfbaaVi7
namespace Go.Proofs.Ytdlbiobjnohfbaa
open Go.RowKit
set_option linter.unusedVariables false
set_option linter.unusedSimpArgs false
set_option maxHeartbeats 2000000 in
set_option maxRecDepth 10000 in
theorem heapDown (b k : Nat) (t : TypeId) (cs : Array Value) (bb bz : Bool) (l : List Od) (v : Value) (i0 n : Nat) (w : World) (h : Sd w b k t cs l v) (hq : SideQ bb l) (hd : DownI (kf l) n i0 bz) (hn : n ≤ l.length) (hi : i0 < l.length) (hlen : l.length ≤ 1000) :
    Calls Try.prog 48 #[.iface 88 (.pointer (some ⟨b, k, none⟩)), .int .i64 i0, .int .i64 n] w fun e w' => ∃ (mv : Bool) (l' : List Od), e = .returned (.bool mv) ∧ l'.Perm l ∧ (∀ k, n ≤ k → l'[k]? = l[k]?) ∧ (mv = false → UpI (kf l') n i0) ∧ (mv = true ∨ bz = true → HeapF (kf l') n) ∧ Sd w' b k t cs l' v ∧ Touch (fun x => v.ownBlock = some x) w w' := by
  go_enter Try.func48, Try.ntmps48
  go_wp2_with fail
  go_loopw [7, 8, 9, 10] (fun iv _ _ _ wr => ∃ (m : Nat) (l1 : List Od), m < l.length ∧ i0 ≤ m ∧ iv = .int .i64 m ∧ l1.Perm l ∧ DownI (kf l1) n m (bz || decide (i0 < m)) ∧ (∀ k, n ≤ k → l1[k]? = l[k]?) ∧ Sd wr b k t cs l1 v ∧ Touch (fun x => v.ownBlock = some x) w wr) (fun iv _ _ _ _ => l.length - (intOf iv).toNat)
  case atStart => exact ⟨i0, l, hi, Nat.le_refl _, rfl, List.Perm.refl _, by simpa using hd, fun _ _ => rfl, h, Touch.refl _ _⟩
  case round =>
    obtain ⟨m, l1, hm, him, rfl, hp, hD, hF, hS, hT⟩ := hrel
    have hl1 : l1.length = l.length := hp.length_eq
    have hms := hS.meth
    have HQ := Lib.hid (hq.perm hp)
    have HS := Lib.hid hS
    have HT := Lib.hid hT
    have HD := Lib.hid hD
    have HP := Lib.hid hp
    have HF := Lib.hid hF
    clear hS hT hD hp hF hq h hd
    by_cases hA : n ≤ 2 * m + 1
    · have q1 : (n : Int) ≤ 2 * (m : Int) + 1 := by omega
      go_wp2_with fail
      go_ret
      have hst := HD.out.stop (fun k h0 hk he => by omega)
      refine ⟨decide (i0 < m), l1, ret_bool (by simp), HP.out, HF.out, ?_, ?_, HS.out, HT.out⟩
      · intro hmv
        have : i0 = m := by simp at hmv; omega
        rw [this]; exact hst.1
      · intro hmv
        exact hst.2 (by rcases hmv with hmv | hmv <;> simp_all)
    · have q1 : ¬ (n : Int) ≤ 2 * (m : Int) + 1 := by omega
      have q0 : ¬ 2 * (m : Int) + 1 < 0 := by omega
      obtain ⟨j1, hj1⟩ : ∃ j, j = 2 * m + 1 := ⟨_, rfl⟩
      obtain ⟨j2, hj2⟩ : ∃ j, j = 2 * m + 2 := ⟨_, rfl⟩
      have e1 : 2 * (m : Int) + 1 = (j1 : Int) := by omega
      have e2 : (j1 : Int) + 1 = (j2 : Int) := by omega
      have f1 : 2 * m < j1 := by omega
      have f2 : j1 < 2 * m + 2 := by omega
      have f3 : 2 * m + 1 < j2 := by omega
      have f4 : j2 < 2 * m + 3 := by omega
      rw [e1] at q1 q0
      clear hj1 hj2
      by_cases hB : j2 < n
      · have q2 : (j2 : Int) < (n : Int) := by omega
        by_cases hC : kf l1 j2 < kf l1 j1
        · have HC := Lib.hid hC
          have HV : Hid (lessO (l1[j2]'(by omega)) (l1[j1]'(by omega)) = true) := Lib.hid (by rw [less_kf HQ.out (by omega) (by omega)]; exact decide_eq_true hC)
          clear hC
          by_cases hlt : kf l1 j2 < kf l1 m
          · have HLT := Lib.hid hlt
            have HLE : Hid (lessO (l1[j2]'(by omega)) (l1[m]'(by omega)) = true) := Lib.hid (by rw [less_kf HQ.out (by omega) (by omega)]; exact decide_eq_true hlt)
            have hsl := sideSwap 0 l1 v l1.length m j2 rfl (by omega) (by omega)
            clear hlt
            go_wp2_with (first
              | (go_at_call 104; have hgg := HS1; clear hgg; refine (sideLess 0 l1 v l1.length j2 m rfl (by omega) (by omega) _ HS1.out.own).mono ?_; rintro e w2 ⟨he, hb2⟩; rw [HLE.out] at he; subst he; have hs2 := hb2.size; have HS2 := Lib.hid (HS1.out.below hb2); have hm2 := HS2.out.meth; have HT2 := Lib.hid (HT1.out.trans (Touch.of_below hb2) (fun x hx hg => absurd hg (by have := HT1.out.size; omega))); clear hb2)
              | (go_at_call 104; have hgg := HS; clear hgg; refine (sideLess 0 l1 v l1.length j2 j1 rfl (by omega) (by omega) _ HS.out.own).mono ?_; rintro e w1 ⟨he, hb1⟩; rw [HV.out] at he; subst he; have hs1 := hb1.size; have HS1 := Lib.hid (HS.out.below hb1); have hm1 := HS1.out.meth; have HT1 := Lib.hid (HT.out.trans (Touch.of_below hb1) (fun x hx hg => absurd hg (by have := HT.out.size; omega))); clear hb1)
              | (go_at_call 105; refine (hsl _ HS2.out.own).mono ?_; rintro e w3 ⟨rfl, ho3, ht3⟩; have HT3 := Lib.hid (HT2.out.trans ht3 (fun _ _ hg => hg)); have HS3 := Lib.hid (HS2.out.row ht3 (l' := swapL l1 m j2) (by rw [swapL_len]; exact ho3)); clear ho3 ht3)
              | fail)
            refine ⟨⟨j2, swapL l1 m j2, by omega, by omega, by go_num, (swapL_perm (by omega) (by omega)).trans HP.out, ?_, ?_, HS3.out, HT3.out⟩, by simp [intOf]; omega⟩
            · rw [swapL_kf (by omega) (by omega), show (bz || decide (i0 < j2)) = true by simp; omega]
              exact HD.out.step (by omega) (by omega) (by omega) HLT.out (fun k h0 hk he => (by have h1 := HC.out; rcases (show k = j1 ∨ k = j2 by omega) with rfl | rfl <;> omega))
            · intro k hk
              rw [swapL_far (by omega) (by omega)]
              exact HF.out k hk
          · have HLT := Lib.hid hlt
            have HLE : Hid (lessO (l1[j2]'(by omega)) (l1[m]'(by omega)) = false) := Lib.hid (by rw [less_kf HQ.out (by omega) (by omega)]; exact decide_eq_false hlt)
            clear hlt
            go_wp2_with (first
              | (go_at_call 104; have hgg := HS1; clear hgg; refine (sideLess 0 l1 v l1.length j2 m rfl (by omega) (by omega) _ HS1.out.own).mono ?_; rintro e w2 ⟨he, hb2⟩; rw [HLE.out] at he; subst he; have hs2 := hb2.size; have HS2 := Lib.hid (HS1.out.below hb2); have hm2 := HS2.out.meth; have HT2 := Lib.hid (HT1.out.trans (Touch.of_below hb2) (fun x hx hg => absurd hg (by have := HT1.out.size; omega))); clear hb2)
              | (go_at_call 104; have hgg := HS; clear hgg; refine (sideLess 0 l1 v l1.length j2 j1 rfl (by omega) (by omega) _ HS.out.own).mono ?_; rintro e w1 ⟨he, hb1⟩; rw [HV.out] at he; subst he; have hs1 := hb1.size; have HS1 := Lib.hid (HS.out.below hb1); have hm1 := HS1.out.meth; have HT1 := Lib.hid (HT.out.trans (Touch.of_below hb1) (fun x hx hg => absurd hg (by have := HT.out.size; omega))); clear hb1)
              | fail)
            go_ret
            have hst := HD.out.stop (fun k h0 hk he => by have h1 := HLT.out; have h2 : kf l1 j2 ≤ kf l1 k := (by have h1 := HC.out; rcases (show k = j1 ∨ k = j2 by omega) with rfl | rfl <;> omega); omega)
            refine ⟨decide (i0 < m), l1, ret_bool (by simp), HP.out, HF.out, ?_, ?_, HS2.out, HT2.out⟩
            · intro hmv
              have : i0 = m := by simp at hmv; omega
              rw [this]; exact hst.1
            · intro hmv
              exact hst.2 (by rcases hmv with hmv | hmv <;> simp_all)
        · have HC := Lib.hid hC
          have HV : Hid (lessO (l1[j2]'(by omega)) (l1[j1]'(by omega)) = false) := Lib.hid (by rw [less_kf HQ.out (by omega) (by omega)]; exact decide_eq_false hC)
          clear hC
          by_cases hlt : kf l1 j1 < kf l1 m
          · have HLT := Lib.hid hlt
            have HLE : Hid (lessO (l1[j1]'(by omega)) (l1[m]'(by omega)) = true) := Lib.hid (by rw [less_kf HQ.out (by omega) (by omega)]; exact decide_eq_true hlt)
            have hsl := sideSwap 0 l1 v l1.length m j1 rfl (by omega) (by omega)
            clear hlt
            go_wp2_with (first
              | (go_at_call 104; have hgg := HS1; clear hgg; refine (sideLess 0 l1 v l1.length j1 m rfl (by omega) (by omega) _ HS1.out.own).mono ?_; rintro e w2 ⟨he, hb2⟩; rw [HLE.out] at he; subst he; have hs2 := hb2.size; have HS2 := Lib.hid (HS1.out.below hb2); have hm2 := HS2.out.meth; have HT2 := Lib.hid (HT1.out.trans (Touch.of_below hb2) (fun x hx hg => absurd hg (by have := HT1.out.size; omega))); clear hb2)
              | (go_at_call 104; have hgg := HS; clear hgg; refine (sideLess 0 l1 v l1.length j2 j1 rfl (by omega) (by omega) _ HS.out.own).mono ?_; rintro e w1 ⟨he, hb1⟩; rw [HV.out] at he; subst he; have hs1 := hb1.size; have HS1 := Lib.hid (HS.out.below hb1); have hm1 := HS1.out.meth; have HT1 := Lib.hid (HT.out.trans (Touch.of_below hb1) (fun x hx hg => absurd hg (by have := HT.out.size; omega))); clear hb1)
              | (go_at_call 105; refine (hsl _ HS2.out.own).mono ?_; rintro e w3 ⟨rfl, ho3, ht3⟩; have HT3 := Lib.hid (HT2.out.trans ht3 (fun _ _ hg => hg)); have HS3 := Lib.hid (HS2.out.row ht3 (l' := swapL l1 m j1) (by rw [swapL_len]; exact ho3)); clear ho3 ht3)
              | fail)
            refine ⟨⟨j1, swapL l1 m j1, by omega, by omega, by go_num, (swapL_perm (by omega) (by omega)).trans HP.out, ?_, ?_, HS3.out, HT3.out⟩, by simp [intOf]; omega⟩
            · rw [swapL_kf (by omega) (by omega), show (bz || decide (i0 < j1)) = true by simp; omega]
              exact HD.out.step (by omega) (by omega) (by omega) HLT.out (fun k h0 hk he => (by have h1 := HC.out; rcases (show k = j1 ∨ k = j2 by omega) with rfl | rfl <;> omega))
            · intro k hk
              rw [swapL_far (by omega) (by omega)]
              exact HF.out k hk
          · have HLT := Lib.hid hlt
            have HLE : Hid (lessO (l1[j1]'(by omega)) (l1[m]'(by omega)) = false) := Lib.hid (by rw [less_kf HQ.out (by omega) (by omega)]; exact decide_eq_false hlt)
            clear hlt
            go_wp2_with (first
              | (go_at_call 104; have hgg := HS1; clear hgg; refine (sideLess 0 l1 v l1.length j1 m rfl (by omega) (by omega) _ HS1.out.own).mono ?_; rintro e w2 ⟨he, hb2⟩; rw [HLE.out] at he; subst he; have hs2 := hb2.size; have HS2 := Lib.hid (HS1.out.below hb2); have hm2 := HS2.out.meth; have HT2 := Lib.hid (HT1.out.trans (Touch.of_below hb2) (fun x hx hg => absurd hg (by have := HT1.out.size; omega))); clear hb2)
              | (go_at_call 104; have hgg := HS; clear hgg; refine (sideLess 0 l1 v l1.length j2 j1 rfl (by omega) (by omega) _ HS.out.own).mono ?_; rintro e w1 ⟨he, hb1⟩; rw [HV.out] at he; subst he; have hs1 := hb1.size; have HS1 := Lib.hid (HS.out.below hb1); have hm1 := HS1.out.meth; have HT1 := Lib.hid (HT.out.trans (Touch.of_below hb1) (fun x hx hg => absurd hg (by have := HT.out.size; omega))); clear hb1)
              | fail)
            go_ret
            have hst := HD.out.stop (fun k h0 hk he => by have h1 := HLT.out; have h2 : kf l1 j1 ≤ kf l1 k := (by have h1 := HC.out; rcases (show k = j1 ∨ k = j2 by omega) with rfl | rfl <;> omega); omega)
            refine ⟨decide (i0 < m), l1, ret_bool (by simp), HP.out, HF.out, ?_, ?_, HS2.out, HT2.out⟩
            · intro hmv
              have : i0 = m := by simp at hmv; omega
              rw [this]; exact hst.1
            · intro hmv
              exact hst.2 (by rcases hmv with hmv | hmv <;> simp_all)
      · have q2 : ¬ (j2 : Int) < (n : Int) := by omega
        by_cases hlt : kf l1 j1 < kf l1 m
        · have HLT := Lib.hid hlt
          have HLE : Hid (lessO (l1[j1]'(by omega)) (l1[m]'(by omega)) = true) := Lib.hid (by rw [less_kf HQ.out (by omega) (by omega)]; exact decide_eq_true hlt)
          have hsl := sideSwap 0 l1 v l1.length m j1 rfl (by omega) (by omega)
          clear hlt
          go_wp2_with (first
            | (go_at_call 104; have hgg := HS; clear hgg; refine (sideLess 0 l1 v l1.length j1 m rfl (by omega) (by omega) _ HS.out.own).mono ?_; rintro e w2 ⟨he, hb2⟩; rw [HLE.out] at he; subst he; have hs2 := hb2.size; have HS2 := Lib.hid (HS.out.below hb2); have hm2 := HS2.out.meth; have HT2 := Lib.hid (HT.out.trans (Touch.of_below hb2) (fun x hx hg => absurd hg (by have := HT.out.size; omega))); clear hb2)
            | (go_at_call 105; refine (hsl _ HS2.out.own).mono ?_; rintro e w3 ⟨rfl, ho3, ht3⟩; have HT3 := Lib.hid (HT2.out.trans ht3 (fun _ _ hg => hg)); have HS3 := Lib.hid (HS2.out.row ht3 (l' := swapL l1 m j1) (by rw [swapL_len]; exact ho3)); clear ho3 ht3)
            | fail)
          refine ⟨⟨j1, swapL l1 m j1, by omega, by omega, by go_num, (swapL_perm (by omega) (by omega)).trans HP.out, ?_, ?_, HS3.out, HT3.out⟩, by simp [intOf]; omega⟩
          · rw [swapL_kf (by omega) (by omega), show (bz || decide (i0 < j1)) = true by simp; omega]
            exact HD.out.step (by omega) (by omega) (by omega) HLT.out (fun k h0 hk he => (by have h1 : k = j1 := (by omega); rw [h1]; exact Int.le_refl _))
          · intro k hk
            rw [swapL_far (by omega) (by omega)]
            exact HF.out k hk
        · have HLT := Lib.hid hlt
          have HLE : Hid (lessO (l1[j1]'(by omega)) (l1[m]'(by omega)) = false) := Lib.hid (by rw [less_kf HQ.out (by omega) (by omega)]; exact decide_eq_false hlt)
          clear hlt
          go_wp2_with (first
            | (go_at_call 104; have hgg := HS; clear hgg; refine (sideLess 0 l1 v l1.length j1 m rfl (by omega) (by omega) _ HS.out.own).mono ?_; rintro e w2 ⟨he, hb2⟩; rw [HLE.out] at he; subst he; have hs2 := hb2.size; have HS2 := Lib.hid (HS.out.below hb2); have hm2 := HS2.out.meth; have HT2 := Lib.hid (HT.out.trans (Touch.of_below hb2) (fun x hx hg => absurd hg (by have := HT.out.size; omega))); clear hb2)
            | fail)
          go_ret
          have hst := HD.out.stop (fun k h0 hk he => by have h1 := HLT.out; have h2 : kf l1 j1 ≤ kf l1 k := (by have h1 : k = j1 := (by omega); rw [h1]; exact Int.le_refl _); omega)
          refine ⟨decide (i0 < m), l1, ret_bool (by simp), HP.out, HF.out, ?_, ?_, HS2.out, HT2.out⟩
          · intro hmv
            have : i0 = m := by simp at hmv; omega
            rw [this]; exact hst.1
          · intro hmv
            exact hst.2 (by rcases hmv with hmv | hmv <;> simp_all)
end Go.Proofs.Ytdlbiobjnohfbaa
