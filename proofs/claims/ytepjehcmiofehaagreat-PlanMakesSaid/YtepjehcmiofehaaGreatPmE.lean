/- the document's plan: load, ends. -/
import Derived.Test.YtepjehcmiofehaaGreatPmC
namespace Go.Proofs.YtepjehcmiofehaaGreat
open Go.RowKit
set_option linter.unusedVariables false
set_option linter.unusedSimpArgs false

theorem Lk.hits {m : Mp} {l : List Lr} {nm : List Bool} {ps : List Pz} (h : Lk m l nm ps) : HitsOk ps := fun p hp => by
  obtain ⟨i, hi, rfl⟩ := List.getElem_of_mem hp
  have hi2 : i < m.zs.length := by rw [← h.ln]; exact hi
  rw [(h.z i hi hi2).2.1]
  exact hm_hits _ _
theorem hitsAt_get {ps : List Pz} {i : Nat} (h : i < ps.length) : hitsAt ps i = ps[i].hits := by simp [hitsAt, h]
set_option maxHeartbeats 4000000 in
set_option maxRecDepth 10000 in
theorem rsLoad (B x : Nat) (c : Rc) (nv ov tv : Value) (nm : List Bool) (ps : List Pz) (cs : List Ch) (mv hst : Int) (w : World) (h : RsH w B x c nv ov tv nm ps cs mv) :
    Calls Tryz.prog 45 #[.pointer (some ⟨x, 0, none⟩), .int .i64 hst] w fun e w' => e = .returned (.int .i64 (loadP ps hst)) ∧ Below w.heap.size w w' := by
  have HR := Lib.hid h
  have hxw := h.blk.low
  obtain ⟨hl1, hl16, hps, -⟩ := h.len
  obtain ⟨k2, -, -, -, -, k7, -⟩ := h.cells
  obtain ⟨gt, ct, htv, hgt, hgtl, _, _⟩ := own_form h.tr (by omega)
  subst htv
  have HK := Lib.hid k2
  have HK7 := Lib.hid k7
  have HPS := Lib.hid hps
  have HHI := Lib.hid h.lk.hits
  clear h k2 k7 hps
  go_enter Tryz.func45, Tryz.ntmps45
  go_wp2_with fail
  go_loopw [5, 6] (fun nv0 iv wr => ∃ (i : Nat), i ≤ c.m.zs.length ∧ iv = .int .i64 i ∧ nv0 = .int .i64 (loadP (ps.take i) hst) ∧ Below w.heap.size w wr) (fun _ iv _ => c.m.zs.length - (intOf iv).toNat)
  case atStart => exact ⟨0, Nat.zero_le _, rfl, by simp [loadP], Below.refl _ _⟩
  case round =>
    obtain ⟨i, hil, rfl, rfl, hBw⟩ := hrel
    have HBW := Lib.hid hBw
    have k2 := bkeep hBw HK.out hxw
    have k7 := bkeep hBw HK7.out hxw
    have hsw := hBw.size
    by_cases hlt : i < c.m.zs.length
    · have q3 : (i : Int) < (c.m.zs.length : Int) := by omega
      have hip : i < ps.length := by rw [HPS.out]; exact hlt
      have u0 := own_int (l := ps.map fun p => p.nd) HR.out.tr (i := i) (by simpa using hip)
      rw [List.getElem_map] at u0
      have a0 := bkeep hBw u0 hgtl
      have hsn := loadP_snoc hip hst
      obtain ⟨nd, hnd⟩ : ∃ nd, nd = ps[i].nd := ⟨_, rfl⟩
      rw [← hnd] at a0 hsn
      have hb1 := loadP_bound (ps.take i) hst (HHI.out.take i)
      have hb2 := HHI.out _ (List.getElem_mem hip)
      rw [List.length_take] at hb1
      obtain ⟨L, hL⟩ : ∃ L, L = loadP (ps.take i) hst := ⟨_, rfl⟩
      rw [← hL] at hsn hb1 ⊢
      rw [← hitsAt_get hip] at hsn hb2
      obtain ⟨hi, hhi⟩ : ∃ hi, hi = hitsAt ps i := ⟨_, rfl⟩
      rw [← hhi] at hsn hb2
      have HSN := Lib.hid hsn
      have HHE := Lib.hid hhi
      have hLb : 0 ≤ L ∧ L ≤ 17592186044416 := by omega
      clear hsn hnd hL hhi hb1 u0 hBw
      by_cases e : nd = hst
      · have q5 : (nd == hst) = true := by rw [beq_iff_eq]; exact e
        have HE := Lib.hid e
        clear e
        go_wp2_with (first
          | (go_at_call 44; go_loud (refine (rsHits B x c nv ov _ nm ps cs mv i hlt _ (HR.out.below HBW.out)).mono ?_; rintro e w1 ⟨rfl, hb1⟩; rw [← HHE.out]; have HB1 := Lib.hid (HBW.out.trans (hb1.mono hsw)); clear hb1))
          | fail)
        exact ⟨⟨i + 1, hlt, by go_num, by rw [HSN.out, if_pos HE.out], HB1.out⟩, measZ hlt⟩
      · have q5 : (nd == hst) = false := by rw [beq_eq_false_iff_ne]; exact e
        have HE := Lib.hid e
        clear e
        go_wp2_with fail
        exact ⟨⟨i + 1, hlt, by go_num, by rw [HSN.out, if_neg HE.out, Int.add_zero], HBW.out⟩, measZ hlt⟩
    · have hi2 : ps.take i = ps := List.take_of_length_le (by have := HPS.out; omega)
      rw [hi2]
      clear hi2
      go_wp2_with fail
      go_ret
      exact ⟨rfl, HBW.out⟩
theorem okFrom_up : ∀ (l : List Int) (a : Int), okFrom a l = true → l.Pairwise (· < ·)
  | [], _, _ => List.Pairwise.nil
  | y :: r, a, h => by
    simp only [okFrom, Bool.and_eq_true, decide_eq_true_eq] at h
    rw [List.pairwise_cons]
    exact ⟨fun g hg => (okFrom_all r y h.2 g hg).1, okFrom_up r y h.2⟩
theorem most_one {hs : List Int} {ps : List Pz} (h : 0 < hs.length) : Most (hs.take 1) ps hs[0] hs[0] := by
  have e : hs.take 1 = [hs[0]] := by
    cases hs with
    | nil => simp at h
    | cons a r => rfl
  rw [e]
  exact ⟨by simp, by simp, fun g hg => by simp at hg; subst hg; exact Int.le_refl _, fun g hg => by simp at hg; subst hg; exact Int.le_refl _⟩
theorem most_step {hs : List Int} {ps : List Pz} {a b : Int} {i : Nat} (h : Most (hs.take i) ps a b) (hi : i < hs.length) (hp : hs.Pairwise (· < ·)) (ho : ∀ g ∈ hs, HostOk g) : Most (hs.take (i + 1)) ps (if loadP ps a < loadP ps hs[i] then hs[i] else a) (if loadP ps hs[i] < loadP ps b then hs[i] else b) := by
  have et : hs.take (i + 1) = hs.take i ++ [hs[i]] := by rw [List.take_add_one, List.getElem?_eq_getElem hi]; rfl
  have hlt : ∀ g ∈ hs.take i, g < hs[i] := fun g hg => by
    obtain ⟨j, hj, rfl⟩ := List.getElem_of_mem hg
    rw [List.length_take] at hj
    rw [List.getElem_take]
    exact List.pairwise_iff_getElem.1 hp j i (by omega) hi (by omega)
  have h0 : ∀ g ∈ hs.take i, 0 ≤ g ∧ g ≤ 1048576 := fun g hg => ho g (List.mem_of_mem_take hg)
  have hg0 := ho _ (List.getElem_mem hi)
  unfold HostOk at hg0
  have ha := h.m1
  have hb := h.m2
  have la := hlt a ha
  have lb := hlt b hb
  have ba := h0 a ha
  have bb := h0 b hb
  rw [et]
  refine ⟨?_, ?_, fun g hg => ?_, fun g hg => ?_⟩
  · split
    · exact List.mem_append_right _ List.mem_cons_self
    · exact List.mem_append_left _ ha
  · split
    · exact List.mem_append_right _ List.mem_cons_self
    · exact List.mem_append_left _ hb
  · rcases List.mem_append.1 hg with hg | hg
    · have h1 := h.a1 g hg
      simp only [keyR, rankOf] at h1 ⊢
      split
      · omega
      · exact h1
    · obtain rfl := List.mem_singleton.1 hg
      simp only [keyR, rankOf]
      split <;> omega
  · rcases List.mem_append.1 hg with hg | hg
    · have h1 := h.a2 g hg
      simp only [keyR, rankOf] at h1 ⊢
      split
      · omega
      · exact h1
    · obtain rfl := List.mem_singleton.1 hg
      simp only [keyR, rankOf]
      split <;> omega
set_option maxHeartbeats 4000000 in
set_option maxRecDepth 10000 in
theorem rsEnds (B x : Nat) (c : Rc) (nv ov tv : Value) (nm : List Bool) (ps : List Pz) (cs : List Ch) (mv : Int) (w : World) (h : RsH w B x c nv ov tv nm ps cs mv) :
    Calls Tryz.prog 43 #[.pointer (some ⟨x, 0, none⟩)] w fun e w' => ∃ a b, e = .returned (.tuple #[.int .i64 a, .int .i64 b]) ∧ Hid (Most c.hs ps a b) ∧ Below w.heap.size w w' := by
  have HR := Lib.hid h
  have hxw := h.blk.low
  obtain ⟨-, k3, -, -, -, -, -⟩ := h.cells
  obtain ⟨⟨hh1, hh6⟩, hho⟩ := hosts_ok h.ok.hb
  have hup : c.hs.Pairwise (· < ·) := by
    have hb := h.ok.hb
    unfold hostsB at hb
    simp only [Bool.and_eq_true] at hb
    exact okFrom_up _ _ hb.2
  obtain ⟨gh, oh, hA, hgB, u0⟩ := h.hr.2.2 0 _ (intsV_at (by omega))
  have hgw : gh < w.heap.size := Nat.lt_of_lt_of_le hgB h.bw
  rw [hA] at k3
  have HK := Lib.hid k3
  have HUP := Lib.hid hup
  have HHO := Lib.hid hho
  obtain ⟨h0, hh0⟩ : ∃ h0, h0 = c.hs[0] := ⟨_, rfl⟩
  rw [← hh0] at u0
  simp only [Nat.add_zero] at u0
  have HM0 : Hid (Most (c.hs.take 1) ps h0 h0) := Lib.hid (by rw [hh0]; exact most_one (by omega))
  have q0 : (0 : Int) < (c.hs.length : Int) := by omega
  clear h hup hho hh0
  go_enter Tryz.func43, Tryz.ntmps43
  go_wp2_with fail
  obtain ⟨w0, hw0⟩ : ∃ x, x = w := ⟨_, rfl⟩
  have HB0 := Lib.hid (show Below w.heap.size w w.drew from (Below.refl _ _).drew)
  clear hw0 w0
  go_region
  go_wp2_with fail
  go_loopw [4, 5, 6] (fun av bv iv wr => ∃ (i : Nat) (a b : Int), i + 1 ≤ c.hs.length ∧ iv = .int .i64 ((i : Int) + 1) ∧ av = .int .i64 a ∧ bv = .int .i64 b ∧ Hid (Most (c.hs.take (i + 1)) ps a b) ∧ Below w.heap.size w wr) (fun _ _ iv _ => c.hs.length - (intOf iv).toNat)
  case atStart => exact ⟨0, h0, h0, hh1, rfl, rfl, rfl, HM0, HB0.out⟩
  case round =>
    obtain ⟨i, a, b, hil, rfl, rfl, rfl, HM, hBw⟩ := hrel
    have HBW := Lib.hid hBw
    have k3 := bkeep hBw HK.out hxw
    have hsw := hBw.size
    have hwi : IntKind.i64.wrap ((i : Int) + 1 + 1) = (i : Int) + 1 + 1 := by rw [IntKind.wrap_i64]; omega
    by_cases hlt : i + 1 < c.hs.length
    · have q3 : (i : Int) + 1 < (c.hs.length : Int) := by omega
      obtain ⟨gh2, oh2, hA2, hgB2, v0⟩ := HR.out.hr.2.2 (i + 1) _ (intsV_at hlt)
      rw [hA] at hA2
      injection hA2 with hA2
      injection hA2 with hA3 hA4
      subst hA3 hA4
      obtain ⟨g, hg⟩ : ∃ g, g = c.hs[i + 1] := ⟨_, rfl⟩
      rw [← hg] at v0
      have v1 := bkeep hBw v0 hgw
      have HG := Lib.hid hg
      have HV0 := Lib.hid v0
      have hms := most_step HM.out hlt HUP.out HHO.out
      rw [← hg] at hms
      have HMS := Lib.hid hms
      obtain ⟨La, hLa⟩ : ∃ La, La = loadP ps a := ⟨_, rfl⟩
      obtain ⟨Lb, hLb⟩ : ∃ Lb, Lb = loadP ps b := ⟨_, rfl⟩
      obtain ⟨Lg, hLg⟩ : ∃ Lg, Lg = loadP ps g := ⟨_, rfl⟩
      have HLA := Lib.hid hLa
      have HLB := Lib.hid hLb
      have HLG := Lib.hid hLg
      clear hBw v0 hg hms hLa hLb hLg
      have HV := Lib.hid (show w.cell? ⟨gh, oh + (i + 1), none⟩ = some (.int .i64 g) from HV0.out)
      by_cases c1 : La < Lg
      · by_cases c2 : Lg < Lb
        · have HMN := Lib.hid HMS.out
          rw [← HLA.out, ← HLB.out, ← HLG.out, if_pos c1, if_pos c2] at HMN
          go_wp2_with (first
            | (go_at_call 45; have hgg := HBW3; clear hgg; go_loud (refine (rsLoad B x c nv ov tv nm ps cs mv b _ (HR.out.below HBW3.out)).mono ?_; rintro e w4 ⟨rfl, hb4⟩; rw [← HLB.out]; have HBW4 := Lib.hid (HBW3.out.trans (hb4.mono HBW3.out.size)); have k3 := bkeep HBW4.out HK.out hxw; have v1 := bkeep HBW4.out HV.out hgw; clear hb4))
            | (go_at_call 45; have hgg := HBW2; clear hgg; go_loud (refine (rsLoad B x c nv ov tv nm ps cs mv g _ (HR.out.below HBW2.out)).mono ?_; rintro e w3 ⟨rfl, hb3⟩; rw [← HLG.out]; have HBW3 := Lib.hid (HBW2.out.trans (hb3.mono HBW2.out.size)); have k3 := bkeep HBW3.out HK.out hxw; have v1 := bkeep HBW3.out HV.out hgw; clear hb3))
            | (go_at_call 45; have hgg := HBW1; clear hgg; go_loud (refine (rsLoad B x c nv ov tv nm ps cs mv a _ (HR.out.below HBW1.out)).mono ?_; rintro e w2 ⟨rfl, hb2⟩; rw [← HLA.out]; have HBW2 := Lib.hid (HBW1.out.trans (hb2.mono HBW1.out.size)); have k3 := bkeep HBW2.out HK.out hxw; have v1 := bkeep HBW2.out HV.out hgw; clear hb2))
            | (go_at_call 45; go_loud (refine (rsLoad B x c nv ov tv nm ps cs mv g _ (HR.out.below HBW.out)).mono ?_; rintro e w1 ⟨rfl, hb1⟩; rw [← HLG.out]; have HBW1 := Lib.hid (HBW.out.trans (hb1.mono HBW.out.size)); have k3 := bkeep HBW1.out HK.out hxw; have v1 := bkeep HBW1.out HV.out hgw; clear hb1))
            | fail)
          exact ⟨⟨i + 1, g, g, hlt, by go_num, rfl, rfl, HMN, HBW4.out⟩, by simp [intOf]; omega⟩
        · have HMN := Lib.hid HMS.out
          rw [← HLA.out, ← HLB.out, ← HLG.out, if_pos c1, if_neg c2] at HMN
          go_wp2_with (first
            | (go_at_call 45; have hgg := HBW3; clear hgg; go_loud (refine (rsLoad B x c nv ov tv nm ps cs mv b _ (HR.out.below HBW3.out)).mono ?_; rintro e w4 ⟨rfl, hb4⟩; rw [← HLB.out]; have HBW4 := Lib.hid (HBW3.out.trans (hb4.mono HBW3.out.size)); have k3 := bkeep HBW4.out HK.out hxw; have v1 := bkeep HBW4.out HV.out hgw; clear hb4))
            | (go_at_call 45; have hgg := HBW2; clear hgg; go_loud (refine (rsLoad B x c nv ov tv nm ps cs mv g _ (HR.out.below HBW2.out)).mono ?_; rintro e w3 ⟨rfl, hb3⟩; rw [← HLG.out]; have HBW3 := Lib.hid (HBW2.out.trans (hb3.mono HBW2.out.size)); have k3 := bkeep HBW3.out HK.out hxw; have v1 := bkeep HBW3.out HV.out hgw; clear hb3))
            | (go_at_call 45; have hgg := HBW1; clear hgg; go_loud (refine (rsLoad B x c nv ov tv nm ps cs mv a _ (HR.out.below HBW1.out)).mono ?_; rintro e w2 ⟨rfl, hb2⟩; rw [← HLA.out]; have HBW2 := Lib.hid (HBW1.out.trans (hb2.mono HBW1.out.size)); have k3 := bkeep HBW2.out HK.out hxw; have v1 := bkeep HBW2.out HV.out hgw; clear hb2))
            | (go_at_call 45; go_loud (refine (rsLoad B x c nv ov tv nm ps cs mv g _ (HR.out.below HBW.out)).mono ?_; rintro e w1 ⟨rfl, hb1⟩; rw [← HLG.out]; have HBW1 := Lib.hid (HBW.out.trans (hb1.mono HBW.out.size)); have k3 := bkeep HBW1.out HK.out hxw; have v1 := bkeep HBW1.out HV.out hgw; clear hb1))
            | fail)
          exact ⟨⟨i + 1, g, b, hlt, by go_num, rfl, rfl, HMN, HBW4.out⟩, by simp [intOf]; omega⟩
      · by_cases c2 : Lg < Lb
        · have HMN := Lib.hid HMS.out
          rw [← HLA.out, ← HLB.out, ← HLG.out, if_neg c1, if_pos c2] at HMN
          go_wp2_with (first
            | (go_at_call 45; have hgg := HBW3; clear hgg; go_loud (refine (rsLoad B x c nv ov tv nm ps cs mv b _ (HR.out.below HBW3.out)).mono ?_; rintro e w4 ⟨rfl, hb4⟩; rw [← HLB.out]; have HBW4 := Lib.hid (HBW3.out.trans (hb4.mono HBW3.out.size)); have k3 := bkeep HBW4.out HK.out hxw; have v1 := bkeep HBW4.out HV.out hgw; clear hb4))
            | (go_at_call 45; have hgg := HBW2; clear hgg; go_loud (refine (rsLoad B x c nv ov tv nm ps cs mv g _ (HR.out.below HBW2.out)).mono ?_; rintro e w3 ⟨rfl, hb3⟩; rw [← HLG.out]; have HBW3 := Lib.hid (HBW2.out.trans (hb3.mono HBW2.out.size)); have k3 := bkeep HBW3.out HK.out hxw; have v1 := bkeep HBW3.out HV.out hgw; clear hb3))
            | (go_at_call 45; have hgg := HBW1; clear hgg; go_loud (refine (rsLoad B x c nv ov tv nm ps cs mv a _ (HR.out.below HBW1.out)).mono ?_; rintro e w2 ⟨rfl, hb2⟩; rw [← HLA.out]; have HBW2 := Lib.hid (HBW1.out.trans (hb2.mono HBW1.out.size)); have k3 := bkeep HBW2.out HK.out hxw; have v1 := bkeep HBW2.out HV.out hgw; clear hb2))
            | (go_at_call 45; go_loud (refine (rsLoad B x c nv ov tv nm ps cs mv g _ (HR.out.below HBW.out)).mono ?_; rintro e w1 ⟨rfl, hb1⟩; rw [← HLG.out]; have HBW1 := Lib.hid (HBW.out.trans (hb1.mono HBW.out.size)); have k3 := bkeep HBW1.out HK.out hxw; have v1 := bkeep HBW1.out HV.out hgw; clear hb1))
            | fail)
          exact ⟨⟨i + 1, a, g, hlt, by go_num, rfl, rfl, HMN, HBW4.out⟩, by simp [intOf]; omega⟩
        · have HMN := Lib.hid HMS.out
          rw [← HLA.out, ← HLB.out, ← HLG.out, if_neg c1, if_neg c2] at HMN
          go_wp2_with (first
            | (go_at_call 45; have hgg := HBW3; clear hgg; go_loud (refine (rsLoad B x c nv ov tv nm ps cs mv b _ (HR.out.below HBW3.out)).mono ?_; rintro e w4 ⟨rfl, hb4⟩; rw [← HLB.out]; have HBW4 := Lib.hid (HBW3.out.trans (hb4.mono HBW3.out.size)); have k3 := bkeep HBW4.out HK.out hxw; have v1 := bkeep HBW4.out HV.out hgw; clear hb4))
            | (go_at_call 45; have hgg := HBW2; clear hgg; go_loud (refine (rsLoad B x c nv ov tv nm ps cs mv g _ (HR.out.below HBW2.out)).mono ?_; rintro e w3 ⟨rfl, hb3⟩; rw [← HLG.out]; have HBW3 := Lib.hid (HBW2.out.trans (hb3.mono HBW2.out.size)); have k3 := bkeep HBW3.out HK.out hxw; have v1 := bkeep HBW3.out HV.out hgw; clear hb3))
            | (go_at_call 45; have hgg := HBW1; clear hgg; go_loud (refine (rsLoad B x c nv ov tv nm ps cs mv a _ (HR.out.below HBW1.out)).mono ?_; rintro e w2 ⟨rfl, hb2⟩; rw [← HLA.out]; have HBW2 := Lib.hid (HBW1.out.trans (hb2.mono HBW1.out.size)); have k3 := bkeep HBW2.out HK.out hxw; have v1 := bkeep HBW2.out HV.out hgw; clear hb2))
            | (go_at_call 45; go_loud (refine (rsLoad B x c nv ov tv nm ps cs mv g _ (HR.out.below HBW.out)).mono ?_; rintro e w1 ⟨rfl, hb1⟩; rw [← HLG.out]; have HBW1 := Lib.hid (HBW.out.trans (hb1.mono HBW.out.size)); have k3 := bkeep HBW1.out HK.out hxw; have v1 := bkeep HBW1.out HV.out hgw; clear hb1))
            | fail)
          exact ⟨⟨i + 1, a, b, hlt, by go_num, rfl, rfl, HMN, HBW4.out⟩, by simp [intOf]; omega⟩
    · have hi2 : c.hs.take (i + 1) = c.hs := List.take_of_length_le (by omega)
      rw [hi2] at HM
      have q3 : ¬ ((i : Int) + 1 < (c.hs.length : Int)) := by omega
      clear hi2
      go_wp2_with fail
      refine bodyPost_ret (v := .tuple #[.int .i64 a, .int .i64 b]) (by simp [results, Tryz.results43, go_sem]) rfl ⟨a, b, rfl, HM, HBW.out⟩
end Go.Proofs.YtepjehcmiofehaaGreat
