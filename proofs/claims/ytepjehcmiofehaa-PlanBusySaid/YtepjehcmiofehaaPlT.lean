/- the law: no zone with which something is under way, none twice. -/
import Derived.Test.YtepjehcmiofehaaPlS
namespace Go.Proofs.Ytepjehcmiofehaa
open Go.RowKit
set_option linter.unusedVariables false
set_option linter.unusedSimpArgs false

theorem ch_zo {w : World} {B c : Nat} {A : Option Addr} {cs : List Ch} (h : Cells w B A cs.length c 5 (cs.flatMap chV)) {i : Nat} (hi : i < cs.length) : ∃ g o, A = some ⟨g, o, none⟩ ∧ g < B ∧ w.cell? ⟨g, o + i * 5 + 1, none⟩ = some (.int .i64 cs[i].zo) := by
  have h1 : (cs.flatMap chV)[i * 5 + 1]? = some (.int .i64 cs[i].zo) := by
    rw [flat_get chV 5 (fun _ => rfl) cs i 1 (by omega), List.getElem?_eq_getElem hi]
    rfl
  obtain ⟨g, o, e, hg, hc⟩ := h.2.2 _ _ h1
  exact ⟨g, o, e, hg, by rw [Nat.add_assoc]; exact hc⟩
theorem lt60_smz {m : Mp} (h : Lt60 m) : SmZ m := ⟨h.len, fun z hz => by obtain ⟨i, hi, rfl⟩ := List.getElem_of_mem hz; have := h.txt i hi; omega⟩
/-- found by now? -/
def FoundQ (K k : Nat) (v : Value) : Prop := ∃ f : Bool, v = .bool f ∧ (f = false → k ≤ K)
set_option maxHeartbeats 8000000 in
set_option maxRecDepth 10000 in
theorem plBusyWalk (A : Option Addr) (cp : Nat) (m : Mp) (Ah : Option Addr) (ch : Nat) (hs : List Int) (Al : Option Addr) (cl : Nat) (l : List Lr) (hot cold : Int) (w : World) (hz : RowZ w A cp m.zs) (hx : Cells w w.heap.size Ah hs.length ch 1 (intsV hs)) (hl : RowL w Al cl l) :
    Calls Try.prog 5 #[.agg #[.int .i64 m.ver, .int .i64 m.nxt, .slice A m.zs.length cp], .slice Ah hs.length ch, .slice Al l.length cl, .agg #[.int .i64 hot, .int .i64 cold]] w fun e w' => e = .returned (.bool true) ∧ Below w.heap.size w w' := by
  have hB : Below w.heap.size w ((w.alloc (.cells #[.int .i64 m.ver, .int .i64 m.nxt, .slice A m.zs.length cp] 24)).alloc (.cells #[.int .i64 hot, .int .i64 cold] 28)) := ((Below.refl _ _).alloc (Nat.le_refl _) _).alloc (by simp) _
  have HB := Lib.hid hB
  have HZ := Lib.hid (hz.below hB)
  have HX := Lib.hid (cells_keep hx hB hB.size)
  have HL := Lib.hid (hl.below hB)
  have HP := Lib.hid (show Whl ((w.alloc (.cells #[.int .i64 m.ver, .int .i64 m.nxt, .slice A m.zs.length cp] 24)).alloc (.cells #[.int .i64 hot, .int .i64 cold] 28)) w.heap.size 24 #[.int .i64 m.ver, .int .i64 m.nxt, .slice A m.zs.length cp] from (Whl.new rfl).alloc _)
  have HQ := Lib.hid (show Whl ((w.alloc (.cells #[.int .i64 m.ver, .int .i64 m.nxt, .slice A m.zs.length cp] 24)).alloc (.cells #[.int .i64 hot, .int .i64 cold] 28)) (w.heap.size + 1) 28 #[.int .i64 hot, .int .i64 cold] from Whl.new (by simp))
  clear hz hx hl hB
  by_cases hm : MayP m
  case neg =>
    have HN := Lib.hid hm
    have HNO := Lib.hid (show ¬ (MayP m ∧ hostsB hs = true) from fun h => hm h.1)
    clear hm
    go_enter Try.func5, Try.ntmps5
    go_wp2_with (first
      | (go_at_call 6; go_loud (refine (plHeavy A cp m Ah ch hs Al cl l _ HZ.out HL.out).mono ?_; rintro e w1 ⟨b, rfl, hq, hb1⟩; have HQ1 := Lib.hid hq; have HB1b := Lib.hid hb1; have hP1 := HP.out.below HB1b.out HP.out.low; have x10 := hP1.cell 0; have x11 := hP1.cell 1; have x12 := hP1.cell 2; have hQ1 := HQ.out.below HB1b.out HQ.out.low; have z10 := hQ1.cell 0; have z11 := hQ1.cell 1; simp only [List.getElem?_toArray, List.getElem?_cons_succ, List.getElem?_cons_zero] at x10 x11 x12 z10 z11; clear hP1 hQ1; clear hb1 hq))
      | (go_at_call 9; go_loud (obtain ⟨h60, hh20, hl60⟩ := HQ1.out (by first | assumption | simp_all); have H60 := Lib.hid h60; refine (plMakeNo A cp m Ah ch hs Al cl l hot cold _ (HZ.out.below HB1b.out) (lt60_smz h60) (cells_keep HX.out HB1b.out HB1b.out.size) (by omega) HNO.out).mono ?_; rintro e w2 ⟨rfl, hb2⟩; have HB2b := Lib.hid (HB1b.out.trans (hb2.mono HB1b.out.size)); have hm60 := h60.len; clear h60; have hP2 := HP.out.below HB2b.out HP.out.low; have x20 := hP2.cell 0; have x21 := hP2.cell 1; have x22 := hP2.cell 2; have hQ2 := HQ.out.below HB2b.out HQ.out.low; have z20 := hQ2.cell 0; have z21 := hQ2.cell 1; simp only [List.getElem?_toArray, List.getElem?_cons_succ, List.getElem?_cons_zero] at x20 x21 x22 z20 z21; clear hP2 hQ2; clear hb2))
      | (go_at_call 11; go_loud (refine (rdMayC A cp m _ (HZ.out.below HB2b.out) (by omega) (b := false) ⟨fun h => (by cases h), fun h => absurd h HN.out⟩).mono ?_; rintro e w3 ⟨rfl, hb3⟩; have HB3 := Lib.hid hb3; have HB3b := Lib.hid (HB2b.out.trans (hb3.mono HB2b.out.size)); clear hb3))
      | (go_at_call 8; go_loud (refine (plKnown _).mono ?_; rintro e w5 ⟨rfl, hb5⟩; have HB5b := Lib.hid (HB3b.out.trans (hb5.mono HB3b.out.size)); clear hb5))
      | fail)
    · go_ret
      exact ⟨rfl, HB.out.trans (HB1b.out.mono HB.out.size)⟩
    · go_ret
      exact ⟨rfl, HB.out.trans (HB5b.out.mono HB.out.size)⟩
  have HM := Lib.hid hm
  by_cases hh : hostsB hs = true
  case neg =>
    have HNO := Lib.hid (show ¬ (MayP m ∧ hostsB hs = true) from fun h => hh h.2)
    have HHB := Lib.hid (by simpa using hh : hostsB hs = false)
    clear hm hh
    go_enter Try.func5, Try.ntmps5
    go_wp2_with (first
      | (go_at_call 6; go_loud (refine (plHeavy A cp m Ah ch hs Al cl l _ HZ.out HL.out).mono ?_; rintro e w1 ⟨b, rfl, hq, hb1⟩; have HQ1 := Lib.hid hq; have HB1b := Lib.hid hb1; have hP1 := HP.out.below HB1b.out HP.out.low; have x10 := hP1.cell 0; have x11 := hP1.cell 1; have x12 := hP1.cell 2; have hQ1 := HQ.out.below HB1b.out HQ.out.low; have z10 := hQ1.cell 0; have z11 := hQ1.cell 1; simp only [List.getElem?_toArray, List.getElem?_cons_succ, List.getElem?_cons_zero] at x10 x11 x12 z10 z11; clear hP1 hQ1; clear hb1 hq))
      | (go_at_call 9; go_loud (obtain ⟨h60, hh20, hl60⟩ := HQ1.out (by first | assumption | simp_all); have H60 := Lib.hid h60; refine (plMakeNo A cp m Ah ch hs Al cl l hot cold _ (HZ.out.below HB1b.out) (lt60_smz h60) (cells_keep HX.out HB1b.out HB1b.out.size) (by omega) HNO.out).mono ?_; rintro e w2 ⟨rfl, hb2⟩; have HB2b := Lib.hid (HB1b.out.trans (hb2.mono HB1b.out.size)); have hm60 := h60.len; clear h60; have hP2 := HP.out.below HB2b.out HP.out.low; have x20 := hP2.cell 0; have x21 := hP2.cell 1; have x22 := hP2.cell 2; have hQ2 := HQ.out.below HB2b.out HQ.out.low; have z20 := hQ2.cell 0; have z21 := hQ2.cell 1; simp only [List.getElem?_toArray, List.getElem?_cons_succ, List.getElem?_cons_zero] at x20 x21 x22 z20 z21; clear hP2 hQ2; clear hb2))
      | (go_at_call 11; go_loud (refine (rdMayC A cp m _ (HZ.out.below HB2b.out) (by omega) (b := true) ⟨fun _ => HM.out, fun _ => rfl⟩).mono ?_; rintro e w3 ⟨rfl, hb3⟩; have HB3 := Lib.hid hb3; have HB3b := Lib.hid (HB2b.out.trans (hb3.mono HB2b.out.size)); clear hb3))
      | (go_at_call 12; go_loud (refine (rdHostsC Ah ch hs _ (cells_keep HX.out HB3b.out HB3b.out.size) (by omega)).mono ?_; rintro e w4 ⟨rfl, hb4⟩; have HB4 := Lib.hid hb4; have HB4b := Lib.hid (HB3b.out.trans (hb4.mono HB3b.out.size)); rw [HHB.out]; clear hb4))
      | (go_at_call 8; go_loud (refine (plKnown _).mono ?_; rintro e w5 ⟨rfl, hb5⟩; have HB5b := Lib.hid (HB4b.out.trans (hb5.mono HB4b.out.size)); clear hb5))
      | fail)
    · go_ret
      exact ⟨rfl, HB.out.trans (HB1b.out.mono HB.out.size)⟩
    · go_ret
      exact ⟨rfl, HB.out.trans (HB5b.out.mono HB.out.size)⟩
  have HHB := Lib.hid hh
  clear hm hh
  go_enter Try.func5, Try.ntmps5
  go_wp2_with (first
    | (go_at_call 6; go_loud (refine (plHeavy A cp m Ah ch hs Al cl l _ HZ.out HL.out).mono ?_; rintro e w1 ⟨b, rfl, hq, hb1⟩; have HQ1 := Lib.hid hq; have HB1b := Lib.hid hb1; have hP1 := HP.out.below HB1b.out HP.out.low; have x10 := hP1.cell 0; have x11 := hP1.cell 1; have x12 := hP1.cell 2; have hQ1 := HQ.out.below HB1b.out HQ.out.low; have z10 := hQ1.cell 0; have z11 := hQ1.cell 1; simp only [List.getElem?_toArray, List.getElem?_cons_succ, List.getElem?_cons_zero] at x10 x11 x12 z10 z11; clear hP1 hQ1; clear hb1 hq))
    | (go_at_call 9; go_loud (obtain ⟨h60, hh20, hl60⟩ := HQ1.out (by first | assumption | simp_all); refine (plMakeYes A cp m Ah ch hs Al cl l hot cold _ (HZ.out.below HB1b.out) (lt60_smz h60) (cells_keep HX.out HB1b.out HB1b.out.size) (HL.out.below HB1b.out) (by omega) HM.out HHB.out).mono ?_; rintro e w2 ⟨v, cs, rfl, hR, ho, hb2⟩; have HPB := Lib.hid (plan_busy hR HM.out); obtain ⟨Av, cv, rfl, hvl, hvm, hC⟩ := row_cells ho; have HC := Lib.hid hC; have HB2b := Lib.hid (HB1b.out.trans (hb2.mono HB1b.out.size)); have hm60 := h60.len; clear h60 hR ho hC; have hP2 := HP.out.below HB2b.out HP.out.low; have x20 := hP2.cell 0; have x21 := hP2.cell 1; have x22 := hP2.cell 2; have hQ2 := HQ.out.below HB2b.out HQ.out.low; have z20 := hQ2.cell 0; have z21 := hQ2.cell 1; simp only [List.getElem?_toArray, List.getElem?_cons_succ, List.getElem?_cons_zero] at x20 x21 x22 z20 z21; clear hP2 hQ2; clear hb2))
    | (go_at_call 11; go_loud (refine (rdMayC A cp m _ (HZ.out.below HB2b.out) (by omega) (b := true) ⟨fun _ => HM.out, fun _ => rfl⟩).mono ?_; rintro e w3 ⟨rfl, hb3⟩; have HB3 := Lib.hid hb3; have HB3b := Lib.hid (HB2b.out.trans (hb3.mono HB2b.out.size)); clear hb3))
    | (go_at_call 12; go_loud (refine (rdHostsC Ah ch hs _ (cells_keep HX.out HB3b.out HB3b.out.size) (by omega)).mono ?_; rintro e w4 ⟨rfl, hb4⟩; have HB4 := Lib.hid hb4; have HB4b := Lib.hid (HB3b.out.trans (hb4.mono HB3b.out.size)); rw [HHB.out]; clear hb4))
    | fail)
  · go_ret
    exact ⟨rfl, HB.out.trans (HB1b.out.mono HB.out.size)⟩
  have HPN := Lib.hid HPB.out.1
  have HPD := Lib.hid HPB.out.2
  have HB24 := Lib.hid (HB3.out.trans (HB4.out.mono HB3.out.size))
  have HC4 := Lib.hid (cells_keep HC.out HB24.out HB24.out.size)
  go_loopw [10] (fun iv wr => ∃ i : Nat, i ≤ cs.length ∧ iv = .int .i64 i ∧ Below w4.heap.size w4 wr) (fun iv _ => cs.length - (intOf iv).toNat)
  case atStart => exact ⟨0, Nat.zero_le _, rfl, Below.refl _ _⟩
  case round =>
    obtain ⟨i, hil, rfl, hBr⟩ := hrel
    have HBR := Lib.hid hBr
    have HBW := Lib.hid (HB4b.out.trans (hBr.mono HB4b.out.size))
    have hPr := HP.out.below HBW.out HP.out.low
    have p2 := hPr.cell 2
    simp only [List.getElem?_toArray, List.getElem?_cons_succ, List.getElem?_cons_zero] at p2
    clear hBr hPr
    by_cases hlt : i < cs.length
    · have q5 : (i : Int) < (cs.length : Int) := by omega
      have hwi : IntKind.i64.wrap ((i : Int) + 1) = (i : Int) + 1 := by rw [IntKind.wrap_i64]; unfold maxLen at hvm; omega
      obtain ⟨K, hK, eK1, eK2⟩ := HPN.out cs[i] (List.getElem_mem hlt)
      obtain ⟨zi, hzi⟩ : ∃ zi, zi = cs[i].zo := ⟨_, rfl⟩
      rw [← hzi] at eK1
      have HZI := Lib.hid hzi
      have HK1 := Lib.hid eK1
      have HK2 := Lib.hid eK2
      clear hzi eK1 eK2
      go_wp2_with fail
      go_loopw [11, 12] (fun ov kv wk => ∃ k : Nat, k ≤ m.zs.length ∧ kv = .int .i64 k ∧ FoundQ K k ov ∧ Below w4.heap.size w4 wk) (fun _ kv _ => m.zs.length - (intOf kv).toNat)
      case atStart => exact ⟨0, Nat.zero_le _, rfl, ⟨false, rfl, fun _ => Nat.zero_le _⟩, HBR.out⟩
      case round =>
        obtain ⟨k, hkl, rfl, hF, hBk⟩ := hrel
        obtain ⟨f, rfl, hfK⟩ := hF
        have HBK := Lib.hid hBk
        have HBX := Lib.hid (HB4b.out.trans (hBk.mono HB4b.out.size))
        have hPk := HP.out.below HBX.out HP.out.low
        have s2 := hPk.cell 2
        simp only [List.getElem?_toArray, List.getElem?_cons_succ, List.getElem?_cons_zero] at s2
        clear hBk hPk
        by_cases hkt : k < m.zs.length
        · have q6 : (k : Int) < (m.zs.length : Int) := by omega
          have hwk : IntKind.i64.wrap ((k : Int) + 1) = (k : Int) + 1 := by rw [IntKind.wrap_i64]; omega
          obtain ⟨gc, oc, rfl, hgc, r1⟩ := ch_zo (cells_keep HC4.out HBK.out HBK.out.size) hlt
          rw [← HZI.out] at r1
          rcases f with _ | _
          case true =>
            go_upto_region 13 with fail
            go_region
            go_wp2_with fail
            exact ⟨⟨k + 1, hkt, by go_num, ⟨true, rfl, fun h => by cases h⟩, HBK.out.drew⟩, measZ hkt⟩
          case false =>
            have hkK := hfK rfl
            clear hfK
            obtain ⟨z, hz⟩ : ∃ z, z = m.zs[k] := ⟨_, rfl⟩
            obtain ⟨ga, oa, rfl, hga, u0, u1, u2, u3, u4, u5, u6, u7, u8⟩ := zn_at (HZ.out.below HBX.out).cells hkt
            rw [← hz] at u0 u5
            have HZZ := Lib.hid hz
            clear hz u1 u2 u3 u4 u6 u7 u8
            by_cases e1 : z.id = zi
            case neg =>
              have hid2 : (z.id == zi) = false := by simpa using e1
              have hkK2 : k + 1 ≤ K := by
                rcases Nat.lt_or_ge k K with h | h
                · exact h
                · obtain rfl : k = K := by omega
                  exact absurd (by rw [HZZ.out]; exact HK1.out) e1
              clear hkK
              go_upto_region 13 with fail
              go_region
              go_wp2_with fail
              exact ⟨⟨k + 1, hkt, by go_num, ⟨false, rfl, fun _ => hkK2⟩, HBK.out.drew⟩, measZ hkt⟩
            case pos =>
              have hid2 : (z.id == zi) = true := by simpa using e1
              by_cases e2 : z.pd = 0
              case neg =>
                have hpd2 : (z.pd == 0) = false := by simpa using e2
                have hkK2 : k + 1 ≤ K := by
                  rcases Nat.lt_or_ge k K with h | h
                  · exact h
                  · obtain rfl : k = K := by omega
                    exact absurd (by rw [HZZ.out]; exact HK2.out) e2
                clear hkK
                go_upto_region 13 with fail
                go_region
                go_wp2_with fail
                exact ⟨⟨k + 1, hkt, by go_num, ⟨false, rfl, fun _ => hkK2⟩, HBK.out.drew⟩, measZ hkt⟩
              case pos =>
                have hpd2 : (z.pd == 0) = true := by simpa using e2
                go_upto_region 13 with fail
                go_region
                go_wp2_with fail
                exact ⟨⟨k + 1, hkt, by go_num, ⟨true, rfl, fun h => by cases h⟩, HBK.out.drew⟩, measZ hkt⟩
        · have q6 : ¬ (k : Int) < (m.zs.length : Int) := by omega
          obtain rfl : f = true := by
            cases f with
            | true => rfl
            | false => have := hfK rfl; omega
          clear hfK
          go_wp2_with fail
          go_loopw [13] (fun jv wj => ∃ j : Nat, j ≤ i ∧ jv = .int .i64 j ∧ Below w4.heap.size w4 wj) (fun jv _ => i - (intOf jv).toNat)
          case atStart => exact ⟨0, Nat.zero_le _, rfl, HBK.out⟩
          case round =>
            obtain ⟨j, hjl, rfl, hBj⟩ := hrel
            have HBJ := Lib.hid hBj
            clear hBj
            by_cases hjt : j < i
            · have q7 : (j : Int) < (i : Int) := by omega
              have hwj : IntKind.i64.wrap ((j : Int) + 1) = (j : Int) + 1 := by rw [IntKind.wrap_i64]; unfold maxLen at hvm; omega
              have hjc : j < cs.length := by omega
              have q8 : (j : Int) < (cs.length : Int) := by omega
              obtain ⟨gc, oc, rfl, hgc, r1⟩ := ch_zo (cells_keep HC4.out HBJ.out HBJ.out.size) hlt
              obtain ⟨gd, od, e3, hgd, r2⟩ := ch_zo (cells_keep HC4.out HBJ.out HBJ.out.size) hjc
              injection e3 with e3
              injection e3 with e4 e5
              subst e4 e5
              obtain ⟨zj, hzj⟩ : ∃ zj, zj = cs[j].zo := ⟨_, rfl⟩
              have hne : zj ≠ zi := by
                rw [hzj, HZI.out]
                intro e
                have := (List.getElem_inj (xs := cs.map fun c => c.zo) (i := j) (j := i) (h₀ := by simpa using hjc) (h₁ := by simpa using hlt) HPD.out).1 (by simpa using e)
                omega
              rw [← HZI.out] at r1
              rw [← hzj] at r2
              clear hzj
              have hne2 : (zj == zi) = false := by simpa using hne
              go_upto_region 19 with fail
              go_region
              go_wp2_with fail
              exact ⟨⟨j + 1, hjt, by go_num, HBJ.out.drew⟩, measZ hjt⟩
            · have q7 : ¬ (j : Int) < (i : Int) := by omega
              go_wp2_with fail
              exact ⟨⟨i + 1, hlt, by go_num, HBJ.out⟩, measZ hlt⟩
    · have q5 : ¬ (i : Int) < (cs.length : Int) := by omega
      go_wp2_with (first
        | (go_at_call 8; go_loud (refine (plKnown _).mono ?_; rintro e w5 ⟨rfl, hb5⟩; have HB5b := Lib.hid (HBW.out.trans (hb5.mono HBW.out.size)); clear hb5))
        | fail)
      go_ret
      exact ⟨rfl, HB.out.trans (HB5b.out.mono HB.out.size)⟩
end Go.Proofs.Ytepjehcmiofehaa
