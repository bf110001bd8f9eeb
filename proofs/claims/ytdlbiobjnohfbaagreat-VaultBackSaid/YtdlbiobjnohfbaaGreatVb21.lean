/- The code's Reader once more: Num and Bytes write the Reader's own block alone. -/
import Derived.Test.YtdlbiobjnohfbaaGreatVb20
namespace Go.Proofs.YtdlbiobjnohfbaaGreat
open Go.RowKit
set_option linter.unusedVariables false
set_option linter.unusedSimpArgs false
theorem rdBadT (b : Nat) (rest : List Nat) (bad : Bool) (w : World) (hr : Rd w b rest bad) :
  Calls Tryz.prog 79 #[.pointer (some ⟨b, 0, none⟩)] w fun e w' => e = .returned (.tuple #[]) ∧ Rd w' b [] true ∧ Tch b w w' := by
 obtain ⟨A, c, h0, _, _, _⟩ := hr.row
 have h1 := hr.flag
 have f := hr.free
 have f0 := f 0
 have f1 := f 1
 have hlow := hr.low
 go_enter Tryz.func79, Tryz.ntmps79
 go_wp2_with fail
 refine bodyPost_end (v := .tuple #[]) (by simp [results, Tryz.results79, go_sem]) rfl ⟨rfl, ⟨⟨none, 0, (by simp only [List.length_nil]; exact tC), Nat.le_refl _, by unfold maxLen; omega, ⟨rfl, fun _ => ⟨rfl, rfl⟩, fun j u hu => by simp [flatU] at hu⟩⟩, by exact tC, by intro j; have fj := f j; exact tF, by simp; omega⟩, Tch.set (Tch.set (Tch.refl _ _) _ _) _ _⟩
set_option maxHeartbeats 2000000 in
set_option maxRecDepth 10000 in
theorem octNumST (b : Nat) (rest : List Nat) (w : World) (hl : rest.length ≤ 1000000) (h256 : ∀ x ∈ rest, x < 256) (hr : Rd w b rest false) (hS : rest.length ≤ 9) :
    Calls Tryz.prog 34 #[.pointer (some ⟨b, 0, none⟩)] w fun e w' => NumPost w' b e (rd 0 0 rest) ∧ Tch b w w' := by
  obtain ⟨A, c, h0, hc, hm, hx⟩ := hr.row
  have f0 := hr.free 0
  have hlow := hr.low
  have HR := Lib.hid hr
  have HX := Lib.hid hx
  have H256 := Lib.hid h256
  have hm2 := hm
  unfold maxLen at hm2
  have g1 : (((rest.length : Nat)) : Int) ≤ (c : Int) := by omega
  have g2 : (rest.length : Int) ≤ 9 := by omega
  clear hr hx h256
  go_enter Tryz.func34, Tryz.ntmps34
  go_wp2_with fail
  go_quiet (fail)
  generalize hV : w.drewN nq = V
  have k0 : V.cell? ⟨b, 0, none⟩ = some (.slice A rest.length c) := by subst hV; exact h0
  have z0 : V.frozen? ⟨b, 0, none⟩ = false := by subst hV; exact f0
  have HV : Hid (Rd V b rest false) := by subst hV; exact Lib.hid ⟨HR.out.row, HR.out.flag, HR.out.free, HR.out.low⟩
  have HXV : Hid (Cells V b A rest.length c 1 (flatU rest)) := by subst hV; exact HX
  have hBV : Tch b w V := by subst hV; exact Tch.of_fresh b (b_drewN (Below.refl _ _))
  clear hV
  go_wp2_with fail
  go_loop [3, 20] (fun n i => ∃ k acc : Nat, k ≤ rest.length ∧ i = .int .i64 k ∧ n = .int .i64 acc ∧ Hid (acc < 128 ^ k) ∧ Hid (rd 0 0 rest = rd k acc (rest.drop k))) (fun _ i => rest.length - (intOf i).toNat)
  case atStart => exact ⟨0, 0, by omega, rfl, rfl, Lib.hid (by simp), Lib.hid rfl⟩
  case round =>
    obtain ⟨k, acc, hk, rfl, rfl, HA, HD⟩ := hrel
    by_cases hlt : k < rest.length
    · have hkl : k < rest.length := by omega
      have hu : (flatU rest)[k]? = some (.int .u8 (rest[k] : Nat)) := by simp [flatU, hkl]
      obtain ⟨ab, ao, rfl, hab, hcell⟩ := HXV.out.2.2 k _ hu
      have hx256 : rest[k] < 256 := H256.out _ (List.getElem_mem _)
      have hdr : rest.drop k = rest[k] :: rest.drop (k + 1) := List.drop_eq_getElem_cons hkl
      have HDR := Lib.hid hdr
      clear hu hdr
      generalize rest[k] = x at *
      have hk8 : k ≤ 8 := by omega
      have i1 : (k : Int) < (((rest.length : Nat)) : Int) := by omega
      have i2 : (k : Int) ≤ 8 := by omega
      have ha := andNot128 hx256
      obtain ⟨N, hN⟩ : ∃ N, N = acc + x % 128 * 128 ^ k := ⟨_, rfl⟩
      have hor := orI (x := x) hk8 HA.out
      rw [← hN] at hor
      have hor2 : bits BinOp.or IntKind.i64 (acc : Int) (wrap64 ((x : Int) % 128 * 2 ^ (7 * k))) = (N : Int) := by rw [show wrap64 ((x : Int) % 128 * 2 ^ (7 * k)) = IntKind.i64.wrap ((x : Int) % 128 * 2 ^ (7 * k)) from by unfold wrap64; exact (IntKind.wrap_i64 _).symm]; exact hor
      have HN := Lib.hid hN
      have hN63 : N < 9223372036854775808 := by
        have h1 := HA.out
        have h2 : 128 ^ k ≤ 128 ^ 8 := Nat.pow_le_pow_right (by decide) hk8
        have h3 : x % 128 ≤ 127 := by omega
        have h4 := Nat.mul_le_mul h3 h2
        have h5 : 127 * 128 ^ 8 + 128 ^ 8 ≤ 9223372036854775808 := by decide
        omega
      have hcc : (k : Int) + 1 ≤ (rest.length : Int) := by omega
      have hcc2 : (k : Int) + 1 ≤ (c : Int) := by omega
      have hcc3 : (rest.length : Int) ≤ (c : Int) := by omega
      clear hN
      by_cases h128 : 128 ≤ x
      · have hb := and128_yes hx256 h128
        go_wp2_with fail
        have hrd : rd 0 0 rest = rd (k + 1) N (rest.drop (k + 1)) := by rw [HD.out, HDR.out, rd, if_neg (by omega), if_pos h128, HN.out]
        have hlt2 : N < 128 ^ (k + 1) := by
          have h1 := HN.out
          have h2 := HA.out
          have h3 : x % 128 ≤ 127 := by omega
          have h4 := Nat.mul_le_mul_right (128 ^ k) h3
          rw [Nat.pow_succ]; omega
        go_round
        case rel => exact ⟨k + 1, N, by omega, by go_num, rfl, Lib.hid hlt2, Lib.hid hrd⟩
        case measure => simp [intOf]; omega
      · have hb := and128_no hx256 h128
        have hxm : x % 128 = x := by omega
        have hrd : rd 0 0 rest = if (0 < k ∧ x = 0) ∨ 4611686018427387904 < N then none else some (N, rest.drop (k + 1)) := by
          rw [HD.out, HDR.out, rd, if_neg (by omega), if_neg h128, HN.out, hxm]
        have HRD := Lib.hid hrd
        clear hrd hxm
        by_cases hz : 0 < k ∧ x = 0
        · obtain ⟨z1, z2⟩ := hz
          have k4 : (0 : Int) < (k : Int) := by omega
          have d3 : ((x : Int) == 0) = true := by subst z2; rfl
          have HB : Hid (rd 0 0 rest = none) := Lib.hid (by rw [HRD.out, if_pos (Or.inl ⟨z1, z2⟩)])
          clear z2
          go_wp2_with fail
          refine (rdBadT b _ _ _ HV.out).mono ?_
          rintro e w2 ⟨rfl, hw2, hb2⟩
          go_wp2_with fail
          go_ret
          exact ⟨numBad HB.out rfl hw2, hBV.trans hb2⟩
        · by_cases hbig : 4611686018427387904 < N
          · have d4 : (4611686018427387904 : Int) < (N : Int) := by omega
            have HB : Hid (rd 0 0 rest = none) := Lib.hid (by rw [HRD.out, if_pos (Or.inr hbig)])
            by_cases hk0 : k = 0
            · have k4 : ¬ (0 : Int) < (k : Int) := by omega
              clear hk0 hz
              go_wp2_with fail
              refine (rdBadT b _ _ _ HV.out).mono ?_
              rintro e w2 ⟨rfl, hw2, hb2⟩
              go_wp2_with fail
              go_ret
              exact ⟨numBad HB.out rfl hw2, hBV.trans hb2⟩
            · have k4 : (0 : Int) < (k : Int) := by omega
              have d3 : ((x : Int) == 0) = false := by rw [beq_eq_false_iff_ne]; omega
              clear hk0 hz
              go_wp2_with fail
              refine (rdBadT b _ _ _ HV.out).mono ?_
              rintro e w2 ⟨rfl, hw2, hb2⟩
              go_wp2_with fail
              go_ret
              exact ⟨numBad HB.out rfl hw2, hBV.trans hb2⟩
          · have d4 : ¬ (4611686018427387904 : Int) < (N : Int) := by omega
            have HB : Hid (rd 0 0 rest = some (N, rest.drop (k + 1))) := Lib.hid (by rw [HRD.out, if_neg (by omega)])
            have hend : Hid (Rd (V.setCell ⟨b, 0, none⟩ (if c = k + 1 then .slice (some ⟨ab, ao, none⟩) 0 0 else .slice (some ⟨ab, ao + (k + 1), none⟩) (rest.length - (k + 1)) (c - (k + 1)))) b (rest.drop (k + 1)) false) := by
              by_cases hce : c = k + 1
              · rw [if_pos hce]; exact Rd.cutAll HV.out k0 (by omega)
              · rw [if_neg hce]; exact Rd.cut HV.out k0 HXV.out hc hm (by omega)
            by_cases hce : c = k + 1
            · rw [if_pos hce] at hend
              have hce2 : rest.length ≤ k + 1 := by omega
              by_cases hk0 : k = 0
              · have k4 : ¬ (0 : Int) < (k : Int) := by omega
                clear hk0 hz hbig
                go_wp2_with fail
                go_ret
                refine ⟨numGood HB.out rfl ?_, hBV.set _ _⟩
                first
                  | exact hend.out
                  | (have e9 : rest.length - (k + 1) = 0 := by omega
                     rw [e9]; exact hend.out)
              · have k4 : (0 : Int) < (k : Int) := by omega
                have d3 : ((x : Int) == 0) = false := by rw [beq_eq_false_iff_ne]; omega
                clear hk0 hz hbig
                go_wp2_with fail
                go_ret
                refine ⟨numGood HB.out rfl ?_, hBV.set _ _⟩
                first
                  | exact hend.out
                  | (have e9 : rest.length - (k + 1) = 0 := by omega
                     rw [e9]; exact hend.out)
            · rw [if_neg hce] at hend
              by_cases hk0 : k = 0
              · have k4 : ¬ (0 : Int) < (k : Int) := by omega
                clear hk0 hz hbig
                go_wp2_with fail
                go_ret
                exact ⟨numGood HB.out rfl hend.out, hBV.set _ _⟩
              · have k4 : (0 : Int) < (k : Int) := by omega
                have d3 : ((x : Int) == 0) = false := by rw [beq_eq_false_iff_ne]; omega
                clear hk0 hz hbig
                go_wp2_with fail
                go_ret
                exact ⟨numGood HB.out rfl hend.out, hBV.set _ _⟩
    · have hke : k = rest.length := by omega
      have hrd : rd 0 0 rest = none := by
        rw [HD.out, hke]
        rw [List.drop_eq_nil_of_le (Nat.le_refl _), rd]
      have HRD := Lib.hid hrd
      have i1 : ¬ (k : Int) < (((rest.length : Nat)) : Int) := by omega
      clear hrd hlt hke hk
      go_wp2_with fail
      refine (rdBadT b _ _ _ HV.out).mono ?_
      rintro e w2 ⟨rfl, hw2, hb2⟩
      go_wp2_with fail
      go_ret
      exact ⟨numBad HRD.out rfl hw2, hBV.trans hb2⟩
set_option maxHeartbeats 2000000 in
set_option maxRecDepth 10000 in
theorem octNumLT (b : Nat) (rest : List Nat) (w : World) (hl : rest.length ≤ 1000000) (h256 : ∀ x ∈ rest, x < 256) (hr : Rd w b rest false) (hS : 9 < rest.length) :
  Calls Tryz.prog 34 #[.pointer (some ⟨b, 0, none⟩)] w fun e w' => NumPost w' b e (rd 0 0 rest) ∧ Tch b w w' := by
 obtain ⟨A, c, h0, hc, hm, hx⟩ := hr.row
 have f0 := hr.free 0
 have hlow := hr.low
 have HR := Lib.hid hr
 have HX := Lib.hid hx
 have H256 := Lib.hid h256
 have hm2 := hm
 unfold maxLen at hm2
 have g1 : (((9 : Nat)) : Int) ≤ (c : Int) := by omega
 have g2 : ¬ (rest.length : Int) ≤ 9 := by omega
 clear hr hx h256
 go_enter Tryz.func34, Tryz.ntmps34
 go_wp2_with fail
 go_quiet (fail)
 generalize hV : w.drewN nq = V
 have k0 : V.cell? ⟨b, 0, none⟩ = some (.slice A rest.length c) := by subst hV; exact h0
 have z0 : V.frozen? ⟨b, 0, none⟩ = false := by subst hV; exact f0
 have HV : Hid (Rd V b rest false) := by subst hV; exact Lib.hid ⟨HR.out.row, HR.out.flag, HR.out.free, HR.out.low⟩
 have HXV : Hid (Cells V b A rest.length c 1 (flatU rest)) := by subst hV; exact HX
 have hBV : Tch b w V := by subst hV; exact Tch.of_fresh b (b_drewN (Below.refl _ _))
 clear hV
 go_wp2_with fail
 go_loop [3, 20] (fun n i => ∃ k acc : Nat, k ≤ 9 ∧ i = .int .i64 k ∧ n = .int .i64 acc ∧ Hid (acc < 128 ^ k) ∧ Hid (rd 0 0 rest = rd k acc (rest.drop k))) (fun _ i => 9 - (intOf i).toNat)
 case atStart => exact ⟨0, 0, by omega, rfl, rfl, Lib.hid (by simp), Lib.hid rfl⟩
 case round =>
  obtain ⟨k, acc, hk, rfl, rfl, HA, HD⟩ := hrel
  by_cases hlt : k < 9
  ·
   have hkl : k < rest.length := by omega
   have hu : (flatU rest)[k]? = some (.int .u8 (rest[k] : Nat)) := by simp [flatU, hkl]
   obtain ⟨ab, ao, rfl, hab, hcell⟩ := HXV.out.2.2 k _ hu
   have hx256 : rest[k] < 256 := H256.out _ (List.getElem_mem _)
   have hdr : rest.drop k = rest[k] :: rest.drop (k + 1) := List.drop_eq_getElem_cons hkl
   have HDR := Lib.hid hdr
   clear hu hdr
   generalize rest[k] = x at *
   have hk8 : k ≤ 8 := by omega
   have i1 : (k : Int) < (((9 : Nat)) : Int) := by omega
   have i2 : (k : Int) ≤ 8 := by omega
   have ha := andNot128 hx256
   obtain ⟨N, hN⟩ : ∃ N, N = acc + x % 128 * 128 ^ k := ⟨_, rfl⟩
   have hor := orI (x := x) hk8 HA.out
   rw [← hN] at hor
   have hor2 : bits BinOp.or IntKind.i64 (acc : Int) (wrap64 ((x : Int) % 128 * 2 ^ (7 * k))) = (N : Int) := by rw [show wrap64 ((x : Int) % 128 * 2 ^ (7 * k)) = IntKind.i64.wrap ((x : Int) % 128 * 2 ^ (7 * k)) from by unfold wrap64; exact (IntKind.wrap_i64 _).symm]; exact hor
   have HN := Lib.hid hN
   have hN63 : N < 9223372036854775808 := by
    have h1 := HA.out
    have h2 : 128 ^ k ≤ 128 ^ 8 := Nat.pow_le_pow_right (by decide) hk8
    have h3 : x % 128 ≤ 127 := by omega
    have h4 := Nat.mul_le_mul h3 h2
    have h5 : 127 * 128 ^ 8 + 128 ^ 8 ≤ 9223372036854775808 := by decide
    omega
   have hcc : (k : Int) + 1 ≤ (rest.length : Int) := by omega
   have hcc2 : (k : Int) + 1 ≤ (c : Int) := by omega
   have hcc3 : (rest.length : Int) ≤ (c : Int) := by omega
   clear hN
   by_cases h128 : 128 ≤ x
   ·
    have hb := and128_yes hx256 h128
    go_wp2_with fail
    have hrd : rd 0 0 rest = rd (k + 1) N (rest.drop (k + 1)) := by rw [HD.out, HDR.out, rd, if_neg (by omega), if_pos h128, HN.out]
    have hlt2 : N < 128 ^ (k + 1) := by
     have h1 := HN.out
     have h2 := HA.out
     have h3 : x % 128 ≤ 127 := by omega
     have h4 := Nat.mul_le_mul_right (128 ^ k) h3
     rw [Nat.pow_succ]; omega
    go_round
    case rel => exact ⟨k + 1, N, by omega, by go_num, rfl, Lib.hid hlt2, Lib.hid hrd⟩
    case measure => simp [intOf]; omega
   ·
    have hb := and128_no hx256 h128
    have hxm : x % 128 = x := by omega
    have hrd : rd 0 0 rest = if (0 < k ∧ x = 0) ∨ 4611686018427387904 < N then none else some (N, rest.drop (k + 1)) := by
     rw [HD.out, HDR.out, rd, if_neg (by omega), if_neg h128, HN.out, hxm]
    have HRD := Lib.hid hrd
    clear hrd hxm
    by_cases hz : 0 < k ∧ x = 0
    ·
     obtain ⟨z1, z2⟩ := hz
     have k4 : (0 : Int) < (k : Int) := by omega
     have d3 : ((x : Int) == 0) = true := by subst z2; rfl
     have HB : Hid (rd 0 0 rest = none) := Lib.hid (by rw [HRD.out, if_pos (Or.inl ⟨z1, z2⟩)])
     clear z2
     go_wp2_with fail
     refine (rdBadT b _ _ _ HV.out).mono ?_
     rintro e w2 ⟨rfl, hw2, hb2⟩
     go_wp2_with fail
     go_ret
     exact ⟨numBad HB.out rfl hw2, hBV.trans hb2⟩
    ·
     by_cases hbig : 4611686018427387904 < N
     ·
      have d4 : (4611686018427387904 : Int) < (N : Int) := by omega
      have HB : Hid (rd 0 0 rest = none) := Lib.hid (by rw [HRD.out, if_pos (Or.inr hbig)])
      by_cases hk0 : k = 0
      ·
       have k4 : ¬ (0 : Int) < (k : Int) := by omega
       clear hk0 hz
       go_wp2_with fail
       refine (rdBadT b _ _ _ HV.out).mono ?_
       rintro e w2 ⟨rfl, hw2, hb2⟩
       go_wp2_with fail
       go_ret
       exact ⟨numBad HB.out rfl hw2, hBV.trans hb2⟩
      ·
       have k4 : (0 : Int) < (k : Int) := by omega
       have d3 : ((x : Int) == 0) = false := by rw [beq_eq_false_iff_ne]; omega
       clear hk0 hz
       go_wp2_with fail
       refine (rdBadT b _ _ _ HV.out).mono ?_
       rintro e w2 ⟨rfl, hw2, hb2⟩
       go_wp2_with fail
       go_ret
       exact ⟨numBad HB.out rfl hw2, hBV.trans hb2⟩
     ·
      have d4 : ¬ (4611686018427387904 : Int) < (N : Int) := by omega
      have HB : Hid (rd 0 0 rest = some (N, rest.drop (k + 1))) := Lib.hid (by rw [HRD.out, if_neg (by omega)])
      have hend : Hid (Rd (V.setCell ⟨b, 0, none⟩ (if c = k + 1 then .slice (some ⟨ab, ao, none⟩) 0 0 else .slice (some ⟨ab, ao + (k + 1), none⟩) (rest.length - (k + 1)) (c - (k + 1)))) b (rest.drop (k + 1)) false) := by
       by_cases hce : c = k + 1
       · rw [if_pos hce]; exact Rd.cutAll HV.out k0 (by omega)
       · rw [if_neg hce]; exact Rd.cut HV.out k0 HXV.out hc hm (by omega)
      have hce : ¬ c = k + 1 := by omega
      ·
       rw [if_neg hce] at hend
       by_cases hk0 : k = 0
       ·
        have k4 : ¬ (0 : Int) < (k : Int) := by omega
        clear hk0 hz hbig
        go_wp2_with fail
        go_ret
        exact ⟨numGood HB.out rfl hend.out, hBV.set _ _⟩
       ·
        have k4 : (0 : Int) < (k : Int) := by omega
        have d3 : ((x : Int) == 0) = false := by rw [beq_eq_false_iff_ne]; omega
        clear hk0 hz hbig
        go_wp2_with fail
        go_ret
        exact ⟨numGood HB.out rfl hend.out, hBV.set _ _⟩
  ·
   have hke : k = 9 := by omega
   have hrd : rd 0 0 rest = none := by
    rw [HD.out, hke]
    rw [List.drop_eq_getElem_cons (by omega), rd, if_pos (by omega)]
   have HRD := Lib.hid hrd
   have i1 : ¬ (k : Int) < (((9 : Nat)) : Int) := by omega
   clear hrd hlt hke hk
   go_wp2_with fail
   refine (rdBadT b _ _ _ HV.out).mono ?_
   rintro e w2 ⟨rfl, hw2, hb2⟩
   go_wp2_with fail
   go_ret
   exact ⟨numBad HRD.out rfl hw2, hBV.trans hb2⟩
theorem octNumT (b : Nat) (rest : List Nat) (w : World) (hl : rest.length ≤ 1000000) (h256 : ∀ x ∈ rest, x < 256) (hr : Rd w b rest false) :
  Calls Tryz.prog 34 #[.pointer (some ⟨b, 0, none⟩)] w fun e w' => NumPost w' b e (rd 0 0 rest) ∧ Tch b w w' := by
 by_cases h : rest.length ≤ 9
 · exact octNumST b rest w hl h256 hr h
 · exact octNumLT b rest w hl h256 hr (by omega)
set_option maxHeartbeats 1000000 in
set_option maxRecDepth 10000 in
theorem octNumErrT (b : Nat) (w : World) (hr : Rd w b [] true) :
  Calls Tryz.prog 34 #[.pointer (some ⟨b, 0, none⟩)] w fun e w' => e = .returned (.int .i64 0) ∧ Rd w' b [] true ∧ Tch b w w' := by
 obtain ⟨A, c, h0, hc, hm, hx⟩ := hr.row
 simp only [List.length_nil] at h0
 have hc0 : (0 : Int) ≤ (c : Int) := by omega
 have HR := Lib.hid hr
 clear hr hx
 go_enter Tryz.func34, Tryz.ntmps34
 go_wp2_with fail
 go_quiet (fail)
 generalize hV : w.drewN nq = V
 have HV : Hid (Rd V b [] true) := by subst hV; exact Lib.hid ⟨HR.out.row, HR.out.flag, HR.out.free, HR.out.low⟩
 have hBV : Tch b w V := by subst hV; exact Tch.of_fresh b (b_drewN (Below.refl _ _))
 clear hV
 go_wp2_with fail
 go_loop [3, 20] (fun n i => i = .int .i64 0) (fun _ i => 0)
 case atStart => rfl
 case round =>
  obtain rfl := hrel
  go_wp2_with fail
  refine (rdBadT b _ _ _ HV.out).mono ?_
  rintro e w2 ⟨rfl, hw2, hb2⟩
  go_wp2_with fail
  go_ret
  exact ⟨rfl, hw2, hBV.trans hb2⟩
theorem octNxT (b : Nat) (st : Option (List Nat)) (w : World) (hr : RS w b st) :
  Calls Tryz.prog 34 #[.pointer (some ⟨b, 0, none⟩)] w fun e w' => e = .returned (.int .i64 (nx st).1) ∧ RS w' b (nx st).2 ∧ Tch b w w' := by
 cases st with
 | none => exact (octNumErrT b w hr.rd).mono fun e w' ⟨he, h1, h2⟩ => ⟨he, RS.bad h1, h2⟩
 | some r => exact (octNumT b r w (Nat.le_trans hr.len (by decide)) hr.byt hr.rd).mono fun e w' ⟨hp, hb⟩ => ⟨(numPost_of hr.len hr.byt hp).1, (numPost_of hr.len hr.byt hp).2, hb⟩
set_option maxHeartbeats 2000000 in
set_option maxRecDepth 10000 in
theorem octRaw1T (b n : Nat) (r : List Nat) (w : World) (hl : r.length ≤ 1000000) (hr : Rd w b r false) (hn : n ≤ r.length) :
  Calls Tryz.prog 103 #[.pointer (some ⟨b, 0, none⟩), .int .i64 n] w fun e w' => ∃ v', e = .returned v' ∧ w'.ownsRow w.heap.size 5 1 v' (r.take n).length (flatU (r.take n)) ∧ Rd w' b (r.drop n) false ∧ Tch b w w' := by
 obtain ⟨A, c, h0, hc, hm, hx⟩ := hr.row
 have hlow := hr.low
 have f0 := hr.free 0
 have HR := Lib.hid hr
 have HX := Lib.hid hx
 have hlt : (r.take n).length = n := by rw [List.length_take]; omega
 have HLT := Lib.hid hlt
 have k0 : ¬ ((n : Int) < 0) := by omega
 have k1 : ¬ ((r.length : Int) < (n : Int)) := by omega
 have k2 : (n : Int) ≤ (r.length : Int) := by omega
 have k3 : (n : Int) ≤ (c : Int) := by omega
 have k4 : (0 : Int) ≤ (n : Int) := by omega
 cases A with
 | none =>
  obtain ⟨hr0, hc0⟩ := hx.2.1 rfl
  have hr1 : r = [] := List.eq_nil_of_length_eq_zero hr0
  subst hr1
  obtain rfl : n = 0 := by simpa using hn
  subst hc0
  simp only [List.length_nil] at *
  clear hx hr
  go_enter Tryz.func103, Tryz.ntmps103
  go_wp2_with fail
  refine (octClone0 _ _ _).mono ?_
  rintro e w1 ⟨rfl, rfl⟩
  go_wp2_with fail
  go_ret
  refine ⟨_, rfl, World.ownsRow_nil _ _ _ _, ?_, (Tch.refl b _).set _ _⟩
  exact ⟨⟨none, 0, c_set_same (h_of h0), Nat.le_refl _, hm, ⟨rfl, fun _ => ⟨rfl, rfl⟩, fun j u hu => by simp [flatU] at hu⟩⟩, c_set_other (Or.inr (by decide)) HR.out.flag, fun j => f_set (HR.out.free j), by simpa [World.setCell] using hlow⟩
 | some ad =>
  obtain ⟨ab, ao, sp⟩ := ad
  have hsp : sp = none ∨ r = [] := by
   cases r with
   | nil => exact .inr rfl
   | cons x t =>
    obtain ⟨b', o', e, _, _⟩ := hx.2.2 0 (.int .u8 x) rfl
    injection e with e; injection e with e1 e2 e3
    exact .inl e3
  have HC := Lib.hid (cells_mono (cells_takeO hx hn c) (Nat.le_of_lt hlow))
  clear hx hr
  by_cases hcn : n = c
  ·
   subst hcn
   have hrl : r.length = n := by omega
   go_enter Tryz.func103, Tryz.ntmps103
   go_wp2_with fail
   refine (octClone1 _ n _ _ _ (by omega) HC.out (flatU_one _)).mono ?_
   rintro e w1 ⟨v1, rfl, hown1, hb1⟩
   have c1 := bkeep hb1 h0 hlow
   have g1 := bfree hb1 f0 hlow
   have R1 := HR.out.touchBelow hb1 hlow
   have HO := Lib.hid hown1
   have HX1 := Lib.hid (cells_keep HX.out (hb1.mono (Nat.le_of_lt hlow)) (Nat.le_refl _))
   clear hown1 HC
   go_wp2_with fail
   go_ret
   refine ⟨_, rfl, by rw [HLT.out]; exact row_set HO.out hlow _, Rd.cutAll R1 c1 (by omega), (Tch.of_fresh b hb1).set _ _⟩
  ·
   have q1 : ¬ c = n := fun e => hcn e.symm
   go_enter Tryz.func103, Tryz.ntmps103
   go_wp2_with fail
   refine (octClone1 _ n _ _ _ (by omega) HC.out (flatU_one _)).mono ?_
   rintro e w1 ⟨v1, rfl, hown1, hb1⟩
   have c1 := bkeep hb1 h0 hlow
   have g1 := bfree hb1 f0 hlow
   have R1 := HR.out.touchBelow hb1 hlow
   have HO := Lib.hid hown1
   have HX1 := Lib.hid (cells_keep HX.out (hb1.mono (Nat.le_of_lt hlow)) (Nat.le_refl _))
   clear hown1 HC
   go_wp2_with fail
   go_ret
   rcases hsp with rfl | rfl
   · exact ⟨_, rfl, by rw [HLT.out]; exact row_set HO.out hlow _, by rw [add_none]; exact Rd.cut R1 c1 HX1.out hc hm hn, (Tch.of_fresh b hb1).set _ _⟩
   ·
    obtain rfl : n = 0 := by simpa using hn
    refine ⟨_, rfl, row_set HO.out hlow _, ?_, (Tch.of_fresh b hb1).set _ _⟩
    exact ⟨⟨_, _, c_set_same (h_of c1), by simp, by omega, ⟨rfl, (fun e => by cases e), fun j u hu => by simp [flatU] at hu⟩⟩, c_set_other (Or.inr (by decide)) R1.flag, fun j => f_set (R1.free j), by simpa [World.setCell] using R1.low⟩
set_option maxHeartbeats 1000000 in
theorem octRawErrT (b : Nat) (w : World) (hr : Rd w b [] true) :
  Calls Tryz.prog 103 #[.pointer (some ⟨b, 0, none⟩), .int .i64 0] w fun e w' => ∃ v', e = .returned v' ∧ w'.ownsRow w.heap.size 5 1 v' 0 [] ∧ Rd w' b [] true ∧ Tch b w w' := by
 obtain ⟨A, c, h0, hc, hm, hx⟩ := hr.row
 have hlow := hr.low
 have f0 := hr.free 0
 have HR := Lib.hid hr
 have HX := Lib.hid hx
 simp only [List.length_nil] at h0
 cases A with
 | none =>
  obtain ⟨_, hc0⟩ := hx.2.1 rfl
  subst hc0
  clear hx hr
  go_enter Tryz.func103, Tryz.ntmps103
  go_wp2_with fail
  refine (octClone0 _ _ _).mono ?_
  rintro e w1 ⟨rfl, rfl⟩
  go_wp2_with fail
  go_ret
  refine ⟨_, rfl, World.ownsRow_nil _ _ _ _, ?_, (Tch.refl b _).set _ _⟩
  exact ⟨⟨none, 0, c_set_same (h_of h0), Nat.le_refl _, hm, ⟨rfl, fun _ => ⟨rfl, rfl⟩, fun j u hu => by simp [flatU] at hu⟩⟩, c_set_other (Or.inr (by decide)) HR.out.flag, fun j => f_set (HR.out.free j), by simpa [World.setCell] using hlow⟩
 | some ad =>
  have HC : Hid (Cells w w.heap.size (some ad) 0 c 1 (flatU [])) := Lib.hid ⟨rfl, (fun e => by cases e), fun j u hu => by simp [flatU] at hu⟩
  clear hx hr
  by_cases hcn : c = 0
  ·
   subst hcn
   go_enter Tryz.func103, Tryz.ntmps103
   go_wp2_with fail
   refine (octClone1 _ 0 _ _ _ (by omega) HC.out (flatU_one _)).mono ?_
   rintro e w1 ⟨v1, rfl, hown1, hb1⟩
   have c1 := bkeep hb1 h0 hlow
   have g1 := bfree hb1 f0 hlow
   have R1 := HR.out.touchBelow hb1 hlow
   have HO := Lib.hid hown1
   clear hown1 HC
   go_wp2_with fail
   go_ret
   refine ⟨_, rfl, row_set HO.out hlow _, ?_, (Tch.of_fresh b hb1).set _ _⟩
   exact ⟨⟨_, _, c_set_same (h_of c1), by simp, by unfold maxLen; omega, ⟨rfl, (fun e => by cases e), fun j u hu => by simp [flatU] at hu⟩⟩, c_set_other (Or.inr (by decide)) R1.flag, fun j => f_set (R1.free j), by simpa [World.setCell] using R1.low⟩
  ·
   have q1 : 0 < (c : Int) := by omega
   go_enter Tryz.func103, Tryz.ntmps103
   go_wp2_with fail
   refine (octClone1 _ 0 _ _ _ (by omega) HC.out (flatU_one _)).mono ?_
   rintro e w1 ⟨v1, rfl, hown1, hb1⟩
   have c1 := bkeep hb1 h0 hlow
   have g1 := bfree hb1 f0 hlow
   have R1 := HR.out.touchBelow hb1 hlow
   have HO := Lib.hid hown1
   clear hown1 HC
   go_wp2_with fail
   go_ret
   refine ⟨_, rfl, row_set HO.out hlow _, ?_, (Tch.of_fresh b hb1).set _ _⟩
   exact ⟨⟨_, _, c_set_same (h_of c1), by simp, by omega, ⟨rfl, (fun e => by cases e), fun j u hu => by simp [flatU] at hu⟩⟩, c_set_other (Or.inr (by decide)) R1.flag, fun j => f_set (R1.free j), by simpa [World.setCell] using R1.low⟩
set_option maxHeartbeats 1000000 in
theorem octRawNoT (b n : Nat) (r : List Nat) (w : World) (hr : Rd w b r false) (hn : r.length < n) (hl : r.length ≤ 1000000) :
  Calls Tryz.prog 103 #[.pointer (some ⟨b, 0, none⟩), .int .i64 n] w fun e w' => e = .returned (.slice none 0 0) ∧ Rd w' b [] true ∧ Tch b w w' := by
 obtain ⟨A, c, h0, hc, hm, hx⟩ := hr.row
 have HR := Lib.hid hr
 have k0 : ¬ ((n : Int) < 0) := by omega
 have k1 : ((r.length : Int) < (n : Int)) := by omega
 clear hx hr
 go_enter Tryz.func103, Tryz.ntmps103
 go_wp2_with fail
 refine (rdBadT b _ _ _ HR.out).mono ?_
 rintro e w1 ⟨rfl, hr1, hb1⟩
 have HR1 := Lib.hid hr1
 clear hr1
 go_wp2_with fail
 go_ret
 exact ⟨rfl, HR1.out, hb1⟩
set_option maxHeartbeats 1000000 in
theorem octNbT (b : Nat) (st : Option (List Nat)) (w : World) (hr : RS w b st) :
  Calls Tryz.prog 78 #[.pointer (some ⟨b, 0, none⟩)] w fun e w' => ∃ v', e = .returned v' ∧ w'.ownsRow w.heap.size 5 1 v' (nb st).1.length (flatU (nb st).1) ∧ RS w' b (nb st).2 ∧ Tch b w w' := by
 have hlow := hr.low
 have HR := Lib.hid hr
 clear hr
 go_enter Tryz.func78, Tryz.ntmps78
 go_wp2_with fail
 refine (octNxT b st _ HR.out).mono ?_
 rintro e w1 ⟨rfl, hr1, hb1⟩
 have hs1 := hb1.size
 have hnb := nx_le st
 cases h2 : (nx st).2 with
 | none =>
  have hn : (nx st).1 = 0 := by
   cases st with
   | none => rfl
   | some r => simp only [nx] at h2 ⊢; cases h : rd 0 0 r with | none => rfl | some p => rw [h] at h2; cases h2
  have hv : nb st = ([], none) := by
   unfold nb
   rw [show nx st = ((nx st).1, (nx st).2) from rfl, h2]
  rw [h2] at hr1
  have HR1 := Lib.hid hr1
  have HV := Lib.hid hv
  rw [hn]
  clear hr1 hv hn h2 hnb
  go_wp2_with fail
  refine (octRawErrT b _ HR1.out.rd).mono ?_
  rintro e w2 ⟨v2, rfl, hown2, hr2, hb2⟩
  have HO := Lib.hid (World.ownsRow.mono hown2 hs1)
  have HR2 := Lib.hid hr2
  clear hown2 hr2
  go_wp2_with fail
  go_ret
  rw [HV.out]
  exact ⟨_, rfl, HO.out, RS.bad HR2.out, hb1.trans hb2⟩
 | some r =>
  rw [h2] at hr1
  have hlr := hr1.len
  simp only [Option.getD_some] at hlr
  have hbr := hr1.byt
  simp only [Option.getD_some] at hbr
  generalize hN : (nx st).1 = N at *
  have HR1 := Lib.hid hr1
  by_cases hle : N ≤ r.length
  ·
   have hv : nb st = (r.take N, some (r.drop N)) := by
    unfold nb
    rw [show nx st = ((nx st).1, (nx st).2) from rfl, h2, hN]
    simp only; rw [if_pos hle]
   have HV := Lib.hid hv
   have HBR := Lib.hid hbr
   clear hr1 hv h2 hnb hbr
   go_wp2_with fail
   refine (octRaw1T b N r _ (by omega) HR1.out.rd hle).mono ?_
   rintro e w2 ⟨v2, rfl, hown2, hr2, hb2⟩
   have HO := Lib.hid (World.ownsRow.mono hown2 hs1)
   have HR2 := Lib.hid hr2
   clear hown2 hr2
   go_wp2_with fail
   go_ret
   rw [HV.out]
   exact ⟨_, rfl, HO.out, RS.of HR2.out (by rw [List.length_drop]; omega) (fun x hx => HBR.out x (List.mem_of_mem_drop hx)), hb1.trans hb2⟩
  ·
   have hv : nb st = ([], none) := by
    unfold nb
    rw [show nx st = ((nx st).1, (nx st).2) from rfl, h2, hN]
    simp only; rw [if_neg hle]
   have HV := Lib.hid hv
   clear hr1 hv h2 hnb hbr
   go_wp2_with fail
   refine (octRawNoT b N r _ HR1.out.rd (by omega) (by omega)).mono ?_
   rintro e w2 ⟨rfl, hr2, hb2⟩
   have HR2 := Lib.hid hr2
   clear hr2
   go_wp2_with fail
   go_ret
   rw [HV.out]
   exact ⟨_, rfl, World.ownsRow_nil _ _ _ _, RS.bad HR2.out, hb1.trans hb2⟩
end Go.Proofs.YtdlbiobjnohfbaaGreat
