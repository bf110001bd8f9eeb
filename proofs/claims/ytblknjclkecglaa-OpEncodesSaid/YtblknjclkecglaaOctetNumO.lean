/- octet's Reader: Num. -/
import Derived.Test.YtblknjclkecglaaOctetNum
namespace Go.Proofs.Ytblknjclkecglaa
open Go.RowKit
set_option linter.unusedVariables false
set_option linter.unusedSimpArgs false

theorem wraps_i64_63 (n : Int) (h₀ : 0 ≤ n) (h₁ : n < 2 ^ 63) : IntKind.i64.wrap n = n := by
  have : (9223372036854775808 : Int) = 2 ^ 63 := by decide
  exact IntWalk.i64_in n (by omega)
theorem orI {k acc x : Nat} (hk : k ≤ 8) (hacc : acc < 128 ^ k) :
    bits BinOp.or IntKind.i64 (acc : Int) (IntKind.i64.wrap ((x : Int) % 128 * 2 ^ (7 * k))) = ((acc + x % 128 * 128 ^ k : Nat) : Int) := by
  have hy := small_shift (x := x) hk
  have hp : 128 ^ k ≤ 128 ^ 8 := Nat.pow_le_pow_right (by decide) hk
  have hp8 : 128 ^ 8 < 9223372036854775808 := by decide
  have h64 : (9223372036854775808 : Int) = 2 ^ 63 := by decide
  have h7 : ((2 : Int) ^ (7 * k)) = ((128 ^ k : Nat) : Int) := by rw [pow128]; push_cast; rfl
  have g1 : ((x % 128 * 128 ^ k : Nat) : Int) < 2 ^ 63 := by rw [← h64]; omega
  have g2 : (acc : Int) < 2 ^ 63 := by rw [← h64]; omega
  have g3 : (acc : Int) < 2 ^ (7 * k) := by rw [h7]; omega
  have g4 : ((x % 128 * 128 ^ k : Nat) : Int) % 2 ^ (7 * k) = 0 := by rw [h7, ← Int.natCast_emod, Nat.mul_mod_left]; rfl
  rw [cast_shift, wraps_i64_63 _ (by omega) g1, bits_join_low .i64 63 (by decide) wraps_i64_63 (7 * k) (acc : Int) _ (by omega) g3 g2 (by omega) g4 g1]
  push_cast; rfl
theorem andNot128_all : ∀ x : Fin 256, bits BinOp.andNot IntKind.u8 ((x.val : Nat) : Int) 128 = ((x.val % 128 : Nat) : Int) := by decide +kernel
theorem andNot128 {x : Nat} (h : x < 256) : bits BinOp.andNot IntKind.u8 (x : Int) 128 = (x : Int) % 128 := by
  have := andNot128_all ⟨x, h⟩
  simp only at this
  rw [this]; omega
theorem and128_all : ∀ x : Fin 256, bits BinOp.and IntKind.u8 ((x.val : Nat) : Int) 128 = if 128 ≤ x.val then 128 else 0 := by decide +kernel
theorem and128_yes {x : Nat} (h : x < 256) (h1 : 128 ≤ x) : bits BinOp.and IntKind.u8 (x : Int) 128 = 128 := by
  have := and128_all ⟨x, h⟩
  simp only at this
  rw [this, if_pos h1]
theorem and128_no {x : Nat} (h : x < 256) (h1 : ¬ 128 ≤ x) : bits BinOp.and IntKind.u8 (x : Int) 128 = 0 := by
  have := and128_all ⟨x, h⟩
  simp only at this
  rw [this, if_neg h1]

theorem cells_drop {w : World} {b o n c i B : Nat} {xs : List Nat} (h : Cells w B (some ⟨b, o, none⟩) n c 1 (flatU xs)) (hi : i ≤ n) (c' : Nat) : Cells w B (some ⟨b, o + i, none⟩) (n - i) c' 1 (flatU (xs.drop i)) := by
  have hl := h.1
  rw [flatU_length, Nat.mul_one] at hl
  refine ⟨by rw [flatU_length, List.length_drop]; omega, (fun e => by cases e), fun k u hu => ?_⟩
  obtain ⟨b', o', e, hb, hc⟩ := h.2.2 (i + k) u (by
    simp only [flatU, List.getElem?_map, List.getElem?_drop] at hu ⊢
    exact hu)
  injection e with e; injection e with e1 e2 e3; subst e1 e2
  exact ⟨b, o + i, rfl, hb, by rw [Nat.add_assoc]; exact hc⟩
theorem Rd.cut {w : World} {b ab ao c i : Nat} {rest : List Nat} (h : Rd w b rest false) (hs : w.cell? ⟨b, 0, none⟩ = some (.slice (some ⟨ab, ao, none⟩) rest.length c)) (hx : Cells w b (some ⟨ab, ao, none⟩) rest.length c 1 (flatU rest)) (hc : rest.length ≤ c) (hm : c ≤ maxLen) (hi : i ≤ rest.length) :
    Rd (w.setCell ⟨b, 0, none⟩ (.slice (some ⟨ab, ao + i, none⟩) (rest.length - i) (c - i))) b (rest.drop i) false := by
  refine ⟨⟨some ⟨ab, ao + i, none⟩, c - i, by rw [List.length_drop]; exact c_set_same (h_of hs), by rw [List.length_drop]; omega, by omega, ?_⟩, c_set_other (Or.inr (by decide)) h.flag, fun j => f_set (h.free j), by have := h.low; simpa [World.setCell] using this⟩
  rw [List.length_drop]
  have h2 := cells_drop hx hi (c - i)
  exact ⟨h2.1, h2.2.1, fun j u hu => by obtain ⟨q, o, e, hq, hc⟩ := h2.2.2 j u hu; exact ⟨q, o, e, hq, c_set_other (Or.inl (by omega)) hc⟩⟩
theorem Rd.cutAll {w : World} {b c : Nat} {ad : Addr} {rest : List Nat} {i : Nat} (h : Rd w b rest false) (hs : w.cell? ⟨b, 0, none⟩ = some (.slice (some ad) rest.length c)) (hi : rest.length ≤ i) :
    Rd (w.setCell ⟨b, 0, none⟩ (.slice (some ad) 0 0)) b (rest.drop i) false := by
  rw [List.drop_eq_nil_of_le hi]
  exact ⟨⟨some ad, 0, by simp only [List.length_nil]; exact c_set_same (h_of hs), Nat.le_refl _, by unfold maxLen; omega, rfl, (fun e => by cases e), fun j u hu => by simp [flatU] at hu⟩, c_set_other (Or.inr (by decide)) h.flag, fun j => f_set (h.free j), by have := h.low; simpa [World.setCell] using this⟩

set_option maxHeartbeats 2000000 in
set_option maxRecDepth 10000 in
theorem octNumS (b : Nat) (rest : List Nat) (w : World) (hl : rest.length ≤ 1000000) (h256 : ∀ x ∈ rest, x < 256) (hr : Rd w b rest false) (hS : rest.length ≤ 9) :
    Calls Try.prog 39 #[.pointer (some ⟨b, 0, none⟩)] w fun e w' => NumPost w' b e (rd 0 0 rest) ∧ Below b w w' := by
  obtain ⟨A, c, h0, hc, hm, hx⟩ := hr.row
  have f0 := hr.free 0
  have hlow := hr.low
  have HR := Lib.hid hr
  have HX := Lib.hid hx
  have H256 := Lib.hid h256
  have hm2 := hm
  unfold maxLen at hm2
  have g1 : (((rest.length : Nat)) : Int) ≤ (c : Int) := by omega
  have g2 : (rest.length : Int) ≤ 9 := by omega
  clear hr hx h256
  go_enter Try.func39, Try.ntmps39
  go_wp2_with fail
  go_quiet (fail)
  generalize hV : w.drewN nq = V
  have k0 : V.cell? ⟨b, 0, none⟩ = some (.slice A rest.length c) := by subst hV; exact h0
  have z0 : V.frozen? ⟨b, 0, none⟩ = false := by subst hV; exact f0
  have HV : Hid (Rd V b rest false) := by subst hV; exact Lib.hid ⟨HR.out.row, HR.out.flag, HR.out.free, HR.out.low⟩
  have HXV : Hid (Cells V b A rest.length c 1 (flatU rest)) := by subst hV; exact HX
  have hBV : Below b w V := by subst hV; exact b_drewN (Below.refl _ _)
  clear hV
  go_wp2_with fail
  go_loop [3, 20] (fun n i => ∃ k acc : Nat, k ≤ rest.length ∧ i = .int .i64 k ∧ n = .int .i64 acc ∧ Hid (acc < 128 ^ k) ∧ Hid (rd 0 0 rest = rd k acc (rest.drop k))) (fun _ i => rest.length - (intOf i).toNat)
  case atStart => exact ⟨0, 0, by omega, rfl, rfl, Lib.hid (by simp), Lib.hid rfl⟩
  case round =>
    obtain ⟨k, acc, hk, rfl, rfl, HA, HD⟩ := hrel
    by_cases hlt : k < rest.length
    · have hkl : k < rest.length := by omega
      have hu : (flatU rest)[k]? = some (.int .u8 (rest[k] : Nat)) := by simp [flatU, hkl]
      obtain ⟨ab, ao, rfl, hab, hcell⟩ := HXV.out.2.2 k _ hu
      have hx256 : rest[k] < 256 := H256.out _ (List.getElem_mem _)
      have hdr : rest.drop k = rest[k] :: rest.drop (k + 1) := List.drop_eq_getElem_cons hkl
      have HDR := Lib.hid hdr
      clear hu hdr
      generalize rest[k] = x at *
      have hk8 : k ≤ 8 := by omega
      have i1 : (k : Int) < (((rest.length : Nat)) : Int) := by omega
      have i2 : (k : Int) ≤ 8 := by omega
      have ha := andNot128 hx256
      obtain ⟨N, hN⟩ : ∃ N, N = acc + x % 128 * 128 ^ k := ⟨_, rfl⟩
      have hor := orI (x := x) hk8 HA.out
      rw [← hN] at hor
      have hor2 : bits BinOp.or IntKind.i64 (acc : Int) (wrap64 ((x : Int) % 128 * 2 ^ (7 * k))) = (N : Int) := by rw [show wrap64 ((x : Int) % 128 * 2 ^ (7 * k)) = IntKind.i64.wrap ((x : Int) % 128 * 2 ^ (7 * k)) from by unfold wrap64; exact (IntKind.wrap_i64 _).symm]; exact hor
      have HN := Lib.hid hN
      have hN63 : N < 9223372036854775808 := by
        have h1 := HA.out
        have h2 : 128 ^ k ≤ 128 ^ 8 := Nat.pow_le_pow_right (by decide) hk8
        have h3 : x % 128 ≤ 127 := by omega
        have h4 := Nat.mul_le_mul h3 h2
        have h5 : 127 * 128 ^ 8 + 128 ^ 8 ≤ 9223372036854775808 := by decide
        omega
      have hcc : (k : Int) + 1 ≤ (rest.length : Int) := by omega
      have hcc2 : (k : Int) + 1 ≤ (c : Int) := by omega
      have hcc3 : (rest.length : Int) ≤ (c : Int) := by omega
      clear hN
      by_cases h128 : 128 ≤ x
      · have hb := and128_yes hx256 h128
        go_wp2_with fail
        have hrd : rd 0 0 rest = rd (k + 1) N (rest.drop (k + 1)) := by rw [HD.out, HDR.out, rd, if_neg (by omega), if_pos h128, HN.out]
        have hlt2 : N < 128 ^ (k + 1) := by
          have h1 := HN.out
          have h2 := HA.out
          have h3 : x % 128 ≤ 127 := by omega
          have h4 := Nat.mul_le_mul_right (128 ^ k) h3
          rw [Nat.pow_succ]; omega
        go_round
        case rel => exact ⟨k + 1, N, by omega, by go_num, rfl, Lib.hid hlt2, Lib.hid hrd⟩
        case measure => simp [intOf]; omega
      · have hb := and128_no hx256 h128
        have hxm : x % 128 = x := by omega
        have hrd : rd 0 0 rest = if (0 < k ∧ x = 0) ∨ 4611686018427387904 < N then none else some (N, rest.drop (k + 1)) := by
          rw [HD.out, HDR.out, rd, if_neg (by omega), if_neg h128, HN.out, hxm]
        have HRD := Lib.hid hrd
        clear hrd hxm
        by_cases hz : 0 < k ∧ x = 0
        · obtain ⟨z1, z2⟩ := hz
          have k4 : (0 : Int) < (k : Int) := by omega
          have d3 : ((x : Int) == 0) = true := by subst z2; rfl
          have HB : Hid (rd 0 0 rest = none) := Lib.hid (by rw [HRD.out, if_pos (Or.inl ⟨z1, z2⟩)])
          clear z2
          go_wp2_with fail
          refine (rdBad b _ _ _ HV.out).mono ?_
          rintro e w2 ⟨rfl, hw2, hb2⟩
          go_wp2_with fail
          go_ret
          exact ⟨numBad HB.out rfl hw2, hBV.trans hb2⟩
        · by_cases hbig : 4611686018427387904 < N
          · have d4 : (4611686018427387904 : Int) < (N : Int) := by omega
            have HB : Hid (rd 0 0 rest = none) := Lib.hid (by rw [HRD.out, if_pos (Or.inr hbig)])
            by_cases hk0 : k = 0
            · have k4 : ¬ (0 : Int) < (k : Int) := by omega
              clear hk0 hz
              go_wp2_with fail
              refine (rdBad b _ _ _ HV.out).mono ?_
              rintro e w2 ⟨rfl, hw2, hb2⟩
              go_wp2_with fail
              go_ret
              exact ⟨numBad HB.out rfl hw2, hBV.trans hb2⟩
            · have k4 : (0 : Int) < (k : Int) := by omega
              have d3 : ((x : Int) == 0) = false := by rw [beq_eq_false_iff_ne]; omega
              clear hk0 hz
              go_wp2_with fail
              refine (rdBad b _ _ _ HV.out).mono ?_
              rintro e w2 ⟨rfl, hw2, hb2⟩
              go_wp2_with fail
              go_ret
              exact ⟨numBad HB.out rfl hw2, hBV.trans hb2⟩
          · have d4 : ¬ (4611686018427387904 : Int) < (N : Int) := by omega
            have HB : Hid (rd 0 0 rest = some (N, rest.drop (k + 1))) := Lib.hid (by rw [HRD.out, if_neg (by omega)])
            have hend : Hid (Rd (V.setCell ⟨b, 0, none⟩ (if c = k + 1 then .slice (some ⟨ab, ao, none⟩) 0 0 else .slice (some ⟨ab, ao + (k + 1), none⟩) (rest.length - (k + 1)) (c - (k + 1)))) b (rest.drop (k + 1)) false) := by
              by_cases hce : c = k + 1
              · rw [if_pos hce]; exact Rd.cutAll HV.out k0 (by omega)
              · rw [if_neg hce]; exact Rd.cut HV.out k0 HXV.out hc hm (by omega)
            by_cases hce : c = k + 1
            · rw [if_pos hce] at hend
              have hce2 : rest.length ≤ k + 1 := by omega
              by_cases hk0 : k = 0
              · have k4 : ¬ (0 : Int) < (k : Int) := by omega
                clear hk0 hz hbig
                go_wp2_with fail
                go_ret
                refine ⟨numGood HB.out rfl ?_, hBV.setCell (Nat.le_refl _) _⟩
                first
                  | exact hend.out
                  | (have e9 : rest.length - (k + 1) = 0 := by omega
                     rw [e9]; exact hend.out)
              · have k4 : (0 : Int) < (k : Int) := by omega
                have d3 : ((x : Int) == 0) = false := by rw [beq_eq_false_iff_ne]; omega
                clear hk0 hz hbig
                go_wp2_with fail
                go_ret
                refine ⟨numGood HB.out rfl ?_, hBV.setCell (Nat.le_refl _) _⟩
                first
                  | exact hend.out
                  | (have e9 : rest.length - (k + 1) = 0 := by omega
                     rw [e9]; exact hend.out)
            · rw [if_neg hce] at hend
              by_cases hk0 : k = 0
              · have k4 : ¬ (0 : Int) < (k : Int) := by omega
                clear hk0 hz hbig
                go_wp2_with fail
                go_ret
                exact ⟨numGood HB.out rfl hend.out, hBV.setCell (Nat.le_refl _) _⟩
              · have k4 : (0 : Int) < (k : Int) := by omega
                have d3 : ((x : Int) == 0) = false := by rw [beq_eq_false_iff_ne]; omega
                clear hk0 hz hbig
                go_wp2_with fail
                go_ret
                exact ⟨numGood HB.out rfl hend.out, hBV.setCell (Nat.le_refl _) _⟩
    · have hke : k = rest.length := by omega
      have hrd : rd 0 0 rest = none := by
        rw [HD.out, hke]
        rw [List.drop_eq_nil_of_le (Nat.le_refl _), rd]
      have HRD := Lib.hid hrd
      have i1 : ¬ (k : Int) < (((rest.length : Nat)) : Int) := by omega
      clear hrd hlt hke hk
      go_wp2_with fail
      refine (rdBad b _ _ _ HV.out).mono ?_
      rintro e w2 ⟨rfl, hw2, hb2⟩
      go_wp2_with fail
      go_ret
      exact ⟨numBad HRD.out rfl hw2, hBV.trans hb2⟩

set_option maxHeartbeats 2000000 in
set_option maxRecDepth 10000 in
theorem octNumL (b : Nat) (rest : List Nat) (w : World) (hl : rest.length ≤ 1000000) (h256 : ∀ x ∈ rest, x < 256) (hr : Rd w b rest false) (hS : 9 < rest.length) :
    Calls Try.prog 39 #[.pointer (some ⟨b, 0, none⟩)] w fun e w' => NumPost w' b e (rd 0 0 rest) ∧ Below b w w' := by
  obtain ⟨A, c, h0, hc, hm, hx⟩ := hr.row
  have f0 := hr.free 0
  have hlow := hr.low
  have HR := Lib.hid hr
  have HX := Lib.hid hx
  have H256 := Lib.hid h256
  have hm2 := hm
  unfold maxLen at hm2
  have g1 : (((9 : Nat)) : Int) ≤ (c : Int) := by omega
  have g2 : ¬ (rest.length : Int) ≤ 9 := by omega
  clear hr hx h256
  go_enter Try.func39, Try.ntmps39
  go_wp2_with fail
  go_quiet (fail)
  generalize hV : w.drewN nq = V
  have k0 : V.cell? ⟨b, 0, none⟩ = some (.slice A rest.length c) := by subst hV; exact h0
  have z0 : V.frozen? ⟨b, 0, none⟩ = false := by subst hV; exact f0
  have HV : Hid (Rd V b rest false) := by subst hV; exact Lib.hid ⟨HR.out.row, HR.out.flag, HR.out.free, HR.out.low⟩
  have HXV : Hid (Cells V b A rest.length c 1 (flatU rest)) := by subst hV; exact HX
  have hBV : Below b w V := by subst hV; exact b_drewN (Below.refl _ _)
  clear hV
  go_wp2_with fail
  go_loop [3, 20] (fun n i => ∃ k acc : Nat, k ≤ 9 ∧ i = .int .i64 k ∧ n = .int .i64 acc ∧ Hid (acc < 128 ^ k) ∧ Hid (rd 0 0 rest = rd k acc (rest.drop k))) (fun _ i => 9 - (intOf i).toNat)
  case atStart => exact ⟨0, 0, by omega, rfl, rfl, Lib.hid (by simp), Lib.hid rfl⟩
  case round =>
    obtain ⟨k, acc, hk, rfl, rfl, HA, HD⟩ := hrel
    by_cases hlt : k < 9
    · have hkl : k < rest.length := by omega
      have hu : (flatU rest)[k]? = some (.int .u8 (rest[k] : Nat)) := by simp [flatU, hkl]
      obtain ⟨ab, ao, rfl, hab, hcell⟩ := HXV.out.2.2 k _ hu
      have hx256 : rest[k] < 256 := H256.out _ (List.getElem_mem _)
      have hdr : rest.drop k = rest[k] :: rest.drop (k + 1) := List.drop_eq_getElem_cons hkl
      have HDR := Lib.hid hdr
      clear hu hdr
      generalize rest[k] = x at *
      have hk8 : k ≤ 8 := by omega
      have i1 : (k : Int) < (((9 : Nat)) : Int) := by omega
      have i2 : (k : Int) ≤ 8 := by omega
      have ha := andNot128 hx256
      obtain ⟨N, hN⟩ : ∃ N, N = acc + x % 128 * 128 ^ k := ⟨_, rfl⟩
      have hor := orI (x := x) hk8 HA.out
      rw [← hN] at hor
      have hor2 : bits BinOp.or IntKind.i64 (acc : Int) (wrap64 ((x : Int) % 128 * 2 ^ (7 * k))) = (N : Int) := by rw [show wrap64 ((x : Int) % 128 * 2 ^ (7 * k)) = IntKind.i64.wrap ((x : Int) % 128 * 2 ^ (7 * k)) from by unfold wrap64; exact (IntKind.wrap_i64 _).symm]; exact hor
      have HN := Lib.hid hN
      have hN63 : N < 9223372036854775808 := by
        have h1 := HA.out
        have h2 : 128 ^ k ≤ 128 ^ 8 := Nat.pow_le_pow_right (by decide) hk8
        have h3 : x % 128 ≤ 127 := by omega
        have h4 := Nat.mul_le_mul h3 h2
        have h5 : 127 * 128 ^ 8 + 128 ^ 8 ≤ 9223372036854775808 := by decide
        omega
      have hcc : (k : Int) + 1 ≤ (rest.length : Int) := by omega
      have hcc2 : (k : Int) + 1 ≤ (c : Int) := by omega
      have hcc3 : (rest.length : Int) ≤ (c : Int) := by omega
      clear hN
      by_cases h128 : 128 ≤ x
      · have hb := and128_yes hx256 h128
        go_wp2_with fail
        have hrd : rd 0 0 rest = rd (k + 1) N (rest.drop (k + 1)) := by rw [HD.out, HDR.out, rd, if_neg (by omega), if_pos h128, HN.out]
        have hlt2 : N < 128 ^ (k + 1) := by
          have h1 := HN.out
          have h2 := HA.out
          have h3 : x % 128 ≤ 127 := by omega
          have h4 := Nat.mul_le_mul_right (128 ^ k) h3
          rw [Nat.pow_succ]; omega
        go_round
        case rel => exact ⟨k + 1, N, by omega, by go_num, rfl, Lib.hid hlt2, Lib.hid hrd⟩
        case measure => simp [intOf]; omega
      · have hb := and128_no hx256 h128
        have hxm : x % 128 = x := by omega
        have hrd : rd 0 0 rest = if (0 < k ∧ x = 0) ∨ 4611686018427387904 < N then none else some (N, rest.drop (k + 1)) := by
          rw [HD.out, HDR.out, rd, if_neg (by omega), if_neg h128, HN.out, hxm]
        have HRD := Lib.hid hrd
        clear hrd hxm
        by_cases hz : 0 < k ∧ x = 0
        · obtain ⟨z1, z2⟩ := hz
          have k4 : (0 : Int) < (k : Int) := by omega
          have d3 : ((x : Int) == 0) = true := by subst z2; rfl
          have HB : Hid (rd 0 0 rest = none) := Lib.hid (by rw [HRD.out, if_pos (Or.inl ⟨z1, z2⟩)])
          clear z2
          go_wp2_with fail
          refine (rdBad b _ _ _ HV.out).mono ?_
          rintro e w2 ⟨rfl, hw2, hb2⟩
          go_wp2_with fail
          go_ret
          exact ⟨numBad HB.out rfl hw2, hBV.trans hb2⟩
        · by_cases hbig : 4611686018427387904 < N
          · have d4 : (4611686018427387904 : Int) < (N : Int) := by omega
            have HB : Hid (rd 0 0 rest = none) := Lib.hid (by rw [HRD.out, if_pos (Or.inr hbig)])
            by_cases hk0 : k = 0
            · have k4 : ¬ (0 : Int) < (k : Int) := by omega
              clear hk0 hz
              go_wp2_with fail
              refine (rdBad b _ _ _ HV.out).mono ?_
              rintro e w2 ⟨rfl, hw2, hb2⟩
              go_wp2_with fail
              go_ret
              exact ⟨numBad HB.out rfl hw2, hBV.trans hb2⟩
            · have k4 : (0 : Int) < (k : Int) := by omega
              have d3 : ((x : Int) == 0) = false := by rw [beq_eq_false_iff_ne]; omega
              clear hk0 hz
              go_wp2_with fail
              refine (rdBad b _ _ _ HV.out).mono ?_
              rintro e w2 ⟨rfl, hw2, hb2⟩
              go_wp2_with fail
              go_ret
              exact ⟨numBad HB.out rfl hw2, hBV.trans hb2⟩
          · have d4 : ¬ (4611686018427387904 : Int) < (N : Int) := by omega
            have HB : Hid (rd 0 0 rest = some (N, rest.drop (k + 1))) := Lib.hid (by rw [HRD.out, if_neg (by omega)])
            have hend : Hid (Rd (V.setCell ⟨b, 0, none⟩ (if c = k + 1 then .slice (some ⟨ab, ao, none⟩) 0 0 else .slice (some ⟨ab, ao + (k + 1), none⟩) (rest.length - (k + 1)) (c - (k + 1)))) b (rest.drop (k + 1)) false) := by
              by_cases hce : c = k + 1
              · rw [if_pos hce]; exact Rd.cutAll HV.out k0 (by omega)
              · rw [if_neg hce]; exact Rd.cut HV.out k0 HXV.out hc hm (by omega)
            have hce : ¬ c = k + 1 := by omega
            · rw [if_neg hce] at hend
              by_cases hk0 : k = 0
              · have k4 : ¬ (0 : Int) < (k : Int) := by omega
                clear hk0 hz hbig
                go_wp2_with fail
                go_ret
                exact ⟨numGood HB.out rfl hend.out, hBV.setCell (Nat.le_refl _) _⟩
              · have k4 : (0 : Int) < (k : Int) := by omega
                have d3 : ((x : Int) == 0) = false := by rw [beq_eq_false_iff_ne]; omega
                clear hk0 hz hbig
                go_wp2_with fail
                go_ret
                exact ⟨numGood HB.out rfl hend.out, hBV.setCell (Nat.le_refl _) _⟩
    · have hke : k = 9 := by omega
      have hrd : rd 0 0 rest = none := by
        rw [HD.out, hke]
        rw [List.drop_eq_getElem_cons (by omega), rd, if_pos (by omega)]
      have HRD := Lib.hid hrd
      have i1 : ¬ (k : Int) < (((9 : Nat)) : Int) := by omega
      clear hrd hlt hke hk
      go_wp2_with fail
      refine (rdBad b _ _ _ HV.out).mono ?_
      rintro e w2 ⟨rfl, hw2, hb2⟩
      go_wp2_with fail
      go_ret
      exact ⟨numBad HRD.out rfl hw2, hBV.trans hb2⟩

theorem octNum (b : Nat) (rest : List Nat) (w : World) (hl : rest.length ≤ 1000000) (h256 : ∀ x ∈ rest, x < 256) (hr : Rd w b rest false) :
    Calls Try.prog 39 #[.pointer (some ⟨b, 0, none⟩)] w fun e w' => NumPost w' b e (rd 0 0 rest) ∧ Below b w w' := by
  by_cases h : rest.length ≤ 9
  · exact octNumS b rest w hl h256 hr h
  · exact octNumL b rest w hl h256 hr (by omega)

end Go.Proofs.Ytblknjclkecglaa
