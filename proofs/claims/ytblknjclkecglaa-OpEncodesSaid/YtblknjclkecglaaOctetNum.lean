/- The document's own Reader: Num. -/
import Derived.Test.YtblknjclkecglaaOctetF
import Derived.Test.YtblknjclkecglaaOctetDec
import Derived.Lib.VarintBits
import Derived.IntWalk
namespace Go.Proofs.Ytblknjclkecglaa
open Go.RowKit
set_option linter.unusedVariables false
set_option linter.unusedSimpArgs false

theorem pow128 (k : Nat) : 128 ^ k = 2 ^ (7 * k) := by rw [show (128 : Nat) = 2 ^ 7 from rfl, ← Nat.pow_mul]
theorem pow128_le {k : Nat} (h : k ≤ 9) : 128 ^ k ≤ 9223372036854775808 := Nat.le_trans (Nat.pow_le_pow_right (by decide) h) (by decide)
theorem cast_shift (x k : Nat) : (x : Int) % 128 * 2 ^ (7 * k) = ((x % 128 * 128 ^ k : Nat) : Int) := by
  rw [pow128]; push_cast; rfl
theorem orU {k acc x : Nat} (hk : k ≤ 9) (hacc : acc < 128 ^ k) (hy : x % 128 * 128 ^ k < 18446744073709551616) :
    bits BinOp.or IntKind.u64 (acc : Int) (IntKind.u64.wrap ((x : Int) % 128 * 2 ^ (7 * k))) = ((acc + x % 128 * 128 ^ k : Nat) : Int) := by
  have hp := pow128_le hk
  have h64 : (18446744073709551616 : Int) = 2 ^ 64 := by decide
  have h7 : ((2 : Int) ^ (7 * k)) = ((128 ^ k : Nat) : Int) := by rw [pow128]; push_cast; rfl
  have g1 : ((x % 128 * 128 ^ k : Nat) : Int) < 2 ^ 64 := by rw [← h64]; omega
  have g2 : (acc : Int) < 2 ^ 64 := by rw [← h64]; omega
  have g3 : (acc : Int) < 2 ^ (7 * k) := by rw [h7]; omega
  have g4 : ((x % 128 * 128 ^ k : Nat) : Int) % 2 ^ (7 * k) = 0 := by rw [h7, ← Int.natCast_emod, Nat.mul_mod_left]; rfl
  rw [cast_shift, wraps_u64 _ (by omega) g1, bits_join_low .u64 64 (by decide) wraps_u64 (7 * k) (acc : Int) _ (by omega) g3 g2 (by omega) g4 g1]
  push_cast; rfl
theorem small_shift {k x : Nat} (hk : k ≤ 8) : x % 128 * 128 ^ k < 9223372036854775808 := by
  have h1 : 128 ^ k ≤ 128 ^ 8 := Nat.pow_le_pow_right (by decide) hk
  have h2 : x % 128 ≤ 127 := by omega
  have h3 : x % 128 * 128 ^ k ≤ 127 * 128 ^ 8 := Nat.mul_le_mul h2 h1
  have h4 : 127 * 128 ^ 8 < 9223372036854775808 := by decide
  omega

/-- what Num ends in: a number and what is left behind it; or it errs -/
def NumPost (w' : World) (b : Nat) (e : Ending) : Option (Nat × List Nat) → Prop
  | none => e = .returned (.int .i64 0) ∧ Rd w' b [] true
  | some (n, r) => e = .returned (.int .i64 n) ∧ Rd w' b r false
theorem numBad {w' : World} {b : Nat} {e : Ending} {o : Option (Nat × List Nat)} (ho : o = none) (he : e = .returned (.int .i64 0)) (hr : Rd w' b [] true) : NumPost w' b e o := by subst ho; exact ⟨he, hr⟩
theorem numGood {w' : World} {b n : Nat} {e : Ending} {r : List Nat} {o : Option (Nat × List Nat)} (ho : o = some (n, r)) (he : e = .returned (.int .i64 n)) (hr : Rd w' b r false) : NumPost w' b e o := by subst ho; exact ⟨he, hr⟩

set_option maxHeartbeats 2000000 in
set_option maxRecDepth 10000 in
theorem rfNum (b : Nat) (rest : List Nat) (w : World) (hl : rest.length ≤ 1000000) (h256 : ∀ x ∈ rest, x < 256) (hr : Rd w b rest false) :
    Calls Try.prog 33 #[.pointer (some ⟨b, 0, none⟩)] w fun e w' => NumPost w' b e (rd 0 0 rest) ∧ Below b w w' := by
  have HR := Lib.hid hr
  clear hr
  go_enter Try.func33, Try.ntmps33
  go_wp2_with fail
  go_loopw [3, 4] (fun u i wr => ∃ (k acc : Nat) (r : List Nat), k ≤ 9 ∧ i = .int .i64 k ∧ u = .int .u64 acc ∧ Hid (acc < 128 ^ k) ∧ Hid (rd 0 0 rest = rd k acc r) ∧ r.length ≤ rest.length ∧ Hid (∀ x ∈ r, x < 256) ∧ Hid (Rd wr b r false) ∧ Below b w wr) (fun _ i _ => 10 - (intOf i).toNat)
  case atStart => exact ⟨0, 0, rest, by omega, rfl, rfl, Lib.hid (by simp), Lib.hid rfl, Nat.le_refl _, Lib.hid h256, HR, Below.refl _ _⟩
  case round =>
    obtain ⟨k, acc, r, hk, rfl, rfl, HA, HD, hrl, hx, HW, hB⟩ := hrel
    cases r with
    | nil =>
      go_wp2_with fail
      refine (rfRaw0 b false _ HW.out).mono ?_
      rintro e w1 ⟨rfl, hw1, hb1⟩
      have h1 := hw1.flag
      go_wp2_with fail
      go_ret
      exact ⟨numBad (by rw [HD.out, rd]) rfl hw1, hB.trans hb1⟩
    | cons x r =>
      have hx256 : x < 256 := hx.out x (by simp)
      go_wp2_with fail
      refine (rfRaw1 b x r _ (by simp at hrl; omega) HW.out).mono ?_
      rintro e w1 ⟨v1, rfl, hown1, hw1, hb1⟩
      have h1 := hw1.flag
      obtain ⟨g, cap, rfl, _, hg, hc1, hc2⟩ := own_form hown1 (by omega)
      have hg0 := hown1.cellAt 0 (by omega)
      simp only [flatU, List.map_cons, List.getElem?_cons_zero] at hg0
      have ha := u8_and127 (x := (x : Int)) (by omega) (by omega)
      have k1 : (1 : Int) ≤ (cap : Int) := by omega
      have k2 : (k : Int) ≤ 9 := by omega
      have HW1 := Lib.hid hw1
      clear hown1 hw1
      by_cases hk9 : k = 9
      · have k3 : ((k : Int) == 9) = true := by subst hk9; rfl
        have hrd : rd 0 0 rest = none := by rw [HD.out, rd, if_pos (by omega)]
        have HRD := Lib.hid hrd
        clear hrd
        by_cases h128 : 128 ≤ x
        · have d1 : (127 : Int) < (x : Int) := by omega
          go_wp2_with fail
          refine (rfBad b _ _ _ HW1.out).mono ?_
          rintro e w2 ⟨rfl, hw2, hb2⟩
          go_wp2_with fail
          go_ret
          exact ⟨numBad HRD.out rfl hw2, (hB.trans hb1).trans hb2⟩
        · have d1 : ¬ (127 : Int) < (x : Int) := by omega
          by_cases hx1 : 1 < x
          · have d2 : (1 : Int) < (x : Int) := by omega
            go_wp2_with fail
            refine (rfBad b _ _ _ HW1.out).mono ?_
            rintro e w2 ⟨rfl, hw2, hb2⟩
            go_wp2_with fail
            go_ret
            exact ⟨numBad HRD.out rfl hw2, (hB.trans hb1).trans hb2⟩
          · have d2 : ¬ (1 : Int) < (x : Int) := by omega
            have hsm : x % 128 * 128 ^ k < 18446744073709551616 := by
              have := pow128_le hk
              have h2 : x % 128 ≤ 1 := by omega
              have := Nat.mul_le_mul h2 (pow128_le hk)
              omega
            obtain ⟨M, hM⟩ : ∃ M, M = acc + x % 128 * 128 ^ k := ⟨_, rfl⟩
            have hor := orU hk HA.out hsm
            rw [← hM] at hor
            have HM := Lib.hid hM
            have k4 : (0 : Int) < (k : Int) := by omega
            clear hM hsm
            by_cases hx0 : x = 0
            · have d3 : ((x : Int) == 0) = true := by subst hx0; rfl
              clear hk9
              go_wp2_with fail
              refine (rfBad b _ _ _ HW1.out).mono ?_
              rintro e w2 ⟨rfl, hw2, hb2⟩
              go_wp2_with fail
              go_ret
              exact ⟨numBad HRD.out rfl hw2, (hB.trans hb1).trans hb2⟩
            · have d3 : ((x : Int) == 0) = false := by rw [beq_eq_false_iff_ne]; omega
              have d4 : (4611686018427387904 : Int) < (M : Int) := by
                have h1 : x = 1 := by omega
                have := HM.out
                subst hk9 h1
                have : 128 ^ 9 = 9223372036854775808 := by decide
                omega
              clear hk9
              go_wp2_with fail
              refine (rfBad b _ _ _ HW1.out).mono ?_
              rintro e w2 ⟨rfl, hw2, hb2⟩
              go_wp2_with fail
              go_ret
              exact ⟨numBad HRD.out rfl hw2, (hB.trans hb1).trans hb2⟩
      · have k3 : ((k : Int) == 9) = false := by rw [beq_eq_false_iff_ne]; omega
        have hk8 : k ≤ 8 := by omega
        have hsm := small_shift (x := x) hk8
        obtain ⟨M, hM⟩ : ∃ M, M = acc + x % 128 * 128 ^ k := ⟨_, rfl⟩
        have hor := orU hk HA.out (by omega : x % 128 * 128 ^ k < 18446744073709551616)
        rw [← hM] at hor
        have HM := Lib.hid hM
        have hM63 : M < 18446744073709551616 := by have := pow128_le hk; have := HA.out; omega
        clear hM hsm
        by_cases h128 : 128 ≤ x
        · have d1 : (127 : Int) < (x : Int) := by omega
          go_wp2_with fail
          have hrd : rd 0 0 rest = rd (k + 1) M r := by rw [HD.out, rd, if_neg (by omega), if_pos h128, HM.out]
          have hlt : M < 128 ^ (k + 1) := by
            have h1 := HM.out
            have h2 := HA.out
            have h3 : x % 128 ≤ 127 := by omega
            have h4 := Nat.mul_le_mul_right (128 ^ k) h3
            rw [Nat.pow_succ]; omega
          first
            | (go_roundw
               case rel => exact ⟨k + 1, M, r, by omega, by go_num, rfl, Lib.hid hlt, Lib.hid hrd, by simp at hrl; omega, Lib.hid (fun y hy => hx.out y (by simp [hy])), HW1, hB.trans hb1⟩
               case measure => simp [intOf]; omega)
            | (refine ⟨⟨k + 1, M, r, by omega, by go_num, rfl, Lib.hid hlt, Lib.hid hrd, by simp at hrl; omega, Lib.hid (fun y hy => hx.out y (by simp [hy])), HW1, hB.trans hb1⟩, ?_⟩
               simp [intOf]; omega)
        · have d1 : ¬ (127 : Int) < (x : Int) := by omega
          have hxm : x % 128 = x := by omega
          have hrd : rd 0 0 rest = if (0 < k ∧ x = 0) ∨ 4611686018427387904 < M then none else some (M, r) := by
            rw [HD.out, rd, if_neg (by omega), if_neg h128, HM.out, hxm]
          have HRD := Lib.hid hrd
          clear hrd hxm
          by_cases hz : 0 < k ∧ x = 0
          · obtain ⟨z1, z2⟩ := hz
            have k4 : (0 : Int) < (k : Int) := by omega
            have d3 : ((x : Int) == 0) = true := by subst z2; rfl
            have HB : Hid (rd 0 0 rest = none) := Lib.hid (by rw [HRD.out, if_pos (Or.inl ⟨z1, z2⟩)])
            clear z2 hk9
            go_wp2_with fail
            refine (rfBad b _ _ _ HW1.out).mono ?_
            rintro e w2 ⟨rfl, hw2, hb2⟩
            go_wp2_with fail
            go_ret
            exact ⟨numBad HB.out rfl hw2, (hB.trans hb1).trans hb2⟩
          · by_cases hbig : 4611686018427387904 < M
            · have d4 : (4611686018427387904 : Int) < (M : Int) := by omega
              have HB : Hid (rd 0 0 rest = none) := Lib.hid (by rw [HRD.out, if_pos (Or.inr hbig)])
              by_cases hk0 : k = 0
              · have k4 : ¬ (0 : Int) < (k : Int) := by omega
                clear hk0 hz hk9
                go_wp2_with fail
                refine (rfBad b _ _ _ HW1.out).mono ?_
                rintro e w2 ⟨rfl, hw2, hb2⟩
                go_wp2_with fail
                go_ret
                exact ⟨numBad HB.out rfl hw2, (hB.trans hb1).trans hb2⟩
              · have k4 : (0 : Int) < (k : Int) := by omega
                have d3 : ((x : Int) == 0) = false := by rw [beq_eq_false_iff_ne]; omega
                clear hk0 hz hk9
                go_wp2_with fail
                refine (rfBad b _ _ _ HW1.out).mono ?_
                rintro e w2 ⟨rfl, hw2, hb2⟩
                go_wp2_with fail
                go_ret
                exact ⟨numBad HB.out rfl hw2, (hB.trans hb1).trans hb2⟩
            · have d4 : ¬ (4611686018427387904 : Int) < (M : Int) := by omega
              have HB : Hid (rd 0 0 rest = some (M, r)) := Lib.hid (by rw [HRD.out, if_neg (by omega)])
              have HM62 : (M : Int) ≤ 4611686018427387904 := by omega
              by_cases hk0 : k = 0
              · have k4 : ¬ (0 : Int) < (k : Int) := by omega
                clear hk0 hz hk9 hbig
                go_wp2_with fail
                go_ret
                exact ⟨numGood HB.out rfl HW1.out, hB.trans hb1⟩
              · have k4 : (0 : Int) < (k : Int) := by omega
                have d3 : ((x : Int) == 0) = false := by rw [beq_eq_false_iff_ne]; omega
                clear hk0 hz hk9 hbig
                go_wp2_with fail
                go_ret
                exact ⟨numGood HB.out rfl HW1.out, hB.trans hb1⟩

end Go.Proofs.Ytblknjclkecglaa
