/- LoadOrder: the walk of the statement. -/
import Derived.Test.YtfakfnekcgkelaaLdH
import Derived.Test.YtfakfnekcgkelaaLoadK
import Derived.Deep.RegionWith
import Derived.Deep.DeepCutAuto
namespace Go.Proofs.Ytfakfnekcgkelaa
open Go.RowKit Go.MapKept
set_option linter.unusedVariables false
set_option linter.unusedSimpArgs false

theorem cells_at {w : World} {B c : Nat} {A : Option Addr} {xs : List Ac} (h : Cells w B A xs.length c 3 (xs.flatMap actV)) {i : Nat} (hi : i < xs.length) :
    ∃ b o, A = some ⟨b, o, none⟩ ∧ b < B ∧ w.cell? ⟨b, o + i * 3, none⟩ = some (.int .i64 xs[i].1) ∧ w.cell? ⟨b, o + i * 3 + 1, none⟩ = some (.int .i64 xs[i].2.1) ∧ w.cell? ⟨b, o + i * 3 + 2, none⟩ = some (.string xs[i].2.2) := by
  have g := fun k hk => flat_get actV 3 (fun _ => rfl) xs i k hk
  have e : xs[i]? = some xs[i] := List.getElem?_eq_getElem hi
  obtain ⟨b, o, e0, hb, c0⟩ := h.2.2 (i * 3 + 0) (.int .i64 xs[i].1) (by rw [g 0 (by omega), e]; rfl)
  obtain ⟨b1, o1, e1, _, c1⟩ := h.2.2 (i * 3 + 1) (.int .i64 xs[i].2.1) (by rw [g 1 (by omega), e]; rfl)
  obtain ⟨b2, o2, e2, _, c2⟩ := h.2.2 (i * 3 + 2) (.string xs[i].2.2) (by rw [g 2 (by omega), e]; rfl)
  rw [e0] at e1 e2
  injection e1 with e1; injection e1 with e3 e4
  injection e2 with e2; injection e2 with e5 e6
  subst e3 e4 e5 e6
  exact ⟨b, o, e0, hb, by simpa using c0, by rw [Nat.add_assoc]; exact c1, by rw [Nat.add_assoc]; exact c2⟩
/-- two loads that share nothing -/
def Two (B pa pb : Nat) (K K' : Ks) (w : World) : Prop := ∃ fa fb, LdH w pa fa K ∧ LdH w pb fb K' ∧ pa ≠ pb ∧ (∀ x ∈ fa, x ≠ pb ∧ x ∉ fb ∧ B ≤ x) ∧ (∀ x ∈ fb, x ≠ pa ∧ x ∉ fa ∧ B ≤ x) ∧ B ≤ pa ∧ B ≤ pb
theorem Two.symm {B pa pb : Nat} {K K' : Ks} {w : World} (h : Two B pa pb K K' w) : Two B pb pa K' K w := by
  obtain ⟨fa, fb, h1, h2, h3, h4, h5, h6, h7⟩ := h
  exact ⟨fb, fa, h2, h1, h3.symm, h5, h4, h7, h6⟩
theorem Two.drew {B pa pb : Nat} {K K' : Ks} {w : World} (h : Two B pa pb K K' w) : Two B pa pb K K' w.drew := by
  obtain ⟨fa, fb, h1, h2, h3⟩ := h
  exact ⟨fa, fb, h1.keep (Touch.of_drew (fun _ => False) _) (by simp) (by simp), h2.keep (Touch.of_drew (fun _ => False) _) (by simp) (by simp), h3⟩
theorem Two.hit {B pa pb : Nat} {K K' : Ks} {w : World} (h : Two B pa pb K K' w) (z : Int) (s : ByteArray) :
    Calls Try.prog 7 #[.pointer (some ⟨pa, 0, none⟩), .int .i64 z, .string s] w fun e w' => e = .returned (.tuple #[]) ∧ Two B pa pb (hitK K z s.data.toList) K' w' ∧ Below B w w' := by
  obtain ⟨fa, fb, h1, h2, h3, h4, h5, h6, h7⟩ := h
  refine (hitLoad pa fa K z s w h1).mono ?_
  rintro e w' ⟨rfl, ⟨fa2, k1, k2⟩, ht⟩
  have hl2 := h2.lows
  have hlp := h2.low
  have hl1 := h1.low
  have hk : ∀ g ∈ fb, ¬ (g = pa ∨ g ∈ fa) := fun g hg => by rintro (h | h); exact (h5 g hg).1 h; exact (h5 g hg).2.1 h
  refine ⟨rfl, ⟨fa2, fb, k1, h2.keep ht (by rintro (h | h); exact h3 h.symm; exact (h4 _ h).1 rfl) hk, h3, fun x hx => ?_, fun x hx => ⟨(h5 x hx).1, fun hx2 => ?_, (h5 x hx).2.2⟩, h6, h7⟩, ht.below (by omega) (by rintro k (h | h); omega; exact (h4 k h).2.2)⟩
  · rcases k2 x hx with h | h
    · exact h4 x h
    · exact ⟨by omega, fun hb => by have := hl2 x hb; omega, by omega⟩
  · rcases k2 x hx2 with h | h
    · exact (h5 x hx).2.1 h
    · have := hl2 x hx; omega
theorem Two.tab {B pa pb : Nat} {K K' : Ks} {w w1 : World} (h : Two B pa pb K K' w) (hb : Below w.heap.size w w1) (hs : w.heap.size ≤ w1.heap.size) (hlen : K.length ≤ 1000) (hwf : ∀ p ∈ K, (Lit.int .i64 p.1).wf = true) :
    Calls Try.prog 14 #[.pointer (some ⟨pa, 0, none⟩)] w1 fun e w' => ∃ v, e = .returned v ∧ w'.ownsRow w1.heap.size 43 3 v K.length (flatR (tabK K)) ∧ Below w1.heap.size w1 w' := by
  obtain ⟨fa, fb, h1, _⟩ := h
  have hl := h1.low
  have hls := h1.lows
  exact tableLoad pa fa K w1 (h1.keep (Touch.of_below hb) (by omega) (fun g hg => by have := hls g hg; omega)) hlen hwf
theorem rowNe (w : World) (a : Int) (b : Int) (c : By) : (binOp .neq 43 (.agg #[.int .i64 a, .int .i64 b, encStr c]) (.agg #[.int .i64 a, .int .i64 b, encStr c])).run Try.prog w = .ok (.bool false) w := by
  go_simp
set_option maxHeartbeats 8000000 in
set_option maxRecDepth 10000 in
theorem walkLoadOrder (A : Option Addr) (c : Nat) (xs : List Ac) (w : World) (hc : xs.length ≤ c) (hcm : c ≤ maxLen) (hq : ∀ r ∈ xs, actQ r) (hx : Cells w w.heap.size A xs.length c 3 (xs.flatMap actV)) :
    Calls Try.prog 5 #[.slice A xs.length c] w fun e w' => e = .returned (.bool true) ∧ Below w.heap.size w w' := by
  by_cases h300 : 300 < xs.length
  · have q1 : (300 : Int) < (xs.length : Int) := by omega
    clear hq hx
    go_enter Try.func5, Try.ntmps5
    go_wp2_with fail
    go_ret
    exact ⟨rfl, Below.refl _ _⟩
  have q1 : ¬ (300 : Int) < (xs.length : Int) := by omega
  have HX := Lib.hid hx
  have HQ := Lib.hid hq
  clear hx hq
  go_enter Try.func5, Try.ntmps5
  go_wp2_with (first
    | (go_at_call 6; have hgg := hla; clear hgg; refine (newLoad _).mono ?_; rintro e wb ⟨rfl, hlb, hbb⟩; have hsb := hbb.size; have hlwb := hlb.low)
    | (go_at_call 6; refine (newLoad _).mono ?_; rintro e wa ⟨rfl, hla, hba⟩; have hsa := hba.size; have hlwa := hla.low)
    | fail)
  have HLA : Hid (LdH wb w.heap.size [] []) := Lib.hid (hla.keep (Touch.of_below hbb) (by omega) (by simp))
  have HLB := Lib.hid hlb
  have HB0 : Hid (Below w.heap.size w wb) := Lib.hid (hba.trans (hbb.mono hsa))
  have HT0 : Hid (Two w.heap.size w.heap.size wa.heap.size [] [] wb) := Lib.hid ⟨[], [], HLA.out, HLB.out, by omega, by simp, by simp, by omega, by omega⟩
  clear hla hlb hba hbb HLA HLB
  go_loopw [5, 6] (fun ks i wr => ∃ j : Nat, j ≤ xs.length ∧ i = .int .i64 j ∧ ks = .int .i64 j ∧ wr = wb) (fun _ i _ => xs.length - (intOf i).toNat)
  case atStart => exact ⟨0, Nat.zero_le _, rfl, rfl, rfl⟩
  case round =>
    obtain ⟨j, hj, rfl, rfl, hw⟩ := hrel
    subst hw
    by_cases hjl : j < xs.length
    · obtain ⟨qb, qo, rfl, hqb, e0, e1, e2⟩ := cells_at HX.out hjl
      have e2 := bkeep HB0.out e2 hqb
      have q2 : (j : Int) < (xs.length : Int) := by omega
      by_cases h60 : 60 < xs[j].2.2.size
      · have q3 : (60 : Int) < (xs[j].2.2.size : Int) := by omega
        go_wp2_with fail
        go_ret
        exact ⟨rfl, HB0.out⟩
      · have q3 : ¬ (60 : Int) < (xs[j].2.2.size : Int) := by omega
        go_wp2_with fail
        exact ⟨⟨j + 1, by omega, by go_num, by go_num, trivial⟩, by simp [intOf]; omega⟩
    · obtain rfl : j = xs.length := by omega
      by_cases h64 : 64 < xs.length
      · have q2 : (64 : Int) < (xs.length : Int) := by omega
        go_wp2_with (first | (go_at_call 16; refine (loadKKnown _).mono ?_; rintro e w4 ⟨rfl, hb4⟩) | fail)
        go_ret
        exact ⟨rfl, HB0.out.trans (hb4.mono HB0.out.size)⟩
      · have q2 : ¬ (64 : Int) < (xs.length : Int) := by omega
        go_wp2_with fail
        go_loopw [7] (fun i wq => ∃ j : Nat, j ≤ xs.length ∧ i = .int .i64 j ∧ Two w.heap.size w.heap.size wa.heap.size (hitAll [] (xs.take j)) (hitAll [] (xs.reverse.take j)) wq ∧ Below w.heap.size w wq) (fun i _ => xs.length - (intOf i).toNat)
        case atStart => exact ⟨0, Nat.zero_le _, rfl, HT0.out, HB0.out⟩
        case round =>
          obtain ⟨j, hj, rfl, hT, hB⟩ := hrel
          have hBs := hB.size
          by_cases hjl : j < xs.length
          · obtain ⟨qb, qo, rfl, hqb, _, e1, e2⟩ := cells_at HX.out hjl
            obtain ⟨r, hr⟩ : ∃ r, r = xs.length - 1 - j := ⟨_, rfl⟩
            have hrl : r < xs.length := by omega
            obtain ⟨qb', qo', e9, _, _, g1, g2⟩ := cells_at HX.out hrl
            injection e9 with e9; injection e9 with e7 e8
            subst e7 e8
            have hridx : IntKind.i64.wrap (IntKind.i64.wrap ((xs.length : Int) - 1) - (j : Int)) = (r : Int) := by rw [IntKind.wrap_i64, IntKind.wrap_i64]; omega
            have e1 := bkeep hB e1 hqb
            have e2 := bkeep hB e2 hqb
            have g1 := bkeep hB g1 hqb
            have g2 := bkeep hB g2 hqb
            have hsa1 : hitAll [] (xs.take (j + 1)) = hitA (hitAll [] (xs.take j)) xs[j] := hitAll_take _ _ _ hjl
            have hsb1 : hitAll [] (xs.reverse.take (j + 1)) = hitA (hitAll [] (xs.reverse.take j)) xs[r] := by
              rw [hitAll_take _ _ _ (by simpa using hjl)]
              subst hr
              rw [List.getElem_reverse]
            have q3 : (j : Int) < (xs.length : Int) := by omega
            have q4 : (r : Int) < (xs.length : Int) := by omega
            obtain ⟨z1, hz1⟩ : ∃ z, z = xs[j].2.1 := ⟨_, rfl⟩
            obtain ⟨s1, hs1⟩ : ∃ z, z = xs[j].2.2 := ⟨_, rfl⟩
            obtain ⟨z2, hz2⟩ : ∃ z, z = xs[r].2.1 := ⟨_, rfl⟩
            obtain ⟨s2, hs2⟩ : ∃ z, z = xs[r].2.2 := ⟨_, rfl⟩
            rw [← hz1] at e1
            rw [← hs1] at e2
            rw [← hz2] at g1
            rw [← hs2] at g2
            unfold hitA at hsa1 hsb1
            rw [← hz1, ← hs1] at hsa1
            rw [← hz2, ← hs2] at hsb1
            have HS1 := Lib.hid hsa1
            have HS2 := Lib.hid hsb1
            have HT := Lib.hid hT.drew
            clear hsa1 hsb1 hT hz1 hs1 hz2 hs2 hr
            go_wp2_with fail
            go_region_with (first | (go_at_call 7; refine (HT.out.hit z1 s1).mono ?_; rintro e w2 ⟨rfl, hT2, hb2⟩; have hs2 := hb2.size; have c1 := bkeep hb2 (c_drew g1) hqb; have c2 := bkeep hb2 (c_drew g2) hqb; have HT2 := Lib.hid hT2.drew; have HB2 := Lib.hid hb2; clear hT2 hb2))
            all_goals (
              go_wp2_with fail
              go_region_with (first | (go_at_call 7; refine (HT2.out.symm.hit z2 s2).mono ?_; rintro e w3 ⟨rfl, hT3, hb3⟩; have hs3 := hb3.size; have HT3 := Lib.hid hT3.symm; have HB3 := Lib.hid hb3; clear hT3 hb3))
              all_goals (
                go_wp2_with fail
                refine ⟨⟨j + 1, by omega, by go_num, ?_, ?_⟩, by simp [intOf]; omega⟩
                · rw [HS1.out, HS2.out]; exact HT3.out
                · exact (hB.drew.trans HB2.out).drew.trans HB3.out))
          · obtain rfl : j = xs.length := by omega
            rw [List.take_length, show xs.reverse.take xs.length = xs.reverse by rw [← List.length_reverse, List.take_length], ← hits_rev xs (by omega)] at hT
            have hKl : (hitAll [] xs).length ≤ 1000 := by have := hitAll_len [] xs; simp at this; omega
            have hKw := hitAll_wf HQ.out (K := []) (by simp)
            obtain ⟨K, hK⟩ : ∃ K, K = hitAll [] xs := ⟨_, rfl⟩
            rw [← hK] at hT hKl hKw
            have HT := Lib.hid hT
            have HKW := Lib.hid hKw
            have HTL : (tabK K).length = K.length := by simp [tabK]
            clear hT hKw hK
            go_wp2_with (first
              | (go_at_call 14; have hgg := hb3; clear hgg; refine (HT.out.symm.tab hb3 (by omega) hKl HKW.out).mono ?_; rintro e w4 ⟨v4, rfl, hrow4, hb4⟩; have hs4 := hb4.size; obtain ⟨A4, k4, rfl, _, _, _⟩ := own_slice hrow4; have HR4 := Lib.hid hrow4; clear hrow4)
              | (go_at_call 14; refine (HT.out.tab (Below.refl _ _) (by omega) hKl HKW.out).mono ?_; rintro e w3 ⟨v3, rfl, hrow3, hb3⟩; have hs3 := hb3.size; obtain ⟨A3, k3, rfl, _, _, _⟩ := own_slice hrow3; have HR3 := Lib.hid hrow3; clear hrow3)
              | fail)
            have HB4 : Hid (Below w.heap.size w w4) := Lib.hid ((hB.trans (hb3.mono hBs)).trans (hb4.mono (by omega)))
            have HR3' := Lib.hid (row_belowL HR3.out hb4)
            clear hb3 hb4 HR3
            go_loopw [10] (fun i wq => ∃ m : Nat, m ≤ K.length ∧ i = .int .i64 m ∧ Below w4.heap.size w4 wq) (fun i _ => K.length - (intOf i).toNat)
            case atStart => exact ⟨0, Nat.zero_le _, rfl, Below.refl _ _⟩
            case round =>
              obtain ⟨m, hm, rfl, hBw⟩ := hrel
              have hBz := hBw.size
              have hR3w := row_belowL HR3'.out hBw
              have hR4w := row_belowL HR4.out hBw
              by_cases hml : m < K.length
              · obtain ⟨ga, ka, e3, _, hga, _, _⟩ := own_form hR3w (by omega)
                obtain ⟨gb, kb, e4, _, hgb, _, _⟩ := own_form hR4w (by omega)
                simp only [Value.slice.injEq, true_and] at e3 e4
                obtain ⟨rfl, rfl⟩ := e3
                obtain ⟨rfl, rfl⟩ := e4
                obtain ⟨y0, y1, y2⟩ := flatR_at (tabK K) m (by omega)
                obtain ⟨⟨ra, rb, rc⟩, hrr⟩ : ∃ r : Rw, r = (tabK K)[m] := ⟨_, rfl⟩
                rw [← hrr] at y0 y1 y2
                have a0 := (hR3w.cellAt (m * 3) (by omega)).trans y0
                have a1 := (hR3w.cellAt (m * 3 + 1) (by omega)).trans y1
                have a2 := (hR3w.cellAt (m * 3 + 2) (by omega)).trans y2
                have b0 := (hR4w.cellAt (m * 3) (by omega)).trans y0
                have b1 := (hR4w.cellAt (m * 3 + 1) (by omega)).trans y1
                have b2 := (hR4w.cellAt (m * 3 + 2) (by omega)).trans y2
                simp only at a0 a1 a2 b0 b1 b2
                have hne := rowNe
                have q5 : (m : Int) < (K.length : Int) := by omega
                have HBW := Lib.hid hBw.drew
                clear y0 y1 y2 hrr hR3w hR4w hBw
                go_wp2_with fail
                go_region
                go_wp2_with fail
                exact ⟨⟨m + 1, by omega, by go_num, HBW.out⟩, by simp [intOf]; omega⟩
              · obtain rfl : m = K.length := by omega
                go_wp2_with (first | (go_at_call 16; refine (loadKKnown _).mono ?_; rintro e w5 ⟨rfl, hb5⟩) | fail)
                go_ret
                exact ⟨rfl, (HB4.out.trans (hBw.mono HB4.out.size)).trans (hb5.mono (by have := HB4.out.size; omega))⟩
end Go.Proofs.Ytfakfnekcgkelaa
