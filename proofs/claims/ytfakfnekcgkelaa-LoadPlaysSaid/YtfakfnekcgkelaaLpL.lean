/- LoadPlays: the walk of the statement. -/
import Derived.Test.YtfakfnekcgkelaaLpK
import Derived.Test.YtfakfnekcgkelaaLpM
import Derived.Deep.DeepCutAuto
namespace Go.Proofs.Ytfakfnekcgkelaa
open Go.RowKit Go.MapKept
set_option linter.unusedVariables false
set_option linter.unusedSimpArgs false

theorem cells_atL {w : World} {B c : Nat} {A : Option Addr} {xs : List Ac} (h : Cells w B A xs.length c 3 (xs.flatMap actV)) {i : Nat} (hi : i < xs.length) :
    ∃ b o, A = some ⟨b, o, none⟩ ∧ b < B ∧ w.cell? ⟨b, o + i * 3, none⟩ = some (.int .i64 xs[i].1) ∧ w.cell? ⟨b, o + i * 3 + 1, none⟩ = some (.int .i64 xs[i].2.1) ∧ w.cell? ⟨b, o + i * 3 + 2, none⟩ = some (.string xs[i].2.2) := by
  have g := fun k hk => flat_get actV 3 (fun _ => rfl) xs i k hk
  have e : xs[i]? = some xs[i] := List.getElem?_eq_getElem hi
  obtain ⟨b, o, e0, hb, c0⟩ := h.2.2 (i * 3 + 0) (.int .i64 xs[i].1) (by rw [g 0 (by omega), e]; rfl)
  obtain ⟨b1, o1, e1, _, c1⟩ := h.2.2 (i * 3 + 1) (.int .i64 xs[i].2.1) (by rw [g 1 (by omega), e]; rfl)
  obtain ⟨b2, o2, e2, _, c2⟩ := h.2.2 (i * 3 + 2) (.string xs[i].2.2) (by rw [g 2 (by omega), e]; rfl)
  rw [e0] at e1 e2
  injection e1 with e1; injection e1 with e3 e4
  injection e2 with e2; injection e2 with e5 e6
  subst e3 e4 e5 e6
  exact ⟨b, o, e0, hb, by simpa using c0, by rw [Nat.add_assoc]; exact c1, by rw [Nat.add_assoc]; exact c2⟩
theorem startDuo {w wa : World} {o : Obj} (h : LdH wa w.heap.size [] []) (hb : Below w.heap.size w wa) (hs : w.heap.size ≤ wa.heap.size) (ho : o = .cells #[.slice none 0 0] 30) : Duo (fun _ => False) w.heap.size w.heap.size wa.heap.size [] (flatK []) (wa.alloc o) := by
  have hl := h.low
  refine ⟨[], none, h.keep ((Touch.refl (fun _ => False) _).alloc _) (by simp) (by simp), ⟨.slice none 0 0, by rw [ho]; exact Whl.new rfl, rfl, World.ownsRow_nil _ _ _ _, by simp⟩, by omega, by simp, by simp, Nat.le_refl _, hs, by simp⟩
set_option maxHeartbeats 2000000 in
set_option maxRecDepth 10000 in
theorem walkLoadPlays (A : Option Addr) (c : Nat) (xs : List Ac) (w : World) (hc : xs.length ≤ c) (hcm : c ≤ maxLen) (hq : ∀ r ∈ xs, actQ r) (hx : Cells w w.heap.size A xs.length c 3 (xs.flatMap actV)) :
    Calls Try.prog 3 #[.slice A xs.length c] w fun e w' => e = .returned (.bool true) ∧ Below w.heap.size w w' := by
  have HX := Lib.hid hx
  have HQ := Lib.hid hq
  clear hx hq
  go_enter Try.func3, Try.ntmps3
  go_wp2_with fail
  by_cases h300 : xs.length ≤ 300
  · skip
    go_loopw [3] (fun i wr => ∃ j : Nat, j ≤ xs.length ∧ i = .int .i64 j ∧ wr = w) (fun i _ => xs.length - (intOf i).toNat)
    case atStart => exact ⟨0, Nat.zero_le _, rfl, rfl⟩
    case round =>
      obtain ⟨j, hj, rfl, hw⟩ := hrel
      have hw := hw.symm
      subst hw
      by_cases hjl : j < xs.length
      · obtain ⟨qb, qo, rfl, hqb, e0, e1, e2⟩ := cells_atL HX.out (show j < xs.length by omega)
        have q1 : (j : Int) < (xs.length : Int) := by omega
        have q2 : (j : Int) < 300 := by omega
        by_cases h60 : 60 < (xs[j]'(by omega)).2.2.size
        · have q3 : (60 : Int) < ((xs[j]'(by omega)).2.2.size : Int) := by omega
          go_wp2_with fail
          go_ret
          exact ⟨rfl, Below.refl _ _⟩
        · have q3 : ¬ (60 : Int) < ((xs[j]'(by omega)).2.2.size : Int) := by omega
          go_wp2_with fail
          exact ⟨⟨j + 1, by omega, by go_num, trivial⟩, by simp [intOf]; omega⟩
      · obtain rfl : j = xs.length := by omega
        skip
        go_wp2_with (first
          | (go_at_call 6; refine (newLoad _).mono ?_; rintro e wa ⟨rfl, hla, hba⟩; have hsa := hba.size; have hlwa := hla.low; have HLA := Lib.hid hla; have HBA := Lib.hid hba; clear hla hba)
          | fail)
        go_loopw [6] (fun i wr => ∃ (j : Nat) (K : Ks), j ≤ xs.length ∧ i = .int .i64 j ∧ Duo (fun _ => False) w.heap.size w.heap.size wa.heap.size K (flatK K) wr ∧ Fits j K ∧ Below w.heap.size w wr) (fun i _ => xs.length - (intOf i).toNat)
        case atStart => exact ⟨0, [], Nat.zero_le _, rfl, startDuo HLA.out HBA.out hsa rfl, Fits.nil, by have hz := HBA.out; ((repeat (first | (with_reducible exact Below.refl _ _) | (with_reducible assumption) | ((with_reducible refine b_set ?_ ?_); · (first | omega | (simp; done) | (simp; omega))) | ((with_reducible refine b_alloc ?_ ?_); · (first | omega | (simp; done) | (simp; omega))) | (with_reducible refine Below.drew ?_) | (with_reducible refine b_drewN ?_) | ((with_reducible refine b_call (by assumption) ?_ ?_); · (first | omega | (simp; done) | (simp; omega))))); done)⟩
        case round =>
          obtain ⟨j, K, hj, rfl, hD, hF, hB⟩ := hrel
          have hBs := hB.size
          have HK := Lib.hid hD.oks
          have HF := Lib.hid hF
          have HLN : Hid ((flatK K).length ≤ 100000) := Lib.hid (by have := hF.cells; omega)
          have HD := Lib.hid hD
          have HB := Lib.hid hB
          by_cases hjl : j < xs.length
          · obtain ⟨qb, qo, rfl, hqb, e0, e1, e2⟩ := cells_atL HX.out (show j < xs.length by omega)
            have e0 := bkeep hB e0 hqb
            have e1 := bkeep hB e1 hqb
            have e2 := bkeep hB e2 hqb
            have HZ : Hid ((Lit.int .i64 (xs[j]'(by omega)).2.1).wf = true) := Lib.hid (HQ.out _ (List.getElem_mem _)).2.1
            have q1 : (j : Int) < (xs.length : Int) := by omega
            have q2 : (j : Int) < 300 := by omega
            obtain ⟨k, hk⟩ : ∃ z, z = (xs[j]'(by omega)).1 := ⟨_, rfl⟩
            obtain ⟨z, hz⟩ : ∃ z, z = (xs[j]'(by omega)).2.1 := ⟨_, rfl⟩
            obtain ⟨s, hs⟩ : ∃ z, z = (xs[j]'(by omega)).2.2 := ⟨_, rfl⟩
            rw [← hk] at e0
            rw [← hz] at e1 HZ
            rw [← hs] at e2
            clear hD hF hB hk hz hs
            by_cases h1 : k = 1
            · subst h1
              obtain ⟨K', hK'⟩ : ∃ K', K' = hitK K z s.data.toList := ⟨_, rfl⟩
              have HF2 : Hid (Fits (j + 1) K') := Lib.hid (by rw [hK']; exact HF.out.hit HK.out HZ.out s.data.toList)
              have hz1 : K'.length ≤ 1000 := by have := HF2.out.zones; omega
              have HL2 : Hid ((flatK K').length ≤ 100000) := Lib.hid (by have := HF2.out.cells; omega)
              have HB0 : Hid (Below w.heap.size w (wr.alloc (.cells #[.int .i64 1, .int .i64 z, .string s] 24))) := Lib.hid (HB.out.alloc hBs _)
              go_wp2_with (first
                | (go_at_call 7; refine ((HD.out.fresh ((Touch.refl _ _).alloc _) (by simp)).hitC z s).mono ?_; rintro e w2 ⟨rfl, hD2, hb2, hk2⟩; have hs2 := hb2.size; have hW2 := Whl.cell ((hk2 _ rfl).trans (Whl.new rfl)); have d1 := hW2 1; have d2 := hW2 2; simp only [List.getElem?_toArray, List.getElem?_cons_succ, List.getElem?_cons_zero] at d1 d2; clear hW2; rw [← hK'] at hD2; have HD2 := Lib.hid hD2; have HB2 := Lib.hid (HB0.out.trans hb2); clear hD2 hb2 hk2)
                | (go_at_call 8; refine (HD2.out.hitR HK.out HLN.out z s).mono ?_; rintro e w3 ⟨rfl, hD3, hb3, hk3⟩; have hs3 := hb3.size; rw [← hK'] at hD3; have HD3 := Lib.hid hD3.weak; have HK3 := Lib.hid hD3.oks; have HB3 := Lib.hid (HB2.out.trans hb3); clear hD3 hb3 hk3)
                | (go_at_call 14; refine (HD3.out.tabC hz1 HF2.out.wf).mono ?_; rintro e w4 ⟨v4, rfl, hr4, hb4⟩; have hs4 := hb4.size; have HR4 := Lib.hid hr4; have HD4 := Lib.hid (HD3.out.keep (Touch.of_below hb4) (fun x hx => .inr hx)); have HB4 := Lib.hid hb4; clear hr4 hb4)
                | (go_at_call 15; refine (HD4.out.tabR HK3.out HL2.out).mono ?_; rintro e w5 ⟨v5, rfl, hr5, hb5⟩; have hs5 := hb5.size; have HR5 := Lib.hid hr5; have HR6 := Lib.hid (row_belowL HR4.out hb5); have HB5 := Lib.hid (HB4.out.trans (hb5.mono hs4)); clear hr5 hb5)
                | (go_at_call 13; refine (rowsSame (tabK K') K'.length (by simp [tabK]) hz1 _ _ v4 v5 w5 HR6.out HR5.out).mono ?_; rintro e w6 ⟨rfl, hb6⟩; have hs6 := hb6.size; have HB6 := Lib.hid (HB5.out.trans (hb6.mono (Nat.le_trans hs4 hs5))); clear hb6)
                | fail)
              exact ⟨⟨j + 1, K', hjl, by go_num, HD3.out.keep (Touch.of_below HB6.out) (fun x hx => .inr hx), HF2.out, HB3.out.trans (HB6.out.mono HB3.out.size)⟩, measJ hjl⟩
            · by_cases h2 : k = 2
              · subst h2
                obtain ⟨K', hK'⟩ : ∃ K', K' = fadeK K := ⟨_, rfl⟩
                have HF2 : Hid (Fits (j + 1) K') := Lib.hid (by rw [hK']; exact HF.out.fade)
                have hz1 : K'.length ≤ 1000 := by have := HF2.out.zones; omega
                have HL2 : Hid ((flatK K').length ≤ 100000) := Lib.hid (by have := HF2.out.cells; omega)
                have HB0 : Hid (Below w.heap.size w (wr.alloc (.cells #[.int .i64 2, .int .i64 z, .string s] 24))) := Lib.hid (HB.out.alloc hBs _)
                go_wp2_with (first
                  | (go_at_call 9; refine ((HD.out.fresh ((Touch.refl _ _).alloc _) (by simp)).fadeC).mono ?_; rintro e w2 ⟨rfl, hD2, hb2, hk2⟩; have hs2 := hb2.size; rw [← hK'] at hD2; have HD2 := Lib.hid hD2; have HB2 := Lib.hid (HB0.out.trans hb2); clear hD2 hb2 hk2)
                  | (go_at_call 10; refine (HD2.out.fadeR HK.out HLN.out).mono ?_; rintro e w3 ⟨rfl, hD3, hb3, hk3⟩; have hs3 := hb3.size; rw [← hK'] at hD3; have HD3 := Lib.hid hD3.weak; have HK3 := Lib.hid hD3.oks; have HB3 := Lib.hid (HB2.out.trans hb3); clear hD3 hb3 hk3)
                  | (go_at_call 14; refine (HD3.out.tabC hz1 HF2.out.wf).mono ?_; rintro e w4 ⟨v4, rfl, hr4, hb4⟩; have hs4 := hb4.size; have HR4 := Lib.hid hr4; have HD4 := Lib.hid (HD3.out.keep (Touch.of_below hb4) (fun x hx => .inr hx)); have HB4 := Lib.hid hb4; clear hr4 hb4)
                  | (go_at_call 15; refine (HD4.out.tabR HK3.out HL2.out).mono ?_; rintro e w5 ⟨v5, rfl, hr5, hb5⟩; have hs5 := hb5.size; have HR5 := Lib.hid hr5; have HR6 := Lib.hid (row_belowL HR4.out hb5); have HB5 := Lib.hid (HB4.out.trans (hb5.mono hs4)); clear hr5 hb5)
                  | (go_at_call 13; refine (rowsSame (tabK K') K'.length (by simp [tabK]) hz1 _ _ v4 v5 w5 HR6.out HR5.out).mono ?_; rintro e w6 ⟨rfl, hb6⟩; have hs6 := hb6.size; have HB6 := Lib.hid (HB5.out.trans (hb6.mono (Nat.le_trans hs4 hs5))); clear hb6)
                  | fail)
                exact ⟨⟨j + 1, K', hjl, by go_num, HD3.out.keep (Touch.of_below HB6.out) (fun x hx => .inr hx), HF2.out, HB3.out.trans (HB6.out.mono HB3.out.size)⟩, measJ hjl⟩
              · by_cases h3 : k = 3
                · subst h3
                  obtain ⟨K', hK'⟩ : ∃ K', K' = goneK K z := ⟨_, rfl⟩
                  have HF2 : Hid (Fits (j + 1) K') := Lib.hid (by rw [hK']; exact HF.out.gone z)
                  have hz1 : K'.length ≤ 1000 := by have := HF2.out.zones; omega
                  have HL2 : Hid ((flatK K').length ≤ 100000) := Lib.hid (by have := HF2.out.cells; omega)
                  have HB0 : Hid (Below w.heap.size w (wr.alloc (.cells #[.int .i64 3, .int .i64 z, .string s] 24))) := Lib.hid (HB.out.alloc hBs _)
                  go_wp2_with (first
                    | (go_at_call 11; refine ((HD.out.fresh ((Touch.refl _ _).alloc _) (by simp)).goneC z).mono ?_; rintro e w2 ⟨rfl, hD2, hb2, hk2⟩; have hs2 := hb2.size; have hW2 := Whl.cell ((hk2 _ rfl).trans (Whl.new rfl)); have d1 := hW2 1; have d2 := hW2 2; simp only [List.getElem?_toArray, List.getElem?_cons_succ, List.getElem?_cons_zero] at d1 d2; clear hW2; rw [← hK'] at hD2; have HD2 := Lib.hid hD2; have HB2 := Lib.hid (HB0.out.trans hb2); clear hD2 hb2 hk2)
                    | (go_at_call 12; refine (HD2.out.goneR HLN.out z).mono ?_; rintro e w3 ⟨rfl, hD3, hb3, hk3⟩; have hs3 := hb3.size; rw [← hK'] at hD3; have HD3 := Lib.hid hD3.weak; have HK3 := Lib.hid hD3.oks; have HB3 := Lib.hid (HB2.out.trans hb3); clear hD3 hb3 hk3)
                    | (go_at_call 14; refine (HD3.out.tabC hz1 HF2.out.wf).mono ?_; rintro e w4 ⟨v4, rfl, hr4, hb4⟩; have hs4 := hb4.size; have HR4 := Lib.hid hr4; have HD4 := Lib.hid (HD3.out.keep (Touch.of_below hb4) (fun x hx => .inr hx)); have HB4 := Lib.hid hb4; clear hr4 hb4)
                    | (go_at_call 15; refine (HD4.out.tabR HK3.out HL2.out).mono ?_; rintro e w5 ⟨v5, rfl, hr5, hb5⟩; have hs5 := hb5.size; have HR5 := Lib.hid hr5; have HR6 := Lib.hid (row_belowL HR4.out hb5); have HB5 := Lib.hid (HB4.out.trans (hb5.mono hs4)); clear hr5 hb5)
                    | (go_at_call 13; refine (rowsSame (tabK K') K'.length (by simp [tabK]) hz1 _ _ v4 v5 w5 HR6.out HR5.out).mono ?_; rintro e w6 ⟨rfl, hb6⟩; have hs6 := hb6.size; have HB6 := Lib.hid (HB5.out.trans (hb6.mono (Nat.le_trans hs4 hs5))); clear hb6)
                    | fail)
                  exact ⟨⟨j + 1, K', hjl, by go_num, HD3.out.keep (Touch.of_below HB6.out) (fun x hx => .inr hx), HF2.out, HB3.out.trans (HB6.out.mono HB3.out.size)⟩, measJ hjl⟩
                · skip
                  obtain ⟨K', hK'⟩ : ∃ K', K' = K := ⟨_, rfl⟩
                  have HF2 : Hid (Fits (j + 1) K') := Lib.hid (by rw [hK']; exact HF.out.next)
                  have hz1 : K'.length ≤ 1000 := by have := HF2.out.zones; omega
                  have HL2 : Hid ((flatK K').length ≤ 100000) := Lib.hid (by have := HF2.out.cells; omega)
                  have HK3 : Hid (OKs K') := Lib.hid (by rw [hK']; exact HK.out)
                  obtain ⟨w3, hw3⟩ : ∃ w3, w3 = wr.alloc (.cells #[.int .i64 k, .int .i64 z, .string s] 24) := ⟨_, rfl⟩
                  have HD3 : Hid (Duo (fun _ => False) w.heap.size w.heap.size wa.heap.size K' (flatK K') w3) := Lib.hid (by rw [hK', hw3]; exact (HD.out.fresh ((Touch.refl _ _).alloc _) (by simp)).weak)
                  have HB3 : Hid (Below w.heap.size w w3) := Lib.hid (by rw [hw3]; exact HB.out.alloc hBs _)
                  have HW3 := Lib.hid hw3
                  clear hw3
                  go_wp2_with (first
                    | (go_at_call 14; rw [← HW3.out]; refine (HD3.out.tabC hz1 HF2.out.wf).mono ?_; rintro e w4 ⟨v4, rfl, hr4, hb4⟩; have hs4 := hb4.size; have HR4 := Lib.hid hr4; have HD4 := Lib.hid (HD3.out.keep (Touch.of_below hb4) (fun x hx => .inr hx)); have HB4 := Lib.hid hb4; clear hr4 hb4)
                    | (go_at_call 15; refine (HD4.out.tabR HK3.out HL2.out).mono ?_; rintro e w5 ⟨v5, rfl, hr5, hb5⟩; have hs5 := hb5.size; have HR5 := Lib.hid hr5; have HR6 := Lib.hid (row_belowL HR4.out hb5); have HB5 := Lib.hid (HB4.out.trans (hb5.mono hs4)); clear hr5 hb5)
                    | (go_at_call 13; refine (rowsSame (tabK K') K'.length (by simp [tabK]) hz1 _ _ v4 v5 w5 HR6.out HR5.out).mono ?_; rintro e w6 ⟨rfl, hb6⟩; have hs6 := hb6.size; have HB6 := Lib.hid (HB5.out.trans (hb6.mono (Nat.le_trans hs4 hs5))); clear hb6)
                    | fail)
                  exact ⟨⟨j + 1, K', hjl, by go_num, HD3.out.keep (Touch.of_below HB6.out) (fun x hx => .inr hx), HF2.out, HB3.out.trans (HB6.out.mono HB3.out.size)⟩, measJ hjl⟩
          · obtain rfl : j = xs.length := by omega
            go_wp2_with (first | (go_at_call 16; refine (loadKKnown _).mono ?_; rintro e w4 ⟨rfl, hb4⟩) | fail)
            go_ret
            exact ⟨rfl, HB.out.trans (hb4.mono HB.out.size)⟩
  · skip
    go_loopw [3] (fun i wr => ∃ j : Nat, j ≤ 300 ∧ i = .int .i64 j ∧ wr = w) (fun i _ => 300 - (intOf i).toNat)
    case atStart => exact ⟨0, Nat.zero_le _, rfl, rfl⟩
    case round =>
      obtain ⟨j, hj, rfl, hw⟩ := hrel
      have hw := hw.symm
      subst hw
      by_cases hjl : j < 300
      · obtain ⟨qb, qo, rfl, hqb, e0, e1, e2⟩ := cells_atL HX.out (show j < xs.length by omega)
        have q1 : (j : Int) < (xs.length : Int) := by omega
        have q2 : (j : Int) < 300 := by omega
        by_cases h60 : 60 < (xs[j]'(by omega)).2.2.size
        · have q3 : (60 : Int) < ((xs[j]'(by omega)).2.2.size : Int) := by omega
          go_wp2_with fail
          go_ret
          exact ⟨rfl, Below.refl _ _⟩
        · have q3 : ¬ (60 : Int) < ((xs[j]'(by omega)).2.2.size : Int) := by omega
          go_wp2_with fail
          exact ⟨⟨j + 1, by omega, by go_num, trivial⟩, by simp [intOf]; omega⟩
      · obtain rfl : j = 300 := by omega
        have q1 : (300 : Int) < (xs.length : Int) := by omega
        go_wp2_with (first
          | (go_at_call 6; refine (newLoad _).mono ?_; rintro e wa ⟨rfl, hla, hba⟩; have hsa := hba.size; have hlwa := hla.low; have HLA := Lib.hid hla; have HBA := Lib.hid hba; clear hla hba)
          | fail)
        go_loopw [6] (fun i wr => ∃ (j : Nat) (K : Ks), j ≤ 300 ∧ i = .int .i64 j ∧ Duo (fun _ => False) w.heap.size w.heap.size wa.heap.size K (flatK K) wr ∧ Fits j K ∧ Below w.heap.size w wr) (fun i _ => 300 - (intOf i).toNat)
        case atStart => exact ⟨0, [], Nat.zero_le _, rfl, startDuo HLA.out HBA.out hsa rfl, Fits.nil, by have hz := HBA.out; ((repeat (first | (with_reducible exact Below.refl _ _) | (with_reducible assumption) | ((with_reducible refine b_set ?_ ?_); · (first | omega | (simp; done) | (simp; omega))) | ((with_reducible refine b_alloc ?_ ?_); · (first | omega | (simp; done) | (simp; omega))) | (with_reducible refine Below.drew ?_) | (with_reducible refine b_drewN ?_) | ((with_reducible refine b_call (by assumption) ?_ ?_); · (first | omega | (simp; done) | (simp; omega))))); done)⟩
        case round =>
          obtain ⟨j, K, hj, rfl, hD, hF, hB⟩ := hrel
          have hBs := hB.size
          have HK := Lib.hid hD.oks
          have HF := Lib.hid hF
          have HLN : Hid ((flatK K).length ≤ 100000) := Lib.hid (by have := hF.cells; omega)
          have HD := Lib.hid hD
          have HB := Lib.hid hB
          by_cases hjl : j < 300
          · obtain ⟨qb, qo, rfl, hqb, e0, e1, e2⟩ := cells_atL HX.out (show j < xs.length by omega)
            have e0 := bkeep hB e0 hqb
            have e1 := bkeep hB e1 hqb
            have e2 := bkeep hB e2 hqb
            have HZ : Hid ((Lit.int .i64 (xs[j]'(by omega)).2.1).wf = true) := Lib.hid (HQ.out _ (List.getElem_mem _)).2.1
            have q1 : (j : Int) < (xs.length : Int) := by omega
            have q2 : (j : Int) < 300 := by omega
            obtain ⟨k, hk⟩ : ∃ z, z = (xs[j]'(by omega)).1 := ⟨_, rfl⟩
            obtain ⟨z, hz⟩ : ∃ z, z = (xs[j]'(by omega)).2.1 := ⟨_, rfl⟩
            obtain ⟨s, hs⟩ : ∃ z, z = (xs[j]'(by omega)).2.2 := ⟨_, rfl⟩
            rw [← hk] at e0
            rw [← hz] at e1 HZ
            rw [← hs] at e2
            clear hD hF hB hk hz hs
            by_cases h1 : k = 1
            · subst h1
              obtain ⟨K', hK'⟩ : ∃ K', K' = hitK K z s.data.toList := ⟨_, rfl⟩
              have HF2 : Hid (Fits (j + 1) K') := Lib.hid (by rw [hK']; exact HF.out.hit HK.out HZ.out s.data.toList)
              have hz1 : K'.length ≤ 1000 := by have := HF2.out.zones; omega
              have HL2 : Hid ((flatK K').length ≤ 100000) := Lib.hid (by have := HF2.out.cells; omega)
              have HB0 : Hid (Below w.heap.size w (wr.alloc (.cells #[.int .i64 1, .int .i64 z, .string s] 24))) := Lib.hid (HB.out.alloc hBs _)
              go_wp2_with (first
                | (go_at_call 7; refine ((HD.out.fresh ((Touch.refl _ _).alloc _) (by simp)).hitC z s).mono ?_; rintro e w2 ⟨rfl, hD2, hb2, hk2⟩; have hs2 := hb2.size; have hW2 := Whl.cell ((hk2 _ rfl).trans (Whl.new rfl)); have d1 := hW2 1; have d2 := hW2 2; simp only [List.getElem?_toArray, List.getElem?_cons_succ, List.getElem?_cons_zero] at d1 d2; clear hW2; rw [← hK'] at hD2; have HD2 := Lib.hid hD2; have HB2 := Lib.hid (HB0.out.trans hb2); clear hD2 hb2 hk2)
                | (go_at_call 8; refine (HD2.out.hitR HK.out HLN.out z s).mono ?_; rintro e w3 ⟨rfl, hD3, hb3, hk3⟩; have hs3 := hb3.size; rw [← hK'] at hD3; have HD3 := Lib.hid hD3.weak; have HK3 := Lib.hid hD3.oks; have HB3 := Lib.hid (HB2.out.trans hb3); clear hD3 hb3 hk3)
                | (go_at_call 14; refine (HD3.out.tabC hz1 HF2.out.wf).mono ?_; rintro e w4 ⟨v4, rfl, hr4, hb4⟩; have hs4 := hb4.size; have HR4 := Lib.hid hr4; have HD4 := Lib.hid (HD3.out.keep (Touch.of_below hb4) (fun x hx => .inr hx)); have HB4 := Lib.hid hb4; clear hr4 hb4)
                | (go_at_call 15; refine (HD4.out.tabR HK3.out HL2.out).mono ?_; rintro e w5 ⟨v5, rfl, hr5, hb5⟩; have hs5 := hb5.size; have HR5 := Lib.hid hr5; have HR6 := Lib.hid (row_belowL HR4.out hb5); have HB5 := Lib.hid (HB4.out.trans (hb5.mono hs4)); clear hr5 hb5)
                | (go_at_call 13; refine (rowsSame (tabK K') K'.length (by simp [tabK]) hz1 _ _ v4 v5 w5 HR6.out HR5.out).mono ?_; rintro e w6 ⟨rfl, hb6⟩; have hs6 := hb6.size; have HB6 := Lib.hid (HB5.out.trans (hb6.mono (Nat.le_trans hs4 hs5))); clear hb6)
                | fail)
              exact ⟨⟨j + 1, K', hjl, by go_num, HD3.out.keep (Touch.of_below HB6.out) (fun x hx => .inr hx), HF2.out, HB3.out.trans (HB6.out.mono HB3.out.size)⟩, measJ hjl⟩
            · by_cases h2 : k = 2
              · subst h2
                obtain ⟨K', hK'⟩ : ∃ K', K' = fadeK K := ⟨_, rfl⟩
                have HF2 : Hid (Fits (j + 1) K') := Lib.hid (by rw [hK']; exact HF.out.fade)
                have hz1 : K'.length ≤ 1000 := by have := HF2.out.zones; omega
                have HL2 : Hid ((flatK K').length ≤ 100000) := Lib.hid (by have := HF2.out.cells; omega)
                have HB0 : Hid (Below w.heap.size w (wr.alloc (.cells #[.int .i64 2, .int .i64 z, .string s] 24))) := Lib.hid (HB.out.alloc hBs _)
                go_wp2_with (first
                  | (go_at_call 9; refine ((HD.out.fresh ((Touch.refl _ _).alloc _) (by simp)).fadeC).mono ?_; rintro e w2 ⟨rfl, hD2, hb2, hk2⟩; have hs2 := hb2.size; rw [← hK'] at hD2; have HD2 := Lib.hid hD2; have HB2 := Lib.hid (HB0.out.trans hb2); clear hD2 hb2 hk2)
                  | (go_at_call 10; refine (HD2.out.fadeR HK.out HLN.out).mono ?_; rintro e w3 ⟨rfl, hD3, hb3, hk3⟩; have hs3 := hb3.size; rw [← hK'] at hD3; have HD3 := Lib.hid hD3.weak; have HK3 := Lib.hid hD3.oks; have HB3 := Lib.hid (HB2.out.trans hb3); clear hD3 hb3 hk3)
                  | (go_at_call 14; refine (HD3.out.tabC hz1 HF2.out.wf).mono ?_; rintro e w4 ⟨v4, rfl, hr4, hb4⟩; have hs4 := hb4.size; have HR4 := Lib.hid hr4; have HD4 := Lib.hid (HD3.out.keep (Touch.of_below hb4) (fun x hx => .inr hx)); have HB4 := Lib.hid hb4; clear hr4 hb4)
                  | (go_at_call 15; refine (HD4.out.tabR HK3.out HL2.out).mono ?_; rintro e w5 ⟨v5, rfl, hr5, hb5⟩; have hs5 := hb5.size; have HR5 := Lib.hid hr5; have HR6 := Lib.hid (row_belowL HR4.out hb5); have HB5 := Lib.hid (HB4.out.trans (hb5.mono hs4)); clear hr5 hb5)
                  | (go_at_call 13; refine (rowsSame (tabK K') K'.length (by simp [tabK]) hz1 _ _ v4 v5 w5 HR6.out HR5.out).mono ?_; rintro e w6 ⟨rfl, hb6⟩; have hs6 := hb6.size; have HB6 := Lib.hid (HB5.out.trans (hb6.mono (Nat.le_trans hs4 hs5))); clear hb6)
                  | fail)
                exact ⟨⟨j + 1, K', hjl, by go_num, HD3.out.keep (Touch.of_below HB6.out) (fun x hx => .inr hx), HF2.out, HB3.out.trans (HB6.out.mono HB3.out.size)⟩, measJ hjl⟩
              · by_cases h3 : k = 3
                · subst h3
                  obtain ⟨K', hK'⟩ : ∃ K', K' = goneK K z := ⟨_, rfl⟩
                  have HF2 : Hid (Fits (j + 1) K') := Lib.hid (by rw [hK']; exact HF.out.gone z)
                  have hz1 : K'.length ≤ 1000 := by have := HF2.out.zones; omega
                  have HL2 : Hid ((flatK K').length ≤ 100000) := Lib.hid (by have := HF2.out.cells; omega)
                  have HB0 : Hid (Below w.heap.size w (wr.alloc (.cells #[.int .i64 3, .int .i64 z, .string s] 24))) := Lib.hid (HB.out.alloc hBs _)
                  go_wp2_with (first
                    | (go_at_call 11; refine ((HD.out.fresh ((Touch.refl _ _).alloc _) (by simp)).goneC z).mono ?_; rintro e w2 ⟨rfl, hD2, hb2, hk2⟩; have hs2 := hb2.size; have hW2 := Whl.cell ((hk2 _ rfl).trans (Whl.new rfl)); have d1 := hW2 1; have d2 := hW2 2; simp only [List.getElem?_toArray, List.getElem?_cons_succ, List.getElem?_cons_zero] at d1 d2; clear hW2; rw [← hK'] at hD2; have HD2 := Lib.hid hD2; have HB2 := Lib.hid (HB0.out.trans hb2); clear hD2 hb2 hk2)
                    | (go_at_call 12; refine (HD2.out.goneR HLN.out z).mono ?_; rintro e w3 ⟨rfl, hD3, hb3, hk3⟩; have hs3 := hb3.size; rw [← hK'] at hD3; have HD3 := Lib.hid hD3.weak; have HK3 := Lib.hid hD3.oks; have HB3 := Lib.hid (HB2.out.trans hb3); clear hD3 hb3 hk3)
                    | (go_at_call 14; refine (HD3.out.tabC hz1 HF2.out.wf).mono ?_; rintro e w4 ⟨v4, rfl, hr4, hb4⟩; have hs4 := hb4.size; have HR4 := Lib.hid hr4; have HD4 := Lib.hid (HD3.out.keep (Touch.of_below hb4) (fun x hx => .inr hx)); have HB4 := Lib.hid hb4; clear hr4 hb4)
                    | (go_at_call 15; refine (HD4.out.tabR HK3.out HL2.out).mono ?_; rintro e w5 ⟨v5, rfl, hr5, hb5⟩; have hs5 := hb5.size; have HR5 := Lib.hid hr5; have HR6 := Lib.hid (row_belowL HR4.out hb5); have HB5 := Lib.hid (HB4.out.trans (hb5.mono hs4)); clear hr5 hb5)
                    | (go_at_call 13; refine (rowsSame (tabK K') K'.length (by simp [tabK]) hz1 _ _ v4 v5 w5 HR6.out HR5.out).mono ?_; rintro e w6 ⟨rfl, hb6⟩; have hs6 := hb6.size; have HB6 := Lib.hid (HB5.out.trans (hb6.mono (Nat.le_trans hs4 hs5))); clear hb6)
                    | fail)
                  exact ⟨⟨j + 1, K', hjl, by go_num, HD3.out.keep (Touch.of_below HB6.out) (fun x hx => .inr hx), HF2.out, HB3.out.trans (HB6.out.mono HB3.out.size)⟩, measJ hjl⟩
                · skip
                  obtain ⟨K', hK'⟩ : ∃ K', K' = K := ⟨_, rfl⟩
                  have HF2 : Hid (Fits (j + 1) K') := Lib.hid (by rw [hK']; exact HF.out.next)
                  have hz1 : K'.length ≤ 1000 := by have := HF2.out.zones; omega
                  have HL2 : Hid ((flatK K').length ≤ 100000) := Lib.hid (by have := HF2.out.cells; omega)
                  have HK3 : Hid (OKs K') := Lib.hid (by rw [hK']; exact HK.out)
                  obtain ⟨w3, hw3⟩ : ∃ w3, w3 = wr.alloc (.cells #[.int .i64 k, .int .i64 z, .string s] 24) := ⟨_, rfl⟩
                  have HD3 : Hid (Duo (fun _ => False) w.heap.size w.heap.size wa.heap.size K' (flatK K') w3) := Lib.hid (by rw [hK', hw3]; exact (HD.out.fresh ((Touch.refl _ _).alloc _) (by simp)).weak)
                  have HB3 : Hid (Below w.heap.size w w3) := Lib.hid (by rw [hw3]; exact HB.out.alloc hBs _)
                  have HW3 := Lib.hid hw3
                  clear hw3
                  go_wp2_with (first
                    | (go_at_call 14; rw [← HW3.out]; refine (HD3.out.tabC hz1 HF2.out.wf).mono ?_; rintro e w4 ⟨v4, rfl, hr4, hb4⟩; have hs4 := hb4.size; have HR4 := Lib.hid hr4; have HD4 := Lib.hid (HD3.out.keep (Touch.of_below hb4) (fun x hx => .inr hx)); have HB4 := Lib.hid hb4; clear hr4 hb4)
                    | (go_at_call 15; refine (HD4.out.tabR HK3.out HL2.out).mono ?_; rintro e w5 ⟨v5, rfl, hr5, hb5⟩; have hs5 := hb5.size; have HR5 := Lib.hid hr5; have HR6 := Lib.hid (row_belowL HR4.out hb5); have HB5 := Lib.hid (HB4.out.trans (hb5.mono hs4)); clear hr5 hb5)
                    | (go_at_call 13; refine (rowsSame (tabK K') K'.length (by simp [tabK]) hz1 _ _ v4 v5 w5 HR6.out HR5.out).mono ?_; rintro e w6 ⟨rfl, hb6⟩; have hs6 := hb6.size; have HB6 := Lib.hid (HB5.out.trans (hb6.mono (Nat.le_trans hs4 hs5))); clear hb6)
                    | fail)
                  exact ⟨⟨j + 1, K', hjl, by go_num, HD3.out.keep (Touch.of_below HB6.out) (fun x hx => .inr hx), HF2.out, HB3.out.trans (HB6.out.mono HB3.out.size)⟩, measJ hjl⟩
          · obtain rfl : j = 300 := by omega
            go_wp2_with (first | (go_at_call 16; refine (loadKKnown _).mono ?_; rintro e w4 ⟨rfl, hb4⟩) | fail)
            go_ret
            exact ⟨rfl, HB.out.trans (hb4.mono HB.out.size)⟩
end Go.Proofs.Ytfakfnekcgkelaa
