/- BookPrices: the walk of the statement, of few acts. -/
import Derived.Test.YtekelnkjigaofaaBqRd
import Derived.Deep.RegionLaw
namespace Go.Proofs.Ytekelnkjigaofaa
open Go.RowKit
set_option linter.unusedVariables false
set_option linter.unusedSimpArgs false

set_option maxHeartbeats 20000000 in
set_option maxRecDepth 10000 in
theorem walkBookPricesA (A : Option Addr) (c : Nat) (xs : List Ba) (w : World) (hx : Cells w w.heap.size A xs.length c 8 (xs.flatMap baV)) (h120 : xs.length ≤ 120) :
    Calls Try.prog 8 #[.slice A xs.length c] w fun e w' => e = .returned (.bool true) ∧ Below w.heap.size w w' := by
  have HX := Lib.hid hx
  clear hx
  go_enter Try.func8, Try.ntmps8
  go_wp2_with (first
    | (go_at_call 18; go_loud (refine (newBook _).mono ?_; rintro e w1 ⟨rfl, hb1, hb⟩; have hs1 := hb.size; have HB1 := Lib.hid hb1; have HBL := Lib.hid hb; clear hb1 hb))
    | fail)
  have HF1 : Hid (∀ x, Ft w.heap.size (fun _ => .slice none 0 0) x → w.heap.size ≤ x) := Lib.hid (fun x hx => by
    rcases hx with e | ⟨i, _, e⟩
    · omega
    · cases e)
  go_loopw [4] (fun iv wr => ∃ (i : Nat) (v : Nat → Value) (L : List Od) (last : Int), i ≤ xs.length ∧ iv = .int .i64 i ∧ BookAt wr w.heap.size v L last ∧ (∀ x, Ft w.heap.size v x → w.heap.size ≤ x) ∧ Below w.heap.size w wr) (fun iv _ => xs.length - (intOf iv).toNat)
  case atStart => exact ⟨0, _, [], 0, Nat.zero_le _, rfl, HB1.out, HF1.out, HBL.out⟩
  case round =>
    obtain ⟨i, v, L, last, hil, rfl, hB, hF, hBw⟩ := hrel
    have HB := Lib.hid hB
    have HF := Lib.hid hF
    have HW := Lib.hid hBw
    have hsw := hBw.size
    by_cases hlt : i < xs.length
    · have q3 : (i : Int) < (xs.length : Int) := by omega
      have q4 : (i : Int) < 120 := by omega
      obtain ⟨qb, qo, rfl, hqb, c0, c1, c2, c3, c4, c5, c6, c7⟩ := ba_at HX.out (show i < xs.length by omega)
      have HC4 := Lib.hid c4
      have HC7 := Lib.hid c7
      have c0 := bkeep hBw c0 hqb
      have c1 := bkeep hBw c1 hqb
      have c2 := bkeep hBw c2 hqb
      have c3 := bkeep hBw c3 hqb
      have c4 := bkeep hBw c4 hqb
      have c5 := bkeep hBw c5 hqb
      have c6 := bkeep hBw c6 hqb
      have c7 := bkeep hBw c7 hqb
      obtain ⟨k, hk⟩ : ∃ k, k = (xs[i]'(by omega)).1 := ⟨_, rfl⟩
      obtain ⟨nn, hn⟩ : ∃ k, k = (xs[i]'(by omega)).2.1 := ⟨_, rfl⟩
      obtain ⟨o, ho⟩ : ∃ k, k = (xs[i]'(by omega)).2.2 := ⟨_, rfl⟩
      rw [← hk] at c0
      rw [← hn] at c1
      rw [← ho] at c2 c3 c4 c5 c6 c7 HC4 HC7
      clear hB hF hBw hk hn ho
      by_cases h1 : k = 1
      · subst h1
        go_wp2_with (first
          | (go_at_call 12; go_loud (refine (list w.heap.size v L last _ HB.out).mono ?_; rintro e w3 ⟨u, rfl, hu, hb3⟩; have hs3 := hb3.size; have HU3 := Lib.hid hu; have HB3 := Lib.hid (HB.out.below hb3); have HW3 := Lib.hid (HW.out.trans (hb3.mono hsw)); have c0 := bkeep hb3 c0 (by omega); have c1 := bkeep hb3 c1 (by omega); have c2 := bkeep hb3 c2 (by omega); have c3 := bkeep hb3 c3 (by omega); have c4 := bkeep hb3 c4 (by omega); have c5 := bkeep hb3 c5 (by omega); have c6 := bkeep hb3 c6 (by omega); have c7 := bkeep hb3 c7 (by omega); clear hu hb3))
          | (go_at_call 16; go_loud (refine (place w.heap.size v L last o _ HB3.out).mono ?_; rintro e w4 ⟨Td, n, c', L', last', v4, tv, rfl, hp, hb, ho, ha, ht, hf⟩; have hs4 := ht.size; have HB4 := Lib.hid hb; have HT4 := Lib.hid ht; have HF4 := Lib.hid hf; have HTV := Lib.hid ho; have HFAIR := Lib.hid hp.fair; have hTl := hp.len; have HU4 := Lib.hid (ht.own HU3.out (fun g hg hh => by have h1 := (HU3.out.lt g hg).1; have h2 := HB.out.lows g hh; omega)); have HW4 := Lib.hid (HW3.out.trans (ht.below (by omega) (fun x hx => HF.out x hx))); obtain ⟨At, kt, hvt, _, _, _⟩ := own_slice ho; subst hvt; obtain ⟨Au, ku, hvu, _, _, _⟩ := own_slice HU3.out; subst hvu; clear ho hb ha hf hp ht))
          | fail)
        have hL32 := HB.out.len
        have hids := HB.out.bk.ids
        have HIDS := Lib.hid hids
        clear hids c0 c1 c2 c3 c4 c5 c6 c7
        go_loopw [9, 10, 11, 12] (fun pv _ _ _ wp => ∃ p : Nat, p ≤ Td.length ∧ pv = .int .i64 p ∧ Below w4.heap.size w4 wp) (fun pv _ _ _ _ => Td.length - (intOf pv).toNat)
        case atStart => exact ⟨0, Nat.zero_le _, rfl, Below.refl _ _⟩
        case round =>
          obtain ⟨p, hpl, rfl, hBp⟩ := hrel
          have HBP := Lib.hid hBp
          have hsp := hBp.size
          by_cases hpt : p < Td.length
          · have q5 : (p : Int) < (Td.length : Int) := by omega
            obtain ⟨t, htt⟩ : ∃ t, t = Td[p] := ⟨_, rfl⟩
            obtain ⟨x, hxL, hxid, hxp, hxb, hx1, hx2⟩ := HFAIR.out t (by rw [htt]; exact List.getElem_mem hpt)
            have ht3 := row_below HTV.out hBp
            obtain ⟨gt, kt', e8, _, hgt, _, _⟩ := own_form ht3 (by omega)
            injection e8 with e8 e9 e10
            subst e8 e10
            obtain ⟨y0, y1, y2, y3, y4, y5, y6, y7⟩ := flatT_at Td p hpt
            rw [← htt] at y2 y3 y6 y7
            have a2 := (ht3.cellAt (p * 8 + 2) (by omega)).trans y2
            have a3 := (ht3.cellAt (p * 8 + 3) (by omega)).trans y3
            have a6 := (ht3.cellAt (p * 8 + 6) (by omega)).trans y6
            have a7 := (ht3.cellAt (p * 8 + 7) (by omega)).trans y7
            have c4 := bkeep (HW4.out.trans (hBp.mono HW4.out.size)) HC4.out hqb
            have c7 := bkeep (HW4.out.trans (hBp.mono HW4.out.size)) HC7.out hqb
            obtain ⟨tp, htp⟩ : ∃ z, z = t.pr := ⟨_, rfl⟩
            obtain ⟨tb, htb⟩ : ∃ z, z = t.bid := ⟨_, rfl⟩
            obtain ⟨ts, hts⟩ : ∃ z, z = t.sell := ⟨_, rfl⟩
            obtain ⟨ty, hty⟩ : ∃ z, z = t.buy := ⟨_, rfl⟩
            obtain ⟨op, hop⟩ : ∃ z, z = o.pr := ⟨_, rfl⟩
            rw [← hts, ← hty] at hxid
            rw [← htp] at a6 hxp hxb hx2
            rw [← htb] at a7 hxb hx1
            rw [← hts] at a3
            rw [← hty] at a2
            rw [← hop] at c7 hx1 hx2
            have HXL := Lib.hid hxL
            have HXP := Lib.hid hxp
            have HTP : Hid (tp = (Td[p]).pr) := Lib.hid (by rw [htp, htt])
            have HTB : Hid (tb = (Td[p]).bid) := Lib.hid (by rw [htb, htt])
            have HOP := Lib.hid hop
            clear y0 y1 y2 y3 y4 y5 y6 y7 ht3 htt htp htb hts hty hop hBp hxL hxp
            cases hb : o.buy with
            | true =>
              rw [hb] at c4 hx1 hx2 hxid
              simp only [if_true, Bool.false_eq_true, if_false] at hxid
              have qb1 : ¬ tb < tp := by omega
              have qb2 : tb = op := hx1 rfl
              have qb3 : tp ≤ op := by omega
              have HXID := Lib.hid hxid
              clear hx1 hx2 hxid hxb
              go_wp2_with fail
              go_loopw [11, 12] (fun av jv wq => ∃ (j : Nat) (z : Int), j ≤ L.length ∧ jv = .int .i64 j ∧ av = .int .i64 z ∧ (∀ q (hq : q < j) (hq2 : q < L.length), L[q] = x → z = tp) ∧ Below w4.heap.size w4 wq) (fun _ jv _ => L.length - (intOf jv).toNat)
              case atStart => exact ⟨0, 0, Nat.zero_le _, rfl, rfl, fun q hq => by omega, HBP.out⟩
              case round =>
                obtain ⟨j, z, hjl, rfl, rfl, hz, hBq⟩ := hrel
                have HZ := Lib.hid hz
                have HBQ := Lib.hid hBq
                have hu3 := row_below HU4.out hBq
                have ht3 := row_below HTV.out hBq
                by_cases hjL : j < L.length
                · have q6 : (j : Int) < (L.length : Int) := by omega
                  obtain ⟨gu, ku', e5, _, hgu, _, _⟩ := own_form hu3 (by omega)
                  injection e5 with e5 e6 e7
                  subst e5 e7
                  obtain ⟨b0, b1, b2, b3, b4, b5⟩ := flatO_at L j hjL
                  have d0 := (hu3.cellAt (j * 6) (ixO0 hjL)).trans b0
                  have d5 := (hu3.cellAt (j * 6 + 5) (ixO hjL 5 (by decide))).trans b5
                  obtain ⟨y, hy⟩ : ∃ y, y = L[j] := ⟨_, rfl⟩
                  rw [← hy] at d0 d5
                  have HY := Lib.hid hy
                  clear b0 b1 b2 b3 b4 b5 hu3 ht3 hy hz hBq a2 a3 a6 a7 c4 c7
                  by_cases hid : y.id = ts
                  · have hyx : y = x := HIDS.out.inj (by rw [HY.out]; exact List.getElem_mem hjL) HXL.out (by rw [hid, HXID.out])
                    have hyp : y.pr = tp := by rw [hyx]; exact HXP.out.symm
                    have HYP := Lib.hid hyp
                    clear hyx hyp
                    go_wp2_with fail
                    exact ⟨⟨j + 1, _, hjL, by go_num, rfl, fun q hq hq2 _ => HYP.out, HBQ.out⟩, measI hjL⟩
                  · go_wp2_with fail
                    refine ⟨⟨j + 1, z, hjL, by go_num, rfl, fun q hq hq2 e => ?_, HBQ.out⟩, measI hjL⟩
                    by_cases e2 : q = j
                    · subst e2
                      exact absurd (show y.id = ts by rw [HY.out, e, HXID.out]) hid
                    · exact HZ.out q (by omega) hq2 e
                · obtain rfl : L.length = j := by omega
                  have hzt : z = tp := by
                    obtain ⟨q, hq, e⟩ := List.getElem_of_mem HXL.out
                    exact HZ.out q hq hq e
                  have hzt := hzt.symm
                  subst hzt
                  obtain ⟨y0, y1, y2, y3, y4, y5, y6, y7⟩ := flatT_at Td p hpt
                  rw [← HTP.out] at y6
                  rw [← HTB.out] at y7
                  clear a2 a3 a6 a7 c4 c7
                  have a6 := (ht3.cellAt (p * 8 + 6) (by omega)).trans y6
                  have a7 := (ht3.cellAt (p * 8 + 7) (by omega)).trans y7
                  have c4 := bkeep (HW4.out.trans (hBq.mono HW4.out.size)) HC4.out hqb
                  have c7 := bkeep (HW4.out.trans (hBq.mono HW4.out.size)) HC7.out hqb
                  rw [hb] at c4
                  rw [← HOP.out] at c7
                  clear y0 y1 y2 y3 y4 y5 y6 y7 ht3 hu3 hz hBq
                  go_wp2_with fail
                  refine wp_region_held_drew (S := (fun W => W.cell? ⟨gt, p * 8 + 6, none⟩ = some (.int .i64 tp) ∧ W.cell? ⟨gt, p * 8 + 7, none⟩ = some (.int .i64 tb) ∧ W.cell? ⟨qb, qo + i * 8 + 4, none⟩ = some (.bool true) ∧ W.cell? ⟨qb, qo + i * 8 + 7, none⟩ = some (.int .i64 op))) (by kernel_rfl) ⟨a6, a7, c4, c7⟩ (fun hHeld => ?_)
                  refine wpAnyH_take (i := 0) (oi := ⟨some 93, _, _, _, _, _⟩) (v := ?v0ut) rfl (by kernel_rfl) (by kernel_rfl) (by kernel_rfl) (fun _ _ _ h => h) (Or.inl ⟨by rfl, ?y0ut⟩) (by assumption) ?r0ut
                  case y0ut => (intro w hSw; (try dsimp only at hSw); (try go_split_ands); go_simp); (try with_reducible rfl)
                  case r0ut =>
                  (try simp only [Act.put, List.setIfInBounds_toArray, List.set_cons_zero, List.set_cons_succ])
                  refine wpAnyH_take (i := 1) (oi := ⟨some 94, _, _, _, _, _⟩) (v := ?v1ut) rfl (by kernel_rfl) (by kernel_rfl) (by kernel_rfl) (fun _ _ _ h => h) (Or.inl ⟨by rfl, ?y1ut⟩) (by assumption) ?r1ut
                  case y1ut => (intro w hSw; (try dsimp only at hSw); (try go_split_ands); go_simp); (try with_reducible rfl)
                  case r1ut =>
                  (try simp only [Act.put, List.setIfInBounds_toArray, List.set_cons_zero, List.set_cons_succ])
                  refine wpAnyH_take (i := 2) (oi := ⟨some 95, _, _, _, _, _⟩) (v := ?v2ut) rfl (by kernel_rfl) (by kernel_rfl) (by kernel_rfl) (fun _ _ _ h => h) (Or.inl ⟨by rfl, ?y2ut⟩) (by assumption) ?r2ut
                  case y2ut => (intro w hSw; (try dsimp only at hSw); (try go_split_ands); go_simp); (try with_reducible rfl)
                  case r2ut =>
                  (try simp only [Act.put, List.setIfInBounds_toArray, List.set_cons_zero, List.set_cons_succ])
                  refine wpAnyH_take (i := 3) (oi := ⟨some 96, _, _, _, _, _⟩) (v := ?v3ut) rfl (by kernel_rfl) (by kernel_rfl) (by kernel_rfl) (fun _ _ _ h => h) (Or.inl ⟨by rfl, ?y3ut⟩) (by assumption) ?r3ut
                  case y3ut => (intro w hSw; (try dsimp only at hSw); (try go_split_ands); go_simp); (try with_reducible rfl)
                  case r3ut =>
                  (try simp only [Act.put, List.setIfInBounds_toArray, List.set_cons_zero, List.set_cons_succ])
                  refine wpAnyH_take (i := 4) (oi := ⟨some 97, _, _, _, _, _⟩) (v := ?v4ut) rfl (by kernel_rfl) (by kernel_rfl) (by kernel_rfl) (fun _ _ _ h => h) (Or.inl ⟨by rfl, ?y4ut⟩) (by assumption) ?r4ut
                  case y4ut => (intro w hSw; (try dsimp only at hSw); (try go_split_ands); go_simp); (try with_reducible rfl)
                  case r4ut =>
                  (try simp only [Act.put, List.setIfInBounds_toArray, List.set_cons_zero, List.set_cons_succ])
                  refine wpAnyH_take (i := 5) (oi := ⟨some 98, _, _, _, _, _⟩) (v := ?v5ut) rfl (by kernel_rfl) (by kernel_rfl) (by kernel_rfl) (fun _ _ _ h => h) (Or.inl ⟨by rfl, ?y5ut⟩) (by assumption) ?r5ut
                  case y5ut => (intro w hSw; (try dsimp only at hSw); (try go_split_ands); go_simp); (try with_reducible rfl)
                  case r5ut =>
                  (try simp only [Act.put, List.setIfInBounds_toArray, List.set_cons_zero, List.set_cons_succ])
                  refine wpAnyH_take (i := 6) (oi := ⟨some 99, _, _, _, _, _⟩) (v := .bool false) rfl (by kernel_rfl) (by kernel_rfl) (by kernel_rfl) (fun _ _ _ h => h) (Or.inl ⟨by rfl, ?y6ut⟩) (by assumption) ?r6ut
                  case y6ut => (intro w hSw; (try dsimp only at hSw); (try go_split_ands); go_simp)
                  case r6ut =>
                  (try simp only [Act.put, List.setIfInBounds_toArray, List.set_cons_zero, List.set_cons_succ])
                  refine wpAnyH_take (i := 7) (oi := ⟨some 100, _, _, _, _, _⟩) (v := ?v7ut) rfl (by kernel_rfl) (by kernel_rfl) (by kernel_rfl) (fun _ _ _ h => h) (Or.inl ⟨by rfl, ?y7ut⟩) (by assumption) ?r7ut
                  case y7ut => (intro w hSw; (try dsimp only at hSw); (try go_split_ands); go_simp); (try with_reducible rfl)
                  case r7ut =>
                  (try simp only [Act.put, List.setIfInBounds_toArray, List.set_cons_zero, List.set_cons_succ])
                  refine wpAnyH_take (i := 8) (oi := ⟨some 101, _, _, _, _, _⟩) (v := ?v8ut) rfl (by kernel_rfl) (by kernel_rfl) (by kernel_rfl) (fun _ _ _ h => h) (Or.inl ⟨by rfl, ?y8ut⟩) (by assumption) ?r8ut
                  case y8ut => (intro w hSw; (try dsimp only at hSw); (try go_split_ands); go_simp); (try with_reducible rfl)
                  case r8ut =>
                  (try simp only [Act.put, List.setIfInBounds_toArray, List.set_cons_zero, List.set_cons_succ])
                  refine wpAnyH_take (i := 9) (oi := ⟨some 102, _, _, _, _, _⟩) (v := ?v9ut) rfl (by kernel_rfl) (by kernel_rfl) (by kernel_rfl) (fun _ _ _ h => h) (Or.inl ⟨by rfl, ?y9ut⟩) (by assumption) ?r9ut
                  case y9ut => (intro w hSw; (try dsimp only at hSw); (try go_split_ands); go_simp); (try with_reducible rfl)
                  case r9ut =>
                  (try simp only [Act.put, List.setIfInBounds_toArray, List.set_cons_zero, List.set_cons_succ])
                  refine wpAnyH_take (i := 10) (oi := ⟨some 103, _, _, _, _, _⟩) (v := ?v10ut) rfl (by kernel_rfl) (by kernel_rfl) (by kernel_rfl) (fun _ _ _ h => h) (Or.inl ⟨by rfl, ?y10ut⟩) (by assumption) ?r10ut
                  case y10ut => (intro w hSw; (try dsimp only at hSw); (try go_split_ands); go_simp); (try with_reducible rfl)
                  case r10ut =>
                  (try simp only [Act.put, List.setIfInBounds_toArray, List.set_cons_zero, List.set_cons_succ])
                  refine wpAnyH_take (i := 11) (oi := ⟨some 104, _, _, _, _, _⟩) (v := ?v11ut) rfl (by kernel_rfl) (by kernel_rfl) (by kernel_rfl) (fun _ _ _ h => h) (Or.inl ⟨by rfl, ?y11ut⟩) (by assumption) ?r11ut
                  case y11ut => (intro w hSw; (try dsimp only at hSw); (try go_split_ands); go_simp); (try with_reducible rfl)
                  case r11ut =>
                  (try simp only [Act.put, List.setIfInBounds_toArray, List.set_cons_zero, List.set_cons_succ])
                  refine wpAnyH_take (i := 12) (oi := ⟨some 105, _, _, _, _, _⟩) (v := ?v12ut) rfl (by kernel_rfl) (by kernel_rfl) (by kernel_rfl) (fun _ _ _ h => h) (Or.inl ⟨by rfl, ?y12ut⟩) (by assumption) ?r12ut
                  case y12ut => (intro w hSw; (try dsimp only at hSw); (try go_split_ands); go_simp); (try with_reducible rfl)
                  case r12ut =>
                  (try simp only [Act.put, List.setIfInBounds_toArray, List.set_cons_zero, List.set_cons_succ])
                  refine wpAnyH_take (i := 13) (oi := ⟨some 106, _, _, _, _, _⟩) (v := ?v13ut) rfl (by kernel_rfl) (by kernel_rfl) (by kernel_rfl) (fun _ _ _ h => h) (Or.inl ⟨by rfl, ?y13ut⟩) (by assumption) ?r13ut
                  case y13ut => (intro w hSw; (try dsimp only at hSw); (try go_split_ands); go_simp); (try with_reducible rfl)
                  case r13ut =>
                  (try simp only [Act.put, List.setIfInBounds_toArray, List.set_cons_zero, List.set_cons_succ])
                  refine wpAnyH_take (i := 14) (oi := ⟨some 107, _, _, _, _, _⟩) (v := ?v14ut) rfl (by kernel_rfl) (by kernel_rfl) (by kernel_rfl) (fun _ _ _ h => h) (Or.inl ⟨by rfl, ?y14ut⟩) (by assumption) ?r14ut
                  case y14ut => (intro w hSw; (try dsimp only at hSw); (try go_split_ands); go_simp); (try with_reducible rfl)
                  case r14ut =>
                  (try simp only [Act.put, List.setIfInBounds_toArray, List.set_cons_zero, List.set_cons_succ])
                  refine wpAnyH_take (i := 15) (oi := ⟨some 108, _, _, _, _, _⟩) (v := ?v15ut) rfl (by kernel_rfl) (by kernel_rfl) (by kernel_rfl) (fun _ _ _ h => h) (Or.inl ⟨by rfl, ?y15ut⟩) (by assumption) ?r15ut
                  case y15ut => (intro w hSw; (try dsimp only at hSw); (try go_split_ands); go_simp); (try with_reducible rfl)
                  case r15ut =>
                  (try simp only [Act.put, List.setIfInBounds_toArray, List.set_cons_zero, List.set_cons_succ])
                  refine wpAnyH_take (i := 16) (oi := ⟨some 109, _, _, _, _, _⟩) (v := ?v16ut) rfl (by kernel_rfl) (by kernel_rfl) (by kernel_rfl) (fun _ _ _ h => h) (Or.inl ⟨by rfl, ?y16ut⟩) (by assumption) ?r16ut
                  case y16ut => (intro w hSw; (try dsimp only at hSw); (try go_split_ands); go_simp); (try with_reducible rfl)
                  case r16ut =>
                  (try simp only [Act.put, List.setIfInBounds_toArray, List.set_cons_zero, List.set_cons_succ])
                  refine wpAnyH_take (i := 17) (oi := ⟨some 110, _, _, _, _, _⟩) (v := ?v17ut) rfl (by kernel_rfl) (by kernel_rfl) (by kernel_rfl) (fun _ _ _ h => h) (Or.inl ⟨by rfl, ?y17ut⟩) (by assumption) ?r17ut
                  case y17ut => (intro w hSw; (try dsimp only at hSw); (try go_split_ands); go_simp); (try with_reducible rfl)
                  case r17ut =>
                  (try simp only [Act.put, List.setIfInBounds_toArray, List.set_cons_zero, List.set_cons_succ])
                  refine wpAnyH_take (i := 18) (oi := ⟨some 111, _, _, _, _, _⟩) (v := .bool false) rfl (by kernel_rfl) (by kernel_rfl) (by kernel_rfl) (fun _ _ _ h => h) (Or.inl ⟨by rfl, ?y18ut⟩) (by assumption) ?r18ut
                  case y18ut => (intro w hSw; (try dsimp only at hSw); (try go_split_ands); go_simp)
                  case r18ut =>
                  (try simp only [Act.put, List.setIfInBounds_toArray, List.set_cons_zero, List.set_cons_succ])
                  refine wpAnyH_take (i := 19) (oi := ⟨some 112, _, _, _, _, _⟩) (v := .bool false) rfl (by kernel_rfl) (by kernel_rfl) (by kernel_rfl) (fun _ _ _ h => h) (Or.inl ⟨by rfl, ?y19ut⟩) (by assumption) ?r19ut
                  case y19ut => (intro w hSw; (try dsimp only at hSw); (try go_split_ands); go_simp)
                  case r19ut =>
                  (try simp only [Act.put, List.setIfInBounds_toArray, List.set_cons_zero, List.set_cons_succ])
                  refine wpAnyH_take (i := 20) (oi := ⟨some 113, _, _, _, _, _⟩) (v := ?v20ut) rfl (by kernel_rfl) (by kernel_rfl) (by kernel_rfl) (fun _ _ _ h => h) (Or.inl ⟨by rfl, ?y20ut⟩) (by assumption) ?r20ut
                  case y20ut => (intro w hSw; (try dsimp only at hSw); (try go_split_ands); go_simp); (try with_reducible rfl)
                  case r20ut =>
                  (try simp only [Act.put, List.setIfInBounds_toArray, List.set_cons_zero, List.set_cons_succ])
                  refine wpAnyH_take (i := 21) (oi := ⟨some 114, _, _, _, _, _⟩) (v := ?v21ut) rfl (by kernel_rfl) (by kernel_rfl) (by kernel_rfl) (fun _ _ _ h => h) (Or.inl ⟨by rfl, ?y21ut⟩) (by assumption) ?r21ut
                  case y21ut => (intro w hSw; (try dsimp only at hSw); (try go_split_ands); go_simp); (try with_reducible rfl)
                  case r21ut =>
                  (try simp only [Act.put, List.setIfInBounds_toArray, List.set_cons_zero, List.set_cons_succ])
                  refine wpAnyH_take (i := 22) (oi := ⟨some 115, _, _, _, _, _⟩) (v := ?v22ut) rfl (by kernel_rfl) (by kernel_rfl) (by kernel_rfl) (fun _ _ _ h => h) (Or.inl ⟨by rfl, ?y22ut⟩) (by assumption) ?r22ut
                  case y22ut => (intro w hSw; (try dsimp only at hSw); (try go_split_ands); go_simp); (try with_reducible rfl)
                  case r22ut =>
                  (try simp only [Act.put, List.setIfInBounds_toArray, List.set_cons_zero, List.set_cons_succ])
                  refine wpAnyH_take (i := 23) (oi := ⟨some 116, _, _, _, _, _⟩) (v := ?v23ut) rfl (by kernel_rfl) (by kernel_rfl) (by kernel_rfl) (fun _ _ _ h => h) (Or.inl ⟨by rfl, ?y23ut⟩) (by assumption) ?r23ut
                  case y23ut => (intro w hSw; (try dsimp only at hSw); (try go_split_ands); go_simp); (try with_reducible rfl)
                  case r23ut =>
                  (try simp only [Act.put, List.setIfInBounds_toArray, List.set_cons_zero, List.set_cons_succ])
                  refine wpAnyH_take (i := 24) (oi := ⟨some 117, _, _, _, _, _⟩) (v := ?v24ut) rfl (by kernel_rfl) (by kernel_rfl) (by kernel_rfl) (fun _ _ _ h => h) (Or.inl ⟨by rfl, ?y24ut⟩) (by assumption) ?r24ut
                  case y24ut => (intro w hSw; (try dsimp only at hSw); (try go_split_ands); go_simp); (try with_reducible rfl)
                  case r24ut =>
                  (try simp only [Act.put, List.setIfInBounds_toArray, List.set_cons_zero, List.set_cons_succ])
                  refine wpAnyH_take (i := 25) (oi := ⟨some 118, _, _, _, _, _⟩) (v := ?v25ut) rfl (by kernel_rfl) (by kernel_rfl) (by kernel_rfl) (fun _ _ _ h => h) (Or.inl ⟨by rfl, ?y25ut⟩) (by assumption) ?r25ut
                  case y25ut => (intro w hSw; (try dsimp only at hSw); (try go_split_ands); go_simp); (try with_reducible rfl)
                  case r25ut =>
                  (try simp only [Act.put, List.setIfInBounds_toArray, List.set_cons_zero, List.set_cons_succ])
                  refine wpAnyH_take (i := 26) (oi := ⟨some 119, _, _, _, _, _⟩) (v := ?v26ut) rfl (by kernel_rfl) (by kernel_rfl) (by kernel_rfl) (fun _ _ _ h => h) (Or.inl ⟨by rfl, ?y26ut⟩) (by assumption) ?r26ut
                  case y26ut => (intro w hSw; (try dsimp only at hSw); (try go_split_ands); go_simp); (try with_reducible rfl)
                  case r26ut =>
                  (try simp only [Act.put, List.setIfInBounds_toArray, List.set_cons_zero, List.set_cons_succ])
                  refine wpAnyH_take (i := 27) (oi := ⟨some 120, _, _, _, _, _⟩) (v := ?v27ut) rfl (by kernel_rfl) (by kernel_rfl) (by kernel_rfl) (fun _ _ _ h => h) (Or.inl ⟨by rfl, ?y27ut⟩) (by assumption) ?r27ut
                  case y27ut => (intro w hSw; (try dsimp only at hSw); (try go_split_ands); go_simp); (try with_reducible rfl)
                  case r27ut =>
                  (try simp only [Act.put, List.setIfInBounds_toArray, List.set_cons_zero, List.set_cons_succ])
                  refine wpAnyH_take (i := 28) (oi := ⟨some 121, _, _, _, _, _⟩) (v := ?v28ut) rfl (by kernel_rfl) (by kernel_rfl) (by kernel_rfl) (fun _ _ _ h => h) (Or.inl ⟨by rfl, ?y28ut⟩) (by assumption) ?r28ut
                  case y28ut => (intro w hSw; (try dsimp only at hSw); (try go_split_ands); go_simp); (try with_reducible rfl)
                  case r28ut =>
                  (try simp only [Act.put, List.setIfInBounds_toArray, List.set_cons_zero, List.set_cons_succ])
                  refine wpAnyH_take (i := 29) (oi := ⟨some 122, _, _, _, _, _⟩) (v := ?v29ut) rfl (by kernel_rfl) (by kernel_rfl) (by kernel_rfl) (fun _ _ _ h => h) (Or.inl ⟨by rfl, ?y29ut⟩) (by assumption) ?r29ut
                  case y29ut => (intro w hSw; (try dsimp only at hSw); (try go_split_ands); go_simp); (try with_reducible rfl)
                  case r29ut =>
                  (try simp only [Act.put, List.setIfInBounds_toArray, List.set_cons_zero, List.set_cons_succ])
                  refine wpAnyH_take (i := 30) (oi := ⟨some 123, _, _, _, _, _⟩) (v := ?v30ut) rfl (by kernel_rfl) (by kernel_rfl) (by kernel_rfl) (fun _ _ _ h => h) (Or.inl ⟨by rfl, ?y30ut⟩) (by assumption) ?r30ut
                  case y30ut => (intro w hSw; (try dsimp only at hSw); (try go_split_ands); go_simp); (try with_reducible rfl)
                  case r30ut =>
                  (try simp only [Act.put, List.setIfInBounds_toArray, List.set_cons_zero, List.set_cons_succ])
                  refine wpAnyH_take (i := 31) (oi := ⟨some 124, _, _, _, _, _⟩) (v := ?v31ut) rfl (by kernel_rfl) (by kernel_rfl) (by kernel_rfl) (fun _ _ _ h => h) (Or.inl ⟨by rfl, ?y31ut⟩) (by assumption) ?r31ut
                  case y31ut => (intro w hSw; (try dsimp only at hSw); (try go_split_ands); go_simp); (try with_reducible rfl)
                  case r31ut =>
                  (try simp only [Act.put, List.setIfInBounds_toArray, List.set_cons_zero, List.set_cons_succ])
                  refine wpAnyH_take (i := 32) (oi := ⟨some 125, _, _, _, _, _⟩) (v := ?v32ut) rfl (by kernel_rfl) (by kernel_rfl) (by kernel_rfl) (fun _ _ _ h => h) (Or.inl ⟨by rfl, ?y32ut⟩) (by assumption) ?r32ut
                  case y32ut => (intro w hSw; (try dsimp only at hSw); (try go_split_ands); go_simp); (try with_reducible rfl)
                  case r32ut =>
                  (try simp only [Act.put, List.setIfInBounds_toArray, List.set_cons_zero, List.set_cons_succ])
                  refine wpAnyH_take (i := 33) (oi := ⟨some 126, _, _, _, _, _⟩) (v := ?v33ut) rfl (by kernel_rfl) (by kernel_rfl) (by kernel_rfl) (fun _ _ _ h => h) (Or.inl ⟨by rfl, ?y33ut⟩) (by assumption) ?r33ut
                  case y33ut => (intro w hSw; (try dsimp only at hSw); (try go_split_ands); go_simp); (try with_reducible rfl)
                  case r33ut =>
                  (try simp only [Act.put, List.setIfInBounds_toArray, List.set_cons_zero, List.set_cons_succ])
                  refine wpAnyH_take (i := 34) (oi := ⟨some 127, _, _, _, _, _⟩) (v := ?v34ut) rfl (by kernel_rfl) (by kernel_rfl) (by kernel_rfl) (fun _ _ _ h => h) (Or.inl ⟨by rfl, ?y34ut⟩) (by assumption) ?r34ut
                  case y34ut => (intro w hSw; (try dsimp only at hSw); (try go_split_ands); go_simp); (try with_reducible rfl)
                  case r34ut =>
                  (try simp only [Act.put, List.setIfInBounds_toArray, List.set_cons_zero, List.set_cons_succ])
                  refine wpAnyH_take (i := 35) (oi := ⟨some 128, _, _, _, _, _⟩) (v := ?v35ut) rfl (by kernel_rfl) (by kernel_rfl) (by kernel_rfl) (fun _ _ _ h => h) (Or.inl ⟨by rfl, ?y35ut⟩) (by assumption) ?r35ut
                  case y35ut => (intro w hSw; (try dsimp only at hSw); (try go_split_ands); go_simp); (try with_reducible rfl)
                  case r35ut =>
                  (try simp only [Act.put, List.setIfInBounds_toArray, List.set_cons_zero, List.set_cons_succ])
                  refine wpAnyH_take (i := 36) (oi := ⟨some 129, _, _, _, _, _⟩) (v := ?v36ut) rfl (by kernel_rfl) (by kernel_rfl) (by kernel_rfl) (fun _ _ _ h => h) (Or.inl ⟨by rfl, ?y36ut⟩) (by assumption) ?r36ut
                  case y36ut => (intro w hSw; (try dsimp only at hSw); (try go_split_ands); go_simp); (try with_reducible rfl)
                  case r36ut =>
                  (try simp only [Act.put, List.setIfInBounds_toArray, List.set_cons_zero, List.set_cons_succ])
                  refine wpAnyH_take (i := 37) (oi := ⟨some 130, _, _, _, _, _⟩) (v := ?v37ut) rfl (by kernel_rfl) (by kernel_rfl) (by kernel_rfl) (fun _ _ _ h => h) (Or.inl ⟨by rfl, ?y37ut⟩) (by assumption) ?r37ut
                  case y37ut => (intro w hSw; (try dsimp only at hSw); (try go_split_ands); go_simp); (try with_reducible rfl)
                  case r37ut =>
                  (try simp only [Act.put, List.setIfInBounds_toArray, List.set_cons_zero, List.set_cons_succ])
                  refine wpAnyH_take (i := 38) (oi := ⟨some 131, _, _, _, _, _⟩) (v := ?v38ut) rfl (by kernel_rfl) (by kernel_rfl) (by kernel_rfl) (fun _ _ _ h => h) (Or.inl ⟨by rfl, ?y38ut⟩) (by assumption) ?r38ut
                  case y38ut => (intro w hSw; (try dsimp only at hSw); (try go_split_ands); go_simp); (try with_reducible rfl)
                  case r38ut =>
                  (try simp only [Act.put, List.setIfInBounds_toArray, List.set_cons_zero, List.set_cons_succ])
                  refine wpAnyH_take (i := 39) (oi := ⟨some 132, _, _, _, _, _⟩) (v := .bool false) rfl (by kernel_rfl) (by kernel_rfl) (by kernel_rfl) (fun _ _ _ h => h) (Or.inl ⟨by rfl, ?y39ut⟩) (by assumption) ?r39ut
                  case y39ut => (intro w hSw; (try dsimp only at hSw); (try go_split_ands); go_simp)
                  case r39ut =>
                  (try simp only [Act.put, List.setIfInBounds_toArray, List.set_cons_zero, List.set_cons_succ])
                  refine wpAnyH_take (i := 40) (oi := ⟨some 133, _, _, _, _, _⟩) (v := .bool false) rfl (by kernel_rfl) (by kernel_rfl) (by kernel_rfl) (fun _ _ _ h => h) (Or.inl ⟨by rfl, ?y40ut⟩) (by assumption) ?r40ut
                  case y40ut => (intro w hSw; (try dsimp only at hSw); (try go_split_ands); go_simp)
                  case r40ut =>
                  (try simp only [Act.put, List.setIfInBounds_toArray, List.set_cons_zero, List.set_cons_succ])
                  refine wpAnyH_take (i := 41) (oi := ⟨some 134, _, _, _, _, _⟩) (v := .bool false) rfl (by kernel_rfl) (by kernel_rfl) (by kernel_rfl) (fun _ _ _ h => h) (Or.inl ⟨by rfl, ?y41ut⟩) (by assumption) ?r41ut
                  case y41ut => (intro w hSw; (try dsimp only at hSw); (try go_split_ands); go_simp)
                  case r41ut =>
                  (try simp only [Act.put, List.setIfInBounds_toArray, List.set_cons_zero, List.set_cons_succ])
                  refine wpAnyH_take (i := 42) (oi := ⟨some 135, _, _, _, _, _⟩) (v := ?v42ut) rfl (by kernel_rfl) (by kernel_rfl) (by kernel_rfl) (fun _ _ _ h => h) (Or.inl ⟨by rfl, ?y42ut⟩) (by assumption) ?r42ut
                  case y42ut => (intro w hSw; (try dsimp only at hSw); (try go_split_ands); go_simp); (try with_reducible rfl)
                  case r42ut =>
                  (try simp only [Act.put, List.setIfInBounds_toArray, List.set_cons_zero, List.set_cons_succ])
                  refine wpAnyH_take (i := 43) (oi := ⟨some 136, _, _, _, _, _⟩) (v := ?v43ut) rfl (by kernel_rfl) (by kernel_rfl) (by kernel_rfl) (fun _ _ _ h => h) (Or.inl ⟨by rfl, ?y43ut⟩) (by assumption) ?r43ut
                  case y43ut => (intro w hSw; (try dsimp only at hSw); (try go_split_ands); go_simp); (try with_reducible rfl)
                  case r43ut =>
                  (try simp only [Act.put, List.setIfInBounds_toArray, List.set_cons_zero, List.set_cons_succ])
                  refine wpAnyH_take (i := 44) (oi := ⟨some 137, _, _, _, _, _⟩) (v := ?v44ut) rfl (by kernel_rfl) (by kernel_rfl) (by kernel_rfl) (fun _ _ _ h => h) (Or.inl ⟨by rfl, ?y44ut⟩) (by assumption) ?r44ut
                  case y44ut => (intro w hSw; (try dsimp only at hSw); (try go_split_ands); go_simp); (try with_reducible rfl)
                  case r44ut =>
                  (try simp only [Act.put, List.setIfInBounds_toArray, List.set_cons_zero, List.set_cons_succ])
                  refine wpAnyH_take (i := 45) (oi := ⟨some 138, _, _, _, _, _⟩) (v := ?v45ut) rfl (by kernel_rfl) (by kernel_rfl) (by kernel_rfl) (fun _ _ _ h => h) (Or.inl ⟨by rfl, ?y45ut⟩) (by assumption) ?r45ut
                  case y45ut => (intro w hSw; (try dsimp only at hSw); (try go_split_ands); go_simp); (try with_reducible rfl)
                  case r45ut =>
                  (try simp only [Act.put, List.setIfInBounds_toArray, List.set_cons_zero, List.set_cons_succ])
                  refine wpAnyH_take (i := 46) (oi := ⟨some 139, _, _, _, _, _⟩) (v := ?v46ut) rfl (by kernel_rfl) (by kernel_rfl) (by kernel_rfl) (fun _ _ _ h => h) (Or.inl ⟨by rfl, ?y46ut⟩) (by assumption) ?r46ut
                  case y46ut => (intro w hSw; (try dsimp only at hSw); (try go_split_ands); go_simp); (try with_reducible rfl)
                  case r46ut =>
                  (try simp only [Act.put, List.setIfInBounds_toArray, List.set_cons_zero, List.set_cons_succ])
                  refine wpAnyH_take (i := 47) (oi := ⟨some 140, _, _, _, _, _⟩) (v := ?v47ut) rfl (by kernel_rfl) (by kernel_rfl) (by kernel_rfl) (fun _ _ _ h => h) (Or.inl ⟨by rfl, ?y47ut⟩) (by assumption) ?r47ut
                  case y47ut => (intro w hSw; (try dsimp only at hSw); (try go_split_ands); go_simp); (try with_reducible rfl)
                  case r47ut =>
                  (try simp only [Act.put, List.setIfInBounds_toArray, List.set_cons_zero, List.set_cons_succ])
                  refine wpAnyH_take (i := 48) (oi := ⟨some 141, _, _, _, _, _⟩) (v := ?v48ut) rfl (by kernel_rfl) (by kernel_rfl) (by kernel_rfl) (fun _ _ _ h => h) (Or.inl ⟨by rfl, ?y48ut⟩) (by assumption) ?r48ut
                  case y48ut => (intro w hSw; (try dsimp only at hSw); (try go_split_ands); go_simp); (try with_reducible rfl)
                  case r48ut =>
                  (try simp only [Act.put, List.setIfInBounds_toArray, List.set_cons_zero, List.set_cons_succ])
                  refine wpAnyH_take (i := 49) (oi := ⟨some 142, _, _, _, _, _⟩) (v := .bool false) rfl (by kernel_rfl) (by kernel_rfl) (by kernel_rfl) (fun _ _ _ h => h) (Or.inl ⟨by rfl, ?y49ut⟩) (by assumption) ?r49ut
                  case y49ut => (intro w hSw; (try dsimp only at hSw); (try go_split_ands); go_simp)
                  case r49ut =>
                  (try simp only [Act.put, List.setIfInBounds_toArray, List.set_cons_zero, List.set_cons_succ])
                  refine wpAnyH_take (i := 50) (oi := ⟨some 143, _, _, _, _, _⟩) (v := ?v50ut) rfl (by kernel_rfl) (by kernel_rfl) (by kernel_rfl) (fun _ _ _ h => h) (Or.inl ⟨by rfl, ?y50ut⟩) (by assumption) ?r50ut
                  case y50ut => (intro w hSw; (try dsimp only at hSw); (try go_split_ands); go_simp); (try with_reducible rfl)
                  case r50ut =>
                  (try simp only [Act.put, List.setIfInBounds_toArray, List.set_cons_zero, List.set_cons_succ])
                  refine wpAnyH_take (i := 51) (oi := ⟨some 144, _, _, _, _, _⟩) (v := undef) rfl (by kernel_rfl) (by kernel_rfl) (by kernel_rfl) (fun _ _ _ h => h) (Or.inr ⟨by rfl, rfl⟩) (by assumption) ?_
                  (try simp only [Act.put, List.setIfInBounds_toArray, List.set_cons_zero, List.set_cons_succ])
                  refine wpAnyH_take (i := 52) (oi := ⟨some 145, _, _, _, _, _⟩) (v := undef) rfl (by kernel_rfl) (by kernel_rfl) (by kernel_rfl) (fun _ _ _ h => h) (Or.inr ⟨by rfl, rfl⟩) (by assumption) ?_
                  (try simp only [Act.put, List.setIfInBounds_toArray, List.set_cons_zero, List.set_cons_succ])
                  refine wpAnyH_take (i := 53) (oi := ⟨some 146, _, _, _, _, _⟩) (v := undef) rfl (by kernel_rfl) (by kernel_rfl) (by kernel_rfl) (fun _ _ _ h => h) (Or.inr ⟨by rfl, rfl⟩) (by assumption) ?_
                  (try simp only [Act.put, List.setIfInBounds_toArray, List.set_cons_zero, List.set_cons_succ])
                  refine wpAnyH_take (i := 54) (oi := ⟨some 147, _, _, _, _, _⟩) (v := undef) rfl (by kernel_rfl) (by kernel_rfl) (by kernel_rfl) (fun _ _ _ h => h) (Or.inr ⟨by rfl, rfl⟩) (by assumption) ?_
                  (try simp only [Act.put, List.setIfInBounds_toArray, List.set_cons_zero, List.set_cons_succ])
                  refine wpAnyH_take (i := 55) (oi := ⟨some 148, _, _, _, _, _⟩) (v := undef) rfl (by kernel_rfl) (by kernel_rfl) (by kernel_rfl) (fun _ _ _ h => h) (Or.inr ⟨by rfl, rfl⟩) (by assumption) ?_
                  (try simp only [Act.put, List.setIfInBounds_toArray, List.set_cons_zero, List.set_cons_succ])
                  refine wpAnyH_take (i := 56) (oi := ⟨some 149, _, _, _, _, _⟩) (v := undef) rfl (by kernel_rfl) (by kernel_rfl) (by kernel_rfl) (fun _ _ _ h => h) (Or.inr ⟨by rfl, rfl⟩) (by assumption) ?_
                  (try simp only [Act.put, List.setIfInBounds_toArray, List.set_cons_zero, List.set_cons_succ])
                  refine wpAnyH_take (i := 57) (oi := ⟨some 150, _, _, _, _, _⟩) (v := undef) rfl (by kernel_rfl) (by kernel_rfl) (by kernel_rfl) (fun _ _ _ h => h) (Or.inr ⟨by rfl, rfl⟩) (by assumption) ?_
                  (try simp only [Act.put, List.setIfInBounds_toArray, List.set_cons_zero, List.set_cons_succ])
                  refine wpAnyH_take (i := 58) (oi := ⟨some 151, _, _, _, _, _⟩) (v := undef) rfl (by kernel_rfl) (by kernel_rfl) (by kernel_rfl) (fun _ _ _ h => h) (Or.inr ⟨by rfl, rfl⟩) (by assumption) ?_
                  (try simp only [Act.put, List.setIfInBounds_toArray, List.set_cons_zero, List.set_cons_succ])
                  refine wpAnyH_take (i := 59) (oi := ⟨some 152, _, _, _, _, _⟩) (v := undef) rfl (by kernel_rfl) (by kernel_rfl) (by kernel_rfl) (fun _ _ _ h => h) (Or.inr ⟨by rfl, rfl⟩) (by assumption) ?_
                  (try simp only [Act.put, List.setIfInBounds_toArray, List.set_cons_zero, List.set_cons_succ])
                  refine wpAnyH_take (i := 60) (oi := ⟨some 153, _, _, _, _, _⟩) (v := undef) rfl (by kernel_rfl) (by kernel_rfl) (by kernel_rfl) (fun _ _ _ h => h) (Or.inr ⟨by rfl, rfl⟩) (by assumption) ?_
                  (try simp only [Act.put, List.setIfInBounds_toArray, List.set_cons_zero, List.set_cons_succ])
                  refine wpAnyH_take (i := 61) (oi := ⟨some 154, _, _, _, _, _⟩) (v := undef) rfl (by kernel_rfl) (by kernel_rfl) (by kernel_rfl) (fun _ _ _ h => h) (Or.inr ⟨by rfl, rfl⟩) (by assumption) ?_
                  (try simp only [Act.put, List.setIfInBounds_toArray, List.set_cons_zero, List.set_cons_succ])
                  refine wpAnyH_take (i := 62) (oi := ⟨some 155, _, _, _, _, _⟩) (v := undef) rfl (by kernel_rfl) (by kernel_rfl) (by kernel_rfl) (fun _ _ _ h => h) (Or.inr ⟨by rfl, rfl⟩) (by assumption) ?_
                  (try simp only [Act.put, List.setIfInBounds_toArray, List.set_cons_zero, List.set_cons_succ])
                  refine wpAnyH_take (i := 63) (oi := ⟨some 156, _, _, _, _, _⟩) (v := .bool false) rfl (by kernel_rfl) (by kernel_rfl) (by kernel_rfl) (fun _ _ _ h => h) (Or.inl ⟨by rfl, ?y63ut⟩) (by assumption) ?r63ut
                  case y63ut => (intro w hSw; (try dsimp only at hSw); (try go_split_ands); go_simp)
                  case r63ut =>
                  (try simp only [Act.put, List.setIfInBounds_toArray, List.set_cons_zero, List.set_cons_succ])
                  refine wpAnyH_take (i := 64) (oi := ⟨some 157, _, _, _, _, _⟩) (v := .bool false) rfl (by kernel_rfl) (by kernel_rfl) (by kernel_rfl) (fun _ _ _ h => h) (Or.inl ⟨by rfl, ?y64ut⟩) (by assumption) ?r64ut
                  case y64ut => (intro w hSw; (try dsimp only at hSw); (try go_split_ands); go_simp)
                  case r64ut =>
                  (try simp only [Act.put, List.setIfInBounds_toArray, List.set_cons_zero, List.set_cons_succ])
                  refine wpAnyH_done (by kernel_rfl) ?_ _
                  go_wp2_with fail
                  exact ⟨⟨p + 1, hpt, by go_num, HBQ.out.drew⟩, measI hpt⟩
            | false =>
              rw [hb] at c4 hx1 hx2 hxid
              simp only [if_true, Bool.false_eq_true, if_false] at hxid
              have qb1 : ¬ tb < tp := by omega
              have qb2 : ¬ tp < op := by have := hx2 rfl; omega
              have qb3 : op ≤ tp := by omega
              have HXID := Lib.hid hxid
              clear hx1 hx2 hxid hxb
              go_wp2_with fail
              go_loopw [11, 12] (fun av jv wq => ∃ (j : Nat) (z : Int), j ≤ L.length ∧ jv = .int .i64 j ∧ av = .int .i64 z ∧ (∀ q (hq : q < j) (hq2 : q < L.length), L[q] = x → z = tp) ∧ Below w4.heap.size w4 wq) (fun _ jv _ => L.length - (intOf jv).toNat)
              case atStart => exact ⟨0, 0, Nat.zero_le _, rfl, rfl, fun q hq => by omega, HBP.out⟩
              case round =>
                obtain ⟨j, z, hjl, rfl, rfl, hz, hBq⟩ := hrel
                have HZ := Lib.hid hz
                have HBQ := Lib.hid hBq
                have hu3 := row_below HU4.out hBq
                have ht3 := row_below HTV.out hBq
                by_cases hjL : j < L.length
                · have q6 : (j : Int) < (L.length : Int) := by omega
                  obtain ⟨gu, ku', e5, _, hgu, _, _⟩ := own_form hu3 (by omega)
                  injection e5 with e5 e6 e7
                  subst e5 e7
                  obtain ⟨b0, b1, b2, b3, b4, b5⟩ := flatO_at L j hjL
                  have d0 := (hu3.cellAt (j * 6) (ixO0 hjL)).trans b0
                  have d5 := (hu3.cellAt (j * 6 + 5) (ixO hjL 5 (by decide))).trans b5
                  obtain ⟨y, hy⟩ : ∃ y, y = L[j] := ⟨_, rfl⟩
                  rw [← hy] at d0 d5
                  have HY := Lib.hid hy
                  clear b0 b1 b2 b3 b4 b5 hu3 ht3 hy hz hBq a2 a3 a6 a7 c4 c7
                  by_cases hid : y.id = ty
                  · have hyx : y = x := HIDS.out.inj (by rw [HY.out]; exact List.getElem_mem hjL) HXL.out (by rw [hid, HXID.out])
                    have hyp : y.pr = tp := by rw [hyx]; exact HXP.out.symm
                    have HYP := Lib.hid hyp
                    clear hyx hyp
                    go_wp2_with fail
                    exact ⟨⟨j + 1, _, hjL, by go_num, rfl, fun q hq hq2 _ => HYP.out, HBQ.out⟩, measI hjL⟩
                  · go_wp2_with fail
                    refine ⟨⟨j + 1, z, hjL, by go_num, rfl, fun q hq hq2 e => ?_, HBQ.out⟩, measI hjL⟩
                    by_cases e2 : q = j
                    · subst e2
                      exact absurd (show y.id = ty by rw [HY.out, e, HXID.out]) hid
                    · exact HZ.out q (by omega) hq2 e
                · obtain rfl : L.length = j := by omega
                  have hzt : z = tp := by
                    obtain ⟨q, hq, e⟩ := List.getElem_of_mem HXL.out
                    exact HZ.out q hq hq e
                  have hzt := hzt.symm
                  subst hzt
                  obtain ⟨y0, y1, y2, y3, y4, y5, y6, y7⟩ := flatT_at Td p hpt
                  rw [← HTP.out] at y6
                  rw [← HTB.out] at y7
                  clear a2 a3 a6 a7 c4 c7
                  have a6 := (ht3.cellAt (p * 8 + 6) (by omega)).trans y6
                  have a7 := (ht3.cellAt (p * 8 + 7) (by omega)).trans y7
                  have c4 := bkeep (HW4.out.trans (hBq.mono HW4.out.size)) HC4.out hqb
                  have c7 := bkeep (HW4.out.trans (hBq.mono HW4.out.size)) HC7.out hqb
                  rw [hb] at c4
                  rw [← HOP.out] at c7
                  clear y0 y1 y2 y3 y4 y5 y6 y7 ht3 hu3 hz hBq
                  go_wp2_with fail
                  refine wp_region_held_drew (S := (fun W => W.cell? ⟨gt, p * 8 + 6, none⟩ = some (.int .i64 tp) ∧ W.cell? ⟨gt, p * 8 + 7, none⟩ = some (.int .i64 tb) ∧ W.cell? ⟨qb, qo + i * 8 + 4, none⟩ = some (.bool false) ∧ W.cell? ⟨qb, qo + i * 8 + 7, none⟩ = some (.int .i64 op))) (by kernel_rfl) ⟨a6, a7, c4, c7⟩ (fun hHeld => ?_)
                  refine wpAnyH_take (i := 0) (oi := ⟨some 93, _, _, _, _, _⟩) (v := ?v0uf) rfl (by kernel_rfl) (by kernel_rfl) (by kernel_rfl) (fun _ _ _ h => h) (Or.inl ⟨by rfl, ?y0uf⟩) (by assumption) ?r0uf
                  case y0uf => (intro w hSw; (try dsimp only at hSw); (try go_split_ands); go_simp); (try with_reducible rfl)
                  case r0uf =>
                  (try simp only [Act.put, List.setIfInBounds_toArray, List.set_cons_zero, List.set_cons_succ])
                  refine wpAnyH_take (i := 1) (oi := ⟨some 94, _, _, _, _, _⟩) (v := ?v1uf) rfl (by kernel_rfl) (by kernel_rfl) (by kernel_rfl) (fun _ _ _ h => h) (Or.inl ⟨by rfl, ?y1uf⟩) (by assumption) ?r1uf
                  case y1uf => (intro w hSw; (try dsimp only at hSw); (try go_split_ands); go_simp); (try with_reducible rfl)
                  case r1uf =>
                  (try simp only [Act.put, List.setIfInBounds_toArray, List.set_cons_zero, List.set_cons_succ])
                  refine wpAnyH_take (i := 2) (oi := ⟨some 95, _, _, _, _, _⟩) (v := ?v2uf) rfl (by kernel_rfl) (by kernel_rfl) (by kernel_rfl) (fun _ _ _ h => h) (Or.inl ⟨by rfl, ?y2uf⟩) (by assumption) ?r2uf
                  case y2uf => (intro w hSw; (try dsimp only at hSw); (try go_split_ands); go_simp); (try with_reducible rfl)
                  case r2uf =>
                  (try simp only [Act.put, List.setIfInBounds_toArray, List.set_cons_zero, List.set_cons_succ])
                  refine wpAnyH_take (i := 3) (oi := ⟨some 96, _, _, _, _, _⟩) (v := ?v3uf) rfl (by kernel_rfl) (by kernel_rfl) (by kernel_rfl) (fun _ _ _ h => h) (Or.inl ⟨by rfl, ?y3uf⟩) (by assumption) ?r3uf
                  case y3uf => (intro w hSw; (try dsimp only at hSw); (try go_split_ands); go_simp); (try with_reducible rfl)
                  case r3uf =>
                  (try simp only [Act.put, List.setIfInBounds_toArray, List.set_cons_zero, List.set_cons_succ])
                  refine wpAnyH_take (i := 4) (oi := ⟨some 97, _, _, _, _, _⟩) (v := ?v4uf) rfl (by kernel_rfl) (by kernel_rfl) (by kernel_rfl) (fun _ _ _ h => h) (Or.inl ⟨by rfl, ?y4uf⟩) (by assumption) ?r4uf
                  case y4uf => (intro w hSw; (try dsimp only at hSw); (try go_split_ands); go_simp); (try with_reducible rfl)
                  case r4uf =>
                  (try simp only [Act.put, List.setIfInBounds_toArray, List.set_cons_zero, List.set_cons_succ])
                  refine wpAnyH_take (i := 5) (oi := ⟨some 98, _, _, _, _, _⟩) (v := ?v5uf) rfl (by kernel_rfl) (by kernel_rfl) (by kernel_rfl) (fun _ _ _ h => h) (Or.inl ⟨by rfl, ?y5uf⟩) (by assumption) ?r5uf
                  case y5uf => (intro w hSw; (try dsimp only at hSw); (try go_split_ands); go_simp); (try with_reducible rfl)
                  case r5uf =>
                  (try simp only [Act.put, List.setIfInBounds_toArray, List.set_cons_zero, List.set_cons_succ])
                  refine wpAnyH_take (i := 6) (oi := ⟨some 99, _, _, _, _, _⟩) (v := .bool false) rfl (by kernel_rfl) (by kernel_rfl) (by kernel_rfl) (fun _ _ _ h => h) (Or.inl ⟨by rfl, ?y6uf⟩) (by assumption) ?r6uf
                  case y6uf => (intro w hSw; (try dsimp only at hSw); (try go_split_ands); go_simp)
                  case r6uf =>
                  (try simp only [Act.put, List.setIfInBounds_toArray, List.set_cons_zero, List.set_cons_succ])
                  refine wpAnyH_take (i := 7) (oi := ⟨some 100, _, _, _, _, _⟩) (v := ?v7uf) rfl (by kernel_rfl) (by kernel_rfl) (by kernel_rfl) (fun _ _ _ h => h) (Or.inl ⟨by rfl, ?y7uf⟩) (by assumption) ?r7uf
                  case y7uf => (intro w hSw; (try dsimp only at hSw); (try go_split_ands); go_simp); (try with_reducible rfl)
                  case r7uf =>
                  (try simp only [Act.put, List.setIfInBounds_toArray, List.set_cons_zero, List.set_cons_succ])
                  refine wpAnyH_take (i := 8) (oi := ⟨some 101, _, _, _, _, _⟩) (v := ?v8uf) rfl (by kernel_rfl) (by kernel_rfl) (by kernel_rfl) (fun _ _ _ h => h) (Or.inl ⟨by rfl, ?y8uf⟩) (by assumption) ?r8uf
                  case y8uf => (intro w hSw; (try dsimp only at hSw); (try go_split_ands); go_simp); (try with_reducible rfl)
                  case r8uf =>
                  (try simp only [Act.put, List.setIfInBounds_toArray, List.set_cons_zero, List.set_cons_succ])
                  refine wpAnyH_take (i := 9) (oi := ⟨some 102, _, _, _, _, _⟩) (v := ?v9uf) rfl (by kernel_rfl) (by kernel_rfl) (by kernel_rfl) (fun _ _ _ h => h) (Or.inl ⟨by rfl, ?y9uf⟩) (by assumption) ?r9uf
                  case y9uf => (intro w hSw; (try dsimp only at hSw); (try go_split_ands); go_simp); (try with_reducible rfl)
                  case r9uf =>
                  (try simp only [Act.put, List.setIfInBounds_toArray, List.set_cons_zero, List.set_cons_succ])
                  refine wpAnyH_take (i := 10) (oi := ⟨some 103, _, _, _, _, _⟩) (v := ?v10uf) rfl (by kernel_rfl) (by kernel_rfl) (by kernel_rfl) (fun _ _ _ h => h) (Or.inl ⟨by rfl, ?y10uf⟩) (by assumption) ?r10uf
                  case y10uf => (intro w hSw; (try dsimp only at hSw); (try go_split_ands); go_simp); (try with_reducible rfl)
                  case r10uf =>
                  (try simp only [Act.put, List.setIfInBounds_toArray, List.set_cons_zero, List.set_cons_succ])
                  refine wpAnyH_take (i := 11) (oi := ⟨some 104, _, _, _, _, _⟩) (v := ?v11uf) rfl (by kernel_rfl) (by kernel_rfl) (by kernel_rfl) (fun _ _ _ h => h) (Or.inl ⟨by rfl, ?y11uf⟩) (by assumption) ?r11uf
                  case y11uf => (intro w hSw; (try dsimp only at hSw); (try go_split_ands); go_simp); (try with_reducible rfl)
                  case r11uf =>
                  (try simp only [Act.put, List.setIfInBounds_toArray, List.set_cons_zero, List.set_cons_succ])
                  refine wpAnyH_take (i := 12) (oi := ⟨some 105, _, _, _, _, _⟩) (v := ?v12uf) rfl (by kernel_rfl) (by kernel_rfl) (by kernel_rfl) (fun _ _ _ h => h) (Or.inl ⟨by rfl, ?y12uf⟩) (by assumption) ?r12uf
                  case y12uf => (intro w hSw; (try dsimp only at hSw); (try go_split_ands); go_simp); (try with_reducible rfl)
                  case r12uf =>
                  (try simp only [Act.put, List.setIfInBounds_toArray, List.set_cons_zero, List.set_cons_succ])
                  refine wpAnyH_take (i := 13) (oi := ⟨some 106, _, _, _, _, _⟩) (v := ?v13uf) rfl (by kernel_rfl) (by kernel_rfl) (by kernel_rfl) (fun _ _ _ h => h) (Or.inl ⟨by rfl, ?y13uf⟩) (by assumption) ?r13uf
                  case y13uf => (intro w hSw; (try dsimp only at hSw); (try go_split_ands); go_simp); (try with_reducible rfl)
                  case r13uf =>
                  (try simp only [Act.put, List.setIfInBounds_toArray, List.set_cons_zero, List.set_cons_succ])
                  refine wpAnyH_take (i := 14) (oi := ⟨some 107, _, _, _, _, _⟩) (v := ?v14uf) rfl (by kernel_rfl) (by kernel_rfl) (by kernel_rfl) (fun _ _ _ h => h) (Or.inl ⟨by rfl, ?y14uf⟩) (by assumption) ?r14uf
                  case y14uf => (intro w hSw; (try dsimp only at hSw); (try go_split_ands); go_simp); (try with_reducible rfl)
                  case r14uf =>
                  (try simp only [Act.put, List.setIfInBounds_toArray, List.set_cons_zero, List.set_cons_succ])
                  refine wpAnyH_take (i := 15) (oi := ⟨some 108, _, _, _, _, _⟩) (v := ?v15uf) rfl (by kernel_rfl) (by kernel_rfl) (by kernel_rfl) (fun _ _ _ h => h) (Or.inl ⟨by rfl, ?y15uf⟩) (by assumption) ?r15uf
                  case y15uf => (intro w hSw; (try dsimp only at hSw); (try go_split_ands); go_simp); (try with_reducible rfl)
                  case r15uf =>
                  (try simp only [Act.put, List.setIfInBounds_toArray, List.set_cons_zero, List.set_cons_succ])
                  refine wpAnyH_take (i := 16) (oi := ⟨some 109, _, _, _, _, _⟩) (v := ?v16uf) rfl (by kernel_rfl) (by kernel_rfl) (by kernel_rfl) (fun _ _ _ h => h) (Or.inl ⟨by rfl, ?y16uf⟩) (by assumption) ?r16uf
                  case y16uf => (intro w hSw; (try dsimp only at hSw); (try go_split_ands); go_simp); (try with_reducible rfl)
                  case r16uf =>
                  (try simp only [Act.put, List.setIfInBounds_toArray, List.set_cons_zero, List.set_cons_succ])
                  refine wpAnyH_take (i := 17) (oi := ⟨some 110, _, _, _, _, _⟩) (v := ?v17uf) rfl (by kernel_rfl) (by kernel_rfl) (by kernel_rfl) (fun _ _ _ h => h) (Or.inl ⟨by rfl, ?y17uf⟩) (by assumption) ?r17uf
                  case y17uf => (intro w hSw; (try dsimp only at hSw); (try go_split_ands); go_simp); (try with_reducible rfl)
                  case r17uf =>
                  (try simp only [Act.put, List.setIfInBounds_toArray, List.set_cons_zero, List.set_cons_succ])
                  refine wpAnyH_take (i := 18) (oi := ⟨some 111, _, _, _, _, _⟩) (v := .bool false) rfl (by kernel_rfl) (by kernel_rfl) (by kernel_rfl) (fun _ _ _ h => h) (Or.inl ⟨by rfl, ?y18uf⟩) (by assumption) ?r18uf
                  case y18uf => (intro w hSw; (try dsimp only at hSw); (try go_split_ands); go_simp)
                  case r18uf =>
                  (try simp only [Act.put, List.setIfInBounds_toArray, List.set_cons_zero, List.set_cons_succ])
                  refine wpAnyH_take (i := 19) (oi := ⟨some 112, _, _, _, _, _⟩) (v := .bool false) rfl (by kernel_rfl) (by kernel_rfl) (by kernel_rfl) (fun _ _ _ h => h) (Or.inl ⟨by rfl, ?y19uf⟩) (by assumption) ?r19uf
                  case y19uf => (intro w hSw; (try dsimp only at hSw); (try go_split_ands); go_simp)
                  case r19uf =>
                  (try simp only [Act.put, List.setIfInBounds_toArray, List.set_cons_zero, List.set_cons_succ])
                  refine wpAnyH_take (i := 20) (oi := ⟨some 113, _, _, _, _, _⟩) (v := ?v20uf) rfl (by kernel_rfl) (by kernel_rfl) (by kernel_rfl) (fun _ _ _ h => h) (Or.inl ⟨by rfl, ?y20uf⟩) (by assumption) ?r20uf
                  case y20uf => (intro w hSw; (try dsimp only at hSw); (try go_split_ands); go_simp); (try with_reducible rfl)
                  case r20uf =>
                  (try simp only [Act.put, List.setIfInBounds_toArray, List.set_cons_zero, List.set_cons_succ])
                  refine wpAnyH_take (i := 21) (oi := ⟨some 114, _, _, _, _, _⟩) (v := ?v21uf) rfl (by kernel_rfl) (by kernel_rfl) (by kernel_rfl) (fun _ _ _ h => h) (Or.inl ⟨by rfl, ?y21uf⟩) (by assumption) ?r21uf
                  case y21uf => (intro w hSw; (try dsimp only at hSw); (try go_split_ands); go_simp); (try with_reducible rfl)
                  case r21uf =>
                  (try simp only [Act.put, List.setIfInBounds_toArray, List.set_cons_zero, List.set_cons_succ])
                  refine wpAnyH_take (i := 22) (oi := ⟨some 115, _, _, _, _, _⟩) (v := ?v22uf) rfl (by kernel_rfl) (by kernel_rfl) (by kernel_rfl) (fun _ _ _ h => h) (Or.inl ⟨by rfl, ?y22uf⟩) (by assumption) ?r22uf
                  case y22uf => (intro w hSw; (try dsimp only at hSw); (try go_split_ands); go_simp); (try with_reducible rfl)
                  case r22uf =>
                  (try simp only [Act.put, List.setIfInBounds_toArray, List.set_cons_zero, List.set_cons_succ])
                  refine wpAnyH_take (i := 23) (oi := ⟨some 116, _, _, _, _, _⟩) (v := ?v23uf) rfl (by kernel_rfl) (by kernel_rfl) (by kernel_rfl) (fun _ _ _ h => h) (Or.inl ⟨by rfl, ?y23uf⟩) (by assumption) ?r23uf
                  case y23uf => (intro w hSw; (try dsimp only at hSw); (try go_split_ands); go_simp); (try with_reducible rfl)
                  case r23uf =>
                  (try simp only [Act.put, List.setIfInBounds_toArray, List.set_cons_zero, List.set_cons_succ])
                  refine wpAnyH_take (i := 24) (oi := ⟨some 117, _, _, _, _, _⟩) (v := ?v24uf) rfl (by kernel_rfl) (by kernel_rfl) (by kernel_rfl) (fun _ _ _ h => h) (Or.inl ⟨by rfl, ?y24uf⟩) (by assumption) ?r24uf
                  case y24uf => (intro w hSw; (try dsimp only at hSw); (try go_split_ands); go_simp); (try with_reducible rfl)
                  case r24uf =>
                  (try simp only [Act.put, List.setIfInBounds_toArray, List.set_cons_zero, List.set_cons_succ])
                  refine wpAnyH_take (i := 25) (oi := ⟨some 118, _, _, _, _, _⟩) (v := ?v25uf) rfl (by kernel_rfl) (by kernel_rfl) (by kernel_rfl) (fun _ _ _ h => h) (Or.inl ⟨by rfl, ?y25uf⟩) (by assumption) ?r25uf
                  case y25uf => (intro w hSw; (try dsimp only at hSw); (try go_split_ands); go_simp); (try with_reducible rfl)
                  case r25uf =>
                  (try simp only [Act.put, List.setIfInBounds_toArray, List.set_cons_zero, List.set_cons_succ])
                  refine wpAnyH_take (i := 26) (oi := ⟨some 119, _, _, _, _, _⟩) (v := ?v26uf) rfl (by kernel_rfl) (by kernel_rfl) (by kernel_rfl) (fun _ _ _ h => h) (Or.inl ⟨by rfl, ?y26uf⟩) (by assumption) ?r26uf
                  case y26uf => (intro w hSw; (try dsimp only at hSw); (try go_split_ands); go_simp); (try with_reducible rfl)
                  case r26uf =>
                  (try simp only [Act.put, List.setIfInBounds_toArray, List.set_cons_zero, List.set_cons_succ])
                  refine wpAnyH_take (i := 27) (oi := ⟨some 120, _, _, _, _, _⟩) (v := ?v27uf) rfl (by kernel_rfl) (by kernel_rfl) (by kernel_rfl) (fun _ _ _ h => h) (Or.inl ⟨by rfl, ?y27uf⟩) (by assumption) ?r27uf
                  case y27uf => (intro w hSw; (try dsimp only at hSw); (try go_split_ands); go_simp); (try with_reducible rfl)
                  case r27uf =>
                  (try simp only [Act.put, List.setIfInBounds_toArray, List.set_cons_zero, List.set_cons_succ])
                  refine wpAnyH_take (i := 28) (oi := ⟨some 121, _, _, _, _, _⟩) (v := undef) rfl (by kernel_rfl) (by kernel_rfl) (by kernel_rfl) (fun _ _ _ h => h) (Or.inr ⟨by rfl, rfl⟩) (by assumption) ?_
                  (try simp only [Act.put, List.setIfInBounds_toArray, List.set_cons_zero, List.set_cons_succ])
                  refine wpAnyH_take (i := 29) (oi := ⟨some 122, _, _, _, _, _⟩) (v := undef) rfl (by kernel_rfl) (by kernel_rfl) (by kernel_rfl) (fun _ _ _ h => h) (Or.inr ⟨by rfl, rfl⟩) (by assumption) ?_
                  (try simp only [Act.put, List.setIfInBounds_toArray, List.set_cons_zero, List.set_cons_succ])
                  refine wpAnyH_take (i := 30) (oi := ⟨some 123, _, _, _, _, _⟩) (v := undef) rfl (by kernel_rfl) (by kernel_rfl) (by kernel_rfl) (fun _ _ _ h => h) (Or.inr ⟨by rfl, rfl⟩) (by assumption) ?_
                  (try simp only [Act.put, List.setIfInBounds_toArray, List.set_cons_zero, List.set_cons_succ])
                  refine wpAnyH_take (i := 31) (oi := ⟨some 124, _, _, _, _, _⟩) (v := undef) rfl (by kernel_rfl) (by kernel_rfl) (by kernel_rfl) (fun _ _ _ h => h) (Or.inr ⟨by rfl, rfl⟩) (by assumption) ?_
                  (try simp only [Act.put, List.setIfInBounds_toArray, List.set_cons_zero, List.set_cons_succ])
                  refine wpAnyH_take (i := 32) (oi := ⟨some 125, _, _, _, _, _⟩) (v := undef) rfl (by kernel_rfl) (by kernel_rfl) (by kernel_rfl) (fun _ _ _ h => h) (Or.inr ⟨by rfl, rfl⟩) (by assumption) ?_
                  (try simp only [Act.put, List.setIfInBounds_toArray, List.set_cons_zero, List.set_cons_succ])
                  refine wpAnyH_take (i := 33) (oi := ⟨some 126, _, _, _, _, _⟩) (v := undef) rfl (by kernel_rfl) (by kernel_rfl) (by kernel_rfl) (fun _ _ _ h => h) (Or.inr ⟨by rfl, rfl⟩) (by assumption) ?_
                  (try simp only [Act.put, List.setIfInBounds_toArray, List.set_cons_zero, List.set_cons_succ])
                  refine wpAnyH_take (i := 34) (oi := ⟨some 127, _, _, _, _, _⟩) (v := undef) rfl (by kernel_rfl) (by kernel_rfl) (by kernel_rfl) (fun _ _ _ h => h) (Or.inr ⟨by rfl, rfl⟩) (by assumption) ?_
                  (try simp only [Act.put, List.setIfInBounds_toArray, List.set_cons_zero, List.set_cons_succ])
                  refine wpAnyH_take (i := 35) (oi := ⟨some 128, _, _, _, _, _⟩) (v := undef) rfl (by kernel_rfl) (by kernel_rfl) (by kernel_rfl) (fun _ _ _ h => h) (Or.inr ⟨by rfl, rfl⟩) (by assumption) ?_
                  (try simp only [Act.put, List.setIfInBounds_toArray, List.set_cons_zero, List.set_cons_succ])
                  refine wpAnyH_take (i := 36) (oi := ⟨some 129, _, _, _, _, _⟩) (v := undef) rfl (by kernel_rfl) (by kernel_rfl) (by kernel_rfl) (fun _ _ _ h => h) (Or.inr ⟨by rfl, rfl⟩) (by assumption) ?_
                  (try simp only [Act.put, List.setIfInBounds_toArray, List.set_cons_zero, List.set_cons_succ])
                  refine wpAnyH_take (i := 37) (oi := ⟨some 130, _, _, _, _, _⟩) (v := undef) rfl (by kernel_rfl) (by kernel_rfl) (by kernel_rfl) (fun _ _ _ h => h) (Or.inr ⟨by rfl, rfl⟩) (by assumption) ?_
                  (try simp only [Act.put, List.setIfInBounds_toArray, List.set_cons_zero, List.set_cons_succ])
                  refine wpAnyH_take (i := 38) (oi := ⟨some 131, _, _, _, _, _⟩) (v := undef) rfl (by kernel_rfl) (by kernel_rfl) (by kernel_rfl) (fun _ _ _ h => h) (Or.inr ⟨by rfl, rfl⟩) (by assumption) ?_
                  (try simp only [Act.put, List.setIfInBounds_toArray, List.set_cons_zero, List.set_cons_succ])
                  refine wpAnyH_take (i := 39) (oi := ⟨some 132, _, _, _, _, _⟩) (v := undef) rfl (by kernel_rfl) (by kernel_rfl) (by kernel_rfl) (fun _ _ _ h => h) (Or.inr ⟨by rfl, rfl⟩) (by assumption) ?_
                  (try simp only [Act.put, List.setIfInBounds_toArray, List.set_cons_zero, List.set_cons_succ])
                  refine wpAnyH_take (i := 40) (oi := ⟨some 133, _, _, _, _, _⟩) (v := .bool false) rfl (by kernel_rfl) (by kernel_rfl) (by kernel_rfl) (fun _ _ _ h => h) (Or.inl ⟨by rfl, ?y40uf⟩) (by assumption) ?r40uf
                  case y40uf => (intro w hSw; (try dsimp only at hSw); (try go_split_ands); go_simp)
                  case r40uf =>
                  (try simp only [Act.put, List.setIfInBounds_toArray, List.set_cons_zero, List.set_cons_succ])
                  refine wpAnyH_take (i := 41) (oi := ⟨some 134, _, _, _, _, _⟩) (v := .bool false) rfl (by kernel_rfl) (by kernel_rfl) (by kernel_rfl) (fun _ _ _ h => h) (Or.inl ⟨by rfl, ?y41uf⟩) (by assumption) ?r41uf
                  case y41uf => (intro w hSw; (try dsimp only at hSw); (try go_split_ands); go_simp)
                  case r41uf =>
                  (try simp only [Act.put, List.setIfInBounds_toArray, List.set_cons_zero, List.set_cons_succ])
                  refine wpAnyH_take (i := 42) (oi := ⟨some 135, _, _, _, _, _⟩) (v := ?v42uf) rfl (by kernel_rfl) (by kernel_rfl) (by kernel_rfl) (fun _ _ _ h => h) (Or.inl ⟨by rfl, ?y42uf⟩) (by assumption) ?r42uf
                  case y42uf => (intro w hSw; (try dsimp only at hSw); (try go_split_ands); go_simp); (try with_reducible rfl)
                  case r42uf =>
                  (try simp only [Act.put, List.setIfInBounds_toArray, List.set_cons_zero, List.set_cons_succ])
                  refine wpAnyH_take (i := 43) (oi := ⟨some 136, _, _, _, _, _⟩) (v := ?v43uf) rfl (by kernel_rfl) (by kernel_rfl) (by kernel_rfl) (fun _ _ _ h => h) (Or.inl ⟨by rfl, ?y43uf⟩) (by assumption) ?r43uf
                  case y43uf => (intro w hSw; (try dsimp only at hSw); (try go_split_ands); go_simp); (try with_reducible rfl)
                  case r43uf =>
                  (try simp only [Act.put, List.setIfInBounds_toArray, List.set_cons_zero, List.set_cons_succ])
                  refine wpAnyH_take (i := 44) (oi := ⟨some 137, _, _, _, _, _⟩) (v := ?v44uf) rfl (by kernel_rfl) (by kernel_rfl) (by kernel_rfl) (fun _ _ _ h => h) (Or.inl ⟨by rfl, ?y44uf⟩) (by assumption) ?r44uf
                  case y44uf => (intro w hSw; (try dsimp only at hSw); (try go_split_ands); go_simp); (try with_reducible rfl)
                  case r44uf =>
                  (try simp only [Act.put, List.setIfInBounds_toArray, List.set_cons_zero, List.set_cons_succ])
                  refine wpAnyH_take (i := 45) (oi := ⟨some 138, _, _, _, _, _⟩) (v := ?v45uf) rfl (by kernel_rfl) (by kernel_rfl) (by kernel_rfl) (fun _ _ _ h => h) (Or.inl ⟨by rfl, ?y45uf⟩) (by assumption) ?r45uf
                  case y45uf => (intro w hSw; (try dsimp only at hSw); (try go_split_ands); go_simp); (try with_reducible rfl)
                  case r45uf =>
                  (try simp only [Act.put, List.setIfInBounds_toArray, List.set_cons_zero, List.set_cons_succ])
                  refine wpAnyH_take (i := 46) (oi := ⟨some 139, _, _, _, _, _⟩) (v := ?v46uf) rfl (by kernel_rfl) (by kernel_rfl) (by kernel_rfl) (fun _ _ _ h => h) (Or.inl ⟨by rfl, ?y46uf⟩) (by assumption) ?r46uf
                  case y46uf => (intro w hSw; (try dsimp only at hSw); (try go_split_ands); go_simp); (try with_reducible rfl)
                  case r46uf =>
                  (try simp only [Act.put, List.setIfInBounds_toArray, List.set_cons_zero, List.set_cons_succ])
                  refine wpAnyH_take (i := 47) (oi := ⟨some 140, _, _, _, _, _⟩) (v := ?v47uf) rfl (by kernel_rfl) (by kernel_rfl) (by kernel_rfl) (fun _ _ _ h => h) (Or.inl ⟨by rfl, ?y47uf⟩) (by assumption) ?r47uf
                  case y47uf => (intro w hSw; (try dsimp only at hSw); (try go_split_ands); go_simp); (try with_reducible rfl)
                  case r47uf =>
                  (try simp only [Act.put, List.setIfInBounds_toArray, List.set_cons_zero, List.set_cons_succ])
                  refine wpAnyH_take (i := 48) (oi := ⟨some 141, _, _, _, _, _⟩) (v := ?v48uf) rfl (by kernel_rfl) (by kernel_rfl) (by kernel_rfl) (fun _ _ _ h => h) (Or.inl ⟨by rfl, ?y48uf⟩) (by assumption) ?r48uf
                  case y48uf => (intro w hSw; (try dsimp only at hSw); (try go_split_ands); go_simp); (try with_reducible rfl)
                  case r48uf =>
                  (try simp only [Act.put, List.setIfInBounds_toArray, List.set_cons_zero, List.set_cons_succ])
                  refine wpAnyH_take (i := 49) (oi := ⟨some 142, _, _, _, _, _⟩) (v := .bool true) rfl (by kernel_rfl) (by kernel_rfl) (by kernel_rfl) (fun _ _ _ h => h) (Or.inl ⟨by rfl, ?y49uf⟩) (by assumption) ?r49uf
                  case y49uf => (intro w hSw; (try dsimp only at hSw); (try go_split_ands); go_simp)
                  case r49uf =>
                  (try simp only [Act.put, List.setIfInBounds_toArray, List.set_cons_zero, List.set_cons_succ])
                  refine wpAnyH_take (i := 50) (oi := ⟨some 143, _, _, _, _, _⟩) (v := ?v50uf) rfl (by kernel_rfl) (by kernel_rfl) (by kernel_rfl) (fun _ _ _ h => h) (Or.inl ⟨by rfl, ?y50uf⟩) (by assumption) ?r50uf
                  case y50uf => (intro w hSw; (try dsimp only at hSw); (try go_split_ands); go_simp); (try with_reducible rfl)
                  case r50uf =>
                  (try simp only [Act.put, List.setIfInBounds_toArray, List.set_cons_zero, List.set_cons_succ])
                  refine wpAnyH_take (i := 51) (oi := ⟨some 144, _, _, _, _, _⟩) (v := ?v51uf) rfl (by kernel_rfl) (by kernel_rfl) (by kernel_rfl) (fun _ _ _ h => h) (Or.inl ⟨by rfl, ?y51uf⟩) (by assumption) ?r51uf
                  case y51uf => (intro w hSw; (try dsimp only at hSw); (try go_split_ands); go_simp); (try with_reducible rfl)
                  case r51uf =>
                  (try simp only [Act.put, List.setIfInBounds_toArray, List.set_cons_zero, List.set_cons_succ])
                  refine wpAnyH_take (i := 52) (oi := ⟨some 145, _, _, _, _, _⟩) (v := ?v52uf) rfl (by kernel_rfl) (by kernel_rfl) (by kernel_rfl) (fun _ _ _ h => h) (Or.inl ⟨by rfl, ?y52uf⟩) (by assumption) ?r52uf
                  case y52uf => (intro w hSw; (try dsimp only at hSw); (try go_split_ands); go_simp); (try with_reducible rfl)
                  case r52uf =>
                  (try simp only [Act.put, List.setIfInBounds_toArray, List.set_cons_zero, List.set_cons_succ])
                  refine wpAnyH_take (i := 53) (oi := ⟨some 146, _, _, _, _, _⟩) (v := ?v53uf) rfl (by kernel_rfl) (by kernel_rfl) (by kernel_rfl) (fun _ _ _ h => h) (Or.inl ⟨by rfl, ?y53uf⟩) (by assumption) ?r53uf
                  case y53uf => (intro w hSw; (try dsimp only at hSw); (try go_split_ands); go_simp); (try with_reducible rfl)
                  case r53uf =>
                  (try simp only [Act.put, List.setIfInBounds_toArray, List.set_cons_zero, List.set_cons_succ])
                  refine wpAnyH_take (i := 54) (oi := ⟨some 147, _, _, _, _, _⟩) (v := ?v54uf) rfl (by kernel_rfl) (by kernel_rfl) (by kernel_rfl) (fun _ _ _ h => h) (Or.inl ⟨by rfl, ?y54uf⟩) (by assumption) ?r54uf
                  case y54uf => (intro w hSw; (try dsimp only at hSw); (try go_split_ands); go_simp); (try with_reducible rfl)
                  case r54uf =>
                  (try simp only [Act.put, List.setIfInBounds_toArray, List.set_cons_zero, List.set_cons_succ])
                  refine wpAnyH_take (i := 55) (oi := ⟨some 148, _, _, _, _, _⟩) (v := ?v55uf) rfl (by kernel_rfl) (by kernel_rfl) (by kernel_rfl) (fun _ _ _ h => h) (Or.inl ⟨by rfl, ?y55uf⟩) (by assumption) ?r55uf
                  case y55uf => (intro w hSw; (try dsimp only at hSw); (try go_split_ands); go_simp); (try with_reducible rfl)
                  case r55uf =>
                  (try simp only [Act.put, List.setIfInBounds_toArray, List.set_cons_zero, List.set_cons_succ])
                  refine wpAnyH_take (i := 56) (oi := ⟨some 149, _, _, _, _, _⟩) (v := ?v56uf) rfl (by kernel_rfl) (by kernel_rfl) (by kernel_rfl) (fun _ _ _ h => h) (Or.inl ⟨by rfl, ?y56uf⟩) (by assumption) ?r56uf
                  case y56uf => (intro w hSw; (try dsimp only at hSw); (try go_split_ands); go_simp); (try with_reducible rfl)
                  case r56uf =>
                  (try simp only [Act.put, List.setIfInBounds_toArray, List.set_cons_zero, List.set_cons_succ])
                  refine wpAnyH_take (i := 57) (oi := ⟨some 150, _, _, _, _, _⟩) (v := ?v57uf) rfl (by kernel_rfl) (by kernel_rfl) (by kernel_rfl) (fun _ _ _ h => h) (Or.inl ⟨by rfl, ?y57uf⟩) (by assumption) ?r57uf
                  case y57uf => (intro w hSw; (try dsimp only at hSw); (try go_split_ands); go_simp); (try with_reducible rfl)
                  case r57uf =>
                  (try simp only [Act.put, List.setIfInBounds_toArray, List.set_cons_zero, List.set_cons_succ])
                  refine wpAnyH_take (i := 58) (oi := ⟨some 151, _, _, _, _, _⟩) (v := ?v58uf) rfl (by kernel_rfl) (by kernel_rfl) (by kernel_rfl) (fun _ _ _ h => h) (Or.inl ⟨by rfl, ?y58uf⟩) (by assumption) ?r58uf
                  case y58uf => (intro w hSw; (try dsimp only at hSw); (try go_split_ands); go_simp); (try with_reducible rfl)
                  case r58uf =>
                  (try simp only [Act.put, List.setIfInBounds_toArray, List.set_cons_zero, List.set_cons_succ])
                  refine wpAnyH_take (i := 59) (oi := ⟨some 152, _, _, _, _, _⟩) (v := ?v59uf) rfl (by kernel_rfl) (by kernel_rfl) (by kernel_rfl) (fun _ _ _ h => h) (Or.inl ⟨by rfl, ?y59uf⟩) (by assumption) ?r59uf
                  case y59uf => (intro w hSw; (try dsimp only at hSw); (try go_split_ands); go_simp); (try with_reducible rfl)
                  case r59uf =>
                  (try simp only [Act.put, List.setIfInBounds_toArray, List.set_cons_zero, List.set_cons_succ])
                  refine wpAnyH_take (i := 60) (oi := ⟨some 153, _, _, _, _, _⟩) (v := ?v60uf) rfl (by kernel_rfl) (by kernel_rfl) (by kernel_rfl) (fun _ _ _ h => h) (Or.inl ⟨by rfl, ?y60uf⟩) (by assumption) ?r60uf
                  case y60uf => (intro w hSw; (try dsimp only at hSw); (try go_split_ands); go_simp); (try with_reducible rfl)
                  case r60uf =>
                  (try simp only [Act.put, List.setIfInBounds_toArray, List.set_cons_zero, List.set_cons_succ])
                  refine wpAnyH_take (i := 61) (oi := ⟨some 154, _, _, _, _, _⟩) (v := ?v61uf) rfl (by kernel_rfl) (by kernel_rfl) (by kernel_rfl) (fun _ _ _ h => h) (Or.inl ⟨by rfl, ?y61uf⟩) (by assumption) ?r61uf
                  case y61uf => (intro w hSw; (try dsimp only at hSw); (try go_split_ands); go_simp); (try with_reducible rfl)
                  case r61uf =>
                  (try simp only [Act.put, List.setIfInBounds_toArray, List.set_cons_zero, List.set_cons_succ])
                  refine wpAnyH_take (i := 62) (oi := ⟨some 155, _, _, _, _, _⟩) (v := .bool false) rfl (by kernel_rfl) (by kernel_rfl) (by kernel_rfl) (fun _ _ _ h => h) (Or.inl ⟨by rfl, ?y62uf⟩) (by assumption) ?r62uf
                  case y62uf => (intro w hSw; (try dsimp only at hSw); (try go_split_ands); go_simp)
                  case r62uf =>
                  (try simp only [Act.put, List.setIfInBounds_toArray, List.set_cons_zero, List.set_cons_succ])
                  refine wpAnyH_take (i := 63) (oi := ⟨some 156, _, _, _, _, _⟩) (v := .bool false) rfl (by kernel_rfl) (by kernel_rfl) (by kernel_rfl) (fun _ _ _ h => h) (Or.inl ⟨by rfl, ?y63uf⟩) (by assumption) ?r63uf
                  case y63uf => (intro w hSw; (try dsimp only at hSw); (try go_split_ands); go_simp)
                  case r63uf =>
                  (try simp only [Act.put, List.setIfInBounds_toArray, List.set_cons_zero, List.set_cons_succ])
                  refine wpAnyH_take (i := 64) (oi := ⟨some 157, _, _, _, _, _⟩) (v := .bool false) rfl (by kernel_rfl) (by kernel_rfl) (by kernel_rfl) (fun _ _ _ h => h) (Or.inl ⟨by rfl, ?y64uf⟩) (by assumption) ?r64uf
                  case y64uf => (intro w hSw; (try dsimp only at hSw); (try go_split_ands); go_simp)
                  case r64uf =>
                  (try simp only [Act.put, List.setIfInBounds_toArray, List.set_cons_zero, List.set_cons_succ])
                  refine wpAnyH_done (by kernel_rfl) ?_ _
                  go_wp2_with fail
                  exact ⟨⟨p + 1, hpt, by go_num, HBQ.out.drew⟩, measI hpt⟩
          · obtain rfl : Td.length = p := by omega
            go_wp2_with fail
            refine ⟨⟨i + 1, v4, L', last', hlt, by go_num, HB4.out.below hBp, fun x hx => ?_, HW4.out.trans (HBP.out.mono HW4.out.size)⟩, measI hlt⟩
            rcases HF4.out x hx with h | h
            · exact HF.out x h
            · omega
      · go_wp2_with (first
          | (go_at_call 19; go_loud (refine (cancel w.heap.size v L last nn _ HB.out).mono ?_; rintro e w3 ⟨x1, c1', v3, he, hc1, hb3, ht3, hf3⟩; unfold odA at he; subst he; have HB3 := Lib.hid hb3; have HT3 := Lib.hid ht3; have HF3 := Lib.hid hf3; clear hc1 hb3 ht3 hf3))
          | fail)
        exact ⟨⟨i + 1, v3, _, last, hlt, by go_num, HB3.out, fun x hx => HF.out x (HF3.out x hx), HW.out.trans (HT3.out.below hsw HF.out)⟩, measI hlt⟩
    · obtain rfl : i = xs.length := by omega
      skip
      go_wp2_with (first
        | (go_at_call 13; refine (bkKnown _).mono ?_; rintro e w6 ⟨rfl, hb6⟩)
        | fail)
      go_ret
      exact ⟨rfl, HW.out.trans (hb6.mono hsw)⟩
end Go.Proofs.Ytekelnkjigaofaa
