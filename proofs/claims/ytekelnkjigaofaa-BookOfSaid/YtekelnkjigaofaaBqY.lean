/- Book: a script, played in both books. -/
import Derived.Test.YtekelnkjigaofaaBqX
import Derived.Test.YtekelnkjigaofaaBqVa
import Derived.Test.YtekelnkjigaofaaBqWe
import Derived.Test.YtekelnkjigaofaaOpenBacts
import Derived.Deep.QuietTactic
import Derived.BigQuiet
namespace Go.Proofs.Ytekelnkjigaofaa
open Go.RowKit
set_option linter.unusedVariables false
set_option linter.unusedSimpArgs false

theorem lenB (b : Nat) (v : Nat → Value) (L : List Od) (last : Int) (w : World) (h : BookAt w b v L last) :
    Calls Try.prog 21 #[.pointer (some ⟨b, 0, none⟩)] w fun e w' => e = .returned (.int .i64 L.length) ∧ Below w.heap.size w w' := by
  obtain ⟨S, h1, h2, h3, h4⟩ := h
  exact bkLen b v S last L w h1 h2 h3 (by omega)
theorem canc_det {L : List Od} {last id c c' : Int} (hk : Bk L last) {x x' z : Od} (h : (x ∈ L ∧ x.id = id ∧ c = 0) ∨ ((∀ y ∈ L, y.id ≠ id) ∧ x = z ∧ c = 7)) (h' : (x' ∈ L ∧ x'.id = id ∧ c' = 0) ∨ ((∀ y ∈ L, y.id ≠ id) ∧ x' = z ∧ c' = 7)) : x' = x ∧ c' = c := by
  rcases h with ⟨h1, h2, h3⟩ | ⟨h1, h2, h3⟩ <;> rcases h' with ⟨k1, k2, k3⟩ | ⟨k1, k2, k3⟩
  · exact ⟨hk.ids.inj k1 h1 (by rw [k2, h2]), by rw [h3, k3]⟩
  · exact absurd h2 (k1 _ h1)
  · exact absurd k2 (h1 _ k1)
  · exact ⟨by rw [h2, k2], by rw [h3, k3]⟩
set_option maxHeartbeats 20000000 in
set_option maxRecDepth 10000 in
theorem lawPlayed (A : Option Addr) (c : Nat) (xs : List Ba) (w : World) (hx : Cells w w.heap.size A xs.length c 8 (xs.flatMap baV)) :
    Calls Try.prog 10 #[.slice A xs.length c] w fun e w' => ∃ (b x : Nat) (v : Nat → Value) (L : List Od) (last : Int) (u : Value), e = .returned (.tuple #[.pointer (some ⟨b, 0, none⟩), .pointer (some ⟨x, 0, none⟩), .bool true]) ∧ BookAt w' b v L last ∧ RfB w' w.heap.size x u L last ∧ Ap L ∧ Below w.heap.size w w' := by
  have HX := Lib.hid hx
  clear hx
  go_enter Try.func10, Try.ntmps10
  go_wp2_with (first
    | (go_at_call 18; go_loud (refine (newBook _).mono ?_; rintro e w1 ⟨rfl, hb1, hb⟩; have hs1 := hb.size; have hlow := hb1.lows; have HB1 := Lib.hid hb1; have HBL := Lib.hid hb; clear hb1 hb))
    | fail)
  have hF1 : ∀ k, Ft w.heap.size (fun _ => .slice none 0 0) k → w.heap.size ≤ k ∧ ¬ Fx w1.heap.size (.slice none 0 0) k := fun k hk => by
    have hl := hlow k hk
    refine ⟨?_, ?_⟩
    · rcases hk with e | ⟨i, _, e⟩
      · omega
      · cases e
    · rintro (e | e)
      · omega
      · cases e
  have HF1 := Lib.hid hF1
  clear hF1 hlow
  go_loopw [7] (fun iv wr => ∃ (i : Nat) (v : Nat → Value) (L : List Od) (last : Int) (u : Value), i ≤ (min xs.length 120) ∧ iv = .int .i64 i ∧ BookAt wr w.heap.size v L last ∧ RfB wr w.heap.size w1.heap.size u L last ∧ Ap L ∧ (∀ k, Ft w.heap.size v k → w.heap.size ≤ k ∧ ¬ Fx w1.heap.size u k) ∧ Below w.heap.size w wr) (fun iv _ => (min xs.length 120) - (intOf iv).toNat)
  case atStart => exact ⟨0, _, [], 0, _, Nat.zero_le _, rfl, HB1.out.below (by ((repeat (first | (with_reducible exact Below.refl _ _) | (with_reducible assumption) | ((with_reducible refine b_set ?_ ?_); · (first | omega | (simp; done) | (simp; omega))) | ((with_reducible refine b_alloc ?_ ?_); · (first | omega | (simp; done) | (simp; omega))) | (with_reducible refine Below.drew ?_) | (with_reducible refine b_drewN ?_) | ((with_reducible refine b_call (by assumption) ?_ ?_); · (first | omega | (simp; done) | (simp; omega))))); done)), RfB.new hs1, (fun a ha => by cases ha), HF1.out, HBL.out.trans (by ((repeat (first | (with_reducible exact Below.refl _ _) | (with_reducible assumption) | ((with_reducible refine b_set ?_ ?_); · (first | omega | (simp; done) | (simp; omega))) | ((with_reducible refine b_alloc ?_ ?_); · (first | omega | (simp; done) | (simp; omega))) | (with_reducible refine Below.drew ?_) | (with_reducible refine b_drewN ?_) | ((with_reducible refine b_call (by assumption) ?_ ?_); · (first | omega | (simp; done) | (simp; omega))))); done))⟩
  case round =>
    obtain ⟨i, v, L, last, u, hil, rfl, hB, hR, hA, hF, hBw⟩ := hrel
    have HB := Lib.hid hB
    have HR := Lib.hid hR
    have HA := Lib.hid hA
    have HF := Lib.hid hF
    have HW := Lib.hid hBw
    have hsw := hBw.size
    by_cases hlt : i < (min xs.length 120)
    · have q3 : (i : Int) < (xs.length : Int) := by omega
      have q4 : (i : Int) < 120 := by omega
      obtain ⟨qb, qo, rfl, hqb, c0, c1, c2, c3, c4, c5, c6, c7⟩ := ba_at HX.out (show i < xs.length by omega)
      have HC := Lib.hid (And.intro c2 (And.intro c3 (And.intro c4 (And.intro c5 (And.intro c6 c7)))))
      have HC1 := Lib.hid c1
      have HC0 := Lib.hid c0
      have c0 := bkeep hBw c0 hqb
      have c1 := bkeep hBw c1 hqb
      have c2 := bkeep hBw c2 hqb
      have c3 := bkeep hBw c3 hqb
      have c4 := bkeep hBw c4 hqb
      have c5 := bkeep hBw c5 hqb
      have c6 := bkeep hBw c6 hqb
      have c7 := bkeep hBw c7 hqb
      obtain ⟨k, hk⟩ : ∃ k, k = (xs[i]'(by omega)).1 := ⟨_, rfl⟩
      obtain ⟨nn, hn⟩ : ∃ k, k = (xs[i]'(by omega)).2.1 := ⟨_, rfl⟩
      obtain ⟨o, ho⟩ : ∃ k, k = (xs[i]'(by omega)).2.2 := ⟨_, rfl⟩
      rw [← hk] at c0 HC0
      rw [← hn] at c1 HC1
      rw [← ho] at c2 c3 c4 c5 c6 c7 HC
      clear hB hR hA hF hBw hk hn ho
      by_cases h1 : k = 1
      · subst h1
        go_wp2_with (first
          | (go_at_call 17; go_loud (refine (refPlace w.heap.size w1.heap.size u last L o _ HR4.out HB.out.bk (by have := HB.out.len; omega)).mono ?_; rintro e w5 ⟨T2, n2, e2, L2, last2, ur, tv2, rfl, hp2, hr2, ho2, ha2, ht2, hf2⟩; obtain ⟨rfl, rfl, rfl, rfl, rfl⟩ := Placed.det HB.out.bk HPD.out (Placed.of_r hp2); have hs5 := ht2.size; have HR5 := Lib.hid hr2; have HT5 := Lib.hid ht2; have HF5 := Lib.hid hf2; have HTV2 := Lib.hid ho2; have HB5 := Lib.hid (HB4.out.keep ht2 (fun k hk => HD4.out k hk)); have HTV := Lib.hid (ht2.own HTV.out (fun g hg h => by have h1 := (HTV.out.lt g hg).1; have h2 := (HR.out.lows g h).2; omega)); have HW5 := Lib.hid (HW4.out.trans (ht2.below (by omega) (fun k hk => (HR.out.lows k hk).1))); have HD5 : Hid (∀ k, Ft w.heap.size v4 k → ¬ Fx w1.heap.size ur k) := Lib.hid (fun k hk hx => by rcases HF5.out k hx with h | h; exact HD4.out k hk h; have := HB4.out.lows k hk; omega); obtain ⟨At, kt, hvt, _, _, _⟩ := own_slice HTV.out; subst hvt; obtain ⟨At2, kt2, hvt2, _, _, _⟩ := own_slice HTV2.out; subst hvt2; clear ho2 hr2 ha2 ht2 hf2 hp2))
          | (go_at_call 16; go_loud (refine (place w.heap.size v L last o _ HB.out).mono ?_; rintro e w4 ⟨Td, n, e', L', last', v4, tv, rfl, hp, hb, ho, ha, ht, hf⟩; have hs4 := ht.size; have HB4 := Lib.hid hb; have HT4 := Lib.hid ht; have HF4 := Lib.hid hf; have HTV := Lib.hid ho; have HPD := Lib.hid hp; have hTl := hp.len; have HW4 := Lib.hid (HW.out.trans (ht.below hsw (fun k hk => (HF.out k hk).1))); have HR4 := Lib.hid (HR.out.keep ht (fun k hk h => (HF.out k h).2 hk)); have HD4 : Hid (∀ k, Ft w.heap.size v4 k → ¬ Fx w1.heap.size u k) := Lib.hid (fun k hk hx => by rcases hf k hk with h | h; exact (HF.out k h).2 hx; have := (HR.out.lows k hx).2; omega); have c0 := bkeep HW4.out (HC0.out) hqb; have c1 := bkeep HW4.out HC1.out hqb; have c2 := bkeep HW4.out HC.out.1 hqb; have c3 := bkeep HW4.out HC.out.2.1 hqb; have c4 := bkeep HW4.out HC.out.2.2.1 hqb; have c5 := bkeep HW4.out HC.out.2.2.2.1 hqb; have c6 := bkeep HW4.out HC.out.2.2.2.2.1 hqb; have c7 := bkeep HW4.out HC.out.2.2.2.2.2 hqb; clear ho hb ha hf hp ht))
          | fail)
        clear c0 c1 c2 c3 c4 c5 c6 c7
        go_loopw [14] (fun pv wp => ∃ p : Nat, p ≤ Td.length ∧ pv = .int .i64 p ∧ Below w5.heap.size w5 wp) (fun pv _ => Td.length - (intOf pv).toNat)
        case atStart => exact ⟨0, Nat.zero_le _, rfl, Below.refl _ _⟩
        case round =>
          obtain ⟨p, hpl, rfl, hBp⟩ := hrel
          have HBP := Lib.hid hBp
          by_cases hpt : p < Td.length
          · have q5 : (p : Int) < (Td.length : Int) := by omega
            have ht3 := row_below HTV.out hBp
            have ht4 := row_below HTV2.out hBp
            obtain ⟨gt, kt', e8, _, hgt, _, _⟩ := own_form ht3 (by omega)
            injection e8 with e8 e9 e10
            subst e8 e10
            obtain ⟨gt2, kt2', e8, _, hgt2, _, _⟩ := own_form ht4 (by omega)
            injection e8 with e8 e9 e10
            subst e8 e10
            obtain ⟨t, htt⟩ : ∃ t, t = Td[p] := ⟨_, rfl⟩
            obtain ⟨y0, y1, y2, y3, y4, y5, y6, y7⟩ := flatT_at Td p hpt
            rw [← htt] at y0 y1 y2 y3 y4 y5 y6 y7
            have a0 := (ht3.cellAt (p * 8) (by omega)).trans y0
            have z0 := (ht4.cellAt (p * 8) (by omega)).trans y0
            have a1 := (ht3.cellAt (p * 8 + 1) (by omega)).trans y1
            have z1 := (ht4.cellAt (p * 8 + 1) (by omega)).trans y1
            have a2 := (ht3.cellAt (p * 8 + 2) (by omega)).trans y2
            have z2 := (ht4.cellAt (p * 8 + 2) (by omega)).trans y2
            have a3 := (ht3.cellAt (p * 8 + 3) (by omega)).trans y3
            have z3 := (ht4.cellAt (p * 8 + 3) (by omega)).trans y3
            have a4 := (ht3.cellAt (p * 8 + 4) (by omega)).trans y4
            have z4 := (ht4.cellAt (p * 8 + 4) (by omega)).trans y4
            have a5 := (ht3.cellAt (p * 8 + 5) (by omega)).trans y5
            have z5 := (ht4.cellAt (p * 8 + 5) (by omega)).trans y5
            have a6 := (ht3.cellAt (p * 8 + 6) (by omega)).trans y6
            have z6 := (ht4.cellAt (p * 8 + 6) (by omega)).trans y6
            have a7 := (ht3.cellAt (p * 8 + 7) (by omega)).trans y7
            have z7 := (ht4.cellAt (p * 8 + 7) (by omega)).trans y7
            have hne := tdNeq t
            clear y0 y1 y2 y3 y4 y5 y6 y7 ht3 ht4 htt hBp
            go_wp2_with fail
            go_quiet (fail)
            go_wp2_with fail
            exact ⟨⟨p + 1, hpt, by go_num, b_drewN HBP.out⟩, measI hpt⟩
          · obtain rfl : Td.length = p := by omega
            go_wp2_with fail
            have HBF := Lib.hid (HB5.out.below HBP.out)
            have HRF := Lib.hid (HR5.out.below HBP.out)
            have HWF := Lib.hid (HW5.out.trans (HBP.out.mono HW5.out.size))
            have HAF := Lib.hid (HPD.out.ap HB.out.bk HA.out)
            have HDF : Hid (∀ k, Ft w.heap.size v4 k → w.heap.size ≤ k ∧ ¬ Fx w1.heap.size ur k) := Lib.hid (fun k hk => ⟨by rcases HF4.out k hk with h | h; exact (HF.out k h).1; omega, HD5.out k hk⟩)
            clear hBp
            obtain ⟨Ax, cx, hux, _, _, hCx⟩ := row_cells HRF.out.row
            have l4 := HRF.out.blk.cell 0
            simp only [List.getElem?_toArray, List.getElem?_cons_succ, List.getElem?_cons_zero] at l4
            rw [hux] at l4
            have hxF := HRF.out.blk.low
            have HDW : Hid (Touch (fun _ => False) wr wr.drew) := Lib.hid (Touch.of_drew _ _)
            clear hCx
            refine wp_region_held_drew (S := (fun W => W.cell? ⟨w1.heap.size, 0, none⟩ = some (.slice Ax L'.length cx))) (by kernel_rfl) l4 (fun hHeld => ?_)
            refine wpAnyH_take (i := 0) (oi := ⟨some 123, _, _, _, _, _⟩) (v := ?v0p) rfl (by kernel_rfl) (by kernel_rfl) (by kernel_rfl) (fun _ _ _ h => h) (Or.inl ⟨by rfl, ?y0p⟩) (by assumption) ?r0p
            case y0p => (intro w hSw; (try dsimp only at hSw); (try go_split_ands); go_simp); (try with_reducible rfl)
            case r0p =>
            (try simp only [Act.put, List.setIfInBounds_toArray, List.set_cons_zero, List.set_cons_succ])
            refine wpAnyH_take (i := 2) (oi := ⟨some 125, _, _, _, _, _⟩) (v := ?v2p) rfl (by kernel_rfl) (by kernel_rfl) (by kernel_rfl) (fun _ _ _ h => h) (Or.inl ⟨by rfl, ?y2p⟩) (by assumption) ?r2p
            case y2p => (intro w hSw; (try dsimp only at hSw); (try go_split_ands); go_simp); (try with_reducible rfl)
            case r2p =>
            (try simp only [Act.put, List.setIfInBounds_toArray, List.set_cons_zero, List.set_cons_succ])
            refine wpAnyH_take (i := 3) (oi := ⟨some 126, _, _, _, _, _⟩) (v := ?v3p) rfl (by kernel_rfl) (by kernel_rfl) (by kernel_rfl) (fun _ _ _ h => h) (Or.inl ⟨by rfl, ?y3p⟩) (by assumption) ?r3p
            case y3p => (intro w hSw; (try dsimp only at hSw); (try go_split_ands); go_simp); (try with_reducible rfl)
            case r3p =>
            (try simp only [Act.put, List.setIfInBounds_toArray, List.set_cons_zero, List.set_cons_succ])
            refine wpAnyH_take (i := 4) (oi := ⟨some 127, _, _, _, _, _⟩) (v := ?v4p) rfl (by kernel_rfl) (by kernel_rfl) (by kernel_rfl) (fun _ _ _ h => h) (Or.inl ⟨by rfl, ?y4p⟩) (by assumption) ?r4p
            case y4p => (intro w hSw; (try dsimp only at hSw); (try go_split_ands); go_simp); (try with_reducible rfl)
            case r4p =>
            (try simp only [Act.put, List.setIfInBounds_toArray, List.set_cons_zero, List.set_cons_succ])
            refine wpAnyH_take (i := 5) (oi := ⟨some 128, _, _, _, _, _⟩) (v := ?v5p) rfl (by kernel_rfl) (by kernel_rfl) (by kernel_rfl) (fun _ _ _ h => h) (Or.inl ⟨by rfl, ?y5p⟩) (by assumption) ?r5p
            case y5p => (intro w hSw; (try dsimp only at hSw); (try go_split_ands); go_simp); (try with_reducible rfl)
            case r5p =>
            (try simp only [Act.put, List.setIfInBounds_toArray, List.set_cons_zero, List.set_cons_succ])
            refine wpAnyH_take (i := 6) (oi := ⟨some 129, _, _, _, _, _⟩) (v := ?v6p) rfl (by kernel_rfl) (by kernel_rfl) (by kernel_rfl) (fun _ _ _ h => h) (Or.inl ⟨by rfl, ?y6p⟩) (by assumption) ?r6p
            case y6p => (intro w hSw; (try dsimp only at hSw); (try go_split_ands); go_simp); (try with_reducible rfl)
            case r6p =>
            (try simp only [Act.put, List.setIfInBounds_toArray, List.set_cons_zero, List.set_cons_succ])
            refine wpAnyH_ready (rs := [1]) (by kernel_rfl) (by simp) ?_
            refine AllReadyH.cons (o := ⟨some 124, _, _, _, _, _⟩) rfl (fun K hK => ?_) AllReadyH.nil
            go_simp
            refine (lenB w.heap.size v4 L' last' _ (HBF.out.keep HDW.out (fun _ _ h => h))).mono ?_; rintro e wa ⟨rfl, hba⟩
            go_wp2_with fail
            have HBA : Hid (Below wr.heap.size wr wa) := Lib.hid ((Below.refl _ _).drew.trans hba)
            refine hK.out _ _ (by first | exact bkeep HBC.out l4 hxF | exact bkeep HBB.out l4 hxF | exact bkeep HBA.out l4 hxF) (fun hHeld => ?_)
            clear hK K
            (try simp only [Act.put, List.setIfInBounds_toArray, List.set_cons_zero, List.set_cons_succ])
            refine wpAnyH_take (i := 7) (oi := ⟨some 130, _, _, _, _, _⟩) (v := .bool false) rfl (by kernel_rfl) (by kernel_rfl) (by kernel_rfl) (fun _ _ _ h => h) (Or.inl ⟨by rfl, ?y7p⟩) (by assumption) ?r7p
            case y7p => (intro w hSw; (try dsimp only at hSw); (try go_split_ands); go_simp)
            case r7p =>
            (try simp only [Act.put, List.setIfInBounds_toArray, List.set_cons_zero, List.set_cons_succ])
            refine wpAnyH_take (i := 8) (oi := ⟨some 131, _, _, _, _, _⟩) (v := .bool false) rfl (by kernel_rfl) (by kernel_rfl) (by kernel_rfl) (fun _ _ _ h => h) (Or.inl ⟨by rfl, ?y8p⟩) (by assumption) ?r8p
            case y8p => (intro w hSw; (try dsimp only at hSw); (try go_split_ands); go_simp)
            case r8p =>
            (try simp only [Act.put, List.setIfInBounds_toArray, List.set_cons_zero, List.set_cons_succ])
            refine wpAnyH_take (i := 9) (oi := ⟨some 132, _, _, _, _, _⟩) (v := ?v9p) rfl (by kernel_rfl) (by kernel_rfl) (by kernel_rfl) (fun _ _ _ h => h) (Or.inl ⟨by rfl, ?y9p⟩) (by assumption) ?r9p
            case y9p => (intro w hSw; (try dsimp only at hSw); (try go_split_ands); go_simp); (try with_reducible rfl)
            case r9p =>
            (try simp only [Act.put, List.setIfInBounds_toArray, List.set_cons_zero, List.set_cons_succ])
            refine wpAnyH_take (i := 11) (oi := ⟨some 134, _, _, _, _, _⟩) (v := ?v11p) rfl (by kernel_rfl) (by kernel_rfl) (by kernel_rfl) (fun _ _ _ h => h) (Or.inl ⟨by rfl, ?y11p⟩) (by assumption) ?r11p
            case y11p => (intro w hSw; (try dsimp only at hSw); (try go_split_ands); go_simp); (try with_reducible rfl)
            case r11p =>
            (try simp only [Act.put, List.setIfInBounds_toArray, List.set_cons_zero, List.set_cons_succ])
            refine wpAnyH_take (i := 12) (oi := ⟨some 135, _, _, _, _, _⟩) (v := ?v12p) rfl (by kernel_rfl) (by kernel_rfl) (by kernel_rfl) (fun _ _ _ h => h) (Or.inl ⟨by rfl, ?y12p⟩) (by assumption) ?r12p
            case y12p => (intro w hSw; (try dsimp only at hSw); (try go_split_ands); go_simp); (try with_reducible rfl)
            case r12p =>
            (try simp only [Act.put, List.setIfInBounds_toArray, List.set_cons_zero, List.set_cons_succ])
            refine wpAnyH_take (i := 13) (oi := ⟨some 136, _, _, _, _, _⟩) (v := ?v13p) rfl (by kernel_rfl) (by kernel_rfl) (by kernel_rfl) (fun _ _ _ h => h) (Or.inl ⟨by rfl, ?y13p⟩) (by assumption) ?r13p
            case y13p => (intro w hSw; (try dsimp only at hSw); (try go_split_ands); go_simp); (try with_reducible rfl)
            case r13p =>
            (try simp only [Act.put, List.setIfInBounds_toArray, List.set_cons_zero, List.set_cons_succ])
            refine wpAnyH_take (i := 14) (oi := ⟨some 137, _, _, _, _, _⟩) (v := ?v14p) rfl (by kernel_rfl) (by kernel_rfl) (by kernel_rfl) (fun _ _ _ h => h) (Or.inl ⟨by rfl, ?y14p⟩) (by assumption) ?r14p
            case y14p => (intro w hSw; (try dsimp only at hSw); (try go_split_ands); go_simp); (try with_reducible rfl)
            case r14p =>
            (try simp only [Act.put, List.setIfInBounds_toArray, List.set_cons_zero, List.set_cons_succ])
            refine wpAnyH_ready (rs := [10]) (by kernel_rfl) (by simp) ?_
            refine AllReadyH.cons (o := ⟨some 133, _, _, _, _, _⟩) rfl (fun K hK => ?_) AllReadyH.nil
            go_simp
            refine (list w.heap.size v4 L' last' _ (HBF.out.below HBA.out)).mono ?_; rintro e wb ⟨ub, rfl, hub, hbb⟩
            go_wp2_with fail
            have HBB : Hid (Below wr.heap.size wr wb) := Lib.hid (HBA.out.trans (hbb.mono HBA.out.size))
            obtain ⟨Ab, cb, hub2, _, _, hCb⟩ := row_cells hub
            subst hub2
            have HCB := Lib.hid hCb
            clear hub hCb hbb
            refine hK.out _ _ (by first | exact bkeep HBC.out l4 hxF | exact bkeep HBB.out l4 hxF | exact bkeep HBA.out l4 hxF) (fun hHeld => ?_)
            clear hK K
            (try simp only [Act.put, List.setIfInBounds_toArray, List.set_cons_zero, List.set_cons_succ])
            refine wpAnyH_ready (rs := [15]) (by kernel_rfl) (by simp) ?_
            refine AllReadyH.cons (o := ⟨some 138, _, _, _, _, _⟩) rfl (fun K hK => ?_) AllReadyH.nil
            go_simp
            obtain ⟨Ar, cr, hur, _, _, hCr⟩ := row_cells (HRF.out.below HBB.out).row
            obtain ⟨hA, hc⟩ : Ar = Ax ∧ cr = cx := by rw [hux] at hur; injection hur with h1 h2 h3; exact ⟨h1.symm, h3.symm⟩
            subst hA hc
            refine (lawOrders 0 Ab Ar cb cr L' _ HCB.out hCr (by have := HBF.out.len; omega)).mono ?_; rintro e wc ⟨rfl, hbc⟩
            go_wp2_with fail
            have HBC : Hid (Below wr.heap.size wr wc) := Lib.hid (HBB.out.trans (hbc.mono HBB.out.size))
            refine hK.out _ _ (by first | exact bkeep HBC.out l4 hxF | exact bkeep HBB.out l4 hxF | exact bkeep HBA.out l4 hxF) (fun hHeld => ?_)
            clear hK K
            (try simp only [Act.put, List.setIfInBounds_toArray, List.set_cons_zero, List.set_cons_succ])
            refine wpAnyH_take (i := 16) (oi := ⟨some 139, _, _, _, _, _⟩) (v := .bool false) rfl (by kernel_rfl) (by kernel_rfl) (by kernel_rfl) (fun _ _ _ h => h) (Or.inl ⟨by rfl, ?y16p⟩) (by assumption) ?r16p
            case y16p => (intro w hSw; (try dsimp only at hSw); (try go_split_ands); go_simp)
            case r16p =>
            (try simp only [Act.put, List.setIfInBounds_toArray, List.set_cons_zero, List.set_cons_succ])
            refine wpAnyH_take (i := 17) (oi := ⟨some 140, _, _, _, _, _⟩) (v := .bool false) rfl (by kernel_rfl) (by kernel_rfl) (by kernel_rfl) (fun _ _ _ h => h) (Or.inl ⟨by rfl, ?y17p⟩) (by assumption) ?r17p
            case y17p => (intro w hSw; (try dsimp only at hSw); (try go_split_ands); go_simp)
            case r17p =>
            (try simp only [Act.put, List.setIfInBounds_toArray, List.set_cons_zero, List.set_cons_succ])
            refine wpAnyH_done (by kernel_rfl) ?_ _
            go_wp2_with fail
            exact ⟨⟨i + 1, v4, L', last', ur, by omega, by go_num, HBF.out.below HBC.out, HRF.out.below HBC.out, HAF.out, HDF.out, HWF.out.trans (HBC.out.mono HWF.out.size)⟩, measI hlt⟩
      · by_cases h2 : k = 2
        · subst h2
          go_wp2_with (first
            | (go_at_call 20; go_loud (refine (refCancel w.heap.size w1.heap.size u L last nn _ (HR4.out.below (by ((repeat (first | (with_reducible exact Below.refl _ _) | (with_reducible assumption) | ((with_reducible refine b_set ?_ ?_); · (first | omega | (simp; done) | (simp; omega))) | ((with_reducible refine b_alloc ?_ ?_); · (first | omega | (simp; done) | (simp; omega))) | (with_reducible refine Below.drew ?_) | (with_reducible refine b_drewN ?_) | ((with_reducible refine b_call (by assumption) ?_ ?_); · (first | omega | (simp; done) | (simp; omega))))); done))) HB.out.bk (by have := HB.out.len; omega)).mono ?_; rintro e w5 ⟨x2, e2, ur, he2, hc2, hr2, ht2, hf2⟩; obtain ⟨hx2, rfl⟩ := canc_det HB.out.bk HCD.out hc2; rw [hx2] at he2; unfold odA at he2; subst he2; have hs5 := ht2.size; have HR5 := Lib.hid hr2; have HT5 := Lib.hid ht2; have HF5 := Lib.hid hf2; have HB5 := Lib.hid ((HB4.out.below (by ((repeat (first | (with_reducible exact Below.refl _ _) | (with_reducible assumption) | ((with_reducible refine b_set ?_ ?_); · (first | omega | (simp; done) | (simp; omega))) | ((with_reducible refine b_alloc ?_ ?_); · (first | omega | (simp; done) | (simp; omega))) | (with_reducible refine Below.drew ?_) | (with_reducible refine b_drewN ?_) | ((with_reducible refine b_call (by assumption) ?_ ?_); · (first | omega | (simp; done) | (simp; omega))))); done))).keep ht2 (fun k hk => HD4.out k hk)); have HW5 := Lib.hid ((HW4.out.trans (by ((repeat (first | (with_reducible exact Below.refl _ _) | (with_reducible assumption) | ((with_reducible refine b_set ?_ ?_); · (first | omega | (simp; done) | (simp; omega))) | ((with_reducible refine b_alloc ?_ ?_); · (first | omega | (simp; done) | (simp; omega))) | (with_reducible refine Below.drew ?_) | (with_reducible refine b_drewN ?_) | ((with_reducible refine b_call (by assumption) ?_ ?_); · (first | omega | (simp; done) | (simp; omega))))); done))).trans (ht2.below (by (first | omega | (simp; done) | (simp; omega))) (fun k hk => (HR.out.lows k hk).1))); have HD5 : Hid (∀ k, Ft w.heap.size v4 k → ¬ Fx w1.heap.size ur k) := Lib.hid (fun k hk hx => by rcases HF5.out k hx with h | h; exact HD4.out k hk h; have := HB4.out.lows k hk; simp at h; omega); have z0 := ht2.cell (b := w4.heap.size) (o := 0) (v := .int .i64 x1.id) (by ((repeat (first | (with_reducible assumption) | ((with_reducible refine c_set_same ?_); ((repeat (first | (with_reducible exact h_of (by assumption)) | (with_reducible assumption) | (with_reducible refine h_set ?_) | ((with_reducible refine h_alloc ?_ ?_); · (first | omega | (simp; done) | (simp; omega))) | ((with_reducible refine h_new ?_ ?_) <;> (first | omega | (simp; done) | (simp; omega))) | (with_reducible refine h_drew ?_) | (with_reducible refine h_drewN ?_) | ((with_reducible refine h_keep (by assumption) ?_ ?_); · (first | omega | (simp; done) | (simp; omega))))); done)) | ((with_reducible refine c_set_other ?_ ?_); · (first | omega | (simp; done) | (simp; omega))) | ((with_reducible refine c_alloc ?_ ?_); · (first | omega | (simp; done) | (simp; omega))) | ((with_reducible refine c_new ?_ ?_) <;> (first | omega | (simp; done) | (simp; omega))) | (with_reducible refine c_drew ?_) | (with_reducible refine c_drewN ?_) | ((with_reducible refine c_keep (by assumption) ?_ ?_); · (first | omega | (simp; done) | (simp; omega))))); done)) (fun h => by have := (HR4.out.lows _ h).2; omega); have z1 := ht2.cell (b := w4.heap.size) (o := 1) (v := .string x1.who) (by ((repeat (first | (with_reducible assumption) | ((with_reducible refine c_set_same ?_); ((repeat (first | (with_reducible exact h_of (by assumption)) | (with_reducible assumption) | (with_reducible refine h_set ?_) | ((with_reducible refine h_alloc ?_ ?_); · (first | omega | (simp; done) | (simp; omega))) | ((with_reducible refine h_new ?_ ?_) <;> (first | omega | (simp; done) | (simp; omega))) | (with_reducible refine h_drew ?_) | (with_reducible refine h_drewN ?_) | ((with_reducible refine h_keep (by assumption) ?_ ?_); · (first | omega | (simp; done) | (simp; omega))))); done)) | ((with_reducible refine c_set_other ?_ ?_); · (first | omega | (simp; done) | (simp; omega))) | ((with_reducible refine c_alloc ?_ ?_); · (first | omega | (simp; done) | (simp; omega))) | ((with_reducible refine c_new ?_ ?_) <;> (first | omega | (simp; done) | (simp; omega))) | (with_reducible refine c_drew ?_) | (with_reducible refine c_drewN ?_) | ((with_reducible refine c_keep (by assumption) ?_ ?_); · (first | omega | (simp; done) | (simp; omega))))); done)) (fun h => by have := (HR4.out.lows _ h).2; omega); have z2 := ht2.cell (b := w4.heap.size) (o := 2) (v := .bool x1.buy) (by ((repeat (first | (with_reducible assumption) | ((with_reducible refine c_set_same ?_); ((repeat (first | (with_reducible exact h_of (by assumption)) | (with_reducible assumption) | (with_reducible refine h_set ?_) | ((with_reducible refine h_alloc ?_ ?_); · (first | omega | (simp; done) | (simp; omega))) | ((with_reducible refine h_new ?_ ?_) <;> (first | omega | (simp; done) | (simp; omega))) | (with_reducible refine h_drew ?_) | (with_reducible refine h_drewN ?_) | ((with_reducible refine h_keep (by assumption) ?_ ?_); · (first | omega | (simp; done) | (simp; omega))))); done)) | ((with_reducible refine c_set_other ?_ ?_); · (first | omega | (simp; done) | (simp; omega))) | ((with_reducible refine c_alloc ?_ ?_); · (first | omega | (simp; done) | (simp; omega))) | ((with_reducible refine c_new ?_ ?_) <;> (first | omega | (simp; done) | (simp; omega))) | (with_reducible refine c_drew ?_) | (with_reducible refine c_drewN ?_) | ((with_reducible refine c_keep (by assumption) ?_ ?_); · (first | omega | (simp; done) | (simp; omega))))); done)) (fun h => by have := (HR4.out.lows _ h).2; omega); have z3 := ht2.cell (b := w4.heap.size) (o := 3) (v := .int .i64 x1.item) (by ((repeat (first | (with_reducible assumption) | ((with_reducible refine c_set_same ?_); ((repeat (first | (with_reducible exact h_of (by assumption)) | (with_reducible assumption) | (with_reducible refine h_set ?_) | ((with_reducible refine h_alloc ?_ ?_); · (first | omega | (simp; done) | (simp; omega))) | ((with_reducible refine h_new ?_ ?_) <;> (first | omega | (simp; done) | (simp; omega))) | (with_reducible refine h_drew ?_) | (with_reducible refine h_drewN ?_) | ((with_reducible refine h_keep (by assumption) ?_ ?_); · (first | omega | (simp; done) | (simp; omega))))); done)) | ((with_reducible refine c_set_other ?_ ?_); · (first | omega | (simp; done) | (simp; omega))) | ((with_reducible refine c_alloc ?_ ?_); · (first | omega | (simp; done) | (simp; omega))) | ((with_reducible refine c_new ?_ ?_) <;> (first | omega | (simp; done) | (simp; omega))) | (with_reducible refine c_drew ?_) | (with_reducible refine c_drewN ?_) | ((with_reducible refine c_keep (by assumption) ?_ ?_); · (first | omega | (simp; done) | (simp; omega))))); done)) (fun h => by have := (HR4.out.lows _ h).2; omega); have z4 := ht2.cell (b := w4.heap.size) (o := 4) (v := .int .i64 x1.ct) (by ((repeat (first | (with_reducible assumption) | ((with_reducible refine c_set_same ?_); ((repeat (first | (with_reducible exact h_of (by assumption)) | (with_reducible assumption) | (with_reducible refine h_set ?_) | ((with_reducible refine h_alloc ?_ ?_); · (first | omega | (simp; done) | (simp; omega))) | ((with_reducible refine h_new ?_ ?_) <;> (first | omega | (simp; done) | (simp; omega))) | (with_reducible refine h_drew ?_) | (with_reducible refine h_drewN ?_) | ((with_reducible refine h_keep (by assumption) ?_ ?_); · (first | omega | (simp; done) | (simp; omega))))); done)) | ((with_reducible refine c_set_other ?_ ?_); · (first | omega | (simp; done) | (simp; omega))) | ((with_reducible refine c_alloc ?_ ?_); · (first | omega | (simp; done) | (simp; omega))) | ((with_reducible refine c_new ?_ ?_) <;> (first | omega | (simp; done) | (simp; omega))) | (with_reducible refine c_drew ?_) | (with_reducible refine c_drewN ?_) | ((with_reducible refine c_keep (by assumption) ?_ ?_); · (first | omega | (simp; done) | (simp; omega))))); done)) (fun h => by have := (HR4.out.lows _ h).2; omega); have z5 := ht2.cell (b := w4.heap.size) (o := 5) (v := .int .i64 x1.pr) (by ((repeat (first | (with_reducible assumption) | ((with_reducible refine c_set_same ?_); ((repeat (first | (with_reducible exact h_of (by assumption)) | (with_reducible assumption) | (with_reducible refine h_set ?_) | ((with_reducible refine h_alloc ?_ ?_); · (first | omega | (simp; done) | (simp; omega))) | ((with_reducible refine h_new ?_ ?_) <;> (first | omega | (simp; done) | (simp; omega))) | (with_reducible refine h_drew ?_) | (with_reducible refine h_drewN ?_) | ((with_reducible refine h_keep (by assumption) ?_ ?_); · (first | omega | (simp; done) | (simp; omega))))); done)) | ((with_reducible refine c_set_other ?_ ?_); · (first | omega | (simp; done) | (simp; omega))) | ((with_reducible refine c_alloc ?_ ?_); · (first | omega | (simp; done) | (simp; omega))) | ((with_reducible refine c_new ?_ ?_) <;> (first | omega | (simp; done) | (simp; omega))) | (with_reducible refine c_drew ?_) | (with_reducible refine c_drewN ?_) | ((with_reducible refine c_keep (by assumption) ?_ ?_); · (first | omega | (simp; done) | (simp; omega))))); done)) (fun h => by have := (HR4.out.lows _ h).2; omega); have hz5 : w4.heap.size < w5.heap.size := (by have := ht2.size; simp at this; omega); have hne := odNeq x1; clear hr2 ht2 hf2 hc2 hx2 c0 c1 c2 c3 c4 c5 c6 c7))
            | (go_at_call 19; go_loud (refine (cancel w.heap.size v L last nn _ HB.out).mono ?_; rintro e w4 ⟨x1, e', v4, he, hc, hb, ht, hf⟩; unfold odA at he; subst he; have hs4 := ht.size; have HB4 := Lib.hid hb; have HT4 := Lib.hid ht; have HF4 := Lib.hid hf; have HCD := Lib.hid hc; have HW4 := Lib.hid (HW.out.trans (ht.below hsw (fun k hk => (HF.out k hk).1))); have HR4 := Lib.hid (HR.out.keep ht (fun k hk h => (HF.out k h).2 hk)); have HD4 : Hid (∀ k, Ft w.heap.size v4 k → ¬ Fx w1.heap.size u k) := Lib.hid (fun k hk hx => (HF.out k (hf k hk)).2 hx); have c0 := bkeep HW4.out (HC0.out) hqb; have c1 := bkeep HW4.out HC1.out hqb; have c2 := bkeep HW4.out HC.out.1 hqb; have c3 := bkeep HW4.out HC.out.2.1 hqb; have c4 := bkeep HW4.out HC.out.2.2.1 hqb; have c5 := bkeep HW4.out HC.out.2.2.2.1 hqb; have c6 := bkeep HW4.out HC.out.2.2.2.2.1 hqb; have c7 := bkeep HW4.out HC.out.2.2.2.2.2 hqb; clear hb hf hc ht))
            | fail)
          have HAL : Hid (Touch (fun _ => False) w5 (w5.alloc (.cells #[.int .i64 x1.id, .string x1.who, .bool x1.buy, .int .i64 x1.item, .int .i64 x1.ct, .int .i64 x1.pr] 35))) := Lib.hid ((Touch.refl _ _).alloc _)
          clear z0 z1 z2 z3 z4 z5 hne
          generalize w5.alloc (.cells #[.int .i64 x1.id, .string x1.who, .bool x1.buy, .int .i64 x1.item, .int .i64 x1.ct, .int .i64 x1.pr] 35) = w6 at *
          have HBF := Lib.hid (HB5.out.keep HAL.out (fun _ _ h => h))
          have HRF := Lib.hid (HR5.out.keep HAL.out (fun _ _ h => h))
          have HWF := Lib.hid (HW5.out.trans (HAL.out.below HW5.out.size (fun k h => h.elim)))
          have HAF := Lib.hid (gone_ap (id := nn) HA.out)
          have HDF : Hid (∀ k, Ft w.heap.size v4 k → w.heap.size ≤ k ∧ ¬ Fx w1.heap.size ur k) := Lib.hid (fun k hk => ⟨(HF.out k (HF4.out k hk)).1, HD5.out k hk⟩)
          obtain ⟨Ax, cx, hux, _, _, hCx⟩ := row_cells HRF.out.row
          have l4 := HRF.out.blk.cell 0
          simp only [List.getElem?_toArray, List.getElem?_cons_succ, List.getElem?_cons_zero] at l4
          rw [hux] at l4
          have hxF := HRF.out.blk.low
          have HDW : Hid (Touch (fun _ => False) w6 w6.drew) := Lib.hid (Touch.of_drew _ _)
          clear hCx
          refine wp_region_held_drew (S := (fun W => W.cell? ⟨w1.heap.size, 0, none⟩ = some (.slice Ax (goneO nn L).length cx))) (by kernel_rfl) l4 (fun hHeld => ?_)
          refine wpAnyH_take (i := 0) (oi := ⟨some 123, _, _, _, _, _⟩) (v := ?v0q) rfl (by kernel_rfl) (by kernel_rfl) (by kernel_rfl) (fun _ _ _ h => h) (Or.inl ⟨by rfl, ?y0q⟩) (by assumption) ?r0q
          case y0q => (intro w hSw; (try dsimp only at hSw); (try go_split_ands); go_simp); (try with_reducible rfl)
          case r0q =>
          (try simp only [Act.put, List.setIfInBounds_toArray, List.set_cons_zero, List.set_cons_succ])
          refine wpAnyH_take (i := 2) (oi := ⟨some 125, _, _, _, _, _⟩) (v := ?v2q) rfl (by kernel_rfl) (by kernel_rfl) (by kernel_rfl) (fun _ _ _ h => h) (Or.inl ⟨by rfl, ?y2q⟩) (by assumption) ?r2q
          case y2q => (intro w hSw; (try dsimp only at hSw); (try go_split_ands); go_simp); (try with_reducible rfl)
          case r2q =>
          (try simp only [Act.put, List.setIfInBounds_toArray, List.set_cons_zero, List.set_cons_succ])
          refine wpAnyH_take (i := 3) (oi := ⟨some 126, _, _, _, _, _⟩) (v := ?v3q) rfl (by kernel_rfl) (by kernel_rfl) (by kernel_rfl) (fun _ _ _ h => h) (Or.inl ⟨by rfl, ?y3q⟩) (by assumption) ?r3q
          case y3q => (intro w hSw; (try dsimp only at hSw); (try go_split_ands); go_simp); (try with_reducible rfl)
          case r3q =>
          (try simp only [Act.put, List.setIfInBounds_toArray, List.set_cons_zero, List.set_cons_succ])
          refine wpAnyH_take (i := 4) (oi := ⟨some 127, _, _, _, _, _⟩) (v := ?v4q) rfl (by kernel_rfl) (by kernel_rfl) (by kernel_rfl) (fun _ _ _ h => h) (Or.inl ⟨by rfl, ?y4q⟩) (by assumption) ?r4q
          case y4q => (intro w hSw; (try dsimp only at hSw); (try go_split_ands); go_simp); (try with_reducible rfl)
          case r4q =>
          (try simp only [Act.put, List.setIfInBounds_toArray, List.set_cons_zero, List.set_cons_succ])
          refine wpAnyH_take (i := 5) (oi := ⟨some 128, _, _, _, _, _⟩) (v := ?v5q) rfl (by kernel_rfl) (by kernel_rfl) (by kernel_rfl) (fun _ _ _ h => h) (Or.inl ⟨by rfl, ?y5q⟩) (by assumption) ?r5q
          case y5q => (intro w hSw; (try dsimp only at hSw); (try go_split_ands); go_simp); (try with_reducible rfl)
          case r5q =>
          (try simp only [Act.put, List.setIfInBounds_toArray, List.set_cons_zero, List.set_cons_succ])
          refine wpAnyH_take (i := 6) (oi := ⟨some 129, _, _, _, _, _⟩) (v := ?v6q) rfl (by kernel_rfl) (by kernel_rfl) (by kernel_rfl) (fun _ _ _ h => h) (Or.inl ⟨by rfl, ?y6q⟩) (by assumption) ?r6q
          case y6q => (intro w hSw; (try dsimp only at hSw); (try go_split_ands); go_simp); (try with_reducible rfl)
          case r6q =>
          (try simp only [Act.put, List.setIfInBounds_toArray, List.set_cons_zero, List.set_cons_succ])
          refine wpAnyH_ready (rs := [1]) (by kernel_rfl) (by simp) ?_
          refine AllReadyH.cons (o := ⟨some 124, _, _, _, _, _⟩) rfl (fun K hK => ?_) AllReadyH.nil
          go_simp
          refine (lenB w.heap.size v4 (goneO nn L) last _ (HBF.out.keep HDW.out (fun _ _ h => h))).mono ?_; rintro e wa ⟨rfl, hba⟩
          go_wp2_with fail
          have HBA : Hid (Below w6.heap.size w6 wa) := Lib.hid ((Below.refl _ _).drew.trans hba)
          refine hK.out _ _ (by first | exact bkeep HBC.out l4 hxF | exact bkeep HBB.out l4 hxF | exact bkeep HBA.out l4 hxF) (fun hHeld => ?_)
          clear hK K
          (try simp only [Act.put, List.setIfInBounds_toArray, List.set_cons_zero, List.set_cons_succ])
          refine wpAnyH_take (i := 7) (oi := ⟨some 130, _, _, _, _, _⟩) (v := .bool false) rfl (by kernel_rfl) (by kernel_rfl) (by kernel_rfl) (fun _ _ _ h => h) (Or.inl ⟨by rfl, ?y7q⟩) (by assumption) ?r7q
          case y7q => (intro w hSw; (try dsimp only at hSw); (try go_split_ands); go_simp)
          case r7q =>
          (try simp only [Act.put, List.setIfInBounds_toArray, List.set_cons_zero, List.set_cons_succ])
          refine wpAnyH_take (i := 8) (oi := ⟨some 131, _, _, _, _, _⟩) (v := .bool false) rfl (by kernel_rfl) (by kernel_rfl) (by kernel_rfl) (fun _ _ _ h => h) (Or.inl ⟨by rfl, ?y8q⟩) (by assumption) ?r8q
          case y8q => (intro w hSw; (try dsimp only at hSw); (try go_split_ands); go_simp)
          case r8q =>
          (try simp only [Act.put, List.setIfInBounds_toArray, List.set_cons_zero, List.set_cons_succ])
          refine wpAnyH_take (i := 9) (oi := ⟨some 132, _, _, _, _, _⟩) (v := ?v9q) rfl (by kernel_rfl) (by kernel_rfl) (by kernel_rfl) (fun _ _ _ h => h) (Or.inl ⟨by rfl, ?y9q⟩) (by assumption) ?r9q
          case y9q => (intro w hSw; (try dsimp only at hSw); (try go_split_ands); go_simp); (try with_reducible rfl)
          case r9q =>
          (try simp only [Act.put, List.setIfInBounds_toArray, List.set_cons_zero, List.set_cons_succ])
          refine wpAnyH_take (i := 11) (oi := ⟨some 134, _, _, _, _, _⟩) (v := ?v11q) rfl (by kernel_rfl) (by kernel_rfl) (by kernel_rfl) (fun _ _ _ h => h) (Or.inl ⟨by rfl, ?y11q⟩) (by assumption) ?r11q
          case y11q => (intro w hSw; (try dsimp only at hSw); (try go_split_ands); go_simp); (try with_reducible rfl)
          case r11q =>
          (try simp only [Act.put, List.setIfInBounds_toArray, List.set_cons_zero, List.set_cons_succ])
          refine wpAnyH_take (i := 12) (oi := ⟨some 135, _, _, _, _, _⟩) (v := ?v12q) rfl (by kernel_rfl) (by kernel_rfl) (by kernel_rfl) (fun _ _ _ h => h) (Or.inl ⟨by rfl, ?y12q⟩) (by assumption) ?r12q
          case y12q => (intro w hSw; (try dsimp only at hSw); (try go_split_ands); go_simp); (try with_reducible rfl)
          case r12q =>
          (try simp only [Act.put, List.setIfInBounds_toArray, List.set_cons_zero, List.set_cons_succ])
          refine wpAnyH_take (i := 13) (oi := ⟨some 136, _, _, _, _, _⟩) (v := ?v13q) rfl (by kernel_rfl) (by kernel_rfl) (by kernel_rfl) (fun _ _ _ h => h) (Or.inl ⟨by rfl, ?y13q⟩) (by assumption) ?r13q
          case y13q => (intro w hSw; (try dsimp only at hSw); (try go_split_ands); go_simp); (try with_reducible rfl)
          case r13q =>
          (try simp only [Act.put, List.setIfInBounds_toArray, List.set_cons_zero, List.set_cons_succ])
          refine wpAnyH_take (i := 14) (oi := ⟨some 137, _, _, _, _, _⟩) (v := ?v14q) rfl (by kernel_rfl) (by kernel_rfl) (by kernel_rfl) (fun _ _ _ h => h) (Or.inl ⟨by rfl, ?y14q⟩) (by assumption) ?r14q
          case y14q => (intro w hSw; (try dsimp only at hSw); (try go_split_ands); go_simp); (try with_reducible rfl)
          case r14q =>
          (try simp only [Act.put, List.setIfInBounds_toArray, List.set_cons_zero, List.set_cons_succ])
          refine wpAnyH_ready (rs := [10]) (by kernel_rfl) (by simp) ?_
          refine AllReadyH.cons (o := ⟨some 133, _, _, _, _, _⟩) rfl (fun K hK => ?_) AllReadyH.nil
          go_simp
          refine (list w.heap.size v4 (goneO nn L) last _ (HBF.out.below HBA.out)).mono ?_; rintro e wb ⟨ub, rfl, hub, hbb⟩
          go_wp2_with fail
          have HBB : Hid (Below w6.heap.size w6 wb) := Lib.hid (HBA.out.trans (hbb.mono HBA.out.size))
          obtain ⟨Ab, cb, hub2, _, _, hCb⟩ := row_cells hub
          subst hub2
          have HCB := Lib.hid hCb
          clear hub hCb hbb
          refine hK.out _ _ (by first | exact bkeep HBC.out l4 hxF | exact bkeep HBB.out l4 hxF | exact bkeep HBA.out l4 hxF) (fun hHeld => ?_)
          clear hK K
          (try simp only [Act.put, List.setIfInBounds_toArray, List.set_cons_zero, List.set_cons_succ])
          refine wpAnyH_ready (rs := [15]) (by kernel_rfl) (by simp) ?_
          refine AllReadyH.cons (o := ⟨some 138, _, _, _, _, _⟩) rfl (fun K hK => ?_) AllReadyH.nil
          go_simp
          obtain ⟨Ar, cr, hur, _, _, hCr⟩ := row_cells (HRF.out.below HBB.out).row
          obtain ⟨hA, hc⟩ : Ar = Ax ∧ cr = cx := by rw [hux] at hur; injection hur with h1 h2 h3; exact ⟨h1.symm, h3.symm⟩
          subst hA hc
          refine (lawOrders 0 Ab Ar cb cr (goneO nn L) _ HCB.out hCr (by have := HBF.out.len; omega)).mono ?_; rintro e wc ⟨rfl, hbc⟩
          go_wp2_with fail
          have HBC : Hid (Below w6.heap.size w6 wc) := Lib.hid (HBB.out.trans (hbc.mono HBB.out.size))
          refine hK.out _ _ (by first | exact bkeep HBC.out l4 hxF | exact bkeep HBB.out l4 hxF | exact bkeep HBA.out l4 hxF) (fun hHeld => ?_)
          clear hK K
          (try simp only [Act.put, List.setIfInBounds_toArray, List.set_cons_zero, List.set_cons_succ])
          refine wpAnyH_take (i := 16) (oi := ⟨some 139, _, _, _, _, _⟩) (v := .bool false) rfl (by kernel_rfl) (by kernel_rfl) (by kernel_rfl) (fun _ _ _ h => h) (Or.inl ⟨by rfl, ?y16q⟩) (by assumption) ?r16q
          case y16q => (intro w hSw; (try dsimp only at hSw); (try go_split_ands); go_simp)
          case r16q =>
          (try simp only [Act.put, List.setIfInBounds_toArray, List.set_cons_zero, List.set_cons_succ])
          refine wpAnyH_take (i := 17) (oi := ⟨some 140, _, _, _, _, _⟩) (v := .bool false) rfl (by kernel_rfl) (by kernel_rfl) (by kernel_rfl) (fun _ _ _ h => h) (Or.inl ⟨by rfl, ?y17q⟩) (by assumption) ?r17q
          case y17q => (intro w hSw; (try dsimp only at hSw); (try go_split_ands); go_simp)
          case r17q =>
          (try simp only [Act.put, List.setIfInBounds_toArray, List.set_cons_zero, List.set_cons_succ])
          refine wpAnyH_done (by kernel_rfl) ?_ _
          go_wp2_with fail
          exact ⟨⟨i + 1, v4, (goneO nn L), last, ur, by omega, by go_num, HBF.out.below HBC.out, HRF.out.below HBC.out, HAF.out, HDF.out, HWF.out.trans (HBC.out.mono HWF.out.size)⟩, measI hlt⟩
        · go_wp2_with fail
          have HBF := HB
          have HRF := HR
          have HWF := HW
          have HAF := HA
          have HDF := HF
          clear c0 c1 c2 c3 c4 c5 c6 c7
          obtain ⟨Ax, cx, hux, _, _, hCx⟩ := row_cells HRF.out.row
          have l4 := HRF.out.blk.cell 0
          simp only [List.getElem?_toArray, List.getElem?_cons_succ, List.getElem?_cons_zero] at l4
          rw [hux] at l4
          have hxF := HRF.out.blk.low
          have HDW : Hid (Touch (fun _ => False) wr wr.drew) := Lib.hid (Touch.of_drew _ _)
          clear hCx
          refine wp_region_held_drew (S := (fun W => W.cell? ⟨w1.heap.size, 0, none⟩ = some (.slice Ax L.length cx))) (by kernel_rfl) l4 (fun hHeld => ?_)
          refine wpAnyH_take (i := 0) (oi := ⟨some 123, _, _, _, _, _⟩) (v := ?v0z) rfl (by kernel_rfl) (by kernel_rfl) (by kernel_rfl) (fun _ _ _ h => h) (Or.inl ⟨by rfl, ?y0z⟩) (by assumption) ?r0z
          case y0z => (intro w hSw; (try dsimp only at hSw); (try go_split_ands); go_simp); (try with_reducible rfl)
          case r0z =>
          (try simp only [Act.put, List.setIfInBounds_toArray, List.set_cons_zero, List.set_cons_succ])
          refine wpAnyH_take (i := 2) (oi := ⟨some 125, _, _, _, _, _⟩) (v := ?v2z) rfl (by kernel_rfl) (by kernel_rfl) (by kernel_rfl) (fun _ _ _ h => h) (Or.inl ⟨by rfl, ?y2z⟩) (by assumption) ?r2z
          case y2z => (intro w hSw; (try dsimp only at hSw); (try go_split_ands); go_simp); (try with_reducible rfl)
          case r2z =>
          (try simp only [Act.put, List.setIfInBounds_toArray, List.set_cons_zero, List.set_cons_succ])
          refine wpAnyH_take (i := 3) (oi := ⟨some 126, _, _, _, _, _⟩) (v := ?v3z) rfl (by kernel_rfl) (by kernel_rfl) (by kernel_rfl) (fun _ _ _ h => h) (Or.inl ⟨by rfl, ?y3z⟩) (by assumption) ?r3z
          case y3z => (intro w hSw; (try dsimp only at hSw); (try go_split_ands); go_simp); (try with_reducible rfl)
          case r3z =>
          (try simp only [Act.put, List.setIfInBounds_toArray, List.set_cons_zero, List.set_cons_succ])
          refine wpAnyH_take (i := 4) (oi := ⟨some 127, _, _, _, _, _⟩) (v := ?v4z) rfl (by kernel_rfl) (by kernel_rfl) (by kernel_rfl) (fun _ _ _ h => h) (Or.inl ⟨by rfl, ?y4z⟩) (by assumption) ?r4z
          case y4z => (intro w hSw; (try dsimp only at hSw); (try go_split_ands); go_simp); (try with_reducible rfl)
          case r4z =>
          (try simp only [Act.put, List.setIfInBounds_toArray, List.set_cons_zero, List.set_cons_succ])
          refine wpAnyH_take (i := 5) (oi := ⟨some 128, _, _, _, _, _⟩) (v := ?v5z) rfl (by kernel_rfl) (by kernel_rfl) (by kernel_rfl) (fun _ _ _ h => h) (Or.inl ⟨by rfl, ?y5z⟩) (by assumption) ?r5z
          case y5z => (intro w hSw; (try dsimp only at hSw); (try go_split_ands); go_simp); (try with_reducible rfl)
          case r5z =>
          (try simp only [Act.put, List.setIfInBounds_toArray, List.set_cons_zero, List.set_cons_succ])
          refine wpAnyH_take (i := 6) (oi := ⟨some 129, _, _, _, _, _⟩) (v := ?v6z) rfl (by kernel_rfl) (by kernel_rfl) (by kernel_rfl) (fun _ _ _ h => h) (Or.inl ⟨by rfl, ?y6z⟩) (by assumption) ?r6z
          case y6z => (intro w hSw; (try dsimp only at hSw); (try go_split_ands); go_simp); (try with_reducible rfl)
          case r6z =>
          (try simp only [Act.put, List.setIfInBounds_toArray, List.set_cons_zero, List.set_cons_succ])
          refine wpAnyH_ready (rs := [1]) (by kernel_rfl) (by simp) ?_
          refine AllReadyH.cons (o := ⟨some 124, _, _, _, _, _⟩) rfl (fun K hK => ?_) AllReadyH.nil
          go_simp
          refine (lenB w.heap.size v L last _ (HBF.out.keep HDW.out (fun _ _ h => h))).mono ?_; rintro e wa ⟨rfl, hba⟩
          go_wp2_with fail
          have HBA : Hid (Below wr.heap.size wr wa) := Lib.hid ((Below.refl _ _).drew.trans hba)
          refine hK.out _ _ (by first | exact bkeep HBC.out l4 hxF | exact bkeep HBB.out l4 hxF | exact bkeep HBA.out l4 hxF) (fun hHeld => ?_)
          clear hK K
          (try simp only [Act.put, List.setIfInBounds_toArray, List.set_cons_zero, List.set_cons_succ])
          refine wpAnyH_take (i := 7) (oi := ⟨some 130, _, _, _, _, _⟩) (v := .bool false) rfl (by kernel_rfl) (by kernel_rfl) (by kernel_rfl) (fun _ _ _ h => h) (Or.inl ⟨by rfl, ?y7z⟩) (by assumption) ?r7z
          case y7z => (intro w hSw; (try dsimp only at hSw); (try go_split_ands); go_simp)
          case r7z =>
          (try simp only [Act.put, List.setIfInBounds_toArray, List.set_cons_zero, List.set_cons_succ])
          refine wpAnyH_take (i := 8) (oi := ⟨some 131, _, _, _, _, _⟩) (v := .bool false) rfl (by kernel_rfl) (by kernel_rfl) (by kernel_rfl) (fun _ _ _ h => h) (Or.inl ⟨by rfl, ?y8z⟩) (by assumption) ?r8z
          case y8z => (intro w hSw; (try dsimp only at hSw); (try go_split_ands); go_simp)
          case r8z =>
          (try simp only [Act.put, List.setIfInBounds_toArray, List.set_cons_zero, List.set_cons_succ])
          refine wpAnyH_take (i := 9) (oi := ⟨some 132, _, _, _, _, _⟩) (v := ?v9z) rfl (by kernel_rfl) (by kernel_rfl) (by kernel_rfl) (fun _ _ _ h => h) (Or.inl ⟨by rfl, ?y9z⟩) (by assumption) ?r9z
          case y9z => (intro w hSw; (try dsimp only at hSw); (try go_split_ands); go_simp); (try with_reducible rfl)
          case r9z =>
          (try simp only [Act.put, List.setIfInBounds_toArray, List.set_cons_zero, List.set_cons_succ])
          refine wpAnyH_take (i := 11) (oi := ⟨some 134, _, _, _, _, _⟩) (v := ?v11z) rfl (by kernel_rfl) (by kernel_rfl) (by kernel_rfl) (fun _ _ _ h => h) (Or.inl ⟨by rfl, ?y11z⟩) (by assumption) ?r11z
          case y11z => (intro w hSw; (try dsimp only at hSw); (try go_split_ands); go_simp); (try with_reducible rfl)
          case r11z =>
          (try simp only [Act.put, List.setIfInBounds_toArray, List.set_cons_zero, List.set_cons_succ])
          refine wpAnyH_take (i := 12) (oi := ⟨some 135, _, _, _, _, _⟩) (v := ?v12z) rfl (by kernel_rfl) (by kernel_rfl) (by kernel_rfl) (fun _ _ _ h => h) (Or.inl ⟨by rfl, ?y12z⟩) (by assumption) ?r12z
          case y12z => (intro w hSw; (try dsimp only at hSw); (try go_split_ands); go_simp); (try with_reducible rfl)
          case r12z =>
          (try simp only [Act.put, List.setIfInBounds_toArray, List.set_cons_zero, List.set_cons_succ])
          refine wpAnyH_take (i := 13) (oi := ⟨some 136, _, _, _, _, _⟩) (v := ?v13z) rfl (by kernel_rfl) (by kernel_rfl) (by kernel_rfl) (fun _ _ _ h => h) (Or.inl ⟨by rfl, ?y13z⟩) (by assumption) ?r13z
          case y13z => (intro w hSw; (try dsimp only at hSw); (try go_split_ands); go_simp); (try with_reducible rfl)
          case r13z =>
          (try simp only [Act.put, List.setIfInBounds_toArray, List.set_cons_zero, List.set_cons_succ])
          refine wpAnyH_take (i := 14) (oi := ⟨some 137, _, _, _, _, _⟩) (v := ?v14z) rfl (by kernel_rfl) (by kernel_rfl) (by kernel_rfl) (fun _ _ _ h => h) (Or.inl ⟨by rfl, ?y14z⟩) (by assumption) ?r14z
          case y14z => (intro w hSw; (try dsimp only at hSw); (try go_split_ands); go_simp); (try with_reducible rfl)
          case r14z =>
          (try simp only [Act.put, List.setIfInBounds_toArray, List.set_cons_zero, List.set_cons_succ])
          refine wpAnyH_ready (rs := [10]) (by kernel_rfl) (by simp) ?_
          refine AllReadyH.cons (o := ⟨some 133, _, _, _, _, _⟩) rfl (fun K hK => ?_) AllReadyH.nil
          go_simp
          refine (list w.heap.size v L last _ (HBF.out.below HBA.out)).mono ?_; rintro e wb ⟨ub, rfl, hub, hbb⟩
          go_wp2_with fail
          have HBB : Hid (Below wr.heap.size wr wb) := Lib.hid (HBA.out.trans (hbb.mono HBA.out.size))
          obtain ⟨Ab, cb, hub2, _, _, hCb⟩ := row_cells hub
          subst hub2
          have HCB := Lib.hid hCb
          clear hub hCb hbb
          refine hK.out _ _ (by first | exact bkeep HBC.out l4 hxF | exact bkeep HBB.out l4 hxF | exact bkeep HBA.out l4 hxF) (fun hHeld => ?_)
          clear hK K
          (try simp only [Act.put, List.setIfInBounds_toArray, List.set_cons_zero, List.set_cons_succ])
          refine wpAnyH_ready (rs := [15]) (by kernel_rfl) (by simp) ?_
          refine AllReadyH.cons (o := ⟨some 138, _, _, _, _, _⟩) rfl (fun K hK => ?_) AllReadyH.nil
          go_simp
          obtain ⟨Ar, cr, hur, _, _, hCr⟩ := row_cells (HRF.out.below HBB.out).row
          obtain ⟨hA, hc⟩ : Ar = Ax ∧ cr = cx := by rw [hux] at hur; injection hur with h1 h2 h3; exact ⟨h1.symm, h3.symm⟩
          subst hA hc
          refine (lawOrders 0 Ab Ar cb cr L _ HCB.out hCr (by have := HBF.out.len; omega)).mono ?_; rintro e wc ⟨rfl, hbc⟩
          go_wp2_with fail
          have HBC : Hid (Below wr.heap.size wr wc) := Lib.hid (HBB.out.trans (hbc.mono HBB.out.size))
          refine hK.out _ _ (by first | exact bkeep HBC.out l4 hxF | exact bkeep HBB.out l4 hxF | exact bkeep HBA.out l4 hxF) (fun hHeld => ?_)
          clear hK K
          (try simp only [Act.put, List.setIfInBounds_toArray, List.set_cons_zero, List.set_cons_succ])
          refine wpAnyH_take (i := 16) (oi := ⟨some 139, _, _, _, _, _⟩) (v := .bool false) rfl (by kernel_rfl) (by kernel_rfl) (by kernel_rfl) (fun _ _ _ h => h) (Or.inl ⟨by rfl, ?y16z⟩) (by assumption) ?r16z
          case y16z => (intro w hSw; (try dsimp only at hSw); (try go_split_ands); go_simp)
          case r16z =>
          (try simp only [Act.put, List.setIfInBounds_toArray, List.set_cons_zero, List.set_cons_succ])
          refine wpAnyH_take (i := 17) (oi := ⟨some 140, _, _, _, _, _⟩) (v := .bool false) rfl (by kernel_rfl) (by kernel_rfl) (by kernel_rfl) (fun _ _ _ h => h) (Or.inl ⟨by rfl, ?y17z⟩) (by assumption) ?r17z
          case y17z => (intro w hSw; (try dsimp only at hSw); (try go_split_ands); go_simp)
          case r17z =>
          (try simp only [Act.put, List.setIfInBounds_toArray, List.set_cons_zero, List.set_cons_succ])
          refine wpAnyH_done (by kernel_rfl) ?_ _
          go_wp2_with fail
          exact ⟨⟨i + 1, v, L, last, u, by omega, by go_num, HBF.out.below HBC.out, HRF.out.below HBC.out, HAF.out, HDF.out, HWF.out.trans (HBC.out.mono HWF.out.size)⟩, measI hlt⟩
    · clear hB hR hA hF hBw
      by_cases h120 : xs.length ≤ 120
      · obtain rfl : i = xs.length := by omega
        go_wp2_with fail
        refine bodyPost_ret (v := .tuple #[.pointer (some ⟨w.heap.size, 0, none⟩), .pointer (some ⟨w1.heap.size, 0, none⟩), .bool true]) (by simp [results, Try.results10, go_sem]) rfl ⟨_, _, v, L, last, u, rfl, HB.out, HR.out, HA.out, HW.out⟩
      · obtain rfl : i = 120 := by omega
        have q3 : (120 : Int) < (xs.length : Int) := by omega
        go_wp2_with fail
        refine bodyPost_ret (v := .tuple #[.pointer (some ⟨w.heap.size, 0, none⟩), .pointer (some ⟨w1.heap.size, 0, none⟩), .bool true]) (by simp [results, Try.results10, go_sem]) rfl ⟨_, _, v, L, last, u, rfl, HB.out, HR.out, HA.out, HW.out⟩
end Go.Proofs.Ytekelnkjigaofaa
