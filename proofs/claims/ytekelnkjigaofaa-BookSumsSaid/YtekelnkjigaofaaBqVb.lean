/- BookSums: the walk of the statement, of few acts. -/
import Derived.Test.YtekelnkjigaofaaBqVa
import Derived.Test.YtekelnkjigaofaaOpenBacts
import Derived.StillTailTactics
namespace Go.Proofs.Ytekelnkjigaofaa
open Go.RowKit
set_option linter.unusedVariables false
set_option linter.unusedSimpArgs false

set_option maxHeartbeats 20000000 in
set_option maxRecDepth 10000 in
theorem walkBookSumsA (A : Option Addr) (c : Nat) (xs : List Ba) (w : World) (hx : Cells w w.heap.size A xs.length c 8 (xs.flatMap baV)) (h120 : xs.length ≤ 120) :
    Calls Try.prog 6 #[.slice A xs.length c] w fun e w' => e = .returned (.bool true) ∧ Below w.heap.size w w' := by
  have HX := Lib.hid hx
  clear hx
  go_enter Try.func6, Try.ntmps6
  go_wp2_with (first
    | (go_at_call 18; go_loud (refine (newBook _).mono ?_; rintro e w1 ⟨rfl, hb1, hb⟩; have hs1 := hb.size; have hlow := hb1.lows; have HB1 := Lib.hid hb1; have HBL := Lib.hid hb; clear hb1 hb))
    | fail)
  have hF1 : ∀ x, Ft w.heap.size (fun _ => .slice none 0 0) x → w.heap.size ≤ x ∧ x ≠ w1.heap.size := fun x hx => by
    have hl := hlow x hx
    rcases hx with e | ⟨i, _, e⟩
    · omega
    · cases e
  have HF1 := Lib.hid hF1
  clear hF1 hlow
  go_loopw [5] (fun iv wr => ∃ (i : Nat) (v : Nat → Value) (L : List Od) (last : Int), i ≤ xs.length ∧ iv = .int .i64 i ∧ BookAt wr w.heap.size v L last ∧ (∀ x, Ft w.heap.size v x → w.heap.size ≤ x ∧ x ≠ w1.heap.size) ∧ NB wr w1.heap.size (fun b it => suS b it L) ∧ Below w.heap.size w wr) (fun iv _ => xs.length - (intOf iv).toNat)
  case atStart => exact ⟨0, _, [], 0, Nat.zero_le _, rfl, HB1.out.below (by ((repeat (first | (with_reducible exact Below.refl _ _) | (with_reducible assumption) | ((with_reducible refine b_set ?_ ?_); · (first | omega | (simp; done) | (simp; omega))) | ((with_reducible refine b_alloc ?_ ?_); · (first | omega | (simp; done) | (simp; omega))) | (with_reducible refine Below.drew ?_) | (with_reducible refine b_drewN ?_) | ((with_reducible refine b_call (by assumption) ?_ ?_); · (first | omega | (simp; done) | (simp; omega))))); done)), HF1.out, NB.zero, HBL.out.trans (by ((repeat (first | (with_reducible exact Below.refl _ _) | (with_reducible assumption) | ((with_reducible refine b_set ?_ ?_); · (first | omega | (simp; done) | (simp; omega))) | ((with_reducible refine b_alloc ?_ ?_); · (first | omega | (simp; done) | (simp; omega))) | (with_reducible refine Below.drew ?_) | (with_reducible refine b_drewN ?_) | ((with_reducible refine b_call (by assumption) ?_ ?_); · (first | omega | (simp; done) | (simp; omega))))); done))⟩
  case round =>
    obtain ⟨i, v, L, last, hil, rfl, hB, hF, hN, hBw⟩ := hrel
    have HB := Lib.hid hB
    have HF := Lib.hid hF
    have HN := Lib.hid hN
    have HW := Lib.hid hBw
    have hsw := hBw.size
    have hnl := hN.low
    by_cases hlt : i < xs.length
    · have q3 : (i : Int) < (xs.length : Int) := by omega
      have q4 : (i : Int) < 120 := by omega
      obtain ⟨qb, qo, rfl, hqb, c0, c1, c2, c3, c4, c5, c6, c7⟩ := ba_at HX.out (show i < xs.length by omega)
      have HC := Lib.hid (And.intro c4 (And.intro c5 c6))
      have c0 := bkeep hBw c0 hqb
      have c1 := bkeep hBw c1 hqb
      have c2 := bkeep hBw c2 hqb
      have c3 := bkeep hBw c3 hqb
      have c4 := bkeep hBw c4 hqb
      have c5 := bkeep hBw c5 hqb
      have c6 := bkeep hBw c6 hqb
      have c7 := bkeep hBw c7 hqb
      obtain ⟨k, hk⟩ : ∃ k, k = (xs[i]'(by omega)).1 := ⟨_, rfl⟩
      obtain ⟨nn, hn⟩ : ∃ k, k = (xs[i]'(by omega)).2.1 := ⟨_, rfl⟩
      obtain ⟨o, ho⟩ : ∃ k, k = (xs[i]'(by omega)).2.2 := ⟨_, rfl⟩
      rw [← hk] at c0
      rw [← hn] at c1
      rw [← ho] at c2 c3 c4 c5 c6 c7 HC
      clear hB hF hN hBw hk hn ho
      by_cases h1 : k = 1
      · subst h1
        have HPL : Hid (∀ W, BookAt W w.heap.size v L last → _) := Lib.hid (fun W h => place w.heap.size v L last o W h)
        cases hb : o.buy with
        | true =>
          rw [hb] at c4
          have hpl := HPL.out
          simp only [odA, hb] at hpl
          have HP := Lib.hid hpl
          clear hpl HPL
          go_wp2_with (first
            | (go_at_call 16; go_loud (refine (HP.out _ HB.out).mono ?_; rintro e w4 ⟨Td, n, c', L', last', v4, tv, rfl, hp, hb, ho, ha, ht, hf⟩; have hs4 := ht.size; have HB4 := Lib.hid hb; have HT4 := Lib.hid ht; have HF4 := Lib.hid hf; have HTV := Lib.hid ho; have HPD := Lib.hid hp; have hTl := hp.len; have HW4 := Lib.hid (HW.out.trans (ht.below (by omega) (fun x hx => (HF.out x hx).1))); obtain ⟨At, kt, hvt, _, _, _⟩ := own_slice ho; subst hvt; clear ho hb ha hf hp ht))
            | fail)
          · have hc1 : c' ≠ 0 := by have hc0 : (c' != 0) = true := (by assumption); simpa using hc0
            have HN4 := HN.out.keep HT4.out (fun hd => (HF.out _ hd).2 rfl)
            rcases HPD.out.sums HB.out.bk with ⟨h0, _⟩ | ⟨_, _, rfl⟩
            · exact absurd h0 hc1
            refine ⟨⟨i + 1, v4, L', last', hlt, by go_num, HB4.out, fun x hx => ?_, HN4, HW4.out⟩, measI hlt⟩
            rcases HF4.out x hx with h | h
            · exact HF.out x h
            · exact ⟨by omega, by omega⟩
          · have hc1 : c' = 0 := by have hc0 : (c' != 0) = false := (by assumption); simpa using hc0
            rcases HPD.out.sums HB.out.bk with ⟨_, hok, hsum⟩ | ⟨h0, _, _⟩
            case inr => exact absurd hc1 h0
            have HSUM := Lib.hid hsum
            have HN4 := Lib.hid (HN.out.keep HT4.out (fun hd => (HF.out _ hd).2 rfl))
            obtain ⟨it, hit⟩ : ∃ it : Nat, (it : Int) = o.item := ⟨o.item.toNat, by have := hok.item; omega⟩
            have hit4 : 1 ≤ it ∧ it < 4 := by have := hok.item; omega
            have hoc := hok.ct
            have hTb : ∀ j, stS j Td ≤ 34603008 := fun j => by
              have e := hsum o.buy j
              have h1 := suS_bound o.buy j HB.out.bk.ok
              have h2 := suS_bound o.buy j HB4.out.bk.ok
              have h3 := HB.out.len
              unfold oneS at e
              split at e <;> omega
            have HTB := Lib.hid hTb
            obtain ⟨oc, hoc2⟩ : ∃ z, z = o.ct := ⟨_, rfl⟩
            rw [← hoc2] at hoc
            obtain ⟨S0, hS0⟩ : ∃ z, z = suS true it L := ⟨_, rfl⟩
            have hSb := suS_bound true it HB.out.bk.ok
            have hL32 := HB.out.len
            rw [← hS0] at hSb
            have hwr : IntKind.i64.wrap (S0 + oc) = S0 + oc := by rw [IntKind.wrap_i64]; omega
            have d5 := bkeep HW4.out HC.out.2.1 hqb
            have d6 := bkeep HW4.out HC.out.2.2 hqb
            rw [← hit] at d5
            rw [← hoc2] at d6
            have n0 := HN4.out.cell true it hit4.2
            rw [(show off true + it = 4 + it from rfl), ← hS0] at n0
            have hfz := HN4.out.free (4 + it)
            have q6 : (it : Int) < 4 := by omega
            have HIT := Lib.hid hit
            have HOC := Lib.hid hoc2
            have HS0 := Lib.hid hS0
            clear hsum hit hoc2 hS0 hok c0 c1 c2 c3 c4 c5 c6 c7 hSb hTb
            go_still_tail 19, (by kernel_rfl)
            change wpList _ _ _ _ _ w4.drew
            have hdr : Touch (fun _ => False) w4 w4.drew := Touch.of_drew _ _
            replace n0 := hdr.cell n0 (fun h => h)
            replace hfz := hdr.frozen HN4.out.low hfz (fun h => h)
            have HDR := Lib.hid hdr
            have HND := Lib.hid (HN4.out.keep hdr (fun h => h))
            clear hdr d5 d6 HN4
            generalize w4.drew = wd at *
            go_wp2_with fail
            have hNS := HND.out.set true it hit4.2 (S0 + oc)
            rw [HS0.out] at hNS
            rw [(show off true + it = 4 + it from rfl), ← HS0.out] at hNS
            have HNS := Lib.hid (NB.begin (L' := L') (T := Td) (o := o) (by rw [← HS0.out]; exact hNS) hb HIT.out HOC.out HSUM.out)
            have HT5 : Hid (Touch (fun k => k = w1.heap.size) w4 (wd.setCell ⟨w1.heap.size, 4 + it, none⟩ (.int .i64 (S0 + oc)))) := Lib.hid ((HDR.out.mono (fun _ h => h.elim)).set (fun _ => rfl))
            clear n0 hfz hNS HND hwr
            generalize wd.setCell ⟨w1.heap.size, 4 + it, none⟩ (.int .i64 (S0 + oc)) = w5 at *
            go_loopw [10] (fun pv wp => ∃ p : Nat, p ≤ Td.length ∧ pv = .int .i64 p ∧ NB wp w1.heap.size (lf L' Td p) ∧ Touch (fun k => k = w1.heap.size) w4 wp) (fun pv _ => Td.length - (intOf pv).toNat)
            case atStart => exact ⟨0, Nat.zero_le _, rfl, HNS.out, HT5.out⟩
            case round =>
              obtain ⟨p, hpl, rfl, hNp, hTp⟩ := hrel
              have HNP := Lib.hid hNp
              have HTP := Lib.hid hTp
              have hsp := hTp.size
              have hnl := hNp.low
              by_cases hpt : p < Td.length
              · have q5 : (p : Int) < (Td.length : Int) := by omega
                obtain ⟨t, htt⟩ : ∃ t, t = Td[p] := ⟨_, rfl⟩
                have hti : t.item = it := by rw [htt, HPD.out.items _ (List.getElem_mem hpt)]; exact HIT.out.symm
                have htc : 1 ≤ t.ct := by rw [htt]; exact HPD.out.cts HB.out.bk _ (List.getElem_mem hpt)
                have ht3 := hTp.own HTV.out (fun g hg hh => by have h1 := (HTV.out.lt g hg).1; omega)
                obtain ⟨gt, kt', e8, hge, hgt, _, _⟩ := own_form ht3 (by omega)
                injection e8 with e8 e9 e10
                subst e8 e10
                obtain ⟨_, _, _, _, y4, y5, _, _⟩ := flatT_at Td p hpt
                have a4 := (ht3.cellAt (p * 8 + 4) (by omega)).trans y4
                have a5 := (ht3.cellAt (p * 8 + 5) (by omega)).trans y5
                rw [← htt, hti] at a4
                rw [← htt] at a5
                obtain ⟨tc, htc2⟩ : ∃ z, z = t.ct := ⟨_, rfl⟩
                rw [← htc2] at a5 htc
                obtain ⟨F0, hF0⟩ : ∃ z, z = lf L' Td p false it := ⟨_, rfl⟩
                obtain ⟨F1, hF1⟩ : ∃ z, z = lf L' Td p true it := ⟨_, rfl⟩
                have hL'32 := HB4.out.len
                have hb0 := lf_bound (p := p) (b := false) (j := it) HB4.out.bk.ok hL'32 (HPD.out.cts HB.out.bk) (HTB.out it)
                have hb1 := lf_bound (p := p) (b := true) (j := it) HB4.out.bk.ok hL'32 (HPD.out.cts HB.out.bk) (HTB.out it)
                have hb2 := lf_bound (p := p + 1) (b := true) (j := it) HB4.out.bk.ok hL'32 (HPD.out.cts HB.out.bk) (HTB.out it)
                rw [lf_step hpt (by rw [← htt, hti]), if_pos rfl, ← hF1, ← htt, ← htc2] at hb2
                rw [← hF0] at hb0
                rw [← hF1] at hb1
                have hw0 : IntKind.i64.wrap (F0 - tc) = F0 - tc := by rw [IntKind.wrap_i64]; omega
                have hw1 : IntKind.i64.wrap (F1 - tc) = F1 - tc := by rw [IntKind.wrap_i64]; omega
                have n0 := hNp.cell false it hit4.2
                have n1 := hNp.cell true it hit4.2
                rw [show off false + it = it from by show 0 + it = it; omega, ← hF0] at n0
                rw [show off true + it = 4 + it from rfl, ← hF1] at n1
                have f0 := hNp.free it
                have f1 := hNp.free (4 + it)
                have HTI : Hid (Td[p].item = it) := Lib.hid (by rw [← htt]; exact hti)
                have HTC : Hid (tc = Td[p].ct) := Lib.hid (by rw [htc2, htt])
                have HF0 := Lib.hid hF0
                have HF1' := Lib.hid hF1
                have hgn : gt ≠ w1.heap.size := by omega
                clear y4 y5 ht3 htt hti htc2 hF0 hF1 hb0 hb1 hb2 hNp hTp htc
                go_wp2_with fail
                go_still_tail 16, (by kernel_rfl)
                change wpList _ _ _ _ _ wr.drew
                have hdr : Touch (fun _ => False) wr wr.drew := Touch.of_drew _ _
                replace n0 := hdr.cell n0 (fun h => h)
                replace n1 := hdr.cell n1 (fun h => h)
                replace a4 := hdr.cell a4 (fun h => h)
                replace a5 := hdr.cell a5 (fun h => h)
                replace f0 := hdr.frozen HNP.out.low f0 (fun h => h)
                replace f1 := hdr.frozen HNP.out.low f1 (fun h => h)
                have HNA := Lib.hid (HNP.out.keep hdr (fun h => h))
                have HTA := Lib.hid (HTP.out.trans hdr (fun n hn h => h.elim))
                clear hdr
                generalize wr.drew = wa at *
                go_upto_region 20 with fail
                have hns := HNA.out.set false it hit4.2 (F0 - tc)
                rw [show off false + it = it from by show 0 + it = it; omega] at hns
                have hta := HTA.out.set (a := ⟨w1.heap.size, it, none⟩) (v := .int .i64 (F0 - tc)) (fun _ => rfl)
                have hta2 : Touch (fun k => k = w1.heap.size) wa (wa.setCell ⟨w1.heap.size, it, none⟩ (.int .i64 (F0 - tc))) := (Touch.refl _ _).set (fun _ => rfl)
                replace a4 := hta2.cell a4 hgn
                replace a5 := hta2.cell a5 hgn
                replace n1 := c_set_other (b' := w1.heap.size) (o' := it) (v := .int .i64 (F0 - tc)) (by omega) n1
                replace f1 := f_set (a := ⟨w1.heap.size, it, none⟩) (v := .int .i64 (F0 - tc)) f1
                have HNB := Lib.hid hns
                have HTB2 := Lib.hid hta
                clear hns hta hta2 n0 f0
                generalize wa.setCell ⟨w1.heap.size, it, none⟩ (.int .i64 (F0 - tc)) = wb at *
                go_still_tail 16, (by kernel_rfl)
                change wpList _ _ _ _ _ wb.drew
                have hdr : Touch (fun _ => False) wb wb.drew := Touch.of_drew _ _
                replace n1 := hdr.cell n1 (fun h => h)
                replace f1 := hdr.frozen HNB.out.low f1 (fun h => h)
                have HNC := Lib.hid (HNB.out.keep hdr (fun h => h))
                have HTC2 := Lib.hid (HTB2.out.trans hdr (fun n hn h => h.elim))
                clear hdr a4 a5
                generalize wb.drew = wc at *
                go_wp2_with fail
                have hns := HNC.out.set true it hit4.2 (F1 - tc)
                rw [show off true + it = 4 + it from rfl] at hns
                have hnx := hns.next hpt HTI.out (by rw [HF0.out, HTC.out]) (by rw [HF1'.out, HTC.out])
                exact ⟨⟨p + 1, hpt, by go_num, hnx, HTC2.out.set (fun _ => rfl)⟩, measI hpt⟩
              · obtain rfl : Td.length = p := by omega
                have hne := HNP.out.congr (f' := fun b it => suS b it L') (fun b i _ => lf_end _ _ _ _)
                have HNE := Lib.hid hne
                clear hne hNp hTp
                go_wp2_with fail
                have hbd : Below w.heap.size w4 wr := HTP.out.below (by omega) (fun k hk => by omega)
                refine ⟨⟨i + 1, v4, L', last', hlt, by go_num, HB4.out.keep HTP.out (fun x hx hd => ?_), fun x hx => ?_, HNE.out, HW4.out.trans hbd⟩, measI hlt⟩
                · rcases HF4.out x hx with h | h
                  · exact (HF.out x h).2 hd
                  · omega
                · rcases HF4.out x hx with h | h
                  · exact HF.out x h
                  · exact ⟨by omega, by omega⟩
        | false =>
          rw [hb] at c4
          have hpl := HPL.out
          simp only [odA, hb] at hpl
          have HP := Lib.hid hpl
          clear hpl HPL
          go_wp2_with (first
            | (go_at_call 16; go_loud (refine (HP.out _ HB.out).mono ?_; rintro e w4 ⟨Td, n, c', L', last', v4, tv, rfl, hp, hb, ho, ha, ht, hf⟩; have hs4 := ht.size; have HB4 := Lib.hid hb; have HT4 := Lib.hid ht; have HF4 := Lib.hid hf; have HTV := Lib.hid ho; have HPD := Lib.hid hp; have hTl := hp.len; have HW4 := Lib.hid (HW.out.trans (ht.below (by omega) (fun x hx => (HF.out x hx).1))); obtain ⟨At, kt, hvt, _, _, _⟩ := own_slice ho; subst hvt; clear ho hb ha hf hp ht))
            | fail)
          · have hc1 : c' ≠ 0 := by have hc0 : (c' != 0) = true := (by assumption); simpa using hc0
            have HN4 := HN.out.keep HT4.out (fun hd => (HF.out _ hd).2 rfl)
            rcases HPD.out.sums HB.out.bk with ⟨h0, _⟩ | ⟨_, _, rfl⟩
            · exact absurd h0 hc1
            refine ⟨⟨i + 1, v4, L', last', hlt, by go_num, HB4.out, fun x hx => ?_, HN4, HW4.out⟩, measI hlt⟩
            rcases HF4.out x hx with h | h
            · exact HF.out x h
            · exact ⟨by omega, by omega⟩
          · have hc1 : c' = 0 := by have hc0 : (c' != 0) = false := (by assumption); simpa using hc0
            rcases HPD.out.sums HB.out.bk with ⟨_, hok, hsum⟩ | ⟨h0, _, _⟩
            case inr => exact absurd hc1 h0
            have HSUM := Lib.hid hsum
            have HN4 := Lib.hid (HN.out.keep HT4.out (fun hd => (HF.out _ hd).2 rfl))
            obtain ⟨it, hit⟩ : ∃ it : Nat, (it : Int) = o.item := ⟨o.item.toNat, by have := hok.item; omega⟩
            have hit4 : 1 ≤ it ∧ it < 4 := by have := hok.item; omega
            have hoc := hok.ct
            have hTb : ∀ j, stS j Td ≤ 34603008 := fun j => by
              have e := hsum o.buy j
              have h1 := suS_bound o.buy j HB.out.bk.ok
              have h2 := suS_bound o.buy j HB4.out.bk.ok
              have h3 := HB.out.len
              unfold oneS at e
              split at e <;> omega
            have HTB := Lib.hid hTb
            obtain ⟨oc, hoc2⟩ : ∃ z, z = o.ct := ⟨_, rfl⟩
            rw [← hoc2] at hoc
            obtain ⟨S0, hS0⟩ : ∃ z, z = suS false it L := ⟨_, rfl⟩
            have hSb := suS_bound false it HB.out.bk.ok
            have hL32 := HB.out.len
            rw [← hS0] at hSb
            have hwr : IntKind.i64.wrap (S0 + oc) = S0 + oc := by rw [IntKind.wrap_i64]; omega
            have d5 := bkeep HW4.out HC.out.2.1 hqb
            have d6 := bkeep HW4.out HC.out.2.2 hqb
            rw [← hit] at d5
            rw [← hoc2] at d6
            have n0 := HN4.out.cell false it hit4.2
            rw [(show off false + it = it from by show 0 + it = it; omega), ← hS0] at n0
            have hfz := HN4.out.free (it)
            have q6 : (it : Int) < 4 := by omega
            have HIT := Lib.hid hit
            have HOC := Lib.hid hoc2
            have HS0 := Lib.hid hS0
            clear hsum hit hoc2 hS0 hok c0 c1 c2 c3 c4 c5 c6 c7 hSb hTb
            go_still_tail 19, (by kernel_rfl)
            change wpList _ _ _ _ _ w4.drew
            have hdr : Touch (fun _ => False) w4 w4.drew := Touch.of_drew _ _
            replace n0 := hdr.cell n0 (fun h => h)
            replace hfz := hdr.frozen HN4.out.low hfz (fun h => h)
            have HDR := Lib.hid hdr
            have HND := Lib.hid (HN4.out.keep hdr (fun h => h))
            clear hdr d5 d6 HN4
            generalize w4.drew = wd at *
            go_wp2_with fail
            have hNS := HND.out.set false it hit4.2 (S0 + oc)
            rw [HS0.out] at hNS
            rw [(show off false + it = it from by show 0 + it = it; omega), ← HS0.out] at hNS
            have HNS := Lib.hid (NB.begin (L' := L') (T := Td) (o := o) (by rw [← HS0.out]; exact hNS) hb HIT.out HOC.out HSUM.out)
            have HT5 : Hid (Touch (fun k => k = w1.heap.size) w4 (wd.setCell ⟨w1.heap.size, it, none⟩ (.int .i64 (S0 + oc)))) := Lib.hid ((HDR.out.mono (fun _ h => h.elim)).set (fun _ => rfl))
            clear n0 hfz hNS HND hwr
            generalize wd.setCell ⟨w1.heap.size, it, none⟩ (.int .i64 (S0 + oc)) = w5 at *
            go_loopw [10] (fun pv wp => ∃ p : Nat, p ≤ Td.length ∧ pv = .int .i64 p ∧ NB wp w1.heap.size (lf L' Td p) ∧ Touch (fun k => k = w1.heap.size) w4 wp) (fun pv _ => Td.length - (intOf pv).toNat)
            case atStart => exact ⟨0, Nat.zero_le _, rfl, HNS.out, HT5.out⟩
            case round =>
              obtain ⟨p, hpl, rfl, hNp, hTp⟩ := hrel
              have HNP := Lib.hid hNp
              have HTP := Lib.hid hTp
              have hsp := hTp.size
              have hnl := hNp.low
              by_cases hpt : p < Td.length
              · have q5 : (p : Int) < (Td.length : Int) := by omega
                obtain ⟨t, htt⟩ : ∃ t, t = Td[p] := ⟨_, rfl⟩
                have hti : t.item = it := by rw [htt, HPD.out.items _ (List.getElem_mem hpt)]; exact HIT.out.symm
                have htc : 1 ≤ t.ct := by rw [htt]; exact HPD.out.cts HB.out.bk _ (List.getElem_mem hpt)
                have ht3 := hTp.own HTV.out (fun g hg hh => by have h1 := (HTV.out.lt g hg).1; omega)
                obtain ⟨gt, kt', e8, hge, hgt, _, _⟩ := own_form ht3 (by omega)
                injection e8 with e8 e9 e10
                subst e8 e10
                obtain ⟨_, _, _, _, y4, y5, _, _⟩ := flatT_at Td p hpt
                have a4 := (ht3.cellAt (p * 8 + 4) (by omega)).trans y4
                have a5 := (ht3.cellAt (p * 8 + 5) (by omega)).trans y5
                rw [← htt, hti] at a4
                rw [← htt] at a5
                obtain ⟨tc, htc2⟩ : ∃ z, z = t.ct := ⟨_, rfl⟩
                rw [← htc2] at a5 htc
                obtain ⟨F0, hF0⟩ : ∃ z, z = lf L' Td p false it := ⟨_, rfl⟩
                obtain ⟨F1, hF1⟩ : ∃ z, z = lf L' Td p true it := ⟨_, rfl⟩
                have hL'32 := HB4.out.len
                have hb0 := lf_bound (p := p) (b := false) (j := it) HB4.out.bk.ok hL'32 (HPD.out.cts HB.out.bk) (HTB.out it)
                have hb1 := lf_bound (p := p) (b := true) (j := it) HB4.out.bk.ok hL'32 (HPD.out.cts HB.out.bk) (HTB.out it)
                have hb2 := lf_bound (p := p + 1) (b := true) (j := it) HB4.out.bk.ok hL'32 (HPD.out.cts HB.out.bk) (HTB.out it)
                rw [lf_step hpt (by rw [← htt, hti]), if_pos rfl, ← hF1, ← htt, ← htc2] at hb2
                rw [← hF0] at hb0
                rw [← hF1] at hb1
                have hw0 : IntKind.i64.wrap (F0 - tc) = F0 - tc := by rw [IntKind.wrap_i64]; omega
                have hw1 : IntKind.i64.wrap (F1 - tc) = F1 - tc := by rw [IntKind.wrap_i64]; omega
                have n0 := hNp.cell false it hit4.2
                have n1 := hNp.cell true it hit4.2
                rw [show off false + it = it from by show 0 + it = it; omega, ← hF0] at n0
                rw [show off true + it = 4 + it from rfl, ← hF1] at n1
                have f0 := hNp.free it
                have f1 := hNp.free (4 + it)
                have HTI : Hid (Td[p].item = it) := Lib.hid (by rw [← htt]; exact hti)
                have HTC : Hid (tc = Td[p].ct) := Lib.hid (by rw [htc2, htt])
                have HF0 := Lib.hid hF0
                have HF1' := Lib.hid hF1
                have hgn : gt ≠ w1.heap.size := by omega
                clear y4 y5 ht3 htt hti htc2 hF0 hF1 hb0 hb1 hb2 hNp hTp htc
                go_wp2_with fail
                go_still_tail 16, (by kernel_rfl)
                change wpList _ _ _ _ _ wr.drew
                have hdr : Touch (fun _ => False) wr wr.drew := Touch.of_drew _ _
                replace n0 := hdr.cell n0 (fun h => h)
                replace n1 := hdr.cell n1 (fun h => h)
                replace a4 := hdr.cell a4 (fun h => h)
                replace a5 := hdr.cell a5 (fun h => h)
                replace f0 := hdr.frozen HNP.out.low f0 (fun h => h)
                replace f1 := hdr.frozen HNP.out.low f1 (fun h => h)
                have HNA := Lib.hid (HNP.out.keep hdr (fun h => h))
                have HTA := Lib.hid (HTP.out.trans hdr (fun n hn h => h.elim))
                clear hdr
                generalize wr.drew = wa at *
                go_upto_region 20 with fail
                have hns := HNA.out.set false it hit4.2 (F0 - tc)
                rw [show off false + it = it from by show 0 + it = it; omega] at hns
                have hta := HTA.out.set (a := ⟨w1.heap.size, it, none⟩) (v := .int .i64 (F0 - tc)) (fun _ => rfl)
                have hta2 : Touch (fun k => k = w1.heap.size) wa (wa.setCell ⟨w1.heap.size, it, none⟩ (.int .i64 (F0 - tc))) := (Touch.refl _ _).set (fun _ => rfl)
                replace a4 := hta2.cell a4 hgn
                replace a5 := hta2.cell a5 hgn
                replace n1 := c_set_other (b' := w1.heap.size) (o' := it) (v := .int .i64 (F0 - tc)) (by omega) n1
                replace f1 := f_set (a := ⟨w1.heap.size, it, none⟩) (v := .int .i64 (F0 - tc)) f1
                have HNB := Lib.hid hns
                have HTB2 := Lib.hid hta
                clear hns hta hta2 n0 f0
                generalize wa.setCell ⟨w1.heap.size, it, none⟩ (.int .i64 (F0 - tc)) = wb at *
                go_still_tail 16, (by kernel_rfl)
                change wpList _ _ _ _ _ wb.drew
                have hdr : Touch (fun _ => False) wb wb.drew := Touch.of_drew _ _
                replace n1 := hdr.cell n1 (fun h => h)
                replace f1 := hdr.frozen HNB.out.low f1 (fun h => h)
                have HNC := Lib.hid (HNB.out.keep hdr (fun h => h))
                have HTC2 := Lib.hid (HTB2.out.trans hdr (fun n hn h => h.elim))
                clear hdr a4 a5
                generalize wb.drew = wc at *
                go_wp2_with fail
                have hns := HNC.out.set true it hit4.2 (F1 - tc)
                rw [show off true + it = 4 + it from rfl] at hns
                have hnx := hns.next hpt HTI.out (by rw [HF0.out, HTC.out]) (by rw [HF1'.out, HTC.out])
                exact ⟨⟨p + 1, hpt, by go_num, hnx, HTC2.out.set (fun _ => rfl)⟩, measI hpt⟩
              · obtain rfl : Td.length = p := by omega
                have hne := HNP.out.congr (f' := fun b it => suS b it L') (fun b i _ => lf_end _ _ _ _)
                have HNE := Lib.hid hne
                clear hne hNp hTp
                go_wp2_with fail
                have hbd : Below w.heap.size w4 wr := HTP.out.below (by omega) (fun k hk => by omega)
                refine ⟨⟨i + 1, v4, L', last', hlt, by go_num, HB4.out.keep HTP.out (fun x hx hd => ?_), fun x hx => ?_, HNE.out, HW4.out.trans hbd⟩, measI hlt⟩
                · rcases HF4.out x hx with h | h
                  · exact (HF.out x h).2 hd
                  · omega
                · rcases HF4.out x hx with h | h
                  · exact HF.out x h
                  · exact ⟨by omega, by omega⟩
      · by_cases h2 : k = 2
        · subst h2
          by_cases hex : ∃ y ∈ L, y.id = nn
          · obtain ⟨y, hyL, hyid⟩ := hex
            cases hyb : y.buy with
            | true =>
              obtain ⟨it, hit⟩ : ∃ it : Nat, (it : Int) = y.item := ⟨y.item.toNat, by have := (HB.out.bk.ok y hyL).item; omega⟩
              have hit4 : 1 ≤ it ∧ it < 4 := by have := (HB.out.bk.ok y hyL).item; omega
              obtain ⟨yc, hyc⟩ : ∃ z, z = y.ct := ⟨_, rfl⟩
              have hycb : 1 ≤ yc ∧ yc ≤ 1048576 := by have := (HB.out.bk.ok y hyL).ct; omega
              obtain ⟨F0, hF0⟩ : ∃ z, z = suS true it L := ⟨_, rfl⟩
              have hSb := suS_bound true it HB.out.bk.ok
              have hL32 := HB.out.len
              rw [← hF0] at hSb
              have hwr : IntKind.i64.wrap (F0 - yc) = F0 - yc := by rw [IntKind.wrap_i64]; omega
              have q6 : (it : Int) < 4 := by omega
              have HYL := Lib.hid hyL
              have HIT := Lib.hid hit
              have HYC := Lib.hid hyc
              have HYB := Lib.hid hyb
              have HF0 := Lib.hid hF0
              have HYID := Lib.hid hyid
              clear hyL hSb hF0 hyid
              go_upto_region 24 with (first
                | (go_at_call 19; go_loud (refine (cancel w.heap.size v L last nn _ HB.out).mono ?_; rintro e w3 ⟨x1, c1', v3, he, hc1, hb3, ht3, hf3⟩; obtain ⟨hx1, rfl⟩ := canc_one HB.out.bk HYL.out HYID.out hc1; subst hx1; unfold odA at he; rw [HYB.out, ← hyc, ← hit] at he; subst he; have HB3 := Lib.hid hb3; have HT3 := Lib.hid ht3; have HF3 := Lib.hid hf3; have hs3 := ht3.size; clear hc1 hb3 ht3 hf3 hit hyc hyb))
                | fail)
              all_goals
                have HN3 := Lib.hid (HN.out.keep HT3.out (fun hd => (HF.out _ hd).2 rfl))
                have ha3 : Touch (fun _ => False) w3 (w3.alloc (.cells #[.int .i64 x1.id, .string x1.who, .bool true, .int .i64 it, .int .i64 yc, .int .i64 x1.pr] 35)) := (Touch.refl _ _).alloc _
                have HNA := Lib.hid (HN3.out.keep ha3 (fun h => h))
                have hs5 : w3.heap.size < (w3.alloc (.cells #[.int .i64 x1.id, .string x1.who, .bool true, .int .i64 it, .int .i64 yc, .int .i64 x1.pr] 35)).heap.size := by simp
                have e3 : (w3.alloc (.cells #[.int .i64 x1.id, .string x1.who, .bool true, .int .i64 it, .int .i64 yc, .int .i64 x1.pr] 35)).cell? ⟨w3.heap.size, 3, none⟩ = some (.int .i64 it) := c_new rfl rfl
                have e4 : (w3.alloc (.cells #[.int .i64 x1.id, .string x1.who, .bool true, .int .i64 it, .int .i64 yc, .int .i64 x1.pr] 35)).cell? ⟨w3.heap.size, 4, none⟩ = some (.int .i64 yc) := c_new rfl rfl
                have n0 := HNA.out.cell true it hit4.2
                rw [(show off true + it = 4 + it from rfl), ← HF0.out] at n0
                have hfz := HNA.out.free (4 + it)
                have hn3 := HN3.out.low
                have HA3 := Lib.hid ha3
                clear ha3
                generalize w3.alloc (.cells #[.int .i64 x1.id, .string x1.who, .bool true, .int .i64 it, .int .i64 yc, .int .i64 x1.pr] 35) = wa at *
                go_still_tail 10, (by kernel_rfl)
                change wpList _ _ _ _ _ wa.drew
                have hdr : Touch (fun _ => False) wa wa.drew := Touch.of_drew _ _
                replace n0 := hdr.cell n0 (fun h => h)
                replace hfz := hdr.frozen HNA.out.low hfz (fun h => h)
                have HNC := Lib.hid (HNA.out.keep hdr (fun h => h))
                have HTC3 := Lib.hid (HA3.out.trans hdr (fun n hn h => h.elim))
                clear hdr e3 e4
                generalize wa.drew = wc at *
                go_wp2_with fail
                have hns := HNC.out.set true it hit4.2 (F0 - yc)
                rw [(show off true + it = 4 + it from rfl)] at hns
                have hnx := hns.gone HB.out.bk HYL.out HYB.out HIT.out (by rw [HF0.out, HYC.out])
                rw [HYID.out] at hnx
                have hts : Touch (fun k => k = w1.heap.size) w3 (wc.setCell ⟨w1.heap.size, 4 + it, none⟩ (.int .i64 (F0 - yc))) := (HTC3.out.mono (fun _ h => h.elim)).set (fun _ => rfl)
                have hbd : Below w.heap.size w3 (wc.setCell ⟨w1.heap.size, 4 + it, none⟩ (.int .i64 (F0 - yc))) := hts.below (by omega) (fun k hk => by omega)
                refine ⟨⟨i + 1, v3, goneO nn L, last, hlt, by go_num, HB3.out.keep hts (fun x hx hd => (HF.out x (HF3.out x hx)).2 hd), fun x hx => HF.out x (HF3.out x hx), hnx, (HW.out.trans (HT3.out.below hsw (fun x hx => (HF.out x hx).1))).trans hbd⟩, measI hlt⟩
            | false =>
              obtain ⟨it, hit⟩ : ∃ it : Nat, (it : Int) = y.item := ⟨y.item.toNat, by have := (HB.out.bk.ok y hyL).item; omega⟩
              have hit4 : 1 ≤ it ∧ it < 4 := by have := (HB.out.bk.ok y hyL).item; omega
              obtain ⟨yc, hyc⟩ : ∃ z, z = y.ct := ⟨_, rfl⟩
              have hycb : 1 ≤ yc ∧ yc ≤ 1048576 := by have := (HB.out.bk.ok y hyL).ct; omega
              obtain ⟨F0, hF0⟩ : ∃ z, z = suS false it L := ⟨_, rfl⟩
              have hSb := suS_bound false it HB.out.bk.ok
              have hL32 := HB.out.len
              rw [← hF0] at hSb
              have hwr : IntKind.i64.wrap (F0 - yc) = F0 - yc := by rw [IntKind.wrap_i64]; omega
              have q6 : (it : Int) < 4 := by omega
              have HYL := Lib.hid hyL
              have HIT := Lib.hid hit
              have HYC := Lib.hid hyc
              have HYB := Lib.hid hyb
              have HF0 := Lib.hid hF0
              have HYID := Lib.hid hyid
              clear hyL hSb hF0 hyid
              go_upto_region 26 with (first
                | (go_at_call 19; go_loud (refine (cancel w.heap.size v L last nn _ HB.out).mono ?_; rintro e w3 ⟨x1, c1', v3, he, hc1, hb3, ht3, hf3⟩; obtain ⟨hx1, rfl⟩ := canc_one HB.out.bk HYL.out HYID.out hc1; subst hx1; unfold odA at he; rw [HYB.out, ← hyc, ← hit] at he; subst he; have HB3 := Lib.hid hb3; have HT3 := Lib.hid ht3; have HF3 := Lib.hid hf3; have hs3 := ht3.size; clear hc1 hb3 ht3 hf3 hit hyc hyb))
                | fail)
              all_goals
                have HN3 := Lib.hid (HN.out.keep HT3.out (fun hd => (HF.out _ hd).2 rfl))
                have ha3 : Touch (fun _ => False) w3 (w3.alloc (.cells #[.int .i64 x1.id, .string x1.who, .bool false, .int .i64 it, .int .i64 yc, .int .i64 x1.pr] 35)) := (Touch.refl _ _).alloc _
                have HNA := Lib.hid (HN3.out.keep ha3 (fun h => h))
                have hs5 : w3.heap.size < (w3.alloc (.cells #[.int .i64 x1.id, .string x1.who, .bool false, .int .i64 it, .int .i64 yc, .int .i64 x1.pr] 35)).heap.size := by simp
                have e3 : (w3.alloc (.cells #[.int .i64 x1.id, .string x1.who, .bool false, .int .i64 it, .int .i64 yc, .int .i64 x1.pr] 35)).cell? ⟨w3.heap.size, 3, none⟩ = some (.int .i64 it) := c_new rfl rfl
                have e4 : (w3.alloc (.cells #[.int .i64 x1.id, .string x1.who, .bool false, .int .i64 it, .int .i64 yc, .int .i64 x1.pr] 35)).cell? ⟨w3.heap.size, 4, none⟩ = some (.int .i64 yc) := c_new rfl rfl
                have n0 := HNA.out.cell false it hit4.2
                rw [(show off false + it = it from by show 0 + it = it; omega), ← HF0.out] at n0
                have hfz := HNA.out.free (it)
                have hn3 := HN3.out.low
                have HA3 := Lib.hid ha3
                clear ha3
                generalize w3.alloc (.cells #[.int .i64 x1.id, .string x1.who, .bool false, .int .i64 it, .int .i64 yc, .int .i64 x1.pr] 35) = wa at *
                go_still_tail 10, (by kernel_rfl)
                change wpList _ _ _ _ _ wa.drew
                have hdr : Touch (fun _ => False) wa wa.drew := Touch.of_drew _ _
                replace n0 := hdr.cell n0 (fun h => h)
                replace hfz := hdr.frozen HNA.out.low hfz (fun h => h)
                have HNC := Lib.hid (HNA.out.keep hdr (fun h => h))
                have HTC3 := Lib.hid (HA3.out.trans hdr (fun n hn h => h.elim))
                clear hdr e3 e4
                generalize wa.drew = wc at *
                go_wp2_with fail
                have hns := HNC.out.set false it hit4.2 (F0 - yc)
                rw [(show off false + it = it from by show 0 + it = it; omega)] at hns
                have hnx := hns.gone HB.out.bk HYL.out HYB.out HIT.out (by rw [HF0.out, HYC.out])
                rw [HYID.out] at hnx
                have hts : Touch (fun k => k = w1.heap.size) w3 (wc.setCell ⟨w1.heap.size, it, none⟩ (.int .i64 (F0 - yc))) := (HTC3.out.mono (fun _ h => h.elim)).set (fun _ => rfl)
                have hbd : Below w.heap.size w3 (wc.setCell ⟨w1.heap.size, it, none⟩ (.int .i64 (F0 - yc))) := hts.below (by omega) (fun k hk => by omega)
                refine ⟨⟨i + 1, v3, goneO nn L, last, hlt, by go_num, HB3.out.keep hts (fun x hx hd => (HF.out x (HF3.out x hx)).2 hd), fun x hx => HF.out x (HF3.out x hx), hnx, (HW.out.trans (HT3.out.below hsw (fun x hx => (HF.out x hx).1))).trans hbd⟩, measI hlt⟩
          · have hnone : ∀ y ∈ L, y.id ≠ nn := fun y hy e => hex ⟨y, hy, e⟩
            have HNO := Lib.hid hnone
            clear hnone hex
            go_wp2_with (first
              | (go_at_call 19; go_loud (refine (cancel w.heap.size v L last nn _ HB.out).mono ?_; rintro e w3 ⟨x1, c1', v3, he, hc1, hb3, ht3, hf3⟩; obtain ⟨rfl, rfl⟩ := canc_none HNO.out hc1; unfold odA at he; subst he; rw [gone_none' HNO.out] at hb3; have HB3 := Lib.hid hb3; have HT3 := Lib.hid ht3; have HF3 := Lib.hid hf3; have hs3 := ht3.size; clear hc1 hb3 ht3 hf3))
              | fail)
            all_goals
              have hN3 := HN.out.keep HT3.out (fun hd => (HF.out _ hd).2 rfl)
              refine ⟨⟨i + 1, v3, L, last, hlt, by go_num, HB3.out.below (by ((repeat (first | (with_reducible exact Below.refl _ _) | (with_reducible assumption) | ((with_reducible refine b_set ?_ ?_); · (first | omega | (simp; done) | (simp; omega))) | ((with_reducible refine b_alloc ?_ ?_); · (first | omega | (simp; done) | (simp; omega))) | (with_reducible refine Below.drew ?_) | (with_reducible refine b_drewN ?_) | ((with_reducible refine b_call (by assumption) ?_ ?_); · (first | omega | (simp; done) | (simp; omega))))); done)), fun x hx => HF.out x (HF3.out x hx), hN3.below (by ((repeat (first | (with_reducible exact Below.refl _ _) | (with_reducible assumption) | ((with_reducible refine b_set ?_ ?_); · (first | omega | (simp; done) | (simp; omega))) | ((with_reducible refine b_alloc ?_ ?_); · (first | omega | (simp; done) | (simp; omega))) | (with_reducible refine Below.drew ?_) | (with_reducible refine b_drewN ?_) | ((with_reducible refine b_call (by assumption) ?_ ?_); · (first | omega | (simp; done) | (simp; omega))))); done)), (HW.out.trans (HT3.out.below hsw (fun x hx => (HF.out x hx).1))).trans (by ((repeat (first | (with_reducible exact Below.refl _ _) | (with_reducible assumption) | ((with_reducible refine b_set ?_ ?_); · (first | omega | (simp; done) | (simp; omega))) | ((with_reducible refine b_alloc ?_ ?_); · (first | omega | (simp; done) | (simp; omega))) | (with_reducible refine Below.drew ?_) | (with_reducible refine b_drewN ?_) | ((with_reducible refine b_call (by assumption) ?_ ?_); · (first | omega | (simp; done) | (simp; omega))))); done))⟩, measI hlt⟩
        · go_wp2_with fail
          all_goals exact ⟨⟨i + 1, v, L, last, hlt, by go_num, HB.out, HF.out, HN.out, HW.out⟩, measI hlt⟩
    · obtain rfl : i = xs.length := by omega
      clear hB hF hN hBw
      go_wp2_with (first
        | (go_at_call 12; go_loud (refine (list w.heap.size v L last _ HB.out).mono ?_; rintro e w3 ⟨u, rfl, hu, hb3⟩; have hs3 := hb3.size; have HU3 := Lib.hid hu; have HB3 := Lib.hid hb3; obtain ⟨Au, ku, hvu, _, _, _⟩ := own_slice hu; subst hvu; clear hu hb3))
        | fail)
      have HN3 := Lib.hid (HN.out.below HB3.out)
      have hL32 := HB.out.len
      go_loopw [14] (fun qv wq => ∃ q : Nat, q ≤ L.length ∧ qv = .int .i64 q ∧ NB wq w1.heap.size (fun b it => suS b it (L.drop q)) ∧ Touch (fun k => k = w1.heap.size) w3 wq) (fun qv _ => L.length - (intOf qv).toNat)
      case atStart => exact ⟨0, Nat.zero_le _, rfl, HN3.out, Touch.refl _ _⟩
      case round =>
        obtain ⟨q, hql', rfl, hNq, hTq⟩ := hrel
        have HNQ := Lib.hid hNq
        have HTQ := Lib.hid hTq
        have hsq := hTq.size
        have hnq := hNq.low
        by_cases hql : q < L.length
        · have q5 : (q : Int) < (L.length : Int) := by omega
          obtain ⟨y, hyy⟩ : ∃ y, y = L[q] := ⟨_, rfl⟩
          have hok : OkO y := by rw [hyy]; exact HB.out.bk.ok _ (List.getElem_mem hql)
          have hu3 := hTq.own HU3.out (fun g hg hh => by have h1 := (HU3.out.lt g hg).1; omega)
          obtain ⟨gu, ku', e5, hge, hgu, _, _⟩ := own_form hu3 (by omega)
          injection e5 with e5 e6 e7
          subst e5 e7
          obtain ⟨b0, b1, b2, b3, b4, b5⟩ := flatO_at L q hql
          have d0 := (hu3.cellAt (q * 6) (ixO0 hql)).trans b0
          have d1 := (hu3.cellAt (q * 6 + 1) (ixO hql 1 (by decide))).trans b1
          have d2 := (hu3.cellAt (q * 6 + 2) (ixO hql 2 (by decide))).trans b2
          have d3 := (hu3.cellAt (q * 6 + 3) (ixO hql 3 (by decide))).trans b3
          have d4 := (hu3.cellAt (q * 6 + 4) (ixO hql 4 (by decide))).trans b4
          have d5 := (hu3.cellAt (q * 6 + 5) (ixO hql 5 (by decide))).trans b5
          rw [← hyy] at d0 d1 d2 d3 d4 d5
          obtain ⟨it, hit⟩ : ∃ it : Nat, (it : Int) = y.item := ⟨y.item.toNat, by have := hok.item; omega⟩
          have hit4 : 1 ≤ it ∧ it < 4 := by have := hok.item; omega
          have q6 : (it : Int) < 4 := by omega
          obtain ⟨yc, hyc⟩ : ∃ z, z = y.ct := ⟨_, rfl⟩
          have hycb := hok.ct
          rw [← hyc] at d4 hycb
          rw [← hit] at d3
          clear b0 b1 b2 b3 b4 b5 hu3 hok
          cases hyb : y.buy with
          | true =>
            rw [hyb] at d2
            have n0 := HNQ.out.cell true it hit4.2
            rw [(show off true + it = 4 + it from rfl)] at n0
            have hfz := HNQ.out.free (4 + it)
            obtain ⟨F0, hF0⟩ : ∃ z, z = suS true it (L.drop q) := ⟨_, rfl⟩
            rw [← hF0] at n0
            have hSb := suS_drop_bound true it HB.out.bk.ok HB.out.len q
            rw [← hF0] at hSb
            have hwr : IntKind.i64.wrap (F0 - yc) = F0 - yc := by rw [IntKind.wrap_i64]; omega
            have HF0 := Lib.hid hF0
            have HYC := Lib.hid hyc
            have HIT := Lib.hid hit
            have HYY := Lib.hid hyy
            have HYB := Lib.hid hyb
            clear hF0 hSb hyc hit hyy hyb hNq hTq d0 d1 d5
            go_wp2_with fail
            go_still_tail 16, (by kernel_rfl)
            change wpList _ _ _ _ _ wr.drew
            have hdr : Touch (fun _ => False) wr wr.drew := Touch.of_drew _ _
            replace n0 := hdr.cell n0 (fun h => h)
            replace hfz := hdr.frozen HNQ.out.low hfz (fun h => h)
            have HNC := Lib.hid (HNQ.out.keep hdr (fun h => h))
            have HTC := Lib.hid (HTQ.out.trans hdr (fun n hn h => h.elim))
            clear hdr d2 d3 d4
            generalize wr.drew = wc at *
            go_wp2_with fail
            have hns := HNC.out.set true it hit4.2 (F0 - yc)
            rw [(show off true + it = 4 + it from rfl)] at hns
            exact ⟨⟨q + 1, hql, by go_num, hns.off hql (by rw [← HYY.out]; exact HYB.out) (by rw [HIT.out, HYY.out]) (by rw [HF0.out, HYC.out, HYY.out]), HTC.out.set (fun _ => rfl)⟩, measI hql⟩
          | false =>
            rw [hyb] at d2
            have n0 := HNQ.out.cell false it hit4.2
            rw [(show off false + it = it from by show 0 + it = it; omega)] at n0
            have hfz := HNQ.out.free (it)
            obtain ⟨F0, hF0⟩ : ∃ z, z = suS false it (L.drop q) := ⟨_, rfl⟩
            rw [← hF0] at n0
            have hSb := suS_drop_bound false it HB.out.bk.ok HB.out.len q
            rw [← hF0] at hSb
            have hwr : IntKind.i64.wrap (F0 - yc) = F0 - yc := by rw [IntKind.wrap_i64]; omega
            have HF0 := Lib.hid hF0
            have HYC := Lib.hid hyc
            have HIT := Lib.hid hit
            have HYY := Lib.hid hyy
            have HYB := Lib.hid hyb
            clear hF0 hSb hyc hit hyy hyb hNq hTq d0 d1 d5
            go_wp2_with fail
            go_still_tail 16, (by kernel_rfl)
            change wpList _ _ _ _ _ wr.drew
            have hdr : Touch (fun _ => False) wr wr.drew := Touch.of_drew _ _
            replace n0 := hdr.cell n0 (fun h => h)
            replace hfz := hdr.frozen HNQ.out.low hfz (fun h => h)
            have HNC := Lib.hid (HNQ.out.keep hdr (fun h => h))
            have HTC := Lib.hid (HTQ.out.trans hdr (fun n hn h => h.elim))
            clear hdr d2 d3 d4
            generalize wr.drew = wc at *
            go_wp2_with fail
            have hns := HNC.out.set false it hit4.2 (F0 - yc)
            rw [(show off false + it = it from by show 0 + it = it; omega)] at hns
            exact ⟨⟨q + 1, hql, by go_num, hns.off hql (by rw [← HYY.out]; exact HYB.out) (by rw [HIT.out, HYY.out]) (by rw [HF0.out, HYC.out, HYY.out]), HTC.out.set (fun _ => rfl)⟩, measI hql⟩
        · obtain rfl : L.length = q := by omega
          have n0 := hNq.cell false 0 (by omega)
          have n1 := hNq.cell false 1 (by omega)
          have n2 := hNq.cell false 2 (by omega)
          have n3 := hNq.cell false 3 (by omega)
          have n4 := hNq.cell true 0 (by omega)
          have n5 := hNq.cell true 1 (by omega)
          have n6 := hNq.cell true 2 (by omega)
          have n7 := hNq.cell true 3 (by omega)
          simp only [List.drop_length, suS, off, if_true, Bool.false_eq_true, if_false, Nat.reduceAdd] at n0 n1 n2 n3 n4 n5 n6 n7
          clear hNq hTq
          have hze := zeros_eq
          go_wp2_with (first
            | (go_at_call 13; refine (bkKnown _).mono ?_; rintro e w6 ⟨rfl, hb6⟩)
            | fail)
          go_ret
          exact ⟨rfl, (((HW.out.trans (HB3.out.mono hsw)).trans (HTQ.out.below (by omega) (fun k hk => by omega))).trans (hb6.mono (by omega)))⟩
end Go.Proofs.Ytekelnkjigaofaa
