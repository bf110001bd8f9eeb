/- The document's directory: Hosts, of any row of numbers. The document's directory: New. -/
import Derived.Test.YtbohpjinkdffhaaRdG
namespace Go.Proofs.Ytbohpjinkdffhaa
open Go.RowKit
set_option linter.unusedVariables false
set_option linter.unusedSimpArgs false

set_option maxHeartbeats 8000000 in
set_option maxRecDepth 10000 in
theorem rdHostsC (A : Option Addr) (cc : Nat) (l : List Int) (w : World) (h : Cells w w.heap.size A l.length cc 1 (intsV l)) (hl : l.length ≤ 100000) :
    Calls Try.prog 63 #[.slice A l.length cc] w fun e w' => e = .returned (.bool (hostsB l)) ∧ Below w.heap.size w w' := by
  have HR := Lib.hid h
  clear h
  have hb : hostsB l = (decide (1 ≤ l.length) && decide (l.length ≤ 6) && okFrom 7 l) := rfl
  have HHB := Lib.hid hb
  clear hb
  go_enter Try.func63, Try.ntmps63
  go_wp2_with fail
  go_loopw [3] (fun iv wr => ∃ (i : Nat) (a : Int), i ≤ l.length ∧ iv = .int .i64 i ∧ okFrom 7 l = okFrom a (l.drop i) ∧ ((i = 0 ∧ a = 7) ∨ (∃ h : i - 1 < l.length, 1 ≤ i ∧ a = l[i - 1] ∧ 8 ≤ a)) ∧ Below w.heap.size w wr) (fun iv _ => l.length - (intOf iv).toNat)
  case atStart => exact ⟨0, 7, Nat.zero_le _, rfl, rfl, .inl ⟨rfl, rfl⟩, by ((repeat (first | (with_reducible exact Below.refl _ _) | (with_reducible assumption) | ((with_reducible refine b_set ?_ ?_); · (first | omega | (simp; done) | (simp; omega))) | ((with_reducible refine b_alloc ?_ ?_); · (first | omega | (simp; done) | (simp; omega))) | (with_reducible refine Below.drew ?_) | (with_reducible refine b_drewN ?_) | ((with_reducible refine b_call (by assumption) ?_ ?_); · (first | omega | (simp; done) | (simp; omega))))); done)⟩
  case round =>
    obtain ⟨i, a, hil, rfl, hok, hia, hBw⟩ := hrel
    have HBW := Lib.hid hBw
    have HOK := Lib.hid hok
    by_cases hlt : i < l.length
    · have q3 : (i : Int) < (l.length : Int) := by omega
      have hr := HR.out
      obtain ⟨gu, ou, e5, hgu, a0⟩ := hr.2.2 i _ (intsV_at hlt)
      subst e5
      have a0 := bkeep hBw a0 hgu
      obtain ⟨z, hz⟩ : ∃ z, z = l[i] := ⟨_, rfl⟩
      rw [← hz] at a0
      have hdr : l.drop i = z :: l.drop (i + 1) := by rw [hz]; exact List.drop_eq_getElem_cons hlt
      have HDR := Lib.hid hdr
      have HZ := Lib.hid hz
      rcases hia with ⟨h0, ha⟩ | ⟨h0, h1, ha, ha8⟩
      · clear hr hBw hz hok hdr
        subst h0
        subst ha
        rw [Nat.zero_add] at HDR
        have a0 : wr.cell? ⟨gu, ou, none⟩ = some (.int .i64 z) := by simpa using a0
        have kz : decide ((0 : Int) < ((0 : Nat) : Int)) = false := by simp
        by_cases k1 : z < 8
        · have k1b : decide (z < 8) = true := by simpa using k1
          go_wp2_with fail
          go_quiet (fail)
          go_wp2_with fail
          go_ret
          refine ⟨ret_bool ?_, b_drewN HBW.out⟩
          rw [HHB.out, HOK.out, HDR.out]
          show _ = (decide (1 ≤ l.length) && decide (l.length ≤ 6) && (decide (7 < z) && decide (z < 14) && okFrom z _))
          rw [decide_eq_false (show ¬ 7 < z by omega)]
          simp
        by_cases k2 : (14 : Int) ≤ z
        · have k1b : decide (z < 8) = false := by simpa using k1
          have k2b : decide ((14 : Int) ≤ z) = true := by simpa using k2
          go_wp2_with fail
          go_quiet (fail)
          go_wp2_with fail
          go_ret
          refine ⟨ret_bool ?_, b_drewN HBW.out⟩
          rw [HHB.out, HOK.out, HDR.out]
          show _ = (decide (1 ≤ l.length) && decide (l.length ≤ 6) && (decide (7 < z) && decide (z < 14) && okFrom z _))
          rw [decide_eq_false (show ¬ z < 14 by omega), Bool.and_false]
          simp
        have k1b : decide (z < 8) = false := by simpa using k1
        have k2b : decide ((14 : Int) ≤ z) = false := by simpa using k2
        go_wp2_with fail
        go_quiet (fail)
        go_wp2_with fail
        refine ⟨⟨0 + 1, z, hlt, by go_num, ?_, .inr ⟨by simpa using hlt, Nat.succ_pos _, by simp [HZ.out], by omega⟩, b_drewN HBW.out⟩, measZ hlt⟩
        rw [HOK.out, HDR.out]
        show (decide (7 < z) && decide (z < 14) && okFrom z (l.drop (0 + 1))) = _
        rw [decide_eq_true (show 7 < z by omega), decide_eq_true (show z < 14 by omega)]
        rfl
      · obtain ⟨j, rfl⟩ : ∃ j, i = j + 1 := ⟨i - 1, by omega⟩
        obtain ⟨gu2, ou2, e6, _, b0⟩ := hr.2.2 j _ (intsV_at (show j < l.length by omega))
        injection e6 with e6
        injection e6 with e6 e7
        subst e6 e7
        have b0 := bkeep hBw b0 hgu
        obtain ⟨y, hy⟩ : ∃ y, y = l[j] := ⟨_, rfl⟩
        rw [← hy] at b0
        have hay : a = y := by rw [ha, hy]; rfl
        clear hr hBw hz hok hdr ha hy
        subst hay
        have kz : decide ((0 : Int) < ((j + 1 : Nat) : Int)) = true := by simp <;> omega
        have kz2 : decide ((0 : Int) < (j : Int) + 1) = true := by simp <;> omega
        have kj : (j : Int) + 1 - 1 = (j : Int) := by omega
        by_cases k1 : z < 8
        · have k1b : decide (z < 8) = true := by simpa using k1
          go_wp2_with fail
          go_quiet (fail)
          go_wp2_with fail
          go_ret
          refine ⟨ret_bool ?_, b_drewN HBW.out⟩
          rw [HHB.out, HOK.out, HDR.out]
          show _ = (decide (1 ≤ l.length) && decide (l.length ≤ 6) && (decide (a < z) && decide (z < 14) && okFrom z _))
          rw [decide_eq_false (show ¬ a < z by omega)]
          simp
        by_cases k2 : (14 : Int) ≤ z
        · have k1b : decide (z < 8) = false := by simpa using k1
          have k2b : decide ((14 : Int) ≤ z) = true := by simpa using k2
          go_wp2_with fail
          go_quiet (fail)
          go_wp2_with fail
          go_ret
          refine ⟨ret_bool ?_, b_drewN HBW.out⟩
          rw [HHB.out, HOK.out, HDR.out]
          show _ = (decide (1 ≤ l.length) && decide (l.length ≤ 6) && (decide (a < z) && decide (z < 14) && okFrom z _))
          rw [decide_eq_false (show ¬ z < 14 by omega), Bool.and_false]
          simp
        by_cases k3 : z ≤ a
        · have k1b : decide (z < 8) = false := by simpa using k1
          have k2b : decide ((14 : Int) ≤ z) = false := by simpa using k2
          have k3b : decide (z ≤ a) = true := by simpa using k3
          go_wp2_with fail
          go_quiet (fail)
          go_wp2_with fail
          go_ret
          refine ⟨ret_bool ?_, b_drewN HBW.out⟩
          rw [HHB.out, HOK.out, HDR.out]
          show _ = (decide (1 ≤ l.length) && decide (l.length ≤ 6) && (decide (a < z) && decide (z < 14) && okFrom z _))
          rw [decide_eq_false (show ¬ a < z by omega)]
          simp
        have k1b : decide (z < 8) = false := by simpa using k1
        have k2b : decide ((14 : Int) ≤ z) = false := by simpa using k2
        have k3b : decide (z ≤ a) = false := by simpa using k3
        go_wp2_with fail
        go_quiet (fail)
        go_wp2_with fail
        refine ⟨⟨(j + 1) + 1, z, hlt, by go_num, ?_, .inr ⟨by simpa using hlt, Nat.succ_pos _, by simp [HZ.out], by omega⟩, b_drewN HBW.out⟩, measZ hlt⟩
        rw [HOK.out, HDR.out]
        show (decide (a < z) && decide (z < 14) && okFrom z (l.drop ((j + 1) + 1))) = _
        rw [decide_eq_true (show a < z by omega), decide_eq_true (show z < 14 by omega)]
        rfl
    · obtain rfl : l.length = i := by omega
      rw [List.drop_length] at hok
      have hok2 : hostsB l = (decide (1 ≤ l.length) && decide (l.length ≤ 6)) := by rw [HHB.out, hok]; show (_ && true) = _; rw [Bool.and_true]
      have HO2 := Lib.hid hok2
      clear hok hok2 hBw
      by_cases q1 : 1 ≤ l.length
      · have q1b : (1 : Int) ≤ (l.length : Int) := by omega
        by_cases q2 : l.length ≤ 6
        · have q2b : (l.length : Int) ≤ 6 := by omega
          go_wp2_with fail
          go_ret
          refine ⟨ret_bool ?_, HBW.out⟩
          rw [HO2.out, decide_eq_true q1, decide_eq_true q2]; rfl
        · have q2b : ¬ (l.length : Int) ≤ 6 := by omega
          go_wp2_with fail
          go_ret
          refine ⟨ret_bool ?_, HBW.out⟩
          rw [HO2.out, decide_eq_false q2, Bool.and_false]
      · have q1b : ¬ (1 : Int) ≤ (l.length : Int) := by omega
        go_wp2_with fail
        go_ret
        refine ⟨ret_bool ?_, HBW.out⟩
        rw [HO2.out, decide_eq_false q1]; rfl
end Go.Proofs.Ytbohpjinkdffhaa

namespace Go.Proofs.Ytbohpjinkdffhaa
open Go.RowKit
set_option linter.unusedVariables false
set_option linter.unusedSimpArgs false

set_option maxHeartbeats 4000000 in
set_option maxRecDepth 10000 in
theorem rdNewC0 (A : Option Addr) (cc : Nat) (l : List Int) (w : World) (h : Cells w w.heap.size A l.length cc 1 (intsV l)) (hl : l.length ≤ 100000) (hb : hostsB l = false) :
    Calls Try.prog 30 #[.slice A l.length cc] w fun e w' => e = .returned (.tuple #[.pointer none, .int .i64 1]) ∧ Below w.heap.size w w' := by
  have HR := Lib.hid h
  have HHB := Lib.hid hb
  clear h hb
  go_enter Try.func30, Try.ntmps30
  go_wp2_with (first
    | (go_at_call 63; go_loud (refine (rdHostsC A cc l _ HR.out hl).mono ?_; rintro e w2 ⟨rfl, hb2⟩; rw [HHB.out]; have HB2 := Lib.hid hb2; clear hb2))
    | fail)
  refine bodyPost_ret (v := .tuple #[.pointer none, .int .i64 1]) (by simp [results, Try.results30, go_sem]) rfl ⟨rfl, HB2.out⟩
set_option maxHeartbeats 4000000 in
set_option maxRecDepth 10000 in
theorem rdNewC1 (A : Option Addr) (cc : Nat) (l : List Int) (w : World) (h : Cells w w.heap.size A l.length cc 1 (intsV l)) (hb : hostsB l = true) :
    Calls Try.prog 30 #[.slice A l.length cc] w fun e w' => ∃ (d : Nat) (hv' zv : Value), e = .returned (.tuple #[.pointer (some ⟨d, 0, none⟩), .int .i64 0]) ∧ RdH w' w.heap.size d hv' zv l (mp1 l) ∧ Below w.heap.size w w' := by
  have HR := Lib.hid h
  have HHB := Lib.hid hb
  have h1 : 1 ≤ l.length ∧ l.length ≤ 6 := by
    unfold hostsB at hb
    simp only [Bool.and_eq_true, decide_eq_true_eq] at hb
    exact hb.1
  obtain ⟨i0, hi0, hz0, hz1, hz2⟩ := info_parts Try.infoI64
  obtain ⟨g, og, eA, hg, a0⟩ := h.2.2 0 _ (intsV_at (show 0 < l.length by omega))
  subst eA
  rw [Nat.add_zero] at a0
  have q1 : (1 : Int) ≤ (l.length : Int) := by omega
  have q0 : (0 : Int) < (l.length : Int) := by omega
  have q2 : 0 < l.length := by omega
  have hC := h
  have HC := Lib.hid hC
  clear h hb hC
  go_enter Try.func30, Try.ntmps30
  go_upto_region 3 with (first
    | (go_at_call 63; go_loud (refine (rdHostsC _ cc l _ HR.out (by omega)).mono ?_; rintro e w2 ⟨rfl, hb2⟩; rw [HHB.out]; have HB2 := Lib.hid hb2; have a2 := bkeep hb2 a0 hg; clear hb2))
    | fail)
  have hs2 := HB2.out.size
  have hb : Below w.heap.size w w2.drew := HB2.out.drew
  have hA : w2.drew.cell? ⟨g, og, none⟩ = some (.int .i64 l[0]) := a2
  refine wp_region_held_drew (S := (fun W => W.cell? ⟨g, og, none⟩ = some (.int .i64 l[0]))) (by kernel_rfl) hA (fun hHeld => ?_)
  refine wpAnyH_take (i := 0) (oi := ⟨some 7, _, _, _, _, _⟩) (v := ?v0n_1) rfl (by kernel_rfl) (by kernel_rfl) (by kernel_rfl) (fun _ _ _ h => h) (Or.inl ⟨by rfl, ?y0n_1⟩) (by assumption) ?r0n_1
  case y0n_1 => (intro w hSw; (try dsimp only at hSw); (try go_split_ands); go_simp); (try with_reducible rfl)
  case r0n_1 =>
  (try simp only [Act.put, List.setIfInBounds_toArray, List.set_cons_zero, List.set_cons_succ])
  refine wpAnyH_take (i := 1) (oi := ⟨some 8, _, _, _, _, _⟩) (v := ?v1n_4) rfl (by kernel_rfl) (by kernel_rfl) (by kernel_rfl) (fun _ _ _ h => h) (Or.inl ⟨by rfl, ?y1n_4⟩) (by assumption) ?r1n_4
  case y1n_4 => (intro w hSw; (try dsimp only at hSw); (try go_split_ands); go_simp); (try with_reducible rfl)
  case r1n_4 =>
  (try simp only [Act.put, List.setIfInBounds_toArray, List.set_cons_zero, List.set_cons_succ])
  refine wpAnyH_take (i := 2) (oi := ⟨some 9, _, _, _, _, _⟩) (v := ?v2n_7) rfl (by kernel_rfl) (by kernel_rfl) (by kernel_rfl) (fun _ _ _ h => h) (Or.inl ⟨by rfl, ?y2n_7⟩) (by assumption) ?r2n_7
  case y2n_7 => (intro w hSw; (try dsimp only at hSw); (try go_split_ands); go_simp); (try with_reducible rfl)
  case r2n_7 =>
  (try simp only [Act.put, List.setIfInBounds_toArray, List.set_cons_zero, List.set_cons_succ])
  refine wpAnyH_take (i := 3) (oi := ⟨some 10, _, _, _, _, _⟩) (v := ?v3n_10) rfl (by kernel_rfl) (by kernel_rfl) (by kernel_rfl) (fun _ _ _ h => h) (Or.inl ⟨by rfl, ?y3n_10⟩) (by assumption) ?r3n_10
  case y3n_10 => (intro w hSw; (try dsimp only at hSw); (try go_split_ands); go_simp); (try with_reducible rfl)
  case r3n_10 =>
  (try simp only [Act.put, List.setIfInBounds_toArray, List.set_cons_zero, List.set_cons_succ])
  refine wpAnyH_take (i := 7) (oi := ⟨some 14, _, _, _, _, _⟩) (v := ?v7n_13) rfl (by kernel_rfl) (by kernel_rfl) (by kernel_rfl) (fun _ _ _ h => h) (Or.inl ⟨by rfl, ?y7n_13⟩) (by assumption) ?r7n_13
  case y7n_13 => (intro w hSw; (try dsimp only at hSw); (try go_split_ands); go_simp); (try with_reducible rfl)
  case r7n_13 =>
  (try simp only [Act.put, List.setIfInBounds_toArray, List.set_cons_zero, List.set_cons_succ])
  refine wpAnyH_ready (rs := [4, 6]) (by kernel_rfl) (by simp) ?_
  refine AllReadyH.cons (o := ⟨some 11, _, _, _, _, _⟩) rfl (fun K hK => ?_) (AllReadyH.cons (o := ⟨some 13, _, _, _, _, _⟩) rfl (fun K hK => ?_) AllReadyH.nil)
  · go_simp
    have hb4 : Below w.heap.size w (w2.drew.alloc (.cells #[.int .i64 1, .string ⟨#[]⟩, .string ⟨#[]⟩, .int .i64 l[0], .int .i64 1, .int .i64 0, .int .i64 0, .string ⟨#[]⟩, .int .i64 0] 39)) := hb.alloc (by (try simp) <;> omega) _
    have hA4 := bkeep hb4 a0 hg
    have hz4 : (w2.drew.alloc (.cells #[.int .i64 1, .string ⟨#[]⟩, .string ⟨#[]⟩, .int .i64 l[0], .int .i64 1, .int .i64 0, .int .i64 0, .string ⟨#[]⟩, .int .i64 0] 39)).ownsRow w.heap.size 39 9 (.slice (some ⟨w2.heap.size, 0, none⟩) 1 1) 1 (flatZ (mp1 l).zs) := by
      rw [mp1_flat h1.1]
      have h9 := World.ownsRow_lit (base := w.heap.size) (e := 39) (size := 9) w2.drew #[.int .i64 1, .string ⟨#[]⟩, .string ⟨#[]⟩, .int .i64 l[0], .int .i64 1, .int .i64 0, .int .i64 0, .string ⟨#[]⟩, .int .i64 0] 1 (by (try simp) <;> omega) (by unfold maxLen; omega) rfl
      simpa using h9
    refine hK.out _ _ (by assumption) (fun hHeld => ?_)
    clear hK K
    (try simp only [Act.put, List.setIfInBounds_toArray, List.set_cons_zero, List.set_cons_succ])
    refine wpAnyH_take (i := 5) (oi := ⟨some 12, _, _, _, _, _⟩) (v := ?v5n_28) rfl (by kernel_rfl) (by kernel_rfl) (by kernel_rfl) (fun _ _ _ h => h) (Or.inl ⟨by rfl, ?y5n_28⟩) (by assumption) ?r5n_28
    case y5n_28 => (intro w hSw; (try dsimp only at hSw); (try go_split_ands); go_simp); (try with_reducible rfl)
    case r5n_28 =>
    (try simp only [Act.put, List.setIfInBounds_toArray, List.set_cons_zero, List.set_cons_succ])
    refine wpAnyH_ready (rs := [6]) (by kernel_rfl) (by simp) ?_
    refine AllReadyH.cons (o := ⟨some 13, _, _, _, _, _⟩) rfl (fun K hK => ?_) AllReadyH.nil
    go_simp
    have hb46 : Below w.heap.size w ((w2.drew.alloc (.cells #[.int .i64 1, .string ⟨#[]⟩, .string ⟨#[]⟩, .int .i64 l[0], .int .i64 1, .int .i64 0, .int .i64 0, .string ⟨#[]⟩, .int .i64 0] 39)).alloc (.cells #[] 3)) := hb4.alloc (by (try simp) <;> omega) _
    have hA46 := bkeep hb46 a0 hg
    have hz4 := hz4.alloc (.cells #[] 3)
    have he6 : ((w2.drew.alloc (.cells #[.int .i64 1, .string ⟨#[]⟩, .string ⟨#[]⟩, .int .i64 l[0], .int .i64 1, .int .i64 0, .int .i64 0, .string ⟨#[]⟩, .int .i64 0] 39)).alloc (.cells #[] 3)).ownsRow w.heap.size 3 1 (.slice (some ⟨(w2.heap.size + 1), 0, none⟩) 0 0) 0 [] := owns_lit0 (by simp) (by (try simp) <;> omega)
    refine hK.out _ _ (by assumption) (fun hHeld => ?_)
    clear hK K
    (try simp only [Act.put, List.setIfInBounds_toArray, List.set_cons_zero, List.set_cons_succ])
    refine wpAnyH_ready (rs := [8]) (by kernel_rfl) (by simp) ?_
    refine AllReadyH.cons (o := ⟨some 15, _, _, _, _, _⟩) rfl (fun K hK => ?_) AllReadyH.nil
    refine step_append_cells rfl (.tmp 13) (.tmp 14) 22 rfl w.heap.size 3 i0 (.int .i64 0) 1 8 Try.underlying22 hi0 hz0 hz1 hz2 rfl (by decide) (.slice (some ⟨(w2.heap.size + 1), 0, none⟩) 0 0) 0 [] rfl he6 w.heap.size (some ⟨g, og, none⟩) l.length cc (intsV l) rfl (cells_keep HC.out hb46 (Nat.le_refl _)) (intsV_one l) (by unfold maxLen; omega) (by omega) (by (try simp) <;> omega) ?_
    intro v5 w5 ho5 ht5 hv5
    rw [Nat.zero_add, List.nil_append] at ho5
    have hs5 := ht5.size
    simp at hs5
    obtain ⟨g5, c5, hv, _, hg5l, hn5, hc5⟩ := own_form ho5 (by omega)
    subst hv
    simp [Value.ownBlock] at hv5
    have hb468 : Below w.heap.size w w5 := hb46.trans ⟨ht5.os, ht5.tape, ht5.output, ht5.size, fun q hq => ht5.block q (by (try simp) <;> omega) (fun e => by simp [Value.ownBlock] at e; omega)⟩
    have hA468 := bkeep hb468 a0 hg
    have hz4 := ht5.own hz4 (fun q hq hd => by simp [Value.ownBlock] at hq hd; omega)
    refine hK.out _ _ (by assumption) (fun hHeld => ?_)
    clear hK K
    (try simp only [Act.put, List.setIfInBounds_toArray, List.set_cons_zero, List.set_cons_succ])
    refine wpAnyH_take (i := 9) (oi := ⟨some 16, _, _, _, _, _⟩) (v := ?v9n_57) rfl (by kernel_rfl) (by kernel_rfl) (by kernel_rfl) (fun _ _ _ h => h) (Or.inl ⟨by rfl, ?y9n_57⟩) (by assumption) ?r9n_57
    case y9n_57 => (intro w hSw; (try dsimp only at hSw); (try go_split_ands); go_simp); (try with_reducible rfl)
    case r9n_57 =>
    (try simp only [Act.put, List.setIfInBounds_toArray, List.set_cons_zero, List.set_cons_succ])
    refine wpAnyH_ready (rs := [10]) (by kernel_rfl) (by simp) ?_
    refine AllReadyH.cons (o := ⟨some 17, _, _, _, _, _⟩) rfl (fun K hK => ?_) AllReadyH.nil
    go_simp
    have hA10 := bkeep (hb468.alloc (by (try simp) <;> omega) (.cells #[.int .i64 1, .int .i64 2, .slice (some ⟨w2.heap.size, 0, none⟩) 1 1, .slice (some ⟨g5, 0, none⟩) l.length c5] 44)) a0 hg
    refine hK.out _ _ (by assumption) (fun hHeld => ?_)
    clear hK K
    (try simp only [Act.put, List.setIfInBounds_toArray, List.set_cons_zero, List.set_cons_succ])
    refine wpAnyH_take (i := 11) (oi := ⟨some 2, _, _, _, _, _⟩) (v := ?v11n_67) rfl (by kernel_rfl) (by kernel_rfl) (by kernel_rfl) (fun _ _ _ h => h) (Or.inl ⟨by rfl, ?y11n_67⟩) (by assumption) ?r11n_67
    case y11n_67 => (intro w hSw; (try dsimp only at hSw); (try go_split_ands); go_simp); (try with_reducible rfl)
    case r11n_67 =>
    (try simp only [Act.put, List.setIfInBounds_toArray, List.set_cons_zero, List.set_cons_succ])
    refine wpAnyH_take (i := 12) (oi := ⟨some 3, _, _, _, _, _⟩) (v := ?v12n_70) rfl (by kernel_rfl) (by kernel_rfl) (by kernel_rfl) (fun _ _ _ h => h) (Or.inl ⟨by rfl, ?y12n_70⟩) (by assumption) ?r12n_70
    case y12n_70 => (intro w hSw; (try dsimp only at hSw); (try go_split_ands); go_simp); (try with_reducible rfl)
    case r12n_70 =>
    (try simp only [Act.put, List.setIfInBounds_toArray, List.set_cons_zero, List.set_cons_succ])
    refine wpAnyH_done (by kernel_rfl) ?_ _
    go_wp2_with fail
    refine bodyPost_ret (v := .tuple #[.pointer (some ⟨w5.heap.size, 0, none⟩), .int .i64 0]) (by simp [results, Try.results30, go_sem]) rfl ⟨w5.heap.size, .slice (some ⟨g5, 0, none⟩) l.length c5, .slice (some ⟨w2.heap.size, 0, none⟩) 1 1, rfl, ?_, hb468.alloc (by (try simp) <;> omega) _⟩
    refine mkRd _ w5 _ _ _ l (by simp) ho5 hz4 (fun q hq e => ?_) (by (try simp) <;> omega)
    simp [Value.ownBlock] at e hq
    omega
  · go_simp
    have hb6 : Below w.heap.size w (w2.drew.alloc (.cells #[] 3)) := hb.alloc (by (try simp) <;> omega) _
    have hA6 := bkeep hb6 a0 hg
    have he6 : (w2.drew.alloc (.cells #[] 3)).ownsRow w.heap.size 3 1 (.slice (some ⟨w2.heap.size, 0, none⟩) 0 0) 0 [] := owns_lit0 (by simp) (by (try simp) <;> omega)
    refine hK.out _ _ (by assumption) (fun hHeld => ?_)
    clear hK K
    (try simp only [Act.put, List.setIfInBounds_toArray, List.set_cons_zero, List.set_cons_succ])
    refine wpAnyH_ready (rs := [4, 8]) (by kernel_rfl) (by simp) ?_
    refine AllReadyH.cons (o := ⟨some 11, _, _, _, _, _⟩) rfl (fun K hK => ?_) (AllReadyH.cons (o := ⟨some 15, _, _, _, _, _⟩) rfl (fun K hK => ?_) AllReadyH.nil)
    · go_simp
      have hb64 : Below w.heap.size w ((w2.drew.alloc (.cells #[] 3)).alloc (.cells #[.int .i64 1, .string ⟨#[]⟩, .string ⟨#[]⟩, .int .i64 l[0], .int .i64 1, .int .i64 0, .int .i64 0, .string ⟨#[]⟩, .int .i64 0] 39)) := hb6.alloc (by (try simp) <;> omega) _
      have hA64 := bkeep hb64 a0 hg
      have hz4 : ((w2.drew.alloc (.cells #[] 3)).alloc (.cells #[.int .i64 1, .string ⟨#[]⟩, .string ⟨#[]⟩, .int .i64 l[0], .int .i64 1, .int .i64 0, .int .i64 0, .string ⟨#[]⟩, .int .i64 0] 39)).ownsRow w.heap.size 39 9 (.slice (some ⟨(w2.heap.size + 1), 0, none⟩) 1 1) 1 (flatZ (mp1 l).zs) := by
        rw [mp1_flat h1.1]
        have h9 := World.ownsRow_lit (base := w.heap.size) (e := 39) (size := 9) (w2.drew.alloc (.cells #[] 3)) #[.int .i64 1, .string ⟨#[]⟩, .string ⟨#[]⟩, .int .i64 l[0], .int .i64 1, .int .i64 0, .int .i64 0, .string ⟨#[]⟩, .int .i64 0] 1 (by (try simp) <;> omega) (by unfold maxLen; omega) rfl
        simpa using h9
      have he6 := he6.alloc (.cells #[.int .i64 1, .string ⟨#[]⟩, .string ⟨#[]⟩, .int .i64 l[0], .int .i64 1, .int .i64 0, .int .i64 0, .string ⟨#[]⟩, .int .i64 0] 39)
      refine hK.out _ _ (by assumption) (fun hHeld => ?_)
      clear hK K
      (try simp only [Act.put, List.setIfInBounds_toArray, List.set_cons_zero, List.set_cons_succ])
      refine wpAnyH_take (i := 5) (oi := ⟨some 12, _, _, _, _, _⟩) (v := ?v5n_99) rfl (by kernel_rfl) (by kernel_rfl) (by kernel_rfl) (fun _ _ _ h => h) (Or.inl ⟨by rfl, ?y5n_99⟩) (by assumption) ?r5n_99
      case y5n_99 => (intro w hSw; (try dsimp only at hSw); (try go_split_ands); go_simp); (try with_reducible rfl)
      case r5n_99 =>
      (try simp only [Act.put, List.setIfInBounds_toArray, List.set_cons_zero, List.set_cons_succ])
      refine wpAnyH_ready (rs := [8]) (by kernel_rfl) (by simp) ?_
      refine AllReadyH.cons (o := ⟨some 15, _, _, _, _, _⟩) rfl (fun K hK => ?_) AllReadyH.nil
      refine step_append_cells rfl (.tmp 13) (.tmp 14) 22 rfl w.heap.size 3 i0 (.int .i64 0) 1 8 Try.underlying22 hi0 hz0 hz1 hz2 rfl (by decide) (.slice (some ⟨w2.heap.size, 0, none⟩) 0 0) 0 [] rfl he6 w.heap.size (some ⟨g, og, none⟩) l.length cc (intsV l) rfl (cells_keep HC.out hb64 (Nat.le_refl _)) (intsV_one l) (by unfold maxLen; omega) (by omega) (by (try simp) <;> omega) ?_
      intro v5 w5 ho5 ht5 hv5
      rw [Nat.zero_add, List.nil_append] at ho5
      have hs5 := ht5.size
      simp at hs5
      obtain ⟨g5, c5, hv, _, hg5l, hn5, hc5⟩ := own_form ho5 (by omega)
      subst hv
      simp [Value.ownBlock] at hv5
      have hb648 : Below w.heap.size w w5 := hb64.trans ⟨ht5.os, ht5.tape, ht5.output, ht5.size, fun q hq => ht5.block q (by (try simp) <;> omega) (fun e => by simp [Value.ownBlock] at e; omega)⟩
      have hA648 := bkeep hb648 a0 hg
      have hz4 := ht5.own hz4 (fun q hq hd => by simp [Value.ownBlock] at hq hd; omega)
      refine hK.out _ _ (by assumption) (fun hHeld => ?_)
      clear hK K
      (try simp only [Act.put, List.setIfInBounds_toArray, List.set_cons_zero, List.set_cons_succ])
      refine wpAnyH_take (i := 9) (oi := ⟨some 16, _, _, _, _, _⟩) (v := ?v9n_118) rfl (by kernel_rfl) (by kernel_rfl) (by kernel_rfl) (fun _ _ _ h => h) (Or.inl ⟨by rfl, ?y9n_118⟩) (by assumption) ?r9n_118
      case y9n_118 => (intro w hSw; (try dsimp only at hSw); (try go_split_ands); go_simp); (try with_reducible rfl)
      case r9n_118 =>
      (try simp only [Act.put, List.setIfInBounds_toArray, List.set_cons_zero, List.set_cons_succ])
      refine wpAnyH_ready (rs := [10]) (by kernel_rfl) (by simp) ?_
      refine AllReadyH.cons (o := ⟨some 17, _, _, _, _, _⟩) rfl (fun K hK => ?_) AllReadyH.nil
      go_simp
      have hA10 := bkeep (hb648.alloc (by (try simp) <;> omega) (.cells #[.int .i64 1, .int .i64 2, .slice (some ⟨(w2.heap.size + 1), 0, none⟩) 1 1, .slice (some ⟨g5, 0, none⟩) l.length c5] 44)) a0 hg
      refine hK.out _ _ (by assumption) (fun hHeld => ?_)
      clear hK K
      (try simp only [Act.put, List.setIfInBounds_toArray, List.set_cons_zero, List.set_cons_succ])
      refine wpAnyH_take (i := 11) (oi := ⟨some 2, _, _, _, _, _⟩) (v := ?v11n_128) rfl (by kernel_rfl) (by kernel_rfl) (by kernel_rfl) (fun _ _ _ h => h) (Or.inl ⟨by rfl, ?y11n_128⟩) (by assumption) ?r11n_128
      case y11n_128 => (intro w hSw; (try dsimp only at hSw); (try go_split_ands); go_simp); (try with_reducible rfl)
      case r11n_128 =>
      (try simp only [Act.put, List.setIfInBounds_toArray, List.set_cons_zero, List.set_cons_succ])
      refine wpAnyH_take (i := 12) (oi := ⟨some 3, _, _, _, _, _⟩) (v := ?v12n_131) rfl (by kernel_rfl) (by kernel_rfl) (by kernel_rfl) (fun _ _ _ h => h) (Or.inl ⟨by rfl, ?y12n_131⟩) (by assumption) ?r12n_131
      case y12n_131 => (intro w hSw; (try dsimp only at hSw); (try go_split_ands); go_simp); (try with_reducible rfl)
      case r12n_131 =>
      (try simp only [Act.put, List.setIfInBounds_toArray, List.set_cons_zero, List.set_cons_succ])
      refine wpAnyH_done (by kernel_rfl) ?_ _
      go_wp2_with fail
      refine bodyPost_ret (v := .tuple #[.pointer (some ⟨w5.heap.size, 0, none⟩), .int .i64 0]) (by simp [results, Try.results30, go_sem]) rfl ⟨w5.heap.size, .slice (some ⟨g5, 0, none⟩) l.length c5, .slice (some ⟨(w2.heap.size + 1), 0, none⟩) 1 1, rfl, ?_, hb648.alloc (by (try simp) <;> omega) _⟩
      refine mkRd _ w5 _ _ _ l (by simp) ho5 hz4 (fun q hq e => ?_) (by (try simp) <;> omega)
      simp [Value.ownBlock] at e hq
      omega
    · refine step_append_cells rfl (.tmp 13) (.tmp 14) 22 rfl w.heap.size 3 i0 (.int .i64 0) 1 8 Try.underlying22 hi0 hz0 hz1 hz2 rfl (by decide) (.slice (some ⟨w2.heap.size, 0, none⟩) 0 0) 0 [] rfl he6 w.heap.size (some ⟨g, og, none⟩) l.length cc (intsV l) rfl (cells_keep HC.out hb6 (Nat.le_refl _)) (intsV_one l) (by unfold maxLen; omega) (by omega) (by (try simp) <;> omega) ?_
      intro v5 w5 ho5 ht5 hv5
      rw [Nat.zero_add, List.nil_append] at ho5
      have hs5 := ht5.size
      simp at hs5
      obtain ⟨g5, c5, hv, _, hg5l, hn5, hc5⟩ := own_form ho5 (by omega)
      subst hv
      simp [Value.ownBlock] at hv5
      have hb68 : Below w.heap.size w w5 := hb6.trans ⟨ht5.os, ht5.tape, ht5.output, ht5.size, fun q hq => ht5.block q (by (try simp) <;> omega) (fun e => by simp [Value.ownBlock] at e; omega)⟩
      have hA68 := bkeep hb68 a0 hg
      refine hK.out _ _ (by assumption) (fun hHeld => ?_)
      clear hK K
      (try simp only [Act.put, List.setIfInBounds_toArray, List.set_cons_zero, List.set_cons_succ])
      refine wpAnyH_ready (rs := [4]) (by kernel_rfl) (by simp) ?_
      refine AllReadyH.cons (o := ⟨some 11, _, _, _, _, _⟩) rfl (fun K hK => ?_) AllReadyH.nil
      go_simp
      have hb684 : Below w.heap.size w (w5.alloc (.cells #[.int .i64 1, .string ⟨#[]⟩, .string ⟨#[]⟩, .int .i64 l[0], .int .i64 1, .int .i64 0, .int .i64 0, .string ⟨#[]⟩, .int .i64 0] 39)) := hb68.alloc (by (try simp) <;> omega) _
      have hA684 := bkeep hb684 a0 hg
      have hz4 : (w5.alloc (.cells #[.int .i64 1, .string ⟨#[]⟩, .string ⟨#[]⟩, .int .i64 l[0], .int .i64 1, .int .i64 0, .int .i64 0, .string ⟨#[]⟩, .int .i64 0] 39)).ownsRow w.heap.size 39 9 (.slice (some ⟨w5.heap.size, 0, none⟩) 1 1) 1 (flatZ (mp1 l).zs) := by
        rw [mp1_flat h1.1]
        have h9 := World.ownsRow_lit (base := w.heap.size) (e := 39) (size := 9) w5 #[.int .i64 1, .string ⟨#[]⟩, .string ⟨#[]⟩, .int .i64 l[0], .int .i64 1, .int .i64 0, .int .i64 0, .string ⟨#[]⟩, .int .i64 0] 1 (by (try simp) <;> omega) (by unfold maxLen; omega) rfl
        simpa using h9
      refine hK.out _ _ (by assumption) (fun hHeld => ?_)
      clear hK K
      (try simp only [Act.put, List.setIfInBounds_toArray, List.set_cons_zero, List.set_cons_succ])
      refine wpAnyH_take (i := 5) (oi := ⟨some 12, _, _, _, _, _⟩) (v := ?v5n_165) rfl (by kernel_rfl) (by kernel_rfl) (by kernel_rfl) (fun _ _ _ h => h) (Or.inl ⟨by rfl, ?y5n_165⟩) (by assumption) ?r5n_165
      case y5n_165 => (intro w hSw; (try dsimp only at hSw); (try go_split_ands); go_simp); (try with_reducible rfl)
      case r5n_165 =>
      (try simp only [Act.put, List.setIfInBounds_toArray, List.set_cons_zero, List.set_cons_succ])
      refine wpAnyH_take (i := 9) (oi := ⟨some 16, _, _, _, _, _⟩) (v := ?v9n_168) rfl (by kernel_rfl) (by kernel_rfl) (by kernel_rfl) (fun _ _ _ h => h) (Or.inl ⟨by rfl, ?y9n_168⟩) (by assumption) ?r9n_168
      case y9n_168 => (intro w hSw; (try dsimp only at hSw); (try go_split_ands); go_simp); (try with_reducible rfl)
      case r9n_168 =>
      (try simp only [Act.put, List.setIfInBounds_toArray, List.set_cons_zero, List.set_cons_succ])
      refine wpAnyH_ready (rs := [10]) (by kernel_rfl) (by simp) ?_
      refine AllReadyH.cons (o := ⟨some 17, _, _, _, _, _⟩) rfl (fun K hK => ?_) AllReadyH.nil
      go_simp
      have hA10 := bkeep (hb684.alloc (by (try simp) <;> omega) (.cells #[.int .i64 1, .int .i64 2, .slice (some ⟨w5.heap.size, 0, none⟩) 1 1, .slice (some ⟨g5, 0, none⟩) l.length c5] 44)) a0 hg
      refine hK.out _ _ (by assumption) (fun hHeld => ?_)
      clear hK K
      (try simp only [Act.put, List.setIfInBounds_toArray, List.set_cons_zero, List.set_cons_succ])
      refine wpAnyH_take (i := 11) (oi := ⟨some 2, _, _, _, _, _⟩) (v := ?v11n_178) rfl (by kernel_rfl) (by kernel_rfl) (by kernel_rfl) (fun _ _ _ h => h) (Or.inl ⟨by rfl, ?y11n_178⟩) (by assumption) ?r11n_178
      case y11n_178 => (intro w hSw; (try dsimp only at hSw); (try go_split_ands); go_simp); (try with_reducible rfl)
      case r11n_178 =>
      (try simp only [Act.put, List.setIfInBounds_toArray, List.set_cons_zero, List.set_cons_succ])
      refine wpAnyH_take (i := 12) (oi := ⟨some 3, _, _, _, _, _⟩) (v := ?v12n_181) rfl (by kernel_rfl) (by kernel_rfl) (by kernel_rfl) (fun _ _ _ h => h) (Or.inl ⟨by rfl, ?y12n_181⟩) (by assumption) ?r12n_181
      case y12n_181 => (intro w hSw; (try dsimp only at hSw); (try go_split_ands); go_simp); (try with_reducible rfl)
      case r12n_181 =>
      (try simp only [Act.put, List.setIfInBounds_toArray, List.set_cons_zero, List.set_cons_succ])
      refine wpAnyH_done (by kernel_rfl) ?_ _
      go_wp2_with fail
      refine bodyPost_ret (v := .tuple #[.pointer (some ⟨(w5.heap.size + 1), 0, none⟩), .int .i64 0]) (by simp [results, Try.results30, go_sem]) rfl ⟨(w5.heap.size + 1), .slice (some ⟨g5, 0, none⟩) l.length c5, .slice (some ⟨w5.heap.size, 0, none⟩) 1 1, rfl, ?_, hb684.alloc (by (try simp) <;> omega) _⟩
      refine mkRd _ (w5.alloc (.cells #[.int .i64 1, .string ⟨#[]⟩, .string ⟨#[]⟩, .int .i64 l[0], .int .i64 1, .int .i64 0, .int .i64 0, .string ⟨#[]⟩, .int .i64 0] 39)) _ _ _ l (by simp) (ho5.alloc _) hz4 (fun q hq e => ?_) (by (try simp) <;> omega)
      simp [Value.ownBlock] at e hq
      omega
end Go.Proofs.Ytbohpjinkdffhaa
