/- The document's directory: Hosts. -/
import Derived.Test.YtbohpjinkdffhaaRdE
namespace Go.Proofs.Ytbohpjinkdffhaa
open Go.RowKit
set_option linter.unusedVariables false
set_option linter.unusedSimpArgs false

set_option maxHeartbeats 8000000 in
set_option maxRecDepth 10000 in
theorem rdHosts (B : Nat) (hv : Value) (l : List Int) (w : World) (h : w.ownsRow B 3 1 hv l.length (intsV l)) (hl : l.length ≤ 100000) :
    Calls Try.prog 63 #[hv] w fun e w' => e = .returned (.bool (hostsB l)) ∧ Below w.heap.size w w' := by
  have HR := Lib.hid h
  obtain ⟨A, cc, hzv, _, hnc, hcm⟩ := own_slice h
  subst hzv
  clear h
  have hb : hostsB l = (decide (1 ≤ l.length) && decide (l.length ≤ 6) && okFrom 7 l) := rfl
  have HHB := Lib.hid hb
  clear hb
  go_enter Try.func63, Try.ntmps63
  go_wp2_with fail
  go_loopw [3] (fun iv wr => ∃ (i : Nat) (a : Int), i ≤ l.length ∧ iv = .int .i64 i ∧ okFrom 7 l = okFrom a (l.drop i) ∧ ((i = 0 ∧ a = 7) ∨ (∃ h : i - 1 < l.length, 1 ≤ i ∧ a = l[i - 1] ∧ 8 ≤ a)) ∧ Below w.heap.size w wr) (fun iv _ => l.length - (intOf iv).toNat)
  case atStart => exact ⟨0, 7, Nat.zero_le _, rfl, rfl, .inl ⟨rfl, rfl⟩, by ((repeat (first | (with_reducible exact Below.refl _ _) | (with_reducible assumption) | ((with_reducible refine b_set ?_ ?_); · (first | omega | (simp; done) | (simp; omega))) | ((with_reducible refine b_alloc ?_ ?_); · (first | omega | (simp; done) | (simp; omega))) | (with_reducible refine Below.drew ?_) | (with_reducible refine b_drewN ?_) | ((with_reducible refine b_call (by assumption) ?_ ?_); · (first | omega | (simp; done) | (simp; omega))))); done)⟩
  case round =>
    obtain ⟨i, a, hil, rfl, hok, hia, hBw⟩ := hrel
    have HBW := Lib.hid hBw
    have HOK := Lib.hid hok
    by_cases hlt : i < l.length
    · have q3 : (i : Int) < (l.length : Int) := by omega
      have hr := row_belowZ HR.out hBw
      obtain ⟨gu, ku, e5, _, hgu, _, _⟩ := own_form hr (by omega)
      injection e5 with e5 e6 e7
      subst e5 e7
      have a0 := (hr.cellAt i (by omega)).trans (intsV_at hlt)
      obtain ⟨z, hz⟩ : ∃ z, z = l[i] := ⟨_, rfl⟩
      rw [← hz] at a0
      have hdr : l.drop i = z :: l.drop (i + 1) := by rw [hz]; exact List.drop_eq_getElem_cons hlt
      have HDR := Lib.hid hdr
      have HZ := Lib.hid hz
      rcases hia with ⟨h0, ha⟩ | ⟨h0, h1, ha, ha8⟩
      · clear hr hBw hz hok hdr
        subst h0
        subst ha
        rw [Nat.zero_add] at HDR
        have a0 : wr.cell? ⟨gu, 0, none⟩ = some (.int .i64 z) := by simpa using a0
        have kz : decide ((0 : Int) < ((0 : Nat) : Int)) = false := by simp
        by_cases k1 : z < 8
        · have k1b : decide (z < 8) = true := by simpa using k1
          go_wp2_with fail
          go_quiet (fail)
          go_wp2_with fail
          go_ret
          refine ⟨ret_bool ?_, b_drewN HBW.out⟩
          rw [HHB.out, HOK.out, HDR.out]
          show _ = (decide (1 ≤ l.length) && decide (l.length ≤ 6) && (decide (7 < z) && decide (z < 14) && okFrom z _))
          rw [decide_eq_false (show ¬ 7 < z by omega)]
          simp
        by_cases k2 : (14 : Int) ≤ z
        · have k1b : decide (z < 8) = false := by simpa using k1
          have k2b : decide ((14 : Int) ≤ z) = true := by simpa using k2
          go_wp2_with fail
          go_quiet (fail)
          go_wp2_with fail
          go_ret
          refine ⟨ret_bool ?_, b_drewN HBW.out⟩
          rw [HHB.out, HOK.out, HDR.out]
          show _ = (decide (1 ≤ l.length) && decide (l.length ≤ 6) && (decide (7 < z) && decide (z < 14) && okFrom z _))
          rw [decide_eq_false (show ¬ z < 14 by omega), Bool.and_false]
          simp
        have k1b : decide (z < 8) = false := by simpa using k1
        have k2b : decide ((14 : Int) ≤ z) = false := by simpa using k2
        go_wp2_with fail
        go_quiet (fail)
        go_wp2_with fail
        refine ⟨⟨0 + 1, z, hlt, by go_num, ?_, .inr ⟨by simpa using hlt, Nat.succ_pos _, by simp [HZ.out], by omega⟩, b_drewN HBW.out⟩, measZ hlt⟩
        rw [HOK.out, HDR.out]
        show (decide (7 < z) && decide (z < 14) && okFrom z (l.drop (0 + 1))) = _
        rw [decide_eq_true (show 7 < z by omega), decide_eq_true (show z < 14 by omega)]
        rfl
      · obtain ⟨j, rfl⟩ : ∃ j, i = j + 1 := ⟨i - 1, by omega⟩
        have b0 := (hr.cellAt j (by omega)).trans (intsV_at (show j < l.length by omega))
        obtain ⟨y, hy⟩ : ∃ y, y = l[j] := ⟨_, rfl⟩
        rw [← hy] at b0
        have hay : a = y := by rw [ha, hy]; rfl
        clear hr hBw hz hok hdr ha hy
        subst hay
        have kz : decide ((0 : Int) < ((j + 1 : Nat) : Int)) = true := by simp <;> omega
        have kz2 : decide ((0 : Int) < (j : Int) + 1) = true := by simp <;> omega
        have kj : (j : Int) + 1 - 1 = (j : Int) := by omega
        by_cases k1 : z < 8
        · have k1b : decide (z < 8) = true := by simpa using k1
          go_wp2_with fail
          go_quiet (fail)
          go_wp2_with fail
          go_ret
          refine ⟨ret_bool ?_, b_drewN HBW.out⟩
          rw [HHB.out, HOK.out, HDR.out]
          show _ = (decide (1 ≤ l.length) && decide (l.length ≤ 6) && (decide (a < z) && decide (z < 14) && okFrom z _))
          rw [decide_eq_false (show ¬ a < z by omega)]
          simp
        by_cases k2 : (14 : Int) ≤ z
        · have k1b : decide (z < 8) = false := by simpa using k1
          have k2b : decide ((14 : Int) ≤ z) = true := by simpa using k2
          go_wp2_with fail
          go_quiet (fail)
          go_wp2_with fail
          go_ret
          refine ⟨ret_bool ?_, b_drewN HBW.out⟩
          rw [HHB.out, HOK.out, HDR.out]
          show _ = (decide (1 ≤ l.length) && decide (l.length ≤ 6) && (decide (a < z) && decide (z < 14) && okFrom z _))
          rw [decide_eq_false (show ¬ z < 14 by omega), Bool.and_false]
          simp
        by_cases k3 : z ≤ a
        · have k1b : decide (z < 8) = false := by simpa using k1
          have k2b : decide ((14 : Int) ≤ z) = false := by simpa using k2
          have k3b : decide (z ≤ a) = true := by simpa using k3
          go_wp2_with fail
          go_quiet (fail)
          go_wp2_with fail
          go_ret
          refine ⟨ret_bool ?_, b_drewN HBW.out⟩
          rw [HHB.out, HOK.out, HDR.out]
          show _ = (decide (1 ≤ l.length) && decide (l.length ≤ 6) && (decide (a < z) && decide (z < 14) && okFrom z _))
          rw [decide_eq_false (show ¬ a < z by omega)]
          simp
        have k1b : decide (z < 8) = false := by simpa using k1
        have k2b : decide ((14 : Int) ≤ z) = false := by simpa using k2
        have k3b : decide (z ≤ a) = false := by simpa using k3
        go_wp2_with fail
        go_quiet (fail)
        go_wp2_with fail
        refine ⟨⟨(j + 1) + 1, z, hlt, by go_num, ?_, .inr ⟨by simpa using hlt, Nat.succ_pos _, by simp [HZ.out], by omega⟩, b_drewN HBW.out⟩, measZ hlt⟩
        rw [HOK.out, HDR.out]
        show (decide (a < z) && decide (z < 14) && okFrom z (l.drop ((j + 1) + 1))) = _
        rw [decide_eq_true (show a < z by omega), decide_eq_true (show z < 14 by omega)]
        rfl
    · obtain rfl : l.length = i := by omega
      rw [List.drop_length] at hok
      have hok2 : hostsB l = (decide (1 ≤ l.length) && decide (l.length ≤ 6)) := by rw [HHB.out, hok]; show (_ && true) = _; rw [Bool.and_true]
      have HO2 := Lib.hid hok2
      clear hok hok2 hBw
      by_cases q1 : 1 ≤ l.length
      · have q1b : (1 : Int) ≤ (l.length : Int) := by omega
        by_cases q2 : l.length ≤ 6
        · have q2b : (l.length : Int) ≤ 6 := by omega
          go_wp2_with fail
          go_ret
          refine ⟨ret_bool ?_, HBW.out⟩
          rw [HO2.out, decide_eq_true q1, decide_eq_true q2]; rfl
        · have q2b : ¬ (l.length : Int) ≤ 6 := by omega
          go_wp2_with fail
          go_ret
          refine ⟨ret_bool ?_, HBW.out⟩
          rw [HO2.out, decide_eq_false q2, Bool.and_false]
      · have q1b : ¬ (1 : Int) ≤ (l.length : Int) := by omega
        go_wp2_with fail
        go_ret
        refine ⟨ret_bool ?_, HBW.out⟩
        rw [HO2.out, decide_eq_false q1]; rfl
end Go.Proofs.Ytbohpjinkdffhaa
