/- The directory: where a zone stands. -/
import Derived.Test.YtbohpjinkdffhaaDrC
namespace Go.Proofs.Ytbohpjinkdffhaa
open Go.RowKit
set_option linter.unusedVariables false
set_option linter.unusedSimpArgs false

/-- the first zone with this ID stands there; -1: none has it -/
def At (l : List Zn) (id : Int) (n : Nat) (k : Int) : Prop := (k = -1 ∧ ∀ j (hj : j < l.length), j < n → l[j].id ≠ id) ∨ ∃ i : Nat, k = i ∧ ∃ h : i < l.length, l[i].id = id ∧ ∀ j (hj : j < l.length), j < i → l[j].id ≠ id
theorem drIs (p : Nat) (z : Zn) (zid zo : Int) (w : World) (l1 : w.cell? ⟨p, 1, none⟩ = some (.int .i64 zo)) :
    Calls Try.prog 38 #[.agg #[.int .i64 zid, .string z.fr, .string z.tt, .int .i64 z.ow, .int .i64 z.ep, .int .i64 z.pd, .int .i64 z.mv, .string z.ky, .int .i64 z.nw], .pointer (some ⟨p, 0, none⟩)] w fun e w' => e = .returned (.bool (decide (zid = zo))) ∧ Below w.heap.size w w' := by
  have hpl : p < w.heap.size := World.block_lt_of_cell? w ⟨p, 1, none⟩ l1
  go_enter Try.func38, Try.ntmps38
  go_wp2_with fail
  go_ret
  exact ⟨ret_bool (by first | rfl | simp), by ((repeat (first | (with_reducible exact Below.refl _ _) | (with_reducible assumption) | ((with_reducible refine b_set ?_ ?_); · (first | omega | (simp; done) | (simp; omega))) | ((with_reducible refine b_alloc ?_ ?_); · (first | omega | (simp; done) | (simp; omega))) | (with_reducible refine Below.drew ?_) | (with_reducible refine b_drewN ?_) | ((with_reducible refine b_call (by assumption) ?_ ?_); · (first | omega | (simp; done) | (simp; omega))))); done)⟩
set_option maxHeartbeats 4000000 in
set_option maxRecDepth 10000 in
theorem drIndex (B p : Nat) (zv : Value) (l : List Zn) (c : Ch) (w : World) (h : w.ownsRow B 39 9 zv l.length (flatZ l)) (hp : Whl w p 47 #[.int .i64 c.kd, .int .i64 c.zo, .int .i64 c.ep, .int .i64 c.mv, .string c.ky]) (hl : l.length ≤ 1000) :
    Calls Try.prog 37 #[zv, .func (.func 38) #[] #[.pointer (some ⟨p, 0, none⟩)]] w fun e w' => ∃ k, e = .returned (.int .i64 k) ∧ At l c.zo l.length k ∧ Below w.heap.size w w' := by
  have HR := Lib.hid h
  obtain ⟨A, cc, hzv, _, hnc, hcm⟩ := own_slice h
  subst hzv
  have l1 := hp.cell 1
  simp only [List.getElem?_toArray, List.getElem?_cons_succ, List.getElem?_cons_zero] at l1
  have hpl := hp.low
  clear h hp
  go_enter Try.func37, Try.ntmps37
  go_wp2_with fail
  go_loopw [8] (fun iv wr => ∃ i : Nat, i ≤ l.length ∧ iv = .int .i64 i ∧ (∀ j (hj : j < l.length), j < i → l[j].id ≠ c.zo) ∧ Below w.heap.size w wr) (fun iv _ => l.length - (intOf iv).toNat)
  case atStart => exact ⟨0, Nat.zero_le _, rfl, fun j hj h => by omega, Below.refl _ _⟩
  case round =>
    obtain ⟨i, hil, rfl, hno, hBw⟩ := hrel
    have HBW := Lib.hid hBw
    have HNO := Lib.hid hno
    have hsw := hBw.size
    have l2 := bkeep hBw l1 hpl
    by_cases hlt : i < l.length
    · have q3 : (i : Int) < (l.length : Int) := by omega
      have hr := row_belowZ HR.out hBw
      obtain ⟨gu, ku, e5, _, hgu, _, _⟩ := own_form hr (by omega)
      injection e5 with e5 e6 e7
      subst e5 e7
      obtain ⟨z, hz⟩ : ∃ z, z = l[i] := ⟨_, rfl⟩
      obtain ⟨a0, a1, a2, a3, a4, a5, a6, a7, a8⟩ := rowZ_at hr hlt
      rw [← hz] at a0 a1 a2 a3 a4 a5 a6 a7 a8
      have HZ := Lib.hid hz
      clear hr hBw hz hno
      by_cases hk : z.id = c.zo
      · go_wp2_with (first
          | (go_at_call 38; go_loud (refine (drIs p z _ c.zo _ l2).mono ?_; rintro e w2 ⟨he, hb2⟩; rw [decide_eq_true rfl] at he; subst he; have HB2 := Lib.hid hb2; clear hb2))
          | fail)
        go_ret
        exact ⟨_, rfl, .inr ⟨i, rfl, hlt, by rw [← HZ.out]; exact hk, HNO.out⟩, HBW.out.trans (HB2.out.mono hsw)⟩
      · go_wp2_with (first
          | (go_at_call 38; go_loud (refine (drIs p z _ c.zo _ l2).mono ?_; rintro e w2 ⟨he, hb2⟩; rw [decide_eq_false hk] at he; subst he; have HB2 := Lib.hid hb2; clear hb2))
          | fail)
        refine ⟨⟨i + 1, hlt, by go_num, fun j hj h => ?_, HBW.out.trans (HB2.out.mono hsw)⟩, measZ hlt⟩
        by_cases e : j = i
        · subst e; rw [← HZ.out]; exact hk
        · exact HNO.out j hj (by omega)
    · obtain rfl : l.length = i := by omega
      go_wp2_with fail
      go_ret
      exact ⟨_, rfl, .inl ⟨rfl, HNO.out⟩, HBW.out⟩
end Go.Proofs.Ytbohpjinkdffhaa
