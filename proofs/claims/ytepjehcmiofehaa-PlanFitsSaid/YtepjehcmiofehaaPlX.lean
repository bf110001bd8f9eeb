/- the document's 'in', Of: over arguments. -/
import Derived.Test.YtepjehcmiofehaaPlW
namespace Go.Proofs.Ytepjehcmiofehaa
open Go.RowKit
set_option linter.unusedVariables false
set_option linter.unusedSimpArgs false

set_option maxHeartbeats 4000000 in
set_option maxRecDepth 10000 in
theorem rdInC (A : Option Addr) (cc : Nat) (l : List Int) (n : Int) (w : World) (h : Cells w w.heap.size A l.length cc 1 (intsV l)) (hl : l.length ≤ 100000) :
    Calls Try.prog 14 #[.slice A l.length cc, .int .i64 n] w fun e w' => e = .returned (.bool (decide (n ∈ l))) ∧ Below w.heap.size w w' := by
  have HR := Lib.hid h
  clear h
  go_enter Try.func14, Try.ntmps14
  go_wp2_with fail
  go_loopw [5] (fun iv wr => ∃ i : Nat, i ≤ l.length ∧ iv = .int .i64 i ∧ (∀ j (hj : j < l.length), j < i → l[j] ≠ n) ∧ Below w.heap.size w wr) (fun iv _ => l.length - (intOf iv).toNat)
  case atStart => exact ⟨0, Nat.zero_le _, rfl, fun j hj h => by omega, Below.refl _ _⟩
  case round =>
    obtain ⟨i, hil, rfl, hno, hBw⟩ := hrel
    have HBW := Lib.hid hBw
    have HNO := Lib.hid hno
    by_cases hlt : i < l.length
    · have q3 : (i : Int) < (l.length : Int) := by omega
      have hr := HR.out
      obtain ⟨gu, ou, e5, hgu, a0⟩ := hr.2.2 i _ (intsV_at hlt)
      subst e5
      have a0 := bkeep hBw a0 hgu
      obtain ⟨z, hz⟩ : ∃ z, z = l[i] := ⟨_, rfl⟩
      rw [← hz] at a0
      have HZ := Lib.hid hz
      clear hr hBw hz hno
      by_cases hk : z = n
      · go_wp2_with fail
        go_ret
        exact ⟨ret_bool (by rw [decide_eq_true (show n ∈ l by rw [← hk, HZ.out]; exact List.getElem_mem hlt)]), HBW.out⟩
      · have hk2 : (z == n) = false := by simpa using hk
        go_wp2_with fail
        refine ⟨⟨i + 1, hlt, by go_num, fun j hj h => ?_, HBW.out⟩, measZ hlt⟩
        by_cases e : j = i
        · subst e; rw [← HZ.out]; exact hk
        · exact HNO.out j hj (by omega)
    · obtain rfl : l.length = i := by omega
      go_wp2_with fail
      go_ret
      exact ⟨ret_bool (by rw [decide_eq_false (fun hm => by obtain ⟨j, hj, e⟩ := List.getElem_of_mem hm; exact HNO.out j hj hj e)]), HBW.out⟩
set_option maxHeartbeats 4000000 in
set_option maxRecDepth 10000 in
theorem rdOwnC (A : Option Addr) (cc : Nat) (m : Mp) (w : World) (hC : RowZ w A cc m.zs) (hl : m.zs.length ≤ 1000) (h0 : 1 ≤ m.zs.length) :
    Calls Try.prog 15 #[.agg #[.int .i64 m.ver, .int .i64 m.nxt, .slice A m.zs.length cc]] w fun e w' => ∃ v', e = .returned (.agg #[.int .i64 m.ver, .int .i64 m.nxt, v']) ∧ w'.ownsRow w.heap.size 37 9 v' m.zs.length (flatZ m.zs) ∧ Below w.heap.size w w' := by
  obtain ⟨i0, hi0, hz0, hz1, hz2⟩ := info_parts Try.infoZone
  have hnc := hC.le
  have hcm := hC.mx
  have HC := Lib.hid hC.cells
  clear hC
  go_enter Try.func15, Try.ntmps15
  go_wp2_with (first
    | (at_builtin; go_loud (refine wpList_append_row rfl (.tmp 3) (.tmp 5) 22 rfl (w.heap.size + 2) 37 i0 _ 9 96 Try.underlying22 hi0 hz0 hz1 hz2 rfl (by decide) (.slice (some ⟨w.heap.size + 2, 0, none⟩) 0 0) 0 [] rfl (owns_lit0 (by (first | omega | (simp; done) | (simp; omega))) (by (first | omega | (simp; done) | (simp; omega)))) w.heap.size A m.zs.length cc (flatZ m.zs) rfl (cells_keep HC.out (by ((repeat (first | (with_reducible exact Below.refl _ _) | (with_reducible assumption) | ((with_reducible refine b_set ?_ ?_); · (first | omega | (simp; done) | (simp; omega))) | ((with_reducible refine b_alloc ?_ ?_); · (first | omega | (simp; done) | (simp; omega))) | (with_reducible refine Below.drew ?_) | (with_reducible refine b_drewN ?_) | ((with_reducible refine b_call (by assumption) ?_ ?_); · (first | omega | (simp; done) | (simp; omega))))); done)) (Nat.le_refl _)) (flatZ_one m.zs) (by unfold maxLen; omega) (by omega) (by (first | omega | (simp; done) | (simp; omega))) ?_; intro v5 w5 ho5 hb5; obtain ⟨g5, c5, e5, hg5, hgl5, _, _⟩ := own_form ho5 (by omega); subst e5; have HO5 := Lib.hid ho5; have HB5 := Lib.hid hb5; obtain ⟨hc5, hf5⟩ := bcell hb5; have hs5 := hb5.size; (try simp at hs5); clear ho5 hb5))
    | fail)
  refine bodyPost_ret (v := .agg #[.int .i64 m.ver, .int .i64 m.nxt, .slice (some ⟨g5, 0, none⟩) (0 + m.zs.length) c5]) (by simp [results, Try.results15, go_sem, ↓IntWalk.iteOmega, *]) rfl ?_
  have h5 := HO5.out
  rw [Nat.zero_add, List.nil_append] at h5
  rw [Nat.zero_add]
  have hlt : ∀ g, (Value.slice (some ⟨g5, 0, none⟩) m.zs.length c5).ownBlock = some g → w.heap.size + 2 ≤ g := fun g hg => by
    have : g5 = g := by simpa [Value.ownBlock] using hg
    omega
  refine ⟨_, rfl, ?_, ?_⟩
  · refine own_set_ne (own_set_ne (own_set_ne (own_set_ne (own_mono h5 (by omega)) ?_) ?_) ?_) ?_
    all_goals (intro g hg; have := hlt g hg; show g ≠ _; simp; omega)
  · have hA : Below w.heap.size w w5 := Below.trans (by ((repeat (first | (with_reducible exact Below.refl _ _) | (with_reducible assumption) | ((with_reducible refine b_set ?_ ?_); · (first | omega | (simp; done) | (simp; omega))) | ((with_reducible refine b_alloc ?_ ?_); · (first | omega | (simp; done) | (simp; omega))) | (with_reducible refine Below.drew ?_) | (with_reducible refine b_drewN ?_) | ((with_reducible refine b_call (by assumption) ?_ ?_); · (first | omega | (simp; done) | (simp; omega))))); done)) (HB5.out.mono (by omega))
    exact b_set (Nat.le_succ _) (b_set (Nat.le_succ _) (b_set (Nat.le_succ _) (b_set (Nat.le_refl _) hA)))
end Go.Proofs.Ytepjehcmiofehaa
