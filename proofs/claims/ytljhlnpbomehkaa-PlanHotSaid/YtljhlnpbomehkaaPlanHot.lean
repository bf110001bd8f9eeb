/- PlanHot: the walk of the statement, by the evaluator with forks, trees of questions, facts. -/
import Derived.Test.YtljhlnpbomehkaaEwS
import Derived.Test.YtljhlnpbomehkaaEwTt
import Derived.Test.YtljhlnpbomehkaaEwXd
import Derived.Test.YtljhlnpbomehkaaEwR
import Derived.Test.YtljhlnpbomehkaaEwAs
import Derived.Test.YtljhlnpbomehkaaEwSk
import Derived.Test.YtljhlnpbomehkaaPlanK
import Derived.Test.YtljhlnpbomehkaaChangeEqW
import Derived.Test.YtljhlnpbomehkaaPlanHotB0
import Derived.Test.YtljhlnpbomehkaaPlanHotB1
import Derived.Test.YtljhlnpbomehkaaPlanHotB2
import Derived.Test.YtljhlnpbomehkaaPlanHotB3
import Derived.ProofKit
namespace Go.Proofs.Ytljhlnpbomehkaa
open Go.RowKit
set_option linter.unusedVariables false
set_option linter.unusedSimpArgs false
set_option maxRecDepth 100000

def planHot0t0 : DT := .less 2 (0) .leaf .leaf
theorem planHot0h0 : planHot0t0.check (okT Try.prog (orcOr (fctOrc planHotF0) (orcOr (arcOrc planHotA0) (orcOr (mncOrc planHotM0) (noOrc)))) planHotHook planHotCut [1] planHotET 100000 (cFnL Try.prog) (knTabW 16) 90 5 planHotArgs ⟨.lf, 0, 0, [], []⟩) planHotKB0 = true := check_less (Ky := planHot0k0y) (Kn := planHot0k0n) (i := ⟨-9223372036854775808, 9223372036854775807, []⟩) (by kernel_rfl) (by kernel_rfl) (by kernel_rfl) (.inr planHot0h1) (.inr planHot0h2)
theorem planHotCheck0 : planHot0t0.check (okT Try.prog (orcOr (fctOrc planHotF0) (orcOr (arcOrc planHotA0) (orcOr (mncOrc planHotM0) (noOrc)))) planHotHook planHotCut [1] planHotET 100000 (cFnL Try.prog) (knTabW 16) 90 5 planHotArgs ⟨.lf, 0, 0, [], []⟩) planHotKB0 = true := planHot0h0
theorem planHotF0_ok (a0 : Int) (a1 : ByteArray) (a2 : Int) (hc : a0 ≤ 0 ∧ a1.size = 0) : FctOK Try.prog planHotF0 (symF (planHotSym a0 a1 a2)) := by
  have hl : a1.toList = [] := by
    have h1 : a1.toList.length = a1.size := by rw [ByteArray.toList_eq, Array.length_toList]; rfl
    exact List.eq_nil_of_length_eq_zero (by omega)
  have hn : (ByteArray.mk #[]).toList = [] := by rw [ByteArray.toList_eq]
  intro p hp t x y w
  simp only [planHotF0, List.mem_cons, List.not_mem_nil, or_false] at hp
  rcases hp with rfl | rfl | rfl | rfl | rfl | rfl | rfl | rfl | rfl | rfl | rfl | rfl
  all_goals (simp [atomOf, symF, planHotSym, eqGuard, binOp, Op.intCmp, Op.stringOp, hl, hn, Op.bytesLess]; try omega)
theorem planHotA0_ok (a0 : Int) (a1 : ByteArray) (a2 : Int) (w0 : (Lit.int .i64 a0).wf = true) (w1 : a1.size ≤ maxLen) (w2 : (Lit.int .i64 a2).wf = true) (hc : a0 ≤ 0 ∧ a1.size = 0) : ArcOK Try.prog planHotA0 (symF (planHotSym a0 a1 a2)) := by
  intro p hp t x y w
  exact absurd hp (by simp [planHotA0])
theorem planHotM0_ok (a0 : Int) (a1 : ByteArray) (a2 : Int) (w0 : (Lit.int .i64 a0).wf = true) (w1 : a1.size ≤ maxLen) (w2 : (Lit.int .i64 a2).wf = true) (hc : a0 ≤ 0 ∧ a1.size = 0) : MncOK planHotM0 (symF (planHotSym a0 a1 a2)) := by
  intro p hp
  simp only [planHotM0, List.mem_cons, List.not_mem_nil, or_false] at hp
  rcases hp with rfl | rfl | rfl
  · exact ⟨a0, (0), by simp [atomOf, symF, planHotSym], by simp [atomOf, symF, planHotSym], by simp [atomOf, symF, planHotSym] <;> omega⟩
  · exact ⟨a0, (1099511627776), by simp [atomOf, symF, planHotSym], by simp [atomOf, symF, planHotSym], by simp [atomOf, symF, planHotSym] <;> omega⟩
  · exact ⟨(0), a0, by simp [atomOf, symF, planHotSym], by simp [atomOf, symF, planHotSym], by simp [atomOf, symF, planHotSym] <;> omega⟩
theorem planHotKB0_ok (a0 : Int) (a1 : ByteArray) (a2 : Int) (w0 : (Lit.int .i64 a0).wf = true) (w1 : a1.size ≤ maxLen) (w2 : (Lit.int .i64 a2).wf = true) (hc : a0 ≤ 0 ∧ a1.size = 0) : KOK planHotKB0 (symF (planHotSym a0 a1 a2)) := by
  have r0 : IntKind.i64.min ≤ a0 ∧ a0 ≤ IntKind.i64.max := by simpa [Lit.wf] using w0
  have r2 : IntKind.i64.min ≤ a2 ∧ a2 ≤ IntKind.i64.max := by simpa [Lit.wf] using w2
  simp only [show IntKind.i64.min = -9223372036854775808 from rfl, show IntKind.i64.max = 9223372036854775807 from rfl] at r0 r2
  unfold maxLen at w1
  intro k j h
  unfold planHotKB0 at h
  unfold KB.find at h
  split at h
  · rename_i he
    injection h with h; subst h; dsimp only at he; subst he
    exact ⟨a0, by simp [symF, planHotSym], by show (-9223372036854775808 : Int) ≤ a0; omega, by show a0 ≤ (0 : Int); omega, by simp⟩
  unfold KB.find at h
  split at h
  · rename_i he
    injection h with h; subst h; dsimp only at he; subst he
    exact ⟨a2, by simp [symF, planHotSym], by show (-9223372036854775808 : Int) ≤ a2; omega, by show a2 ≤ (9223372036854775807 : Int); omega, by simp⟩
  unfold KB.find at h
  split at h
  · rename_i he
    injection h with h; subst h; dsimp only at he; subst he
    exact ⟨a1.size, by simp [symF, planHotSym], by show (0 : Int) ≤ (a1.size : Int); omega, by show (a1.size : Int) ≤ (0 : Int); omega, by simp⟩
  cases h
theorem planHotCheck1 : DT.leaf.check (okT Try.prog (orcOr (fctOrc planHotF1) (orcOr (arcOrc planHotA1) (orcOr (mncOrc planHotM1) (noOrc)))) planHotHook planHotCut [1] planHotET 100000 (cFnL Try.prog) (knTabW 16) 90 5 planHotArgs ⟨.lf, 0, 0, [], []⟩) planHotKB1 = true := planHot1h0
theorem planHotF1_ok (a0 : Int) (a1 : ByteArray) (a2 : Int) (hc : 1 ≤ a0 ∧ a0 ≤ 1099511627776 ∧ a2 < a0 ∧ a1.size = 0) : FctOK Try.prog planHotF1 (symF (planHotSym a0 a1 a2)) := by
  have hl : a1.toList = [] := by
    have h1 : a1.toList.length = a1.size := by rw [ByteArray.toList_eq, Array.length_toList]; rfl
    exact List.eq_nil_of_length_eq_zero (by omega)
  have hn : (ByteArray.mk #[]).toList = [] := by rw [ByteArray.toList_eq]
  intro p hp t x y w
  simp only [planHotF1, List.mem_cons, List.not_mem_nil, or_false] at hp
  rcases hp with rfl | rfl | rfl | rfl | rfl | rfl | rfl | rfl | rfl | rfl | rfl | rfl | rfl | rfl | rfl
  all_goals (simp [atomOf, symF, planHotSym, eqGuard, binOp, Op.intCmp, Op.stringOp, hl, hn, Op.bytesLess]; try omega)
theorem planHotA1_ok (a0 : Int) (a1 : ByteArray) (a2 : Int) (w0 : (Lit.int .i64 a0).wf = true) (w1 : a1.size ≤ maxLen) (w2 : (Lit.int .i64 a2).wf = true) (hc : 1 ≤ a0 ∧ a0 ≤ 1099511627776 ∧ a2 < a0 ∧ a1.size = 0) : ArcOK Try.prog planHotA1 (symF (planHotSym a0 a1 a2)) := by
  intro p hp t x y w
  simp only [planHotA1, List.mem_cons, List.not_mem_nil, or_false] at hp
  rcases hp with rfl | rfl
  · refine arith_run (.inl ⟨rfl, ?_⟩) ?_ ?_ t x y w <;> omega
  · refine arith_run (.inl ⟨rfl, ?_⟩) ?_ ?_ t x y w <;> omega
theorem planHotM1_ok (a0 : Int) (a1 : ByteArray) (a2 : Int) (w0 : (Lit.int .i64 a0).wf = true) (w1 : a1.size ≤ maxLen) (w2 : (Lit.int .i64 a2).wf = true) (hc : 1 ≤ a0 ∧ a0 ≤ 1099511627776 ∧ a2 < a0 ∧ a1.size = 0) : MncOK planHotM1 (symF (planHotSym a0 a1 a2)) := by
  intro p hp
  simp only [planHotM1, List.mem_cons, List.not_mem_nil, or_false] at hp
  rcases hp with rfl | rfl | rfl
  · exact ⟨a0, (0), by simp [atomOf, symF, planHotSym], by simp [atomOf, symF, planHotSym], by simp [atomOf, symF, planHotSym] <;> omega⟩
  · exact ⟨a0, (1099511627776), by simp [atomOf, symF, planHotSym], by simp [atomOf, symF, planHotSym], by simp [atomOf, symF, planHotSym] <;> omega⟩
  · exact ⟨(0), a0, by simp [atomOf, symF, planHotSym], by simp [atomOf, symF, planHotSym], by simp [atomOf, symF, planHotSym] <;> omega⟩
theorem planHotKB1_ok (a0 : Int) (a1 : ByteArray) (a2 : Int) (w0 : (Lit.int .i64 a0).wf = true) (w1 : a1.size ≤ maxLen) (w2 : (Lit.int .i64 a2).wf = true) (hc : 1 ≤ a0 ∧ a0 ≤ 1099511627776 ∧ a2 < a0 ∧ a1.size = 0) : KOK planHotKB1 (symF (planHotSym a0 a1 a2)) := by
  have r0 : IntKind.i64.min ≤ a0 ∧ a0 ≤ IntKind.i64.max := by simpa [Lit.wf] using w0
  have r2 : IntKind.i64.min ≤ a2 ∧ a2 ≤ IntKind.i64.max := by simpa [Lit.wf] using w2
  simp only [show IntKind.i64.min = -9223372036854775808 from rfl, show IntKind.i64.max = 9223372036854775807 from rfl] at r0 r2
  unfold maxLen at w1
  intro k j h
  unfold planHotKB1 at h
  unfold KB.find at h
  split at h
  · rename_i he
    injection h with h; subst h; dsimp only at he; subst he
    exact ⟨a0, by simp [symF, planHotSym], by show (1 : Int) ≤ a0; omega, by show a0 ≤ (1099511627776 : Int); omega, by simp⟩
  unfold KB.find at h
  split at h
  · rename_i he
    injection h with h; subst h; dsimp only at he; subst he
    exact ⟨a2, by simp [symF, planHotSym], by show (-9223372036854775808 : Int) ≤ a2; omega, by show a2 ≤ (9223372036854775807 : Int); omega, by simp⟩
  unfold KB.find at h
  split at h
  · rename_i he
    injection h with h; subst h; dsimp only at he; subst he
    exact ⟨a1.size, by simp [symF, planHotSym], by show (0 : Int) ≤ (a1.size : Int); omega, by show (a1.size : Int) ≤ (0 : Int); omega, by simp⟩
  unfold KB.find at h
  split at h
  · rename_i he
    injection h with h; subst h; dsimp only at he; subst he
    exact ⟨(a0 + a0), by simp [symF, planHotSym], by show (2 : Int) ≤ (a0 + a0); omega, by show (a0 + a0) ≤ (2199023255552 : Int); omega, by simp⟩
  cases h
theorem planHotCheck2 : DT.leaf.check (okT Try.prog (orcOr (fctOrc planHotF2) (orcOr (arcOrc planHotA2) (orcOr (mncOrc planHotM2) (noOrc)))) planHotHook planHotCut [1] planHotET 100000 (cFnL Try.prog) (knTabW 16) 90 5 planHotArgs ⟨.lf, 0, 0, [], []⟩) planHotKB2 = true := planHot2h0
theorem planHotF2_ok (a0 : Int) (a1 : ByteArray) (a2 : Int) (hc : 1 ≤ a0 ∧ a0 ≤ 1099511627776 ∧ a0 ≤ a2 ∧ a1.size = 0) : FctOK Try.prog planHotF2 (symF (planHotSym a0 a1 a2)) := by
  have hl : a1.toList = [] := by
    have h1 : a1.toList.length = a1.size := by rw [ByteArray.toList_eq, Array.length_toList]; rfl
    exact List.eq_nil_of_length_eq_zero (by omega)
  have hn : (ByteArray.mk #[]).toList = [] := by rw [ByteArray.toList_eq]
  intro p hp t x y w
  simp only [planHotF2, List.mem_cons, List.not_mem_nil, or_false] at hp
  rcases hp with rfl | rfl | rfl | rfl | rfl | rfl | rfl | rfl | rfl | rfl | rfl | rfl | rfl | rfl | rfl
  all_goals (simp [atomOf, symF, planHotSym, eqGuard, binOp, Op.intCmp, Op.stringOp, hl, hn, Op.bytesLess]; try omega)
theorem planHotA2_ok (a0 : Int) (a1 : ByteArray) (a2 : Int) (w0 : (Lit.int .i64 a0).wf = true) (w1 : a1.size ≤ maxLen) (w2 : (Lit.int .i64 a2).wf = true) (hc : 1 ≤ a0 ∧ a0 ≤ 1099511627776 ∧ a0 ≤ a2 ∧ a1.size = 0) : ArcOK Try.prog planHotA2 (symF (planHotSym a0 a1 a2)) := by
  intro p hp t x y w
  simp only [planHotA2, List.mem_cons, List.not_mem_nil, or_false] at hp
  rcases hp with rfl | rfl
  · refine arith_run (.inl ⟨rfl, ?_⟩) ?_ ?_ t x y w <;> omega
  · refine arith_run (.inl ⟨rfl, ?_⟩) ?_ ?_ t x y w <;> omega
theorem planHotM2_ok (a0 : Int) (a1 : ByteArray) (a2 : Int) (w0 : (Lit.int .i64 a0).wf = true) (w1 : a1.size ≤ maxLen) (w2 : (Lit.int .i64 a2).wf = true) (hc : 1 ≤ a0 ∧ a0 ≤ 1099511627776 ∧ a0 ≤ a2 ∧ a1.size = 0) : MncOK planHotM2 (symF (planHotSym a0 a1 a2)) := by
  intro p hp
  simp only [planHotM2, List.mem_cons, List.not_mem_nil, or_false] at hp
  rcases hp with rfl | rfl | rfl
  · exact ⟨a0, (0), by simp [atomOf, symF, planHotSym], by simp [atomOf, symF, planHotSym], by simp [atomOf, symF, planHotSym] <;> omega⟩
  · exact ⟨a0, (1099511627776), by simp [atomOf, symF, planHotSym], by simp [atomOf, symF, planHotSym], by simp [atomOf, symF, planHotSym] <;> omega⟩
  · exact ⟨(0), a0, by simp [atomOf, symF, planHotSym], by simp [atomOf, symF, planHotSym], by simp [atomOf, symF, planHotSym] <;> omega⟩
theorem planHotKB2_ok (a0 : Int) (a1 : ByteArray) (a2 : Int) (w0 : (Lit.int .i64 a0).wf = true) (w1 : a1.size ≤ maxLen) (w2 : (Lit.int .i64 a2).wf = true) (hc : 1 ≤ a0 ∧ a0 ≤ 1099511627776 ∧ a0 ≤ a2 ∧ a1.size = 0) : KOK planHotKB2 (symF (planHotSym a0 a1 a2)) := by
  have r0 : IntKind.i64.min ≤ a0 ∧ a0 ≤ IntKind.i64.max := by simpa [Lit.wf] using w0
  have r2 : IntKind.i64.min ≤ a2 ∧ a2 ≤ IntKind.i64.max := by simpa [Lit.wf] using w2
  simp only [show IntKind.i64.min = -9223372036854775808 from rfl, show IntKind.i64.max = 9223372036854775807 from rfl] at r0 r2
  unfold maxLen at w1
  intro k j h
  unfold planHotKB2 at h
  unfold KB.find at h
  split at h
  · rename_i he
    injection h with h; subst h; dsimp only at he; subst he
    exact ⟨a0, by simp [symF, planHotSym], by show (1 : Int) ≤ a0; omega, by show a0 ≤ (1099511627776 : Int); omega, by simp⟩
  unfold KB.find at h
  split at h
  · rename_i he
    injection h with h; subst h; dsimp only at he; subst he
    exact ⟨a2, by simp [symF, planHotSym], by show (-9223372036854775808 : Int) ≤ a2; omega, by show a2 ≤ (9223372036854775807 : Int); omega, by simp⟩
  unfold KB.find at h
  split at h
  · rename_i he
    injection h with h; subst h; dsimp only at he; subst he
    exact ⟨a1.size, by simp [symF, planHotSym], by show (0 : Int) ≤ (a1.size : Int); omega, by show (a1.size : Int) ≤ (0 : Int); omega, by simp⟩
  cases h
def planHot3t0 : DT := .less 2 (1099511627776) .leaf .leaf
theorem planHot3h0 : planHot3t0.check (okT Try.prog (orcOr (fctOrc planHotF3) (orcOr (arcOrc planHotA3) (orcOr (mncOrc planHotM3) (noOrc)))) planHotHook planHotCut [1] planHotET 100000 (cFnL Try.prog) (knTabW 16) 90 5 planHotArgs ⟨.lf, 0, 0, [], []⟩) planHotKB3 = true := check_less (Ky := planHot3k0y) (Kn := planHot3k0n) (i := ⟨-9223372036854775808, 9223372036854775807, []⟩) (by kernel_rfl) (by kernel_rfl) (by kernel_rfl) (.inr planHot3h1) (.inr planHot3h2)
theorem planHotCheck3 : planHot3t0.check (okT Try.prog (orcOr (fctOrc planHotF3) (orcOr (arcOrc planHotA3) (orcOr (mncOrc planHotM3) (noOrc)))) planHotHook planHotCut [1] planHotET 100000 (cFnL Try.prog) (knTabW 16) 90 5 planHotArgs ⟨.lf, 0, 0, [], []⟩) planHotKB3 = true := planHot3h0
theorem planHotF3_ok (a0 : Int) (a1 : ByteArray) (a2 : Int) (hc : 1099511627776 < a0 ∧ a1.size = 0) : FctOK Try.prog planHotF3 (symF (planHotSym a0 a1 a2)) := by
  have hl : a1.toList = [] := by
    have h1 : a1.toList.length = a1.size := by rw [ByteArray.toList_eq, Array.length_toList]; rfl
    exact List.eq_nil_of_length_eq_zero (by omega)
  have hn : (ByteArray.mk #[]).toList = [] := by rw [ByteArray.toList_eq]
  intro p hp t x y w
  simp only [planHotF3, List.mem_cons, List.not_mem_nil, or_false] at hp
  rcases hp with rfl | rfl | rfl | rfl | rfl | rfl | rfl | rfl | rfl | rfl | rfl | rfl
  all_goals (simp [atomOf, symF, planHotSym, eqGuard, binOp, Op.intCmp, Op.stringOp, hl, hn, Op.bytesLess]; try omega)
theorem planHotA3_ok (a0 : Int) (a1 : ByteArray) (a2 : Int) (w0 : (Lit.int .i64 a0).wf = true) (w1 : a1.size ≤ maxLen) (w2 : (Lit.int .i64 a2).wf = true) (hc : 1099511627776 < a0 ∧ a1.size = 0) : ArcOK Try.prog planHotA3 (symF (planHotSym a0 a1 a2)) := by
  intro p hp t x y w
  exact absurd hp (by simp [planHotA3])
theorem planHotM3_ok (a0 : Int) (a1 : ByteArray) (a2 : Int) (w0 : (Lit.int .i64 a0).wf = true) (w1 : a1.size ≤ maxLen) (w2 : (Lit.int .i64 a2).wf = true) (hc : 1099511627776 < a0 ∧ a1.size = 0) : MncOK planHotM3 (symF (planHotSym a0 a1 a2)) := by
  intro p hp
  simp only [planHotM3, List.mem_cons, List.not_mem_nil, or_false] at hp
  rcases hp with rfl | rfl
  · exact ⟨a0, (0), by simp [atomOf, symF, planHotSym], by simp [atomOf, symF, planHotSym], by simp [atomOf, symF, planHotSym] <;> omega⟩
  · exact ⟨a0, (1099511627776), by simp [atomOf, symF, planHotSym], by simp [atomOf, symF, planHotSym], by simp [atomOf, symF, planHotSym] <;> omega⟩
theorem planHotKB3_ok (a0 : Int) (a1 : ByteArray) (a2 : Int) (w0 : (Lit.int .i64 a0).wf = true) (w1 : a1.size ≤ maxLen) (w2 : (Lit.int .i64 a2).wf = true) (hc : 1099511627776 < a0 ∧ a1.size = 0) : KOK planHotKB3 (symF (planHotSym a0 a1 a2)) := by
  have r0 : IntKind.i64.min ≤ a0 ∧ a0 ≤ IntKind.i64.max := by simpa [Lit.wf] using w0
  have r2 : IntKind.i64.min ≤ a2 ∧ a2 ≤ IntKind.i64.max := by simpa [Lit.wf] using w2
  simp only [show IntKind.i64.min = -9223372036854775808 from rfl, show IntKind.i64.max = 9223372036854775807 from rfl] at r0 r2
  unfold maxLen at w1
  intro k j h
  unfold planHotKB3 at h
  unfold KB.find at h
  split at h
  · rename_i he
    injection h with h; subst h; dsimp only at he; subst he
    exact ⟨a0, by simp [symF, planHotSym], by show (1099511627777 : Int) ≤ a0; omega, by show a0 ≤ (9223372036854775807 : Int); omega, by simp⟩
  unfold KB.find at h
  split at h
  · rename_i he
    injection h with h; subst h; dsimp only at he; subst he
    exact ⟨a2, by simp [symF, planHotSym], by show (-9223372036854775808 : Int) ≤ a2; omega, by show a2 ≤ (9223372036854775807 : Int); omega, by simp⟩
  unfold KB.find at h
  split at h
  · rename_i he
    injection h with h; subst h; dsimp only at he; subst he
    exact ⟨a1.size, by simp [symF, planHotSym], by show (0 : Int) ≤ (a1.size : Int); omega, by show (a1.size : Int) ≤ (0 : Int); omega, by simp⟩
  cases h
def planHot4t2 : DT := .less 2 (0) .leaf .leaf
theorem planHot4h2 : planHot4t2.check (okT Try.prog (orcOr (fctOrc planHotF4) (orcOr (arcOrc planHotA4) (orcOr (mncOrc planHotM4) (noOrc)))) planHotHook planHotCut [1] planHotET 100000 (cFnL Try.prog) (knTabW 16) 90 5 planHotArgs ⟨.lf, 0, 0, [], []⟩) planHot4k1y = true := check_less (Ky := planHot4k2y) (Kn := planHot4k2n) (i := ⟨-9223372036854775808, 9223372036854775807, []⟩) (by kernel_rfl) (by kernel_rfl) (by kernel_rfl) (.inr planHot4h3) (.inr planHot4h4)
def planHot4t5 : DT := .less 2 (0) .leaf .leaf
theorem planHot4h5 : planHot4t5.check (okT Try.prog (orcOr (fctOrc planHotF4) (orcOr (arcOrc planHotA4) (orcOr (mncOrc planHotM4) (noOrc)))) planHotHook planHotCut [1] planHotET 100000 (cFnL Try.prog) (knTabW 16) 90 5 planHotArgs ⟨.lf, 0, 0, [], []⟩) planHot4k1n = true := check_less (Ky := planHot4k5y) (Kn := planHot4k5n) (i := ⟨-9223372036854775808, 9223372036854775807, []⟩) (by kernel_rfl) (by kernel_rfl) (by kernel_rfl) (.inr planHot4h6) (.inr planHot4h7)
def planHot4t1 : DT := .less 1001 (17) planHot4t2 planHot4t5
theorem planHot4h1 : planHot4t1.check (okT Try.prog (orcOr (fctOrc planHotF4) (orcOr (arcOrc planHotA4) (orcOr (mncOrc planHotM4) (noOrc)))) planHotHook planHotCut [1] planHotET 100000 (cFnL Try.prog) (knTabW 16) 90 5 planHotArgs ⟨.lf, 0, 0, [], []⟩) planHot4k0y = true := check_less (Ky := planHot4k1y) (Kn := planHot4k1n) (i := ⟨1, 60, []⟩) (by kernel_rfl) (by kernel_rfl) (by kernel_rfl) (.inr planHot4h2) (.inr planHot4h5)
def planHot4t0 : DT := .less 1001 (61) planHot4t1 .leaf
theorem planHot4h0 : planHot4t0.check (okT Try.prog (orcOr (fctOrc planHotF4) (orcOr (arcOrc planHotA4) (orcOr (mncOrc planHotM4) (noOrc)))) planHotHook planHotCut [1] planHotET 100000 (cFnL Try.prog) (knTabW 16) 90 5 planHotArgs ⟨.lf, 0, 0, [], []⟩) planHotKB4 = true := check_less (Ky := planHot4k0y) (Kn := planHot4k0n) (i := ⟨1, 9223372036854775807, []⟩) (by kernel_rfl) (by kernel_rfl) (by kernel_rfl) (.inr planHot4h1) (.inr planHot4h8)
theorem planHotCheck4 : planHot4t0.check (okT Try.prog (orcOr (fctOrc planHotF4) (orcOr (arcOrc planHotA4) (orcOr (mncOrc planHotM4) (noOrc)))) planHotHook planHotCut [1] planHotET 100000 (cFnL Try.prog) (knTabW 16) 90 5 planHotArgs ⟨.lf, 0, 0, [], []⟩) planHotKB4 = true := planHot4h0
theorem planHotF4_ok (a0 : Int) (a1 : ByteArray) (a2 : Int) (hc : a0 ≤ 0 ∧ 1 ≤ a1.size) : FctOK Try.prog planHotF4 (symF (planHotSym a0 a1 a2)) := by
  have hl : ∃ b r, a1.toList = b :: r := by
    cases h : a1.toList with
    | nil =>
      have h1 : a1.toList.length = a1.size := by rw [ByteArray.toList_eq, Array.length_toList]; rfl
      rw [h] at h1
      simp at h1
      omega
    | cons b r => exact ⟨b, r, rfl⟩
  obtain ⟨b, r, hl⟩ := hl
  have hn : (ByteArray.mk #[]).toList = [] := by rw [ByteArray.toList_eq]
  have hi : ∀ l : List UInt8, Op.bytesLess l l = false := by
    intro l
    induction l with
    | nil => rfl
    | cons x l ih => simp [Op.bytesLess, ih]
  intro p hp t x y w
  simp only [planHotF4, List.mem_cons, List.not_mem_nil, or_false] at hp
  rcases hp with rfl | rfl | rfl | rfl | rfl | rfl | rfl | rfl | rfl | rfl | rfl | rfl | rfl | rfl | rfl | rfl
  all_goals (simp [atomOf, symF, planHotSym, eqGuard, binOp, Op.intCmp, Op.stringOp, hl, hn, hi, Op.bytesLess]; try omega)
theorem planHotA4_ok (a0 : Int) (a1 : ByteArray) (a2 : Int) (w0 : (Lit.int .i64 a0).wf = true) (w1 : a1.size ≤ maxLen) (w2 : (Lit.int .i64 a2).wf = true) (hc : a0 ≤ 0 ∧ 1 ≤ a1.size) : ArcOK Try.prog planHotA4 (symF (planHotSym a0 a1 a2)) := by
  intro p hp t x y w
  exact absurd hp (by simp [planHotA4])
theorem planHotM4_ok (a0 : Int) (a1 : ByteArray) (a2 : Int) (w0 : (Lit.int .i64 a0).wf = true) (w1 : a1.size ≤ maxLen) (w2 : (Lit.int .i64 a2).wf = true) (hc : a0 ≤ 0 ∧ 1 ≤ a1.size) : MncOK planHotM4 (symF (planHotSym a0 a1 a2)) := by
  intro p hp
  simp only [planHotM4, List.mem_cons, List.not_mem_nil, or_false] at hp
  rcases hp with rfl | rfl | rfl
  · exact ⟨a0, (0), by simp [atomOf, symF, planHotSym], by simp [atomOf, symF, planHotSym], by simp [atomOf, symF, planHotSym] <;> omega⟩
  · exact ⟨a0, (1099511627776), by simp [atomOf, symF, planHotSym], by simp [atomOf, symF, planHotSym], by simp [atomOf, symF, planHotSym] <;> omega⟩
  · exact ⟨(0), a0, by simp [atomOf, symF, planHotSym], by simp [atomOf, symF, planHotSym], by simp [atomOf, symF, planHotSym] <;> omega⟩
theorem planHotKB4_ok (a0 : Int) (a1 : ByteArray) (a2 : Int) (w0 : (Lit.int .i64 a0).wf = true) (w1 : a1.size ≤ maxLen) (w2 : (Lit.int .i64 a2).wf = true) (hc : a0 ≤ 0 ∧ 1 ≤ a1.size) : KOK planHotKB4 (symF (planHotSym a0 a1 a2)) := by
  have r0 : IntKind.i64.min ≤ a0 ∧ a0 ≤ IntKind.i64.max := by simpa [Lit.wf] using w0
  have r2 : IntKind.i64.min ≤ a2 ∧ a2 ≤ IntKind.i64.max := by simpa [Lit.wf] using w2
  simp only [show IntKind.i64.min = -9223372036854775808 from rfl, show IntKind.i64.max = 9223372036854775807 from rfl] at r0 r2
  unfold maxLen at w1
  intro k j h
  unfold planHotKB4 at h
  unfold KB.find at h
  split at h
  · rename_i he
    injection h with h; subst h; dsimp only at he; subst he
    exact ⟨a0, by simp [symF, planHotSym], by show (-9223372036854775808 : Int) ≤ a0; omega, by show a0 ≤ (0 : Int); omega, by simp⟩
  unfold KB.find at h
  split at h
  · rename_i he
    injection h with h; subst h; dsimp only at he; subst he
    exact ⟨a2, by simp [symF, planHotSym], by show (-9223372036854775808 : Int) ≤ a2; omega, by show a2 ≤ (9223372036854775807 : Int); omega, by simp⟩
  unfold KB.find at h
  split at h
  · rename_i he
    injection h with h; subst h; dsimp only at he; subst he
    exact ⟨a1.size, by simp [symF, planHotSym], by show (1 : Int) ≤ (a1.size : Int); omega, by show (a1.size : Int) ≤ (9223372036854775807 : Int); omega, by simp⟩
  cases h
def planHot5t1 : DT := .less 1001 (17) .leaf .leaf
theorem planHot5h1 : planHot5t1.check (okT Try.prog (orcOr (fctOrc planHotF5) (orcOr (arcOrc planHotA5) (orcOr (mncOrc planHotM5) (noOrc)))) planHotHook planHotCut [1] planHotET 100000 (cFnL Try.prog) (knTabW 16) 90 5 planHotArgs ⟨.lf, 0, 0, [], []⟩) planHot5k0y = true := check_less (Ky := planHot5k1y) (Kn := planHot5k1n) (i := ⟨1, 60, []⟩) (by kernel_rfl) (by kernel_rfl) (by kernel_rfl) (.inr planHot5h2) (.inr planHot5h3)
def planHot5t0 : DT := .less 1001 (61) planHot5t1 .leaf
theorem planHot5h0 : planHot5t0.check (okT Try.prog (orcOr (fctOrc planHotF5) (orcOr (arcOrc planHotA5) (orcOr (mncOrc planHotM5) (noOrc)))) planHotHook planHotCut [1] planHotET 100000 (cFnL Try.prog) (knTabW 16) 90 5 planHotArgs ⟨.lf, 0, 0, [], []⟩) planHotKB5 = true := check_less (Ky := planHot5k0y) (Kn := planHot5k0n) (i := ⟨1, 9223372036854775807, []⟩) (by kernel_rfl) (by kernel_rfl) (by kernel_rfl) (.inr planHot5h1) (.inr planHot5h4)
theorem planHotCheck5 : planHot5t0.check (okT Try.prog (orcOr (fctOrc planHotF5) (orcOr (arcOrc planHotA5) (orcOr (mncOrc planHotM5) (noOrc)))) planHotHook planHotCut [1] planHotET 100000 (cFnL Try.prog) (knTabW 16) 90 5 planHotArgs ⟨.lf, 0, 0, [], []⟩) planHotKB5 = true := planHot5h0
theorem planHotF5_ok (a0 : Int) (a1 : ByteArray) (a2 : Int) (hc : 1 ≤ a0 ∧ a0 ≤ 1099511627776 ∧ a2 < a0 ∧ 1 ≤ a1.size) : FctOK Try.prog planHotF5 (symF (planHotSym a0 a1 a2)) := by
  have hl : ∃ b r, a1.toList = b :: r := by
    cases h : a1.toList with
    | nil =>
      have h1 : a1.toList.length = a1.size := by rw [ByteArray.toList_eq, Array.length_toList]; rfl
      rw [h] at h1
      simp at h1
      omega
    | cons b r => exact ⟨b, r, rfl⟩
  obtain ⟨b, r, hl⟩ := hl
  have hn : (ByteArray.mk #[]).toList = [] := by rw [ByteArray.toList_eq]
  have hi : ∀ l : List UInt8, Op.bytesLess l l = false := by
    intro l
    induction l with
    | nil => rfl
    | cons x l ih => simp [Op.bytesLess, ih]
  intro p hp t x y w
  simp only [planHotF5, List.mem_cons, List.not_mem_nil, or_false] at hp
  rcases hp with rfl | rfl | rfl | rfl | rfl | rfl | rfl | rfl | rfl | rfl | rfl | rfl | rfl | rfl | rfl | rfl | rfl | rfl | rfl
  all_goals (simp [atomOf, symF, planHotSym, eqGuard, binOp, Op.intCmp, Op.stringOp, hl, hn, hi, Op.bytesLess]; try omega)
theorem planHotA5_ok (a0 : Int) (a1 : ByteArray) (a2 : Int) (w0 : (Lit.int .i64 a0).wf = true) (w1 : a1.size ≤ maxLen) (w2 : (Lit.int .i64 a2).wf = true) (hc : 1 ≤ a0 ∧ a0 ≤ 1099511627776 ∧ a2 < a0 ∧ 1 ≤ a1.size) : ArcOK Try.prog planHotA5 (symF (planHotSym a0 a1 a2)) := by
  intro p hp t x y w
  simp only [planHotA5, List.mem_cons, List.not_mem_nil, or_false] at hp
  rcases hp with rfl | rfl
  · refine arith_run (.inl ⟨rfl, ?_⟩) ?_ ?_ t x y w <;> omega
  · refine arith_run (.inl ⟨rfl, ?_⟩) ?_ ?_ t x y w <;> omega
theorem planHotM5_ok (a0 : Int) (a1 : ByteArray) (a2 : Int) (w0 : (Lit.int .i64 a0).wf = true) (w1 : a1.size ≤ maxLen) (w2 : (Lit.int .i64 a2).wf = true) (hc : 1 ≤ a0 ∧ a0 ≤ 1099511627776 ∧ a2 < a0 ∧ 1 ≤ a1.size) : MncOK planHotM5 (symF (planHotSym a0 a1 a2)) := by
  intro p hp
  simp only [planHotM5, List.mem_cons, List.not_mem_nil, or_false] at hp
  rcases hp with rfl | rfl | rfl
  · exact ⟨a0, (0), by simp [atomOf, symF, planHotSym], by simp [atomOf, symF, planHotSym], by simp [atomOf, symF, planHotSym] <;> omega⟩
  · exact ⟨a0, (1099511627776), by simp [atomOf, symF, planHotSym], by simp [atomOf, symF, planHotSym], by simp [atomOf, symF, planHotSym] <;> omega⟩
  · exact ⟨(0), a0, by simp [atomOf, symF, planHotSym], by simp [atomOf, symF, planHotSym], by simp [atomOf, symF, planHotSym] <;> omega⟩
theorem planHotKB5_ok (a0 : Int) (a1 : ByteArray) (a2 : Int) (w0 : (Lit.int .i64 a0).wf = true) (w1 : a1.size ≤ maxLen) (w2 : (Lit.int .i64 a2).wf = true) (hc : 1 ≤ a0 ∧ a0 ≤ 1099511627776 ∧ a2 < a0 ∧ 1 ≤ a1.size) : KOK planHotKB5 (symF (planHotSym a0 a1 a2)) := by
  have r0 : IntKind.i64.min ≤ a0 ∧ a0 ≤ IntKind.i64.max := by simpa [Lit.wf] using w0
  have r2 : IntKind.i64.min ≤ a2 ∧ a2 ≤ IntKind.i64.max := by simpa [Lit.wf] using w2
  simp only [show IntKind.i64.min = -9223372036854775808 from rfl, show IntKind.i64.max = 9223372036854775807 from rfl] at r0 r2
  unfold maxLen at w1
  intro k j h
  unfold planHotKB5 at h
  unfold KB.find at h
  split at h
  · rename_i he
    injection h with h; subst h; dsimp only at he; subst he
    exact ⟨a0, by simp [symF, planHotSym], by show (1 : Int) ≤ a0; omega, by show a0 ≤ (1099511627776 : Int); omega, by simp⟩
  unfold KB.find at h
  split at h
  · rename_i he
    injection h with h; subst h; dsimp only at he; subst he
    exact ⟨a2, by simp [symF, planHotSym], by show (-9223372036854775808 : Int) ≤ a2; omega, by show a2 ≤ (9223372036854775807 : Int); omega, by simp⟩
  unfold KB.find at h
  split at h
  · rename_i he
    injection h with h; subst h; dsimp only at he; subst he
    exact ⟨a1.size, by simp [symF, planHotSym], by show (1 : Int) ≤ (a1.size : Int); omega, by show (a1.size : Int) ≤ (9223372036854775807 : Int); omega, by simp⟩
  cases h
def planHot6t1 : DT := .less 1001 (17) .leaf .leaf
theorem planHot6h1 : planHot6t1.check (okT Try.prog (orcOr (fctOrc planHotF6) (orcOr (arcOrc planHotA6) (orcOr (mncOrc planHotM6) (noOrc)))) planHotHook planHotCut [1] planHotET 100000 (cFnL Try.prog) (knTabW 16) 90 5 planHotArgs ⟨.lf, 0, 0, [], []⟩) planHot6k0y = true := check_less (Ky := planHot6k1y) (Kn := planHot6k1n) (i := ⟨1, 60, []⟩) (by kernel_rfl) (by kernel_rfl) (by kernel_rfl) (.inr planHot6h2) (.inr planHot6h3)
def planHot6t0 : DT := .less 1001 (61) planHot6t1 .leaf
theorem planHot6h0 : planHot6t0.check (okT Try.prog (orcOr (fctOrc planHotF6) (orcOr (arcOrc planHotA6) (orcOr (mncOrc planHotM6) (noOrc)))) planHotHook planHotCut [1] planHotET 100000 (cFnL Try.prog) (knTabW 16) 90 5 planHotArgs ⟨.lf, 0, 0, [], []⟩) planHotKB6 = true := check_less (Ky := planHot6k0y) (Kn := planHot6k0n) (i := ⟨1, 9223372036854775807, []⟩) (by kernel_rfl) (by kernel_rfl) (by kernel_rfl) (.inr planHot6h1) (.inr planHot6h4)
theorem planHotCheck6 : planHot6t0.check (okT Try.prog (orcOr (fctOrc planHotF6) (orcOr (arcOrc planHotA6) (orcOr (mncOrc planHotM6) (noOrc)))) planHotHook planHotCut [1] planHotET 100000 (cFnL Try.prog) (knTabW 16) 90 5 planHotArgs ⟨.lf, 0, 0, [], []⟩) planHotKB6 = true := planHot6h0
theorem planHotF6_ok (a0 : Int) (a1 : ByteArray) (a2 : Int) (hc : 1 ≤ a0 ∧ a0 ≤ 1099511627776 ∧ a0 ≤ a2 ∧ 1 ≤ a1.size) : FctOK Try.prog planHotF6 (symF (planHotSym a0 a1 a2)) := by
  have hl : ∃ b r, a1.toList = b :: r := by
    cases h : a1.toList with
    | nil =>
      have h1 : a1.toList.length = a1.size := by rw [ByteArray.toList_eq, Array.length_toList]; rfl
      rw [h] at h1
      simp at h1
      omega
    | cons b r => exact ⟨b, r, rfl⟩
  obtain ⟨b, r, hl⟩ := hl
  have hn : (ByteArray.mk #[]).toList = [] := by rw [ByteArray.toList_eq]
  have hi : ∀ l : List UInt8, Op.bytesLess l l = false := by
    intro l
    induction l with
    | nil => rfl
    | cons x l ih => simp [Op.bytesLess, ih]
  intro p hp t x y w
  simp only [planHotF6, List.mem_cons, List.not_mem_nil, or_false] at hp
  rcases hp with rfl | rfl | rfl | rfl | rfl | rfl | rfl | rfl | rfl | rfl | rfl | rfl | rfl | rfl | rfl | rfl | rfl | rfl | rfl
  all_goals (simp [atomOf, symF, planHotSym, eqGuard, binOp, Op.intCmp, Op.stringOp, hl, hn, hi, Op.bytesLess]; try omega)
theorem planHotA6_ok (a0 : Int) (a1 : ByteArray) (a2 : Int) (w0 : (Lit.int .i64 a0).wf = true) (w1 : a1.size ≤ maxLen) (w2 : (Lit.int .i64 a2).wf = true) (hc : 1 ≤ a0 ∧ a0 ≤ 1099511627776 ∧ a0 ≤ a2 ∧ 1 ≤ a1.size) : ArcOK Try.prog planHotA6 (symF (planHotSym a0 a1 a2)) := by
  intro p hp t x y w
  simp only [planHotA6, List.mem_cons, List.not_mem_nil, or_false] at hp
  rcases hp with rfl | rfl
  · refine arith_run (.inl ⟨rfl, ?_⟩) ?_ ?_ t x y w <;> omega
  · refine arith_run (.inl ⟨rfl, ?_⟩) ?_ ?_ t x y w <;> omega
theorem planHotM6_ok (a0 : Int) (a1 : ByteArray) (a2 : Int) (w0 : (Lit.int .i64 a0).wf = true) (w1 : a1.size ≤ maxLen) (w2 : (Lit.int .i64 a2).wf = true) (hc : 1 ≤ a0 ∧ a0 ≤ 1099511627776 ∧ a0 ≤ a2 ∧ 1 ≤ a1.size) : MncOK planHotM6 (symF (planHotSym a0 a1 a2)) := by
  intro p hp
  simp only [planHotM6, List.mem_cons, List.not_mem_nil, or_false] at hp
  rcases hp with rfl | rfl | rfl
  · exact ⟨a0, (0), by simp [atomOf, symF, planHotSym], by simp [atomOf, symF, planHotSym], by simp [atomOf, symF, planHotSym] <;> omega⟩
  · exact ⟨a0, (1099511627776), by simp [atomOf, symF, planHotSym], by simp [atomOf, symF, planHotSym], by simp [atomOf, symF, planHotSym] <;> omega⟩
  · exact ⟨(0), a0, by simp [atomOf, symF, planHotSym], by simp [atomOf, symF, planHotSym], by simp [atomOf, symF, planHotSym] <;> omega⟩
theorem planHotKB6_ok (a0 : Int) (a1 : ByteArray) (a2 : Int) (w0 : (Lit.int .i64 a0).wf = true) (w1 : a1.size ≤ maxLen) (w2 : (Lit.int .i64 a2).wf = true) (hc : 1 ≤ a0 ∧ a0 ≤ 1099511627776 ∧ a0 ≤ a2 ∧ 1 ≤ a1.size) : KOK planHotKB6 (symF (planHotSym a0 a1 a2)) := by
  have r0 : IntKind.i64.min ≤ a0 ∧ a0 ≤ IntKind.i64.max := by simpa [Lit.wf] using w0
  have r2 : IntKind.i64.min ≤ a2 ∧ a2 ≤ IntKind.i64.max := by simpa [Lit.wf] using w2
  simp only [show IntKind.i64.min = -9223372036854775808 from rfl, show IntKind.i64.max = 9223372036854775807 from rfl] at r0 r2
  unfold maxLen at w1
  intro k j h
  unfold planHotKB6 at h
  unfold KB.find at h
  split at h
  · rename_i he
    injection h with h; subst h; dsimp only at he; subst he
    exact ⟨a0, by simp [symF, planHotSym], by show (1 : Int) ≤ a0; omega, by show a0 ≤ (1099511627776 : Int); omega, by simp⟩
  unfold KB.find at h
  split at h
  · rename_i he
    injection h with h; subst h; dsimp only at he; subst he
    exact ⟨a2, by simp [symF, planHotSym], by show (-9223372036854775808 : Int) ≤ a2; omega, by show a2 ≤ (9223372036854775807 : Int); omega, by simp⟩
  unfold KB.find at h
  split at h
  · rename_i he
    injection h with h; subst h; dsimp only at he; subst he
    exact ⟨a1.size, by simp [symF, planHotSym], by show (1 : Int) ≤ (a1.size : Int); omega, by show (a1.size : Int) ≤ (9223372036854775807 : Int); omega, by simp⟩
  cases h
def planHot7t2 : DT := .less 2 (1099511627776) .leaf .leaf
theorem planHot7h2 : planHot7t2.check (okT Try.prog (orcOr (fctOrc planHotF7) (orcOr (arcOrc planHotA7) (orcOr (mncOrc planHotM7) (noOrc)))) planHotHook planHotCut [1] planHotET 100000 (cFnL Try.prog) (knTabW 16) 90 5 planHotArgs ⟨.lf, 0, 0, [], []⟩) planHot7k1y = true := check_less (Ky := planHot7k2y) (Kn := planHot7k2n) (i := ⟨-9223372036854775808, 9223372036854775807, []⟩) (by kernel_rfl) (by kernel_rfl) (by kernel_rfl) (.inr planHot7h3) (.inr planHot7h4)
def planHot7t5 : DT := .less 2 (1099511627776) .leaf .leaf
theorem planHot7h5 : planHot7t5.check (okT Try.prog (orcOr (fctOrc planHotF7) (orcOr (arcOrc planHotA7) (orcOr (mncOrc planHotM7) (noOrc)))) planHotHook planHotCut [1] planHotET 100000 (cFnL Try.prog) (knTabW 16) 90 5 planHotArgs ⟨.lf, 0, 0, [], []⟩) planHot7k1n = true := check_less (Ky := planHot7k5y) (Kn := planHot7k5n) (i := ⟨-9223372036854775808, 9223372036854775807, []⟩) (by kernel_rfl) (by kernel_rfl) (by kernel_rfl) (.inr planHot7h6) (.inr planHot7h7)
def planHot7t1 : DT := .less 1001 (17) planHot7t2 planHot7t5
theorem planHot7h1 : planHot7t1.check (okT Try.prog (orcOr (fctOrc planHotF7) (orcOr (arcOrc planHotA7) (orcOr (mncOrc planHotM7) (noOrc)))) planHotHook planHotCut [1] planHotET 100000 (cFnL Try.prog) (knTabW 16) 90 5 planHotArgs ⟨.lf, 0, 0, [], []⟩) planHot7k0y = true := check_less (Ky := planHot7k1y) (Kn := planHot7k1n) (i := ⟨1, 60, []⟩) (by kernel_rfl) (by kernel_rfl) (by kernel_rfl) (.inr planHot7h2) (.inr planHot7h5)
def planHot7t0 : DT := .less 1001 (61) planHot7t1 .leaf
theorem planHot7h0 : planHot7t0.check (okT Try.prog (orcOr (fctOrc planHotF7) (orcOr (arcOrc planHotA7) (orcOr (mncOrc planHotM7) (noOrc)))) planHotHook planHotCut [1] planHotET 100000 (cFnL Try.prog) (knTabW 16) 90 5 planHotArgs ⟨.lf, 0, 0, [], []⟩) planHotKB7 = true := check_less (Ky := planHot7k0y) (Kn := planHot7k0n) (i := ⟨1, 9223372036854775807, []⟩) (by kernel_rfl) (by kernel_rfl) (by kernel_rfl) (.inr planHot7h1) (.inr planHot7h8)
theorem planHotCheck7 : planHot7t0.check (okT Try.prog (orcOr (fctOrc planHotF7) (orcOr (arcOrc planHotA7) (orcOr (mncOrc planHotM7) (noOrc)))) planHotHook planHotCut [1] planHotET 100000 (cFnL Try.prog) (knTabW 16) 90 5 planHotArgs ⟨.lf, 0, 0, [], []⟩) planHotKB7 = true := planHot7h0
theorem planHotF7_ok (a0 : Int) (a1 : ByteArray) (a2 : Int) (hc : 1099511627776 < a0 ∧ 1 ≤ a1.size) : FctOK Try.prog planHotF7 (symF (planHotSym a0 a1 a2)) := by
  have hl : ∃ b r, a1.toList = b :: r := by
    cases h : a1.toList with
    | nil =>
      have h1 : a1.toList.length = a1.size := by rw [ByteArray.toList_eq, Array.length_toList]; rfl
      rw [h] at h1
      simp at h1
      omega
    | cons b r => exact ⟨b, r, rfl⟩
  obtain ⟨b, r, hl⟩ := hl
  have hn : (ByteArray.mk #[]).toList = [] := by rw [ByteArray.toList_eq]
  have hi : ∀ l : List UInt8, Op.bytesLess l l = false := by
    intro l
    induction l with
    | nil => rfl
    | cons x l ih => simp [Op.bytesLess, ih]
  intro p hp t x y w
  simp only [planHotF7, List.mem_cons, List.not_mem_nil, or_false] at hp
  rcases hp with rfl | rfl | rfl | rfl | rfl | rfl | rfl | rfl | rfl | rfl | rfl | rfl | rfl | rfl | rfl | rfl
  all_goals (simp [atomOf, symF, planHotSym, eqGuard, binOp, Op.intCmp, Op.stringOp, hl, hn, hi, Op.bytesLess]; try omega)
theorem planHotA7_ok (a0 : Int) (a1 : ByteArray) (a2 : Int) (w0 : (Lit.int .i64 a0).wf = true) (w1 : a1.size ≤ maxLen) (w2 : (Lit.int .i64 a2).wf = true) (hc : 1099511627776 < a0 ∧ 1 ≤ a1.size) : ArcOK Try.prog planHotA7 (symF (planHotSym a0 a1 a2)) := by
  intro p hp t x y w
  exact absurd hp (by simp [planHotA7])
theorem planHotM7_ok (a0 : Int) (a1 : ByteArray) (a2 : Int) (w0 : (Lit.int .i64 a0).wf = true) (w1 : a1.size ≤ maxLen) (w2 : (Lit.int .i64 a2).wf = true) (hc : 1099511627776 < a0 ∧ 1 ≤ a1.size) : MncOK planHotM7 (symF (planHotSym a0 a1 a2)) := by
  intro p hp
  simp only [planHotM7, List.mem_cons, List.not_mem_nil, or_false] at hp
  rcases hp with rfl | rfl
  · exact ⟨a0, (0), by simp [atomOf, symF, planHotSym], by simp [atomOf, symF, planHotSym], by simp [atomOf, symF, planHotSym] <;> omega⟩
  · exact ⟨a0, (1099511627776), by simp [atomOf, symF, planHotSym], by simp [atomOf, symF, planHotSym], by simp [atomOf, symF, planHotSym] <;> omega⟩
theorem planHotKB7_ok (a0 : Int) (a1 : ByteArray) (a2 : Int) (w0 : (Lit.int .i64 a0).wf = true) (w1 : a1.size ≤ maxLen) (w2 : (Lit.int .i64 a2).wf = true) (hc : 1099511627776 < a0 ∧ 1 ≤ a1.size) : KOK planHotKB7 (symF (planHotSym a0 a1 a2)) := by
  have r0 : IntKind.i64.min ≤ a0 ∧ a0 ≤ IntKind.i64.max := by simpa [Lit.wf] using w0
  have r2 : IntKind.i64.min ≤ a2 ∧ a2 ≤ IntKind.i64.max := by simpa [Lit.wf] using w2
  simp only [show IntKind.i64.min = -9223372036854775808 from rfl, show IntKind.i64.max = 9223372036854775807 from rfl] at r0 r2
  unfold maxLen at w1
  intro k j h
  unfold planHotKB7 at h
  unfold KB.find at h
  split at h
  · rename_i he
    injection h with h; subst h; dsimp only at he; subst he
    exact ⟨a0, by simp [symF, planHotSym], by show (1099511627777 : Int) ≤ a0; omega, by show a0 ≤ (9223372036854775807 : Int); omega, by simp⟩
  unfold KB.find at h
  split at h
  · rename_i he
    injection h with h; subst h; dsimp only at he; subst he
    exact ⟨a2, by simp [symF, planHotSym], by show (-9223372036854775808 : Int) ≤ a2; omega, by show a2 ≤ (9223372036854775807 : Int); omega, by simp⟩
  unfold KB.find at h
  split at h
  · rename_i he
    injection h with h; subst h; dsimp only at he; subst he
    exact ⟨a1.size, by simp [symF, planHotSym], by show (1 : Int) ≤ (a1.size : Int); omega, by show (a1.size : Int) ≤ (9223372036854775807 : Int); omega, by simp⟩
  cases h
set_option maxHeartbeats 400000 in
theorem walkPlanHot (a0 : Int) (a1 : ByteArray) (a2 : Int) (w0 : (Lit.int .i64 a0).wf = true) (w1 : a1.size ≤ maxLen) (w2 : (Lit.int .i64 a2).wf = true) (w : World) :
    Calls Try.prog 5 #[.int .i64 a0, .string a1, .int .i64 a2] w fun e' w' => e' = .returned (.bool true) ∧ Below w.heap.size w w' := by
  have hone : ∀ q, (symF (planHotSym a0 a1 a2) q).oneCell' = true := symF_one (by intro p hp; simp [planHotSym] at hp; rcases hp with rfl | rfl | rfl | rfl | rfl <;> rfl)
  have hS : SOK [1] (symF (planHotSym a0 a1 a2)) := by
    intro k hk
    simp only [List.mem_cons, List.not_mem_nil, or_false] at hk
    rcases hk with rfl
    · exact ⟨a1, by simp [symF, planHotSym], by simp [symF, planHotSym]⟩
  have hgo : OrcOK Try.prog (· = symF (planHotSym a0 a1 a2)) noOrc := noOrc_ok _ _
  have hgl : ∀ g, symF (planHotSym a0 a1 a2) (gsym g) ≠ .nilFunc := fun g => symF_glob rfl g
  have htab : TabOK Try.prog (· = symF (planHotSym a0 a1 a2)) (knTabW 16) := (knTabW_ok planKKnown)
  have hcase : (a0 ≤ 0 ∧ a1.size = 0) ∨ (1 ≤ a0 ∧ a0 ≤ 1099511627776 ∧ a2 < a0 ∧ a1.size = 0) ∨ (1 ≤ a0 ∧ a0 ≤ 1099511627776 ∧ a0 ≤ a2 ∧ a1.size = 0) ∨ (1099511627776 < a0 ∧ a1.size = 0) ∨ (a0 ≤ 0 ∧ 1 ≤ a1.size) ∨ (1 ≤ a0 ∧ a0 ≤ 1099511627776 ∧ a2 < a0 ∧ 1 ≤ a1.size) ∨ (1 ≤ a0 ∧ a0 ≤ 1099511627776 ∧ a0 ≤ a2 ∧ 1 ≤ a1.size) ∨ (1099511627776 < a0 ∧ 1 ≤ a1.size) := by omega
  rcases hcase with hc | hc | hc | hc | hc | hc | hc | hc
  · exact Calls.of_treeN evMixed evNames hone (orcOr_ok (fctOrc_ok (planHotF0_ok a0 a1 a2 hc)) (orcOr_ok (arcOrc_ok (planHotA0_ok a0 a1 a2 w0 w1 w2 hc)) (orcOr_ok (mncOrc_ok (planHotM0_ok a0 a1 a2 w0 w1 w2 hc)) hgo))) planHotHook_ok changeEqEqOK (planHotKB0_ok a0 a1 a2 w0 w1 w2 hc) hS (tableL_self _) htab (args := planHotArgs) (fun r hr => by simp [planHotArgs, ren, hr, symF, planHotSym]) planHotCheck0 w hgl
  · exact Calls.of_treeN evMixed evNames hone (orcOr_ok (fctOrc_ok (planHotF1_ok a0 a1 a2 hc)) (orcOr_ok (arcOrc_ok (planHotA1_ok a0 a1 a2 w0 w1 w2 hc)) (orcOr_ok (mncOrc_ok (planHotM1_ok a0 a1 a2 w0 w1 w2 hc)) hgo))) planHotHook_ok changeEqEqOK (planHotKB1_ok a0 a1 a2 w0 w1 w2 hc) hS (tableL_self _) htab (args := planHotArgs) (fun r hr => by simp [planHotArgs, ren, hr, symF, planHotSym]) planHotCheck1 w hgl
  · exact Calls.of_treeN evMixed evNames hone (orcOr_ok (fctOrc_ok (planHotF2_ok a0 a1 a2 hc)) (orcOr_ok (arcOrc_ok (planHotA2_ok a0 a1 a2 w0 w1 w2 hc)) (orcOr_ok (mncOrc_ok (planHotM2_ok a0 a1 a2 w0 w1 w2 hc)) hgo))) planHotHook_ok changeEqEqOK (planHotKB2_ok a0 a1 a2 w0 w1 w2 hc) hS (tableL_self _) htab (args := planHotArgs) (fun r hr => by simp [planHotArgs, ren, hr, symF, planHotSym]) planHotCheck2 w hgl
  · exact Calls.of_treeN evMixed evNames hone (orcOr_ok (fctOrc_ok (planHotF3_ok a0 a1 a2 hc)) (orcOr_ok (arcOrc_ok (planHotA3_ok a0 a1 a2 w0 w1 w2 hc)) (orcOr_ok (mncOrc_ok (planHotM3_ok a0 a1 a2 w0 w1 w2 hc)) hgo))) planHotHook_ok changeEqEqOK (planHotKB3_ok a0 a1 a2 w0 w1 w2 hc) hS (tableL_self _) htab (args := planHotArgs) (fun r hr => by simp [planHotArgs, ren, hr, symF, planHotSym]) planHotCheck3 w hgl
  · exact Calls.of_treeN evMixed evNames hone (orcOr_ok (fctOrc_ok (planHotF4_ok a0 a1 a2 hc)) (orcOr_ok (arcOrc_ok (planHotA4_ok a0 a1 a2 w0 w1 w2 hc)) (orcOr_ok (mncOrc_ok (planHotM4_ok a0 a1 a2 w0 w1 w2 hc)) hgo))) planHotHook_ok changeEqEqOK (planHotKB4_ok a0 a1 a2 w0 w1 w2 hc) hS (tableL_self _) htab (args := planHotArgs) (fun r hr => by simp [planHotArgs, ren, hr, symF, planHotSym]) planHotCheck4 w hgl
  · exact Calls.of_treeN evMixed evNames hone (orcOr_ok (fctOrc_ok (planHotF5_ok a0 a1 a2 hc)) (orcOr_ok (arcOrc_ok (planHotA5_ok a0 a1 a2 w0 w1 w2 hc)) (orcOr_ok (mncOrc_ok (planHotM5_ok a0 a1 a2 w0 w1 w2 hc)) hgo))) planHotHook_ok changeEqEqOK (planHotKB5_ok a0 a1 a2 w0 w1 w2 hc) hS (tableL_self _) htab (args := planHotArgs) (fun r hr => by simp [planHotArgs, ren, hr, symF, planHotSym]) planHotCheck5 w hgl
  · exact Calls.of_treeN evMixed evNames hone (orcOr_ok (fctOrc_ok (planHotF6_ok a0 a1 a2 hc)) (orcOr_ok (arcOrc_ok (planHotA6_ok a0 a1 a2 w0 w1 w2 hc)) (orcOr_ok (mncOrc_ok (planHotM6_ok a0 a1 a2 w0 w1 w2 hc)) hgo))) planHotHook_ok changeEqEqOK (planHotKB6_ok a0 a1 a2 w0 w1 w2 hc) hS (tableL_self _) htab (args := planHotArgs) (fun r hr => by simp [planHotArgs, ren, hr, symF, planHotSym]) planHotCheck6 w hgl
  · exact Calls.of_treeN evMixed evNames hone (orcOr_ok (fctOrc_ok (planHotF7_ok a0 a1 a2 hc)) (orcOr_ok (arcOrc_ok (planHotA7_ok a0 a1 a2 w0 w1 w2 hc)) (orcOr_ok (mncOrc_ok (planHotM7_ok a0 a1 a2 w0 w1 w2 hc)) hgo))) planHotHook_ok changeEqEqOK (planHotKB7_ok a0 a1 a2 w0 w1 w2 hc) hS (tableL_self _) htab (args := planHotArgs) (fun r hr => by simp [planHotArgs, ren, hr, symF, planHotSym]) planHotCheck7 w hgl
end Go.Proofs.Ytljhlnpbomehkaa
