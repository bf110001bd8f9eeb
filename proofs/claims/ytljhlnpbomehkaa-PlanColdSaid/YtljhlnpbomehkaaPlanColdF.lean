/- PlanColdF: the walk of the statement, by the evaluator with forks, trees of questions, facts. -/
import Derived.Test.YtljhlnpbomehkaaEwM8
import Derived.Test.YtljhlnpbomehkaaPlanK
import Derived.Test.YtljhlnpbomehkaaPlanColdFB0
import Derived.Test.YtljhlnpbomehkaaPlanColdFB1
import Derived.Test.YtljhlnpbomehkaaPlanColdFB2
import Derived.Test.YtljhlnpbomehkaaPlanColdFB3
import Derived.ProofKit
namespace Go.Proofs.Ytljhlnpbomehkaa
open Go.RowKit
set_option linter.unusedVariables false
set_option linter.unusedSimpArgs false
set_option maxRecDepth 100000

theorem planColdFCheck0 : DT.leaf.check (okT Try.prog (orcOr (fctOrc planColdFF0) (orcOr (arcOrc planColdFA0) (orcOr (mncOrc planColdFM0) (noOrc)))) planColdFHook planColdFCut [] planColdFET 100000 (cFnL Try.prog) (knTabW 16) 90 6 planColdFArgs ⟨.lf, 0, 0, [], []⟩) planColdFKB0 = true := planColdF0h0
theorem planColdFF0_ok (a0 : Int) (a1 : Int) (a2 : Int) (hc : a0 < 0) : FctOK Try.prog planColdFF0 (symF (planColdFSym a0 a1 a2)) := by
  intro p hp
  exact absurd hp (by simp [planColdFF0])
theorem planColdFA0_ok (a0 : Int) (a1 : Int) (a2 : Int) (w0 : (Lit.int .i64 a0).wf = true) (w1 : (Lit.int .i64 a1).wf = true) (w2 : (Lit.int .i64 a2).wf = true) (hc : a0 < 0) : ArcOK Try.prog planColdFA0 (symF (planColdFSym a0 a1 a2)) := by
  intro p hp t x y w
  exact absurd hp (by simp [planColdFA0])
theorem planColdFM0_ok (a0 : Int) (a1 : Int) (a2 : Int) (w0 : (Lit.int .i64 a0).wf = true) (w1 : (Lit.int .i64 a1).wf = true) (w2 : (Lit.int .i64 a2).wf = true) (hc : a0 < 0) : MncOK planColdFM0 (symF (planColdFSym a0 a1 a2)) := by
  intro p hp
  exact absurd hp (by simp [planColdFM0])
theorem planColdFKB0_ok (a0 : Int) (a1 : Int) (a2 : Int) (w0 : (Lit.int .i64 a0).wf = true) (w1 : (Lit.int .i64 a1).wf = true) (w2 : (Lit.int .i64 a2).wf = true) (hc : a0 < 0) : KOK planColdFKB0 (symF (planColdFSym a0 a1 a2)) := by
  have r0 : IntKind.i64.min ≤ a0 ∧ a0 ≤ IntKind.i64.max := by simpa [Lit.wf] using w0
  have r1 : IntKind.i64.min ≤ a1 ∧ a1 ≤ IntKind.i64.max := by simpa [Lit.wf] using w1
  have r2 : IntKind.i64.min ≤ a2 ∧ a2 ≤ IntKind.i64.max := by simpa [Lit.wf] using w2
  simp only [show IntKind.i64.min = -9223372036854775808 from rfl, show IntKind.i64.max = 9223372036854775807 from rfl] at r0 r1 r2
  intro k j h
  unfold planColdFKB0 at h
  unfold KB.find at h
  split at h
  · rename_i he
    injection h with h; subst h; dsimp only at he; subst he
    exact ⟨a0, by simp [symF, planColdFSym], by show (-9223372036854775808 : Int) ≤ a0; omega, by show a0 ≤ (-1 : Int); omega, by simp⟩
  unfold KB.find at h
  split at h
  · rename_i he
    injection h with h; subst h; dsimp only at he; subst he
    exact ⟨a1, by simp [symF, planColdFSym], by show (-9223372036854775808 : Int) ≤ a1; omega, by show a1 ≤ (9223372036854775807 : Int); omega, by simp⟩
  unfold KB.find at h
  split at h
  · rename_i he
    injection h with h; subst h; dsimp only at he; subst he
    exact ⟨a2, by simp [symF, planColdFSym], by show (-9223372036854775808 : Int) ≤ a2; omega, by show a2 ≤ (9223372036854775807 : Int); omega, by simp⟩
  cases h
theorem planColdFCheck1 : DT.leaf.check (okT Try.prog (orcOr (fctOrc planColdFF1) (orcOr (arcOrc planColdFA1) (orcOr (mncOrc planColdFM1) (noOrc)))) planColdFHook planColdFCut [] planColdFET 100000 (cFnL Try.prog) (knTabW 16) 90 6 planColdFArgs ⟨.lf, 0, 0, [], []⟩) planColdFKB1 = true := planColdF1h0
theorem planColdFF1_ok (a0 : Int) (a1 : Int) (a2 : Int) (hc : 0 ≤ a0 ∧ 1000 < a0) : FctOK Try.prog planColdFF1 (symF (planColdFSym a0 a1 a2)) := by
  intro p hp
  exact absurd hp (by simp [planColdFF1])
theorem planColdFA1_ok (a0 : Int) (a1 : Int) (a2 : Int) (w0 : (Lit.int .i64 a0).wf = true) (w1 : (Lit.int .i64 a1).wf = true) (w2 : (Lit.int .i64 a2).wf = true) (hc : 0 ≤ a0 ∧ 1000 < a0) : ArcOK Try.prog planColdFA1 (symF (planColdFSym a0 a1 a2)) := by
  intro p hp t x y w
  exact absurd hp (by simp [planColdFA1])
theorem planColdFM1_ok (a0 : Int) (a1 : Int) (a2 : Int) (w0 : (Lit.int .i64 a0).wf = true) (w1 : (Lit.int .i64 a1).wf = true) (w2 : (Lit.int .i64 a2).wf = true) (hc : 0 ≤ a0 ∧ 1000 < a0) : MncOK planColdFM1 (symF (planColdFSym a0 a1 a2)) := by
  intro p hp
  exact absurd hp (by simp [planColdFM1])
theorem planColdFKB1_ok (a0 : Int) (a1 : Int) (a2 : Int) (w0 : (Lit.int .i64 a0).wf = true) (w1 : (Lit.int .i64 a1).wf = true) (w2 : (Lit.int .i64 a2).wf = true) (hc : 0 ≤ a0 ∧ 1000 < a0) : KOK planColdFKB1 (symF (planColdFSym a0 a1 a2)) := by
  have r0 : IntKind.i64.min ≤ a0 ∧ a0 ≤ IntKind.i64.max := by simpa [Lit.wf] using w0
  have r1 : IntKind.i64.min ≤ a1 ∧ a1 ≤ IntKind.i64.max := by simpa [Lit.wf] using w1
  have r2 : IntKind.i64.min ≤ a2 ∧ a2 ≤ IntKind.i64.max := by simpa [Lit.wf] using w2
  simp only [show IntKind.i64.min = -9223372036854775808 from rfl, show IntKind.i64.max = 9223372036854775807 from rfl] at r0 r1 r2
  intro k j h
  unfold planColdFKB1 at h
  unfold KB.find at h
  split at h
  · rename_i he
    injection h with h; subst h; dsimp only at he; subst he
    exact ⟨a0, by simp [symF, planColdFSym], by show (1001 : Int) ≤ a0; omega, by show a0 ≤ (9223372036854775807 : Int); omega, by simp⟩
  unfold KB.find at h
  split at h
  · rename_i he
    injection h with h; subst h; dsimp only at he; subst he
    exact ⟨a1, by simp [symF, planColdFSym], by show (-9223372036854775808 : Int) ≤ a1; omega, by show a1 ≤ (9223372036854775807 : Int); omega, by simp⟩
  unfold KB.find at h
  split at h
  · rename_i he
    injection h with h; subst h; dsimp only at he; subst he
    exact ⟨a2, by simp [symF, planColdFSym], by show (-9223372036854775808 : Int) ≤ a2; omega, by show a2 ≤ (9223372036854775807 : Int); omega, by simp⟩
  cases h
theorem planColdFCheck2 : DT.leaf.check (okT Try.prog (orcOr (fctOrc planColdFF2) (orcOr (arcOrc planColdFA2) (orcOr (mncOrc planColdFM2) (noOrc)))) planColdFHook planColdFCut [] planColdFET 100000 (cFnL Try.prog) (knTabW 16) 90 6 planColdFArgs ⟨.lf, 0, 0, [], []⟩) planColdFKB2 = true := planColdF2h0
theorem planColdFF2_ok (a0 : Int) (a1 : Int) (a2 : Int) (hc : 0 ≤ a0 ∧ a0 ≤ 1000 ∧ a1 < 0) : FctOK Try.prog planColdFF2 (symF (planColdFSym a0 a1 a2)) := by
  intro p hp
  exact absurd hp (by simp [planColdFF2])
theorem planColdFA2_ok (a0 : Int) (a1 : Int) (a2 : Int) (w0 : (Lit.int .i64 a0).wf = true) (w1 : (Lit.int .i64 a1).wf = true) (w2 : (Lit.int .i64 a2).wf = true) (hc : 0 ≤ a0 ∧ a0 ≤ 1000 ∧ a1 < 0) : ArcOK Try.prog planColdFA2 (symF (planColdFSym a0 a1 a2)) := by
  intro p hp t x y w
  exact absurd hp (by simp [planColdFA2])
theorem planColdFM2_ok (a0 : Int) (a1 : Int) (a2 : Int) (w0 : (Lit.int .i64 a0).wf = true) (w1 : (Lit.int .i64 a1).wf = true) (w2 : (Lit.int .i64 a2).wf = true) (hc : 0 ≤ a0 ∧ a0 ≤ 1000 ∧ a1 < 0) : MncOK planColdFM2 (symF (planColdFSym a0 a1 a2)) := by
  intro p hp
  exact absurd hp (by simp [planColdFM2])
theorem planColdFKB2_ok (a0 : Int) (a1 : Int) (a2 : Int) (w0 : (Lit.int .i64 a0).wf = true) (w1 : (Lit.int .i64 a1).wf = true) (w2 : (Lit.int .i64 a2).wf = true) (hc : 0 ≤ a0 ∧ a0 ≤ 1000 ∧ a1 < 0) : KOK planColdFKB2 (symF (planColdFSym a0 a1 a2)) := by
  have r0 : IntKind.i64.min ≤ a0 ∧ a0 ≤ IntKind.i64.max := by simpa [Lit.wf] using w0
  have r1 : IntKind.i64.min ≤ a1 ∧ a1 ≤ IntKind.i64.max := by simpa [Lit.wf] using w1
  have r2 : IntKind.i64.min ≤ a2 ∧ a2 ≤ IntKind.i64.max := by simpa [Lit.wf] using w2
  simp only [show IntKind.i64.min = -9223372036854775808 from rfl, show IntKind.i64.max = 9223372036854775807 from rfl] at r0 r1 r2
  intro k j h
  unfold planColdFKB2 at h
  unfold KB.find at h
  split at h
  · rename_i he
    injection h with h; subst h; dsimp only at he; subst he
    exact ⟨a0, by simp [symF, planColdFSym], by show (0 : Int) ≤ a0; omega, by show a0 ≤ (1000 : Int); omega, by simp⟩
  unfold KB.find at h
  split at h
  · rename_i he
    injection h with h; subst h; dsimp only at he; subst he
    exact ⟨a1, by simp [symF, planColdFSym], by show (-9223372036854775808 : Int) ≤ a1; omega, by show a1 ≤ (-1 : Int); omega, by simp⟩
  unfold KB.find at h
  split at h
  · rename_i he
    injection h with h; subst h; dsimp only at he; subst he
    exact ⟨a2, by simp [symF, planColdFSym], by show (-9223372036854775808 : Int) ≤ a2; omega, by show a2 ≤ (9223372036854775807 : Int); omega, by simp⟩
  cases h
theorem planColdFCheck3 : DT.leaf.check (okT Try.prog (orcOr (fctOrc planColdFF3) (orcOr (arcOrc planColdFA3) (orcOr (mncOrc planColdFM3) (noOrc)))) planColdFHook planColdFCut [] planColdFET 100000 (cFnL Try.prog) (knTabW 16) 90 6 planColdFArgs ⟨.lf, 0, 0, [], []⟩) planColdFKB3 = true := planColdF3h0
theorem planColdFF3_ok (a0 : Int) (a1 : Int) (a2 : Int) (hc : 0 ≤ a0 ∧ a0 ≤ 1000 ∧ 1000 < a1) : FctOK Try.prog planColdFF3 (symF (planColdFSym a0 a1 a2)) := by
  intro p hp
  exact absurd hp (by simp [planColdFF3])
theorem planColdFA3_ok (a0 : Int) (a1 : Int) (a2 : Int) (w0 : (Lit.int .i64 a0).wf = true) (w1 : (Lit.int .i64 a1).wf = true) (w2 : (Lit.int .i64 a2).wf = true) (hc : 0 ≤ a0 ∧ a0 ≤ 1000 ∧ 1000 < a1) : ArcOK Try.prog planColdFA3 (symF (planColdFSym a0 a1 a2)) := by
  intro p hp t x y w
  exact absurd hp (by simp [planColdFA3])
theorem planColdFM3_ok (a0 : Int) (a1 : Int) (a2 : Int) (w0 : (Lit.int .i64 a0).wf = true) (w1 : (Lit.int .i64 a1).wf = true) (w2 : (Lit.int .i64 a2).wf = true) (hc : 0 ≤ a0 ∧ a0 ≤ 1000 ∧ 1000 < a1) : MncOK planColdFM3 (symF (planColdFSym a0 a1 a2)) := by
  intro p hp
  exact absurd hp (by simp [planColdFM3])
theorem planColdFKB3_ok (a0 : Int) (a1 : Int) (a2 : Int) (w0 : (Lit.int .i64 a0).wf = true) (w1 : (Lit.int .i64 a1).wf = true) (w2 : (Lit.int .i64 a2).wf = true) (hc : 0 ≤ a0 ∧ a0 ≤ 1000 ∧ 1000 < a1) : KOK planColdFKB3 (symF (planColdFSym a0 a1 a2)) := by
  have r0 : IntKind.i64.min ≤ a0 ∧ a0 ≤ IntKind.i64.max := by simpa [Lit.wf] using w0
  have r1 : IntKind.i64.min ≤ a1 ∧ a1 ≤ IntKind.i64.max := by simpa [Lit.wf] using w1
  have r2 : IntKind.i64.min ≤ a2 ∧ a2 ≤ IntKind.i64.max := by simpa [Lit.wf] using w2
  simp only [show IntKind.i64.min = -9223372036854775808 from rfl, show IntKind.i64.max = 9223372036854775807 from rfl] at r0 r1 r2
  intro k j h
  unfold planColdFKB3 at h
  unfold KB.find at h
  split at h
  · rename_i he
    injection h with h; subst h; dsimp only at he; subst he
    exact ⟨a0, by simp [symF, planColdFSym], by show (0 : Int) ≤ a0; omega, by show a0 ≤ (1000 : Int); omega, by simp⟩
  unfold KB.find at h
  split at h
  · rename_i he
    injection h with h; subst h; dsimp only at he; subst he
    exact ⟨a1, by simp [symF, planColdFSym], by show (1001 : Int) ≤ a1; omega, by show a1 ≤ (9223372036854775807 : Int); omega, by simp⟩
  unfold KB.find at h
  split at h
  · rename_i he
    injection h with h; subst h; dsimp only at he; subst he
    exact ⟨a2, by simp [symF, planColdFSym], by show (-9223372036854775808 : Int) ≤ a2; omega, by show a2 ≤ (9223372036854775807 : Int); omega, by simp⟩
  cases h
theorem planColdFCheck4 : DT.leaf.check (okT Try.prog (orcOr (fctOrc planColdFF4) (orcOr (arcOrc planColdFA4) (orcOr (mncOrc planColdFM4) (noOrc)))) planColdFHook planColdFCut [] planColdFET 100000 (cFnL Try.prog) (knTabW 16) 90 6 planColdFArgs ⟨.lf, 0, 0, [], []⟩) planColdFKB4 = true := planColdF4h0
theorem planColdFF4_ok (a0 : Int) (a1 : Int) (a2 : Int) (hc : 0 ≤ a0 ∧ a0 ≤ 1000 ∧ 0 ≤ a1 ∧ a1 ≤ 1000 ∧ a2 < 0) : FctOK Try.prog planColdFF4 (symF (planColdFSym a0 a1 a2)) := by
  intro p hp
  exact absurd hp (by simp [planColdFF4])
theorem planColdFA4_ok (a0 : Int) (a1 : Int) (a2 : Int) (w0 : (Lit.int .i64 a0).wf = true) (w1 : (Lit.int .i64 a1).wf = true) (w2 : (Lit.int .i64 a2).wf = true) (hc : 0 ≤ a0 ∧ a0 ≤ 1000 ∧ 0 ≤ a1 ∧ a1 ≤ 1000 ∧ a2 < 0) : ArcOK Try.prog planColdFA4 (symF (planColdFSym a0 a1 a2)) := by
  intro p hp t x y w
  exact absurd hp (by simp [planColdFA4])
theorem planColdFM4_ok (a0 : Int) (a1 : Int) (a2 : Int) (w0 : (Lit.int .i64 a0).wf = true) (w1 : (Lit.int .i64 a1).wf = true) (w2 : (Lit.int .i64 a2).wf = true) (hc : 0 ≤ a0 ∧ a0 ≤ 1000 ∧ 0 ≤ a1 ∧ a1 ≤ 1000 ∧ a2 < 0) : MncOK planColdFM4 (symF (planColdFSym a0 a1 a2)) := by
  intro p hp
  exact absurd hp (by simp [planColdFM4])
theorem planColdFKB4_ok (a0 : Int) (a1 : Int) (a2 : Int) (w0 : (Lit.int .i64 a0).wf = true) (w1 : (Lit.int .i64 a1).wf = true) (w2 : (Lit.int .i64 a2).wf = true) (hc : 0 ≤ a0 ∧ a0 ≤ 1000 ∧ 0 ≤ a1 ∧ a1 ≤ 1000 ∧ a2 < 0) : KOK planColdFKB4 (symF (planColdFSym a0 a1 a2)) := by
  have r0 : IntKind.i64.min ≤ a0 ∧ a0 ≤ IntKind.i64.max := by simpa [Lit.wf] using w0
  have r1 : IntKind.i64.min ≤ a1 ∧ a1 ≤ IntKind.i64.max := by simpa [Lit.wf] using w1
  have r2 : IntKind.i64.min ≤ a2 ∧ a2 ≤ IntKind.i64.max := by simpa [Lit.wf] using w2
  simp only [show IntKind.i64.min = -9223372036854775808 from rfl, show IntKind.i64.max = 9223372036854775807 from rfl] at r0 r1 r2
  intro k j h
  unfold planColdFKB4 at h
  unfold KB.find at h
  split at h
  · rename_i he
    injection h with h; subst h; dsimp only at he; subst he
    exact ⟨a0, by simp [symF, planColdFSym], by show (0 : Int) ≤ a0; omega, by show a0 ≤ (1000 : Int); omega, by simp⟩
  unfold KB.find at h
  split at h
  · rename_i he
    injection h with h; subst h; dsimp only at he; subst he
    exact ⟨a1, by simp [symF, planColdFSym], by show (0 : Int) ≤ a1; omega, by show a1 ≤ (1000 : Int); omega, by simp⟩
  unfold KB.find at h
  split at h
  · rename_i he
    injection h with h; subst h; dsimp only at he; subst he
    exact ⟨a2, by simp [symF, planColdFSym], by show (-9223372036854775808 : Int) ≤ a2; omega, by show a2 ≤ (-1 : Int); omega, by simp⟩
  cases h
theorem planColdFCheck5 : DT.leaf.check (okT Try.prog (orcOr (fctOrc planColdFF5) (orcOr (arcOrc planColdFA5) (orcOr (mncOrc planColdFM5) (noOrc)))) planColdFHook planColdFCut [] planColdFET 100000 (cFnL Try.prog) (knTabW 16) 90 6 planColdFArgs ⟨.lf, 0, 0, [], []⟩) planColdFKB5 = true := planColdF5h0
theorem planColdFF5_ok (a0 : Int) (a1 : Int) (a2 : Int) (hc : 0 ≤ a0 ∧ a0 ≤ 1000 ∧ 0 ≤ a1 ∧ a1 ≤ 1000 ∧ 3000 < a2) : FctOK Try.prog planColdFF5 (symF (planColdFSym a0 a1 a2)) := by
  intro p hp
  exact absurd hp (by simp [planColdFF5])
theorem planColdFA5_ok (a0 : Int) (a1 : Int) (a2 : Int) (w0 : (Lit.int .i64 a0).wf = true) (w1 : (Lit.int .i64 a1).wf = true) (w2 : (Lit.int .i64 a2).wf = true) (hc : 0 ≤ a0 ∧ a0 ≤ 1000 ∧ 0 ≤ a1 ∧ a1 ≤ 1000 ∧ 3000 < a2) : ArcOK Try.prog planColdFA5 (symF (planColdFSym a0 a1 a2)) := by
  intro p hp t x y w
  exact absurd hp (by simp [planColdFA5])
theorem planColdFM5_ok (a0 : Int) (a1 : Int) (a2 : Int) (w0 : (Lit.int .i64 a0).wf = true) (w1 : (Lit.int .i64 a1).wf = true) (w2 : (Lit.int .i64 a2).wf = true) (hc : 0 ≤ a0 ∧ a0 ≤ 1000 ∧ 0 ≤ a1 ∧ a1 ≤ 1000 ∧ 3000 < a2) : MncOK planColdFM5 (symF (planColdFSym a0 a1 a2)) := by
  intro p hp
  exact absurd hp (by simp [planColdFM5])
theorem planColdFKB5_ok (a0 : Int) (a1 : Int) (a2 : Int) (w0 : (Lit.int .i64 a0).wf = true) (w1 : (Lit.int .i64 a1).wf = true) (w2 : (Lit.int .i64 a2).wf = true) (hc : 0 ≤ a0 ∧ a0 ≤ 1000 ∧ 0 ≤ a1 ∧ a1 ≤ 1000 ∧ 3000 < a2) : KOK planColdFKB5 (symF (planColdFSym a0 a1 a2)) := by
  have r0 : IntKind.i64.min ≤ a0 ∧ a0 ≤ IntKind.i64.max := by simpa [Lit.wf] using w0
  have r1 : IntKind.i64.min ≤ a1 ∧ a1 ≤ IntKind.i64.max := by simpa [Lit.wf] using w1
  have r2 : IntKind.i64.min ≤ a2 ∧ a2 ≤ IntKind.i64.max := by simpa [Lit.wf] using w2
  simp only [show IntKind.i64.min = -9223372036854775808 from rfl, show IntKind.i64.max = 9223372036854775807 from rfl] at r0 r1 r2
  intro k j h
  unfold planColdFKB5 at h
  unfold KB.find at h
  split at h
  · rename_i he
    injection h with h; subst h; dsimp only at he; subst he
    exact ⟨a0, by simp [symF, planColdFSym], by show (0 : Int) ≤ a0; omega, by show a0 ≤ (1000 : Int); omega, by simp⟩
  unfold KB.find at h
  split at h
  · rename_i he
    injection h with h; subst h; dsimp only at he; subst he
    exact ⟨a1, by simp [symF, planColdFSym], by show (0 : Int) ≤ a1; omega, by show a1 ≤ (1000 : Int); omega, by simp⟩
  unfold KB.find at h
  split at h
  · rename_i he
    injection h with h; subst h; dsimp only at he; subst he
    exact ⟨a2, by simp [symF, planColdFSym], by show (3001 : Int) ≤ a2; omega, by show a2 ≤ (9223372036854775807 : Int); omega, by simp⟩
  cases h
def planColdF6t2 : DT := .less 2 (1) .leaf .leaf
theorem planColdF6h2 : planColdF6t2.check (okT Try.prog (orcOr (fctOrc planColdFF6) (orcOr (arcOrc planColdFA6) (orcOr (mncOrc planColdFM6) (noOrc)))) planColdFHook planColdFCut [] planColdFET 100000 (cFnL Try.prog) (knTabW 16) 90 6 planColdFArgs ⟨.lf, 0, 0, [], []⟩) planColdF6k1y = true := check_less (Ky := planColdF6k2y) (Kn := planColdF6k2n) (i := ⟨0, 3000, []⟩) (by kernel_rfl) (by kernel_rfl) (by kernel_rfl) (.inr planColdF6h3) (.inr planColdF6h4)
def planColdF6t1 : DT := .less 1 (1) planColdF6t2 .leaf
theorem planColdF6h1 : planColdF6t1.check (okT Try.prog (orcOr (fctOrc planColdFF6) (orcOr (arcOrc planColdFA6) (orcOr (mncOrc planColdFM6) (noOrc)))) planColdFHook planColdFCut [] planColdFET 100000 (cFnL Try.prog) (knTabW 16) 90 6 planColdFArgs ⟨.lf, 0, 0, [], []⟩) planColdF6k0y = true := check_less (Ky := planColdF6k1y) (Kn := planColdF6k1n) (i := ⟨0, 1000, []⟩) (by kernel_rfl) (by kernel_rfl) (by kernel_rfl) (.inr planColdF6h2) (.inr planColdF6h5)
def planColdF6t6 : DT := .less 1 (1) .leaf .leaf
theorem planColdF6h6 : planColdF6t6.check (okT Try.prog (orcOr (fctOrc planColdFF6) (orcOr (arcOrc planColdFA6) (orcOr (mncOrc planColdFM6) (noOrc)))) planColdFHook planColdFCut [] planColdFET 100000 (cFnL Try.prog) (knTabW 16) 90 6 planColdFArgs ⟨.lf, 0, 0, [], []⟩) planColdF6k0n = true := check_less (Ky := planColdF6k6y) (Kn := planColdF6k6n) (i := ⟨0, 1000, []⟩) (by kernel_rfl) (by kernel_rfl) (by kernel_rfl) (.inr planColdF6h7) (.inr planColdF6h8)
def planColdF6t0 : DT := .less 0 (1) planColdF6t1 planColdF6t6
theorem planColdF6h0 : planColdF6t0.check (okT Try.prog (orcOr (fctOrc planColdFF6) (orcOr (arcOrc planColdFA6) (orcOr (mncOrc planColdFM6) (noOrc)))) planColdFHook planColdFCut [] planColdFET 100000 (cFnL Try.prog) (knTabW 16) 90 6 planColdFArgs ⟨.lf, 0, 0, [], []⟩) planColdFKB6 = true := check_less (Ky := planColdF6k0y) (Kn := planColdF6k0n) (i := ⟨0, 1000, []⟩) (by kernel_rfl) (by kernel_rfl) (by kernel_rfl) (.inr planColdF6h1) (.inr planColdF6h6)
theorem planColdFCheck6 : planColdF6t0.check (okT Try.prog (orcOr (fctOrc planColdFF6) (orcOr (arcOrc planColdFA6) (orcOr (mncOrc planColdFM6) (noOrc)))) planColdFHook planColdFCut [] planColdFET 100000 (cFnL Try.prog) (knTabW 16) 90 6 planColdFArgs ⟨.lf, 0, 0, [], []⟩) planColdFKB6 = true := planColdF6h0
theorem planColdFF6_ok (a0 : Int) (a1 : Int) (a2 : Int) (hc : 0 ≤ a0 ∧ a0 ≤ 1000 ∧ 0 ≤ a1 ∧ a1 ≤ 1000 ∧ 0 ≤ a2 ∧ a2 ≤ 3000 ∧ a0 < a1 ∧ a0 + a1 < a2) : FctOK Try.prog planColdFF6 (symF (planColdFSym a0 a1 a2)) := by
  intro p hp t x y w
  simp only [planColdFF6, List.mem_cons, List.not_mem_nil, or_false] at hp
  rcases hp with rfl | rfl | rfl | rfl | rfl
  all_goals (simp [atomOf, symF, planColdFSym, eqGuard, binOp, Op.intCmp]; try omega)
theorem planColdFA6_ok (a0 : Int) (a1 : Int) (a2 : Int) (w0 : (Lit.int .i64 a0).wf = true) (w1 : (Lit.int .i64 a1).wf = true) (w2 : (Lit.int .i64 a2).wf = true) (hc : 0 ≤ a0 ∧ a0 ≤ 1000 ∧ 0 ≤ a1 ∧ a1 ≤ 1000 ∧ 0 ≤ a2 ∧ a2 ≤ 3000 ∧ a0 < a1 ∧ a0 + a1 < a2) : ArcOK Try.prog planColdFA6 (symF (planColdFSym a0 a1 a2)) := by
  intro p hp t x y w
  simp only [planColdFA6, List.mem_cons, List.not_mem_nil, or_false] at hp
  rcases hp with rfl | rfl | rfl | rfl | rfl | rfl
  · refine arith_run (.inl ⟨rfl, ?_⟩) ?_ ?_ t x y w <;> omega
  · refine arith_run (.inl ⟨rfl, ?_⟩) ?_ ?_ t x y w <;> omega
  · refine arith_run (.inl ⟨rfl, ?_⟩) ?_ ?_ t x y w <;> omega
  · refine arith_run (.inl ⟨rfl, ?_⟩) ?_ ?_ t x y w <;> omega
  · refine arith_run (.inl ⟨rfl, ?_⟩) ?_ ?_ t x y w <;> omega
  · refine arith_run (.inl ⟨rfl, ?_⟩) ?_ ?_ t x y w <;> omega
theorem planColdFM6_ok (a0 : Int) (a1 : Int) (a2 : Int) (w0 : (Lit.int .i64 a0).wf = true) (w1 : (Lit.int .i64 a1).wf = true) (w2 : (Lit.int .i64 a2).wf = true) (hc : 0 ≤ a0 ∧ a0 ≤ 1000 ∧ 0 ≤ a1 ∧ a1 ≤ 1000 ∧ 0 ≤ a2 ∧ a2 ≤ 3000 ∧ a0 < a1 ∧ a0 + a1 < a2) : MncOK planColdFM6 (symF (planColdFSym a0 a1 a2)) := by
  intro p hp
  simp only [planColdFM6, List.mem_cons, List.not_mem_nil, or_false] at hp
  rcases hp with rfl | rfl | rfl | rfl
  · exact ⟨a0, (0), by simp [atomOf, symF, planColdFSym], by simp [atomOf, symF, planColdFSym], by simp [atomOf, symF, planColdFSym] <;> omega⟩
  · exact ⟨a0, (1099511627776), by simp [atomOf, symF, planColdFSym], by simp [atomOf, symF, planColdFSym], by simp [atomOf, symF, planColdFSym] <;> omega⟩
  · exact ⟨a1, (0), by simp [atomOf, symF, planColdFSym], by simp [atomOf, symF, planColdFSym], by simp [atomOf, symF, planColdFSym] <;> omega⟩
  · exact ⟨a1, (1099511627776), by simp [atomOf, symF, planColdFSym], by simp [atomOf, symF, planColdFSym], by simp [atomOf, symF, planColdFSym] <;> omega⟩
theorem planColdFKB6_ok (a0 : Int) (a1 : Int) (a2 : Int) (w0 : (Lit.int .i64 a0).wf = true) (w1 : (Lit.int .i64 a1).wf = true) (w2 : (Lit.int .i64 a2).wf = true) (hc : 0 ≤ a0 ∧ a0 ≤ 1000 ∧ 0 ≤ a1 ∧ a1 ≤ 1000 ∧ 0 ≤ a2 ∧ a2 ≤ 3000 ∧ a0 < a1 ∧ a0 + a1 < a2) : KOK planColdFKB6 (symF (planColdFSym a0 a1 a2)) := by
  have r0 : IntKind.i64.min ≤ a0 ∧ a0 ≤ IntKind.i64.max := by simpa [Lit.wf] using w0
  have r1 : IntKind.i64.min ≤ a1 ∧ a1 ≤ IntKind.i64.max := by simpa [Lit.wf] using w1
  have r2 : IntKind.i64.min ≤ a2 ∧ a2 ≤ IntKind.i64.max := by simpa [Lit.wf] using w2
  simp only [show IntKind.i64.min = -9223372036854775808 from rfl, show IntKind.i64.max = 9223372036854775807 from rfl] at r0 r1 r2
  intro k j h
  unfold planColdFKB6 at h
  unfold KB.find at h
  split at h
  · rename_i he
    injection h with h; subst h; dsimp only at he; subst he
    exact ⟨a0, by simp [symF, planColdFSym], by show (0 : Int) ≤ a0; omega, by show a0 ≤ (1000 : Int); omega, by simp⟩
  unfold KB.find at h
  split at h
  · rename_i he
    injection h with h; subst h; dsimp only at he; subst he
    exact ⟨a1, by simp [symF, planColdFSym], by show (0 : Int) ≤ a1; omega, by show a1 ≤ (1000 : Int); omega, by simp⟩
  unfold KB.find at h
  split at h
  · rename_i he
    injection h with h; subst h; dsimp only at he; subst he
    exact ⟨a2, by simp [symF, planColdFSym], by show (0 : Int) ≤ a2; omega, by show a2 ≤ (3000 : Int); omega, by simp⟩
  unfold KB.find at h
  split at h
  · rename_i he
    injection h with h; subst h; dsimp only at he; subst he
    exact ⟨(a0 + a1), by simp [symF, planColdFSym], by show (1 : Int) ≤ (a0 + a1); omega, by show (a0 + a1) ≤ (1999 : Int); omega, by simp⟩
  unfold KB.find at h
  split at h
  · rename_i he
    injection h with h; subst h; dsimp only at he; subst he
    exact ⟨(a1 + a1), by simp [symF, planColdFSym], by show (2 : Int) ≤ (a1 + a1); omega, by show (a1 + a1) ≤ (2000 : Int); omega, by simp⟩
  unfold KB.find at h
  split at h
  · rename_i he
    injection h with h; subst h; dsimp only at he; subst he
    exact ⟨((a0 + a1) + a0), by simp [symF, planColdFSym], by show (1 : Int) ≤ ((a0 + a1) + a0); omega, by show ((a0 + a1) + a0) ≤ (2998 : Int); omega, by simp⟩
  unfold KB.find at h
  split at h
  · rename_i he
    injection h with h; subst h; dsimp only at he; subst he
    exact ⟨((a0 + a1) + a1), by simp [symF, planColdFSym], by show (2 : Int) ≤ ((a0 + a1) + a1); omega, by show ((a0 + a1) + a1) ≤ (2999 : Int); omega, by simp⟩
  cases h
def planColdF7t2 : DT := .less 2 (1) .leaf .leaf
theorem planColdF7h2 : planColdF7t2.check (okT Try.prog (orcOr (fctOrc planColdFF7) (orcOr (arcOrc planColdFA7) (orcOr (mncOrc planColdFM7) (noOrc)))) planColdFHook planColdFCut [] planColdFET 100000 (cFnL Try.prog) (knTabW 16) 90 6 planColdFArgs ⟨.lf, 0, 0, [], []⟩) planColdF7k1y = true := check_less (Ky := planColdF7k2y) (Kn := planColdF7k2n) (i := ⟨0, 3000, []⟩) (by kernel_rfl) (by kernel_rfl) (by kernel_rfl) (.inr planColdF7h3) (.inr planColdF7h4)
def planColdF7t1 : DT := .less 1 (1) planColdF7t2 .leaf
theorem planColdF7h1 : planColdF7t1.check (okT Try.prog (orcOr (fctOrc planColdFF7) (orcOr (arcOrc planColdFA7) (orcOr (mncOrc planColdFM7) (noOrc)))) planColdFHook planColdFCut [] planColdFET 100000 (cFnL Try.prog) (knTabW 16) 90 6 planColdFArgs ⟨.lf, 0, 0, [], []⟩) planColdF7k0y = true := check_less (Ky := planColdF7k1y) (Kn := planColdF7k1n) (i := ⟨0, 1000, []⟩) (by kernel_rfl) (by kernel_rfl) (by kernel_rfl) (.inr planColdF7h2) (.inr planColdF7h5)
def planColdF7t6 : DT := .less 1 (1) .leaf .leaf
theorem planColdF7h6 : planColdF7t6.check (okT Try.prog (orcOr (fctOrc planColdFF7) (orcOr (arcOrc planColdFA7) (orcOr (mncOrc planColdFM7) (noOrc)))) planColdFHook planColdFCut [] planColdFET 100000 (cFnL Try.prog) (knTabW 16) 90 6 planColdFArgs ⟨.lf, 0, 0, [], []⟩) planColdF7k0n = true := check_less (Ky := planColdF7k6y) (Kn := planColdF7k6n) (i := ⟨0, 1000, []⟩) (by kernel_rfl) (by kernel_rfl) (by kernel_rfl) (.inr planColdF7h7) (.inr planColdF7h8)
def planColdF7t0 : DT := .less 0 (1) planColdF7t1 planColdF7t6
theorem planColdF7h0 : planColdF7t0.check (okT Try.prog (orcOr (fctOrc planColdFF7) (orcOr (arcOrc planColdFA7) (orcOr (mncOrc planColdFM7) (noOrc)))) planColdFHook planColdFCut [] planColdFET 100000 (cFnL Try.prog) (knTabW 16) 90 6 planColdFArgs ⟨.lf, 0, 0, [], []⟩) planColdFKB7 = true := check_less (Ky := planColdF7k0y) (Kn := planColdF7k0n) (i := ⟨0, 1000, []⟩) (by kernel_rfl) (by kernel_rfl) (by kernel_rfl) (.inr planColdF7h1) (.inr planColdF7h6)
theorem planColdFCheck7 : planColdF7t0.check (okT Try.prog (orcOr (fctOrc planColdFF7) (orcOr (arcOrc planColdFA7) (orcOr (mncOrc planColdFM7) (noOrc)))) planColdFHook planColdFCut [] planColdFET 100000 (cFnL Try.prog) (knTabW 16) 90 6 planColdFArgs ⟨.lf, 0, 0, [], []⟩) planColdFKB7 = true := planColdF7h0
theorem planColdFF7_ok (a0 : Int) (a1 : Int) (a2 : Int) (hc : 0 ≤ a0 ∧ a0 ≤ 1000 ∧ 0 ≤ a1 ∧ a1 ≤ 1000 ∧ 0 ≤ a2 ∧ a2 ≤ 3000 ∧ a0 < a1 ∧ a2 ≤ a0 + a1) : FctOK Try.prog planColdFF7 (symF (planColdFSym a0 a1 a2)) := by
  intro p hp t x y w
  simp only [planColdFF7, List.mem_cons, List.not_mem_nil, or_false] at hp
  rcases hp with rfl | rfl | rfl | rfl | rfl
  all_goals (simp [atomOf, symF, planColdFSym, eqGuard, binOp, Op.intCmp]; try omega)
theorem planColdFA7_ok (a0 : Int) (a1 : Int) (a2 : Int) (w0 : (Lit.int .i64 a0).wf = true) (w1 : (Lit.int .i64 a1).wf = true) (w2 : (Lit.int .i64 a2).wf = true) (hc : 0 ≤ a0 ∧ a0 ≤ 1000 ∧ 0 ≤ a1 ∧ a1 ≤ 1000 ∧ 0 ≤ a2 ∧ a2 ≤ 3000 ∧ a0 < a1 ∧ a2 ≤ a0 + a1) : ArcOK Try.prog planColdFA7 (symF (planColdFSym a0 a1 a2)) := by
  intro p hp t x y w
  simp only [planColdFA7, List.mem_cons, List.not_mem_nil, or_false] at hp
  rcases hp with rfl | rfl | rfl | rfl | rfl | rfl
  · refine arith_run (.inl ⟨rfl, ?_⟩) ?_ ?_ t x y w <;> omega
  · refine arith_run (.inl ⟨rfl, ?_⟩) ?_ ?_ t x y w <;> omega
  · refine arith_run (.inl ⟨rfl, ?_⟩) ?_ ?_ t x y w <;> omega
  · refine arith_run (.inl ⟨rfl, ?_⟩) ?_ ?_ t x y w <;> omega
  · refine arith_run (.inl ⟨rfl, ?_⟩) ?_ ?_ t x y w <;> omega
  · refine arith_run (.inl ⟨rfl, ?_⟩) ?_ ?_ t x y w <;> omega
theorem planColdFM7_ok (a0 : Int) (a1 : Int) (a2 : Int) (w0 : (Lit.int .i64 a0).wf = true) (w1 : (Lit.int .i64 a1).wf = true) (w2 : (Lit.int .i64 a2).wf = true) (hc : 0 ≤ a0 ∧ a0 ≤ 1000 ∧ 0 ≤ a1 ∧ a1 ≤ 1000 ∧ 0 ≤ a2 ∧ a2 ≤ 3000 ∧ a0 < a1 ∧ a2 ≤ a0 + a1) : MncOK planColdFM7 (symF (planColdFSym a0 a1 a2)) := by
  intro p hp
  simp only [planColdFM7, List.mem_cons, List.not_mem_nil, or_false] at hp
  rcases hp with rfl | rfl | rfl | rfl
  · exact ⟨a0, (0), by simp [atomOf, symF, planColdFSym], by simp [atomOf, symF, planColdFSym], by simp [atomOf, symF, planColdFSym] <;> omega⟩
  · exact ⟨a0, (1099511627776), by simp [atomOf, symF, planColdFSym], by simp [atomOf, symF, planColdFSym], by simp [atomOf, symF, planColdFSym] <;> omega⟩
  · exact ⟨a1, (0), by simp [atomOf, symF, planColdFSym], by simp [atomOf, symF, planColdFSym], by simp [atomOf, symF, planColdFSym] <;> omega⟩
  · exact ⟨a1, (1099511627776), by simp [atomOf, symF, planColdFSym], by simp [atomOf, symF, planColdFSym], by simp [atomOf, symF, planColdFSym] <;> omega⟩
theorem planColdFKB7_ok (a0 : Int) (a1 : Int) (a2 : Int) (w0 : (Lit.int .i64 a0).wf = true) (w1 : (Lit.int .i64 a1).wf = true) (w2 : (Lit.int .i64 a2).wf = true) (hc : 0 ≤ a0 ∧ a0 ≤ 1000 ∧ 0 ≤ a1 ∧ a1 ≤ 1000 ∧ 0 ≤ a2 ∧ a2 ≤ 3000 ∧ a0 < a1 ∧ a2 ≤ a0 + a1) : KOK planColdFKB7 (symF (planColdFSym a0 a1 a2)) := by
  have r0 : IntKind.i64.min ≤ a0 ∧ a0 ≤ IntKind.i64.max := by simpa [Lit.wf] using w0
  have r1 : IntKind.i64.min ≤ a1 ∧ a1 ≤ IntKind.i64.max := by simpa [Lit.wf] using w1
  have r2 : IntKind.i64.min ≤ a2 ∧ a2 ≤ IntKind.i64.max := by simpa [Lit.wf] using w2
  simp only [show IntKind.i64.min = -9223372036854775808 from rfl, show IntKind.i64.max = 9223372036854775807 from rfl] at r0 r1 r2
  intro k j h
  unfold planColdFKB7 at h
  unfold KB.find at h
  split at h
  · rename_i he
    injection h with h; subst h; dsimp only at he; subst he
    exact ⟨a0, by simp [symF, planColdFSym], by show (0 : Int) ≤ a0; omega, by show a0 ≤ (1000 : Int); omega, by simp⟩
  unfold KB.find at h
  split at h
  · rename_i he
    injection h with h; subst h; dsimp only at he; subst he
    exact ⟨a1, by simp [symF, planColdFSym], by show (0 : Int) ≤ a1; omega, by show a1 ≤ (1000 : Int); omega, by simp⟩
  unfold KB.find at h
  split at h
  · rename_i he
    injection h with h; subst h; dsimp only at he; subst he
    exact ⟨a2, by simp [symF, planColdFSym], by show (0 : Int) ≤ a2; omega, by show a2 ≤ (3000 : Int); omega, by simp⟩
  unfold KB.find at h
  split at h
  · rename_i he
    injection h with h; subst h; dsimp only at he; subst he
    exact ⟨(a0 + a1), by simp [symF, planColdFSym], by show (1 : Int) ≤ (a0 + a1); omega, by show (a0 + a1) ≤ (1999 : Int); omega, by simp⟩
  unfold KB.find at h
  split at h
  · rename_i he
    injection h with h; subst h; dsimp only at he; subst he
    exact ⟨(a1 + a1), by simp [symF, planColdFSym], by show (2 : Int) ≤ (a1 + a1); omega, by show (a1 + a1) ≤ (2000 : Int); omega, by simp⟩
  unfold KB.find at h
  split at h
  · rename_i he
    injection h with h; subst h; dsimp only at he; subst he
    exact ⟨((a0 + a1) + a0), by simp [symF, planColdFSym], by show (1 : Int) ≤ ((a0 + a1) + a0); omega, by show ((a0 + a1) + a0) ≤ (2998 : Int); omega, by simp⟩
  unfold KB.find at h
  split at h
  · rename_i he
    injection h with h; subst h; dsimp only at he; subst he
    exact ⟨((a0 + a1) + a1), by simp [symF, planColdFSym], by show (2 : Int) ≤ ((a0 + a1) + a1); omega, by show ((a0 + a1) + a1) ≤ (2999 : Int); omega, by simp⟩
  cases h
def planColdF8t2 : DT := .less 2 (1) .leaf .leaf
theorem planColdF8h2 : planColdF8t2.check (okT Try.prog (orcOr (fctOrc planColdFF8) (orcOr (arcOrc planColdFA8) (orcOr (mncOrc planColdFM8) (noOrc)))) planColdFHook planColdFCut [] planColdFET 100000 (cFnL Try.prog) (knTabW 16) 90 6 planColdFArgs ⟨.lf, 0, 0, [], []⟩) planColdF8k1y = true := check_less (Ky := planColdF8k2y) (Kn := planColdF8k2n) (i := ⟨0, 3000, []⟩) (by kernel_rfl) (by kernel_rfl) (by kernel_rfl) (.inr planColdF8h3) (.inr planColdF8h4)
def planColdF8t1 : DT := .less 1 (1) planColdF8t2 .leaf
theorem planColdF8h1 : planColdF8t1.check (okT Try.prog (orcOr (fctOrc planColdFF8) (orcOr (arcOrc planColdFA8) (orcOr (mncOrc planColdFM8) (noOrc)))) planColdFHook planColdFCut [] planColdFET 100000 (cFnL Try.prog) (knTabW 16) 90 6 planColdFArgs ⟨.lf, 0, 0, [], []⟩) planColdF8k0y = true := check_less (Ky := planColdF8k1y) (Kn := planColdF8k1n) (i := ⟨0, 1000, []⟩) (by kernel_rfl) (by kernel_rfl) (by kernel_rfl) (.inr planColdF8h2) (.inr planColdF8h5)
def planColdF8t6 : DT := .less 1 (1) .leaf .leaf
theorem planColdF8h6 : planColdF8t6.check (okT Try.prog (orcOr (fctOrc planColdFF8) (orcOr (arcOrc planColdFA8) (orcOr (mncOrc planColdFM8) (noOrc)))) planColdFHook planColdFCut [] planColdFET 100000 (cFnL Try.prog) (knTabW 16) 90 6 planColdFArgs ⟨.lf, 0, 0, [], []⟩) planColdF8k0n = true := check_less (Ky := planColdF8k6y) (Kn := planColdF8k6n) (i := ⟨0, 1000, []⟩) (by kernel_rfl) (by kernel_rfl) (by kernel_rfl) (.inr planColdF8h7) (.inr planColdF8h8)
def planColdF8t0 : DT := .less 0 (1) planColdF8t1 planColdF8t6
theorem planColdF8h0 : planColdF8t0.check (okT Try.prog (orcOr (fctOrc planColdFF8) (orcOr (arcOrc planColdFA8) (orcOr (mncOrc planColdFM8) (noOrc)))) planColdFHook planColdFCut [] planColdFET 100000 (cFnL Try.prog) (knTabW 16) 90 6 planColdFArgs ⟨.lf, 0, 0, [], []⟩) planColdFKB8 = true := check_less (Ky := planColdF8k0y) (Kn := planColdF8k0n) (i := ⟨0, 1000, []⟩) (by kernel_rfl) (by kernel_rfl) (by kernel_rfl) (.inr planColdF8h1) (.inr planColdF8h6)
theorem planColdFCheck8 : planColdF8t0.check (okT Try.prog (orcOr (fctOrc planColdFF8) (orcOr (arcOrc planColdFA8) (orcOr (mncOrc planColdFM8) (noOrc)))) planColdFHook planColdFCut [] planColdFET 100000 (cFnL Try.prog) (knTabW 16) 90 6 planColdFArgs ⟨.lf, 0, 0, [], []⟩) planColdFKB8 = true := planColdF8h0
theorem planColdFF8_ok (a0 : Int) (a1 : Int) (a2 : Int) (hc : 0 ≤ a0 ∧ a0 ≤ 1000 ∧ 0 ≤ a1 ∧ a1 ≤ 1000 ∧ 0 ≤ a2 ∧ a2 ≤ 3000 ∧ a0 = a1 ∧ a0 + a1 < a2) : FctOK Try.prog planColdFF8 (symF (planColdFSym a0 a1 a2)) := by
  intro p hp t x y w
  simp only [planColdFF8, List.mem_cons, List.not_mem_nil, or_false] at hp
  rcases hp with rfl | rfl | rfl | rfl
  all_goals (simp [atomOf, symF, planColdFSym, eqGuard, binOp, Op.intCmp]; try omega)
theorem planColdFA8_ok (a0 : Int) (a1 : Int) (a2 : Int) (w0 : (Lit.int .i64 a0).wf = true) (w1 : (Lit.int .i64 a1).wf = true) (w2 : (Lit.int .i64 a2).wf = true) (hc : 0 ≤ a0 ∧ a0 ≤ 1000 ∧ 0 ≤ a1 ∧ a1 ≤ 1000 ∧ 0 ≤ a2 ∧ a2 ≤ 3000 ∧ a0 = a1 ∧ a0 + a1 < a2) : ArcOK Try.prog planColdFA8 (symF (planColdFSym a0 a1 a2)) := by
  intro p hp t x y w
  simp only [planColdFA8, List.mem_cons, List.not_mem_nil, or_false] at hp
  rcases hp with rfl | rfl | rfl | rfl | rfl | rfl
  · refine arith_run (.inl ⟨rfl, ?_⟩) ?_ ?_ t x y w <;> omega
  · refine arith_run (.inl ⟨rfl, ?_⟩) ?_ ?_ t x y w <;> omega
  · refine arith_run (.inl ⟨rfl, ?_⟩) ?_ ?_ t x y w <;> omega
  · refine arith_run (.inl ⟨rfl, ?_⟩) ?_ ?_ t x y w <;> omega
  · refine arith_run (.inl ⟨rfl, ?_⟩) ?_ ?_ t x y w <;> omega
  · refine arith_run (.inl ⟨rfl, ?_⟩) ?_ ?_ t x y w <;> omega
theorem planColdFM8_ok (a0 : Int) (a1 : Int) (a2 : Int) (w0 : (Lit.int .i64 a0).wf = true) (w1 : (Lit.int .i64 a1).wf = true) (w2 : (Lit.int .i64 a2).wf = true) (hc : 0 ≤ a0 ∧ a0 ≤ 1000 ∧ 0 ≤ a1 ∧ a1 ≤ 1000 ∧ 0 ≤ a2 ∧ a2 ≤ 3000 ∧ a0 = a1 ∧ a0 + a1 < a2) : MncOK planColdFM8 (symF (planColdFSym a0 a1 a2)) := by
  intro p hp
  simp only [planColdFM8, List.mem_cons, List.not_mem_nil, or_false] at hp
  rcases hp with rfl | rfl | rfl | rfl
  · exact ⟨a0, (0), by simp [atomOf, symF, planColdFSym], by simp [atomOf, symF, planColdFSym], by simp [atomOf, symF, planColdFSym] <;> omega⟩
  · exact ⟨a0, (1099511627776), by simp [atomOf, symF, planColdFSym], by simp [atomOf, symF, planColdFSym], by simp [atomOf, symF, planColdFSym] <;> omega⟩
  · exact ⟨a1, (0), by simp [atomOf, symF, planColdFSym], by simp [atomOf, symF, planColdFSym], by simp [atomOf, symF, planColdFSym] <;> omega⟩
  · exact ⟨a1, (1099511627776), by simp [atomOf, symF, planColdFSym], by simp [atomOf, symF, planColdFSym], by simp [atomOf, symF, planColdFSym] <;> omega⟩
theorem planColdFKB8_ok (a0 : Int) (a1 : Int) (a2 : Int) (w0 : (Lit.int .i64 a0).wf = true) (w1 : (Lit.int .i64 a1).wf = true) (w2 : (Lit.int .i64 a2).wf = true) (hc : 0 ≤ a0 ∧ a0 ≤ 1000 ∧ 0 ≤ a1 ∧ a1 ≤ 1000 ∧ 0 ≤ a2 ∧ a2 ≤ 3000 ∧ a0 = a1 ∧ a0 + a1 < a2) : KOK planColdFKB8 (symF (planColdFSym a0 a1 a2)) := by
  have r0 : IntKind.i64.min ≤ a0 ∧ a0 ≤ IntKind.i64.max := by simpa [Lit.wf] using w0
  have r1 : IntKind.i64.min ≤ a1 ∧ a1 ≤ IntKind.i64.max := by simpa [Lit.wf] using w1
  have r2 : IntKind.i64.min ≤ a2 ∧ a2 ≤ IntKind.i64.max := by simpa [Lit.wf] using w2
  simp only [show IntKind.i64.min = -9223372036854775808 from rfl, show IntKind.i64.max = 9223372036854775807 from rfl] at r0 r1 r2
  intro k j h
  unfold planColdFKB8 at h
  unfold KB.find at h
  split at h
  · rename_i he
    injection h with h; subst h; dsimp only at he; subst he
    exact ⟨a0, by simp [symF, planColdFSym], by show (0 : Int) ≤ a0; omega, by show a0 ≤ (1000 : Int); omega, by simp⟩
  unfold KB.find at h
  split at h
  · rename_i he
    injection h with h; subst h; dsimp only at he; subst he
    exact ⟨a1, by simp [symF, planColdFSym], by show (0 : Int) ≤ a1; omega, by show a1 ≤ (1000 : Int); omega, by simp⟩
  unfold KB.find at h
  split at h
  · rename_i he
    injection h with h; subst h; dsimp only at he; subst he
    exact ⟨a2, by simp [symF, planColdFSym], by show (0 : Int) ≤ a2; omega, by show a2 ≤ (3000 : Int); omega, by simp⟩
  unfold KB.find at h
  split at h
  · rename_i he
    injection h with h; subst h; dsimp only at he; subst he
    exact ⟨(a0 + a1), by simp [symF, planColdFSym], by show (0 : Int) ≤ (a0 + a1); omega, by show (a0 + a1) ≤ (2000 : Int); omega, by simp⟩
  unfold KB.find at h
  split at h
  · rename_i he
    injection h with h; subst h; dsimp only at he; subst he
    exact ⟨((a0 + a1) + a0), by simp [symF, planColdFSym], by show (0 : Int) ≤ ((a0 + a1) + a0); omega, by show ((a0 + a1) + a0) ≤ (3000 : Int); omega, by simp⟩
  cases h
def planColdF9t2 : DT := .less 2 (1) .leaf .leaf
theorem planColdF9h2 : planColdF9t2.check (okT Try.prog (orcOr (fctOrc planColdFF9) (orcOr (arcOrc planColdFA9) (orcOr (mncOrc planColdFM9) (noOrc)))) planColdFHook planColdFCut [] planColdFET 100000 (cFnL Try.prog) (knTabW 16) 90 6 planColdFArgs ⟨.lf, 0, 0, [], []⟩) planColdF9k1y = true := check_less (Ky := planColdF9k2y) (Kn := planColdF9k2n) (i := ⟨0, 3000, []⟩) (by kernel_rfl) (by kernel_rfl) (by kernel_rfl) (.inr planColdF9h3) (.inr planColdF9h4)
def planColdF9t1 : DT := .less 1 (1) planColdF9t2 .leaf
theorem planColdF9h1 : planColdF9t1.check (okT Try.prog (orcOr (fctOrc planColdFF9) (orcOr (arcOrc planColdFA9) (orcOr (mncOrc planColdFM9) (noOrc)))) planColdFHook planColdFCut [] planColdFET 100000 (cFnL Try.prog) (knTabW 16) 90 6 planColdFArgs ⟨.lf, 0, 0, [], []⟩) planColdF9k0y = true := check_less (Ky := planColdF9k1y) (Kn := planColdF9k1n) (i := ⟨0, 1000, []⟩) (by kernel_rfl) (by kernel_rfl) (by kernel_rfl) (.inr planColdF9h2) (.inr planColdF9h5)
def planColdF9t6 : DT := .less 1 (1) .leaf .leaf
theorem planColdF9h6 : planColdF9t6.check (okT Try.prog (orcOr (fctOrc planColdFF9) (orcOr (arcOrc planColdFA9) (orcOr (mncOrc planColdFM9) (noOrc)))) planColdFHook planColdFCut [] planColdFET 100000 (cFnL Try.prog) (knTabW 16) 90 6 planColdFArgs ⟨.lf, 0, 0, [], []⟩) planColdF9k0n = true := check_less (Ky := planColdF9k6y) (Kn := planColdF9k6n) (i := ⟨0, 1000, []⟩) (by kernel_rfl) (by kernel_rfl) (by kernel_rfl) (.inr planColdF9h7) (.inr planColdF9h8)
def planColdF9t0 : DT := .less 0 (1) planColdF9t1 planColdF9t6
theorem planColdF9h0 : planColdF9t0.check (okT Try.prog (orcOr (fctOrc planColdFF9) (orcOr (arcOrc planColdFA9) (orcOr (mncOrc planColdFM9) (noOrc)))) planColdFHook planColdFCut [] planColdFET 100000 (cFnL Try.prog) (knTabW 16) 90 6 planColdFArgs ⟨.lf, 0, 0, [], []⟩) planColdFKB9 = true := check_less (Ky := planColdF9k0y) (Kn := planColdF9k0n) (i := ⟨0, 1000, []⟩) (by kernel_rfl) (by kernel_rfl) (by kernel_rfl) (.inr planColdF9h1) (.inr planColdF9h6)
theorem planColdFCheck9 : planColdF9t0.check (okT Try.prog (orcOr (fctOrc planColdFF9) (orcOr (arcOrc planColdFA9) (orcOr (mncOrc planColdFM9) (noOrc)))) planColdFHook planColdFCut [] planColdFET 100000 (cFnL Try.prog) (knTabW 16) 90 6 planColdFArgs ⟨.lf, 0, 0, [], []⟩) planColdFKB9 = true := planColdF9h0
theorem planColdFF9_ok (a0 : Int) (a1 : Int) (a2 : Int) (hc : 0 ≤ a0 ∧ a0 ≤ 1000 ∧ 0 ≤ a1 ∧ a1 ≤ 1000 ∧ 0 ≤ a2 ∧ a2 ≤ 3000 ∧ a0 = a1 ∧ a2 ≤ a0 + a1) : FctOK Try.prog planColdFF9 (symF (planColdFSym a0 a1 a2)) := by
  intro p hp t x y w
  simp only [planColdFF9, List.mem_cons, List.not_mem_nil, or_false] at hp
  rcases hp with rfl | rfl | rfl | rfl
  all_goals (simp [atomOf, symF, planColdFSym, eqGuard, binOp, Op.intCmp]; try omega)
theorem planColdFA9_ok (a0 : Int) (a1 : Int) (a2 : Int) (w0 : (Lit.int .i64 a0).wf = true) (w1 : (Lit.int .i64 a1).wf = true) (w2 : (Lit.int .i64 a2).wf = true) (hc : 0 ≤ a0 ∧ a0 ≤ 1000 ∧ 0 ≤ a1 ∧ a1 ≤ 1000 ∧ 0 ≤ a2 ∧ a2 ≤ 3000 ∧ a0 = a1 ∧ a2 ≤ a0 + a1) : ArcOK Try.prog planColdFA9 (symF (planColdFSym a0 a1 a2)) := by
  intro p hp t x y w
  simp only [planColdFA9, List.mem_cons, List.not_mem_nil, or_false] at hp
  rcases hp with rfl | rfl | rfl | rfl | rfl | rfl
  · refine arith_run (.inl ⟨rfl, ?_⟩) ?_ ?_ t x y w <;> omega
  · refine arith_run (.inl ⟨rfl, ?_⟩) ?_ ?_ t x y w <;> omega
  · refine arith_run (.inl ⟨rfl, ?_⟩) ?_ ?_ t x y w <;> omega
  · refine arith_run (.inl ⟨rfl, ?_⟩) ?_ ?_ t x y w <;> omega
  · refine arith_run (.inl ⟨rfl, ?_⟩) ?_ ?_ t x y w <;> omega
  · refine arith_run (.inl ⟨rfl, ?_⟩) ?_ ?_ t x y w <;> omega
theorem planColdFM9_ok (a0 : Int) (a1 : Int) (a2 : Int) (w0 : (Lit.int .i64 a0).wf = true) (w1 : (Lit.int .i64 a1).wf = true) (w2 : (Lit.int .i64 a2).wf = true) (hc : 0 ≤ a0 ∧ a0 ≤ 1000 ∧ 0 ≤ a1 ∧ a1 ≤ 1000 ∧ 0 ≤ a2 ∧ a2 ≤ 3000 ∧ a0 = a1 ∧ a2 ≤ a0 + a1) : MncOK planColdFM9 (symF (planColdFSym a0 a1 a2)) := by
  intro p hp
  simp only [planColdFM9, List.mem_cons, List.not_mem_nil, or_false] at hp
  rcases hp with rfl | rfl | rfl | rfl
  · exact ⟨a0, (0), by simp [atomOf, symF, planColdFSym], by simp [atomOf, symF, planColdFSym], by simp [atomOf, symF, planColdFSym] <;> omega⟩
  · exact ⟨a0, (1099511627776), by simp [atomOf, symF, planColdFSym], by simp [atomOf, symF, planColdFSym], by simp [atomOf, symF, planColdFSym] <;> omega⟩
  · exact ⟨a1, (0), by simp [atomOf, symF, planColdFSym], by simp [atomOf, symF, planColdFSym], by simp [atomOf, symF, planColdFSym] <;> omega⟩
  · exact ⟨a1, (1099511627776), by simp [atomOf, symF, planColdFSym], by simp [atomOf, symF, planColdFSym], by simp [atomOf, symF, planColdFSym] <;> omega⟩
theorem planColdFKB9_ok (a0 : Int) (a1 : Int) (a2 : Int) (w0 : (Lit.int .i64 a0).wf = true) (w1 : (Lit.int .i64 a1).wf = true) (w2 : (Lit.int .i64 a2).wf = true) (hc : 0 ≤ a0 ∧ a0 ≤ 1000 ∧ 0 ≤ a1 ∧ a1 ≤ 1000 ∧ 0 ≤ a2 ∧ a2 ≤ 3000 ∧ a0 = a1 ∧ a2 ≤ a0 + a1) : KOK planColdFKB9 (symF (planColdFSym a0 a1 a2)) := by
  have r0 : IntKind.i64.min ≤ a0 ∧ a0 ≤ IntKind.i64.max := by simpa [Lit.wf] using w0
  have r1 : IntKind.i64.min ≤ a1 ∧ a1 ≤ IntKind.i64.max := by simpa [Lit.wf] using w1
  have r2 : IntKind.i64.min ≤ a2 ∧ a2 ≤ IntKind.i64.max := by simpa [Lit.wf] using w2
  simp only [show IntKind.i64.min = -9223372036854775808 from rfl, show IntKind.i64.max = 9223372036854775807 from rfl] at r0 r1 r2
  intro k j h
  unfold planColdFKB9 at h
  unfold KB.find at h
  split at h
  · rename_i he
    injection h with h; subst h; dsimp only at he; subst he
    exact ⟨a0, by simp [symF, planColdFSym], by show (0 : Int) ≤ a0; omega, by show a0 ≤ (1000 : Int); omega, by simp⟩
  unfold KB.find at h
  split at h
  · rename_i he
    injection h with h; subst h; dsimp only at he; subst he
    exact ⟨a1, by simp [symF, planColdFSym], by show (0 : Int) ≤ a1; omega, by show a1 ≤ (1000 : Int); omega, by simp⟩
  unfold KB.find at h
  split at h
  · rename_i he
    injection h with h; subst h; dsimp only at he; subst he
    exact ⟨a2, by simp [symF, planColdFSym], by show (0 : Int) ≤ a2; omega, by show a2 ≤ (3000 : Int); omega, by simp⟩
  unfold KB.find at h
  split at h
  · rename_i he
    injection h with h; subst h; dsimp only at he; subst he
    exact ⟨(a0 + a1), by simp [symF, planColdFSym], by show (0 : Int) ≤ (a0 + a1); omega, by show (a0 + a1) ≤ (2000 : Int); omega, by simp⟩
  unfold KB.find at h
  split at h
  · rename_i he
    injection h with h; subst h; dsimp only at he; subst he
    exact ⟨((a0 + a1) + a0), by simp [symF, planColdFSym], by show (0 : Int) ≤ ((a0 + a1) + a0); omega, by show ((a0 + a1) + a0) ≤ (3000 : Int); omega, by simp⟩
  cases h
def planColdF10t2 : DT := .less 2 (1) .leaf .leaf
theorem planColdF10h2 : planColdF10t2.check (okT Try.prog (orcOr (fctOrc planColdFF10) (orcOr (arcOrc planColdFA10) (orcOr (mncOrc planColdFM10) (noOrc)))) planColdFHook planColdFCut [] planColdFET 100000 (cFnL Try.prog) (knTabW 16) 90 6 planColdFArgs ⟨.lf, 0, 0, [], []⟩) planColdF10k1y = true := check_less (Ky := planColdF10k2y) (Kn := planColdF10k2n) (i := ⟨0, 3000, []⟩) (by kernel_rfl) (by kernel_rfl) (by kernel_rfl) (.inr planColdF10h3) (.inr planColdF10h4)
def planColdF10t1 : DT := .less 1 (1) planColdF10t2 .leaf
theorem planColdF10h1 : planColdF10t1.check (okT Try.prog (orcOr (fctOrc planColdFF10) (orcOr (arcOrc planColdFA10) (orcOr (mncOrc planColdFM10) (noOrc)))) planColdFHook planColdFCut [] planColdFET 100000 (cFnL Try.prog) (knTabW 16) 90 6 planColdFArgs ⟨.lf, 0, 0, [], []⟩) planColdF10k0y = true := check_less (Ky := planColdF10k1y) (Kn := planColdF10k1n) (i := ⟨0, 1000, []⟩) (by kernel_rfl) (by kernel_rfl) (by kernel_rfl) (.inr planColdF10h2) (.inr planColdF10h5)
def planColdF10t6 : DT := .less 1 (1) .leaf .leaf
theorem planColdF10h6 : planColdF10t6.check (okT Try.prog (orcOr (fctOrc planColdFF10) (orcOr (arcOrc planColdFA10) (orcOr (mncOrc planColdFM10) (noOrc)))) planColdFHook planColdFCut [] planColdFET 100000 (cFnL Try.prog) (knTabW 16) 90 6 planColdFArgs ⟨.lf, 0, 0, [], []⟩) planColdF10k0n = true := check_less (Ky := planColdF10k6y) (Kn := planColdF10k6n) (i := ⟨0, 1000, []⟩) (by kernel_rfl) (by kernel_rfl) (by kernel_rfl) (.inr planColdF10h7) (.inr planColdF10h8)
def planColdF10t0 : DT := .less 0 (1) planColdF10t1 planColdF10t6
theorem planColdF10h0 : planColdF10t0.check (okT Try.prog (orcOr (fctOrc planColdFF10) (orcOr (arcOrc planColdFA10) (orcOr (mncOrc planColdFM10) (noOrc)))) planColdFHook planColdFCut [] planColdFET 100000 (cFnL Try.prog) (knTabW 16) 90 6 planColdFArgs ⟨.lf, 0, 0, [], []⟩) planColdFKB10 = true := check_less (Ky := planColdF10k0y) (Kn := planColdF10k0n) (i := ⟨0, 1000, []⟩) (by kernel_rfl) (by kernel_rfl) (by kernel_rfl) (.inr planColdF10h1) (.inr planColdF10h6)
theorem planColdFCheck10 : planColdF10t0.check (okT Try.prog (orcOr (fctOrc planColdFF10) (orcOr (arcOrc planColdFA10) (orcOr (mncOrc planColdFM10) (noOrc)))) planColdFHook planColdFCut [] planColdFET 100000 (cFnL Try.prog) (knTabW 16) 90 6 planColdFArgs ⟨.lf, 0, 0, [], []⟩) planColdFKB10 = true := planColdF10h0
theorem planColdFF10_ok (a0 : Int) (a1 : Int) (a2 : Int) (hc : 0 ≤ a0 ∧ a0 ≤ 1000 ∧ 0 ≤ a1 ∧ a1 ≤ 1000 ∧ 0 ≤ a2 ∧ a2 ≤ 3000 ∧ a1 < a0 ∧ a0 + a1 < a2) : FctOK Try.prog planColdFF10 (symF (planColdFSym a0 a1 a2)) := by
  intro p hp t x y w
  simp only [planColdFF10, List.mem_cons, List.not_mem_nil, or_false] at hp
  rcases hp with rfl | rfl | rfl | rfl | rfl
  all_goals (simp [atomOf, symF, planColdFSym, eqGuard, binOp, Op.intCmp]; try omega)
theorem planColdFA10_ok (a0 : Int) (a1 : Int) (a2 : Int) (w0 : (Lit.int .i64 a0).wf = true) (w1 : (Lit.int .i64 a1).wf = true) (w2 : (Lit.int .i64 a2).wf = true) (hc : 0 ≤ a0 ∧ a0 ≤ 1000 ∧ 0 ≤ a1 ∧ a1 ≤ 1000 ∧ 0 ≤ a2 ∧ a2 ≤ 3000 ∧ a1 < a0 ∧ a0 + a1 < a2) : ArcOK Try.prog planColdFA10 (symF (planColdFSym a0 a1 a2)) := by
  intro p hp t x y w
  simp only [planColdFA10, List.mem_cons, List.not_mem_nil, or_false] at hp
  rcases hp with rfl | rfl | rfl | rfl | rfl | rfl
  · refine arith_run (.inl ⟨rfl, ?_⟩) ?_ ?_ t x y w <;> omega
  · refine arith_run (.inl ⟨rfl, ?_⟩) ?_ ?_ t x y w <;> omega
  · refine arith_run (.inl ⟨rfl, ?_⟩) ?_ ?_ t x y w <;> omega
  · refine arith_run (.inl ⟨rfl, ?_⟩) ?_ ?_ t x y w <;> omega
  · refine arith_run (.inl ⟨rfl, ?_⟩) ?_ ?_ t x y w <;> omega
  · refine arith_run (.inl ⟨rfl, ?_⟩) ?_ ?_ t x y w <;> omega
theorem planColdFM10_ok (a0 : Int) (a1 : Int) (a2 : Int) (w0 : (Lit.int .i64 a0).wf = true) (w1 : (Lit.int .i64 a1).wf = true) (w2 : (Lit.int .i64 a2).wf = true) (hc : 0 ≤ a0 ∧ a0 ≤ 1000 ∧ 0 ≤ a1 ∧ a1 ≤ 1000 ∧ 0 ≤ a2 ∧ a2 ≤ 3000 ∧ a1 < a0 ∧ a0 + a1 < a2) : MncOK planColdFM10 (symF (planColdFSym a0 a1 a2)) := by
  intro p hp
  simp only [planColdFM10, List.mem_cons, List.not_mem_nil, or_false] at hp
  rcases hp with rfl | rfl | rfl | rfl
  · exact ⟨a0, (0), by simp [atomOf, symF, planColdFSym], by simp [atomOf, symF, planColdFSym], by simp [atomOf, symF, planColdFSym] <;> omega⟩
  · exact ⟨a0, (1099511627776), by simp [atomOf, symF, planColdFSym], by simp [atomOf, symF, planColdFSym], by simp [atomOf, symF, planColdFSym] <;> omega⟩
  · exact ⟨a1, (0), by simp [atomOf, symF, planColdFSym], by simp [atomOf, symF, planColdFSym], by simp [atomOf, symF, planColdFSym] <;> omega⟩
  · exact ⟨a1, (1099511627776), by simp [atomOf, symF, planColdFSym], by simp [atomOf, symF, planColdFSym], by simp [atomOf, symF, planColdFSym] <;> omega⟩
theorem planColdFKB10_ok (a0 : Int) (a1 : Int) (a2 : Int) (w0 : (Lit.int .i64 a0).wf = true) (w1 : (Lit.int .i64 a1).wf = true) (w2 : (Lit.int .i64 a2).wf = true) (hc : 0 ≤ a0 ∧ a0 ≤ 1000 ∧ 0 ≤ a1 ∧ a1 ≤ 1000 ∧ 0 ≤ a2 ∧ a2 ≤ 3000 ∧ a1 < a0 ∧ a0 + a1 < a2) : KOK planColdFKB10 (symF (planColdFSym a0 a1 a2)) := by
  have r0 : IntKind.i64.min ≤ a0 ∧ a0 ≤ IntKind.i64.max := by simpa [Lit.wf] using w0
  have r1 : IntKind.i64.min ≤ a1 ∧ a1 ≤ IntKind.i64.max := by simpa [Lit.wf] using w1
  have r2 : IntKind.i64.min ≤ a2 ∧ a2 ≤ IntKind.i64.max := by simpa [Lit.wf] using w2
  simp only [show IntKind.i64.min = -9223372036854775808 from rfl, show IntKind.i64.max = 9223372036854775807 from rfl] at r0 r1 r2
  intro k j h
  unfold planColdFKB10 at h
  unfold KB.find at h
  split at h
  · rename_i he
    injection h with h; subst h; dsimp only at he; subst he
    exact ⟨a0, by simp [symF, planColdFSym], by show (0 : Int) ≤ a0; omega, by show a0 ≤ (1000 : Int); omega, by simp⟩
  unfold KB.find at h
  split at h
  · rename_i he
    injection h with h; subst h; dsimp only at he; subst he
    exact ⟨a1, by simp [symF, planColdFSym], by show (0 : Int) ≤ a1; omega, by show a1 ≤ (1000 : Int); omega, by simp⟩
  unfold KB.find at h
  split at h
  · rename_i he
    injection h with h; subst h; dsimp only at he; subst he
    exact ⟨a2, by simp [symF, planColdFSym], by show (0 : Int) ≤ a2; omega, by show a2 ≤ (3000 : Int); omega, by simp⟩
  unfold KB.find at h
  split at h
  · rename_i he
    injection h with h; subst h; dsimp only at he; subst he
    exact ⟨(a0 + a1), by simp [symF, planColdFSym], by show (1 : Int) ≤ (a0 + a1); omega, by show (a0 + a1) ≤ (1999 : Int); omega, by simp⟩
  unfold KB.find at h
  split at h
  · rename_i he
    injection h with h; subst h; dsimp only at he; subst he
    exact ⟨(a1 + a1), by simp [symF, planColdFSym], by show (0 : Int) ≤ (a1 + a1); omega, by show (a1 + a1) ≤ (1998 : Int); omega, by simp⟩
  unfold KB.find at h
  split at h
  · rename_i he
    injection h with h; subst h; dsimp only at he; subst he
    exact ⟨((a0 + a1) + a0), by simp [symF, planColdFSym], by show (2 : Int) ≤ ((a0 + a1) + a0); omega, by show ((a0 + a1) + a0) ≤ (2999 : Int); omega, by simp⟩
  unfold KB.find at h
  split at h
  · rename_i he
    injection h with h; subst h; dsimp only at he; subst he
    exact ⟨((a0 + a1) + a1), by simp [symF, planColdFSym], by show (1 : Int) ≤ ((a0 + a1) + a1); omega, by show ((a0 + a1) + a1) ≤ (2998 : Int); omega, by simp⟩
  cases h
def planColdF11t2 : DT := .less 2 (1) .leaf .leaf
theorem planColdF11h2 : planColdF11t2.check (okT Try.prog (orcOr (fctOrc planColdFF11) (orcOr (arcOrc planColdFA11) (orcOr (mncOrc planColdFM11) (noOrc)))) planColdFHook planColdFCut [] planColdFET 100000 (cFnL Try.prog) (knTabW 16) 90 6 planColdFArgs ⟨.lf, 0, 0, [], []⟩) planColdF11k1y = true := check_less (Ky := planColdF11k2y) (Kn := planColdF11k2n) (i := ⟨0, 3000, []⟩) (by kernel_rfl) (by kernel_rfl) (by kernel_rfl) (.inr planColdF11h3) (.inr planColdF11h4)
def planColdF11t1 : DT := .less 1 (1) planColdF11t2 .leaf
theorem planColdF11h1 : planColdF11t1.check (okT Try.prog (orcOr (fctOrc planColdFF11) (orcOr (arcOrc planColdFA11) (orcOr (mncOrc planColdFM11) (noOrc)))) planColdFHook planColdFCut [] planColdFET 100000 (cFnL Try.prog) (knTabW 16) 90 6 planColdFArgs ⟨.lf, 0, 0, [], []⟩) planColdF11k0y = true := check_less (Ky := planColdF11k1y) (Kn := planColdF11k1n) (i := ⟨0, 1000, []⟩) (by kernel_rfl) (by kernel_rfl) (by kernel_rfl) (.inr planColdF11h2) (.inr planColdF11h5)
def planColdF11t6 : DT := .less 1 (1) .leaf .leaf
theorem planColdF11h6 : planColdF11t6.check (okT Try.prog (orcOr (fctOrc planColdFF11) (orcOr (arcOrc planColdFA11) (orcOr (mncOrc planColdFM11) (noOrc)))) planColdFHook planColdFCut [] planColdFET 100000 (cFnL Try.prog) (knTabW 16) 90 6 planColdFArgs ⟨.lf, 0, 0, [], []⟩) planColdF11k0n = true := check_less (Ky := planColdF11k6y) (Kn := planColdF11k6n) (i := ⟨0, 1000, []⟩) (by kernel_rfl) (by kernel_rfl) (by kernel_rfl) (.inr planColdF11h7) (.inr planColdF11h8)
def planColdF11t0 : DT := .less 0 (1) planColdF11t1 planColdF11t6
theorem planColdF11h0 : planColdF11t0.check (okT Try.prog (orcOr (fctOrc planColdFF11) (orcOr (arcOrc planColdFA11) (orcOr (mncOrc planColdFM11) (noOrc)))) planColdFHook planColdFCut [] planColdFET 100000 (cFnL Try.prog) (knTabW 16) 90 6 planColdFArgs ⟨.lf, 0, 0, [], []⟩) planColdFKB11 = true := check_less (Ky := planColdF11k0y) (Kn := planColdF11k0n) (i := ⟨0, 1000, []⟩) (by kernel_rfl) (by kernel_rfl) (by kernel_rfl) (.inr planColdF11h1) (.inr planColdF11h6)
theorem planColdFCheck11 : planColdF11t0.check (okT Try.prog (orcOr (fctOrc planColdFF11) (orcOr (arcOrc planColdFA11) (orcOr (mncOrc planColdFM11) (noOrc)))) planColdFHook planColdFCut [] planColdFET 100000 (cFnL Try.prog) (knTabW 16) 90 6 planColdFArgs ⟨.lf, 0, 0, [], []⟩) planColdFKB11 = true := planColdF11h0
theorem planColdFF11_ok (a0 : Int) (a1 : Int) (a2 : Int) (hc : 0 ≤ a0 ∧ a0 ≤ 1000 ∧ 0 ≤ a1 ∧ a1 ≤ 1000 ∧ 0 ≤ a2 ∧ a2 ≤ 3000 ∧ a1 < a0 ∧ a2 ≤ a0 + a1) : FctOK Try.prog planColdFF11 (symF (planColdFSym a0 a1 a2)) := by
  intro p hp t x y w
  simp only [planColdFF11, List.mem_cons, List.not_mem_nil, or_false] at hp
  rcases hp with rfl | rfl | rfl | rfl | rfl
  all_goals (simp [atomOf, symF, planColdFSym, eqGuard, binOp, Op.intCmp]; try omega)
theorem planColdFA11_ok (a0 : Int) (a1 : Int) (a2 : Int) (w0 : (Lit.int .i64 a0).wf = true) (w1 : (Lit.int .i64 a1).wf = true) (w2 : (Lit.int .i64 a2).wf = true) (hc : 0 ≤ a0 ∧ a0 ≤ 1000 ∧ 0 ≤ a1 ∧ a1 ≤ 1000 ∧ 0 ≤ a2 ∧ a2 ≤ 3000 ∧ a1 < a0 ∧ a2 ≤ a0 + a1) : ArcOK Try.prog planColdFA11 (symF (planColdFSym a0 a1 a2)) := by
  intro p hp t x y w
  simp only [planColdFA11, List.mem_cons, List.not_mem_nil, or_false] at hp
  rcases hp with rfl | rfl | rfl | rfl | rfl | rfl
  · refine arith_run (.inl ⟨rfl, ?_⟩) ?_ ?_ t x y w <;> omega
  · refine arith_run (.inl ⟨rfl, ?_⟩) ?_ ?_ t x y w <;> omega
  · refine arith_run (.inl ⟨rfl, ?_⟩) ?_ ?_ t x y w <;> omega
  · refine arith_run (.inl ⟨rfl, ?_⟩) ?_ ?_ t x y w <;> omega
  · refine arith_run (.inl ⟨rfl, ?_⟩) ?_ ?_ t x y w <;> omega
  · refine arith_run (.inl ⟨rfl, ?_⟩) ?_ ?_ t x y w <;> omega
theorem planColdFM11_ok (a0 : Int) (a1 : Int) (a2 : Int) (w0 : (Lit.int .i64 a0).wf = true) (w1 : (Lit.int .i64 a1).wf = true) (w2 : (Lit.int .i64 a2).wf = true) (hc : 0 ≤ a0 ∧ a0 ≤ 1000 ∧ 0 ≤ a1 ∧ a1 ≤ 1000 ∧ 0 ≤ a2 ∧ a2 ≤ 3000 ∧ a1 < a0 ∧ a2 ≤ a0 + a1) : MncOK planColdFM11 (symF (planColdFSym a0 a1 a2)) := by
  intro p hp
  simp only [planColdFM11, List.mem_cons, List.not_mem_nil, or_false] at hp
  rcases hp with rfl | rfl | rfl | rfl
  · exact ⟨a0, (0), by simp [atomOf, symF, planColdFSym], by simp [atomOf, symF, planColdFSym], by simp [atomOf, symF, planColdFSym] <;> omega⟩
  · exact ⟨a0, (1099511627776), by simp [atomOf, symF, planColdFSym], by simp [atomOf, symF, planColdFSym], by simp [atomOf, symF, planColdFSym] <;> omega⟩
  · exact ⟨a1, (0), by simp [atomOf, symF, planColdFSym], by simp [atomOf, symF, planColdFSym], by simp [atomOf, symF, planColdFSym] <;> omega⟩
  · exact ⟨a1, (1099511627776), by simp [atomOf, symF, planColdFSym], by simp [atomOf, symF, planColdFSym], by simp [atomOf, symF, planColdFSym] <;> omega⟩
theorem planColdFKB11_ok (a0 : Int) (a1 : Int) (a2 : Int) (w0 : (Lit.int .i64 a0).wf = true) (w1 : (Lit.int .i64 a1).wf = true) (w2 : (Lit.int .i64 a2).wf = true) (hc : 0 ≤ a0 ∧ a0 ≤ 1000 ∧ 0 ≤ a1 ∧ a1 ≤ 1000 ∧ 0 ≤ a2 ∧ a2 ≤ 3000 ∧ a1 < a0 ∧ a2 ≤ a0 + a1) : KOK planColdFKB11 (symF (planColdFSym a0 a1 a2)) := by
  have r0 : IntKind.i64.min ≤ a0 ∧ a0 ≤ IntKind.i64.max := by simpa [Lit.wf] using w0
  have r1 : IntKind.i64.min ≤ a1 ∧ a1 ≤ IntKind.i64.max := by simpa [Lit.wf] using w1
  have r2 : IntKind.i64.min ≤ a2 ∧ a2 ≤ IntKind.i64.max := by simpa [Lit.wf] using w2
  simp only [show IntKind.i64.min = -9223372036854775808 from rfl, show IntKind.i64.max = 9223372036854775807 from rfl] at r0 r1 r2
  intro k j h
  unfold planColdFKB11 at h
  unfold KB.find at h
  split at h
  · rename_i he
    injection h with h; subst h; dsimp only at he; subst he
    exact ⟨a0, by simp [symF, planColdFSym], by show (0 : Int) ≤ a0; omega, by show a0 ≤ (1000 : Int); omega, by simp⟩
  unfold KB.find at h
  split at h
  · rename_i he
    injection h with h; subst h; dsimp only at he; subst he
    exact ⟨a1, by simp [symF, planColdFSym], by show (0 : Int) ≤ a1; omega, by show a1 ≤ (1000 : Int); omega, by simp⟩
  unfold KB.find at h
  split at h
  · rename_i he
    injection h with h; subst h; dsimp only at he; subst he
    exact ⟨a2, by simp [symF, planColdFSym], by show (0 : Int) ≤ a2; omega, by show a2 ≤ (3000 : Int); omega, by simp⟩
  unfold KB.find at h
  split at h
  · rename_i he
    injection h with h; subst h; dsimp only at he; subst he
    exact ⟨(a0 + a1), by simp [symF, planColdFSym], by show (1 : Int) ≤ (a0 + a1); omega, by show (a0 + a1) ≤ (1999 : Int); omega, by simp⟩
  unfold KB.find at h
  split at h
  · rename_i he
    injection h with h; subst h; dsimp only at he; subst he
    exact ⟨(a1 + a1), by simp [symF, planColdFSym], by show (0 : Int) ≤ (a1 + a1); omega, by show (a1 + a1) ≤ (1998 : Int); omega, by simp⟩
  unfold KB.find at h
  split at h
  · rename_i he
    injection h with h; subst h; dsimp only at he; subst he
    exact ⟨((a0 + a1) + a0), by simp [symF, planColdFSym], by show (2 : Int) ≤ ((a0 + a1) + a0); omega, by show ((a0 + a1) + a0) ≤ (2999 : Int); omega, by simp⟩
  unfold KB.find at h
  split at h
  · rename_i he
    injection h with h; subst h; dsimp only at he; subst he
    exact ⟨((a0 + a1) + a1), by simp [symF, planColdFSym], by show (1 : Int) ≤ ((a0 + a1) + a1); omega, by show ((a0 + a1) + a1) ≤ (2998 : Int); omega, by simp⟩
  cases h
set_option maxHeartbeats 400000 in
theorem walkPlanColdF (a0 : Int) (a1 : Int) (a2 : Int) (w0 : (Lit.int .i64 a0).wf = true) (w1 : (Lit.int .i64 a1).wf = true) (w2 : (Lit.int .i64 a2).wf = true) (w : World) :
    Calls Try.prog 6 #[.int .i64 a0, .int .i64 a1, .int .i64 a2, .bool false] w fun e' w' => e' = .returned (.bool true) ∧ Below w.heap.size w w' := by
  have hone : ∀ q, (symF (planColdFSym a0 a1 a2) q).oneCell' = true := symF_one (by intro p hp; simp [planColdFSym] at hp; rcases hp with rfl | rfl | rfl | rfl | rfl | rfl | rfl <;> rfl)
  have hS : SOK [] (symF (planColdFSym a0 a1 a2)) := by
    intro k hk
    cases hk
  have hgo : OrcOK Try.prog (· = symF (planColdFSym a0 a1 a2)) noOrc := noOrc_ok _ _
  have hgl : ∀ g, symF (planColdFSym a0 a1 a2) (gsym g) ≠ .nilFunc := fun g => symF_glob rfl g
  have htab : TabOK Try.prog (· = symF (planColdFSym a0 a1 a2)) (knTabW 16) := (knTabW_ok planKKnown)
  have hcase : (a0 < 0) ∨ (0 ≤ a0 ∧ 1000 < a0) ∨ (0 ≤ a0 ∧ a0 ≤ 1000 ∧ a1 < 0) ∨ (0 ≤ a0 ∧ a0 ≤ 1000 ∧ 1000 < a1) ∨ (0 ≤ a0 ∧ a0 ≤ 1000 ∧ 0 ≤ a1 ∧ a1 ≤ 1000 ∧ a2 < 0) ∨ (0 ≤ a0 ∧ a0 ≤ 1000 ∧ 0 ≤ a1 ∧ a1 ≤ 1000 ∧ 3000 < a2) ∨ (0 ≤ a0 ∧ a0 ≤ 1000 ∧ 0 ≤ a1 ∧ a1 ≤ 1000 ∧ 0 ≤ a2 ∧ a2 ≤ 3000 ∧ a0 < a1 ∧ a0 + a1 < a2) ∨ (0 ≤ a0 ∧ a0 ≤ 1000 ∧ 0 ≤ a1 ∧ a1 ≤ 1000 ∧ 0 ≤ a2 ∧ a2 ≤ 3000 ∧ a0 < a1 ∧ a2 ≤ a0 + a1) ∨ (0 ≤ a0 ∧ a0 ≤ 1000 ∧ 0 ≤ a1 ∧ a1 ≤ 1000 ∧ 0 ≤ a2 ∧ a2 ≤ 3000 ∧ a0 = a1 ∧ a0 + a1 < a2) ∨ (0 ≤ a0 ∧ a0 ≤ 1000 ∧ 0 ≤ a1 ∧ a1 ≤ 1000 ∧ 0 ≤ a2 ∧ a2 ≤ 3000 ∧ a0 = a1 ∧ a2 ≤ a0 + a1) ∨ (0 ≤ a0 ∧ a0 ≤ 1000 ∧ 0 ≤ a1 ∧ a1 ≤ 1000 ∧ 0 ≤ a2 ∧ a2 ≤ 3000 ∧ a1 < a0 ∧ a0 + a1 < a2) ∨ (0 ≤ a0 ∧ a0 ≤ 1000 ∧ 0 ≤ a1 ∧ a1 ≤ 1000 ∧ 0 ≤ a2 ∧ a2 ≤ 3000 ∧ a1 < a0 ∧ a2 ≤ a0 + a1) := by
    by_cases t0 : a0 < 0
    · have q : a0 < 0 := by omega
      exact (.inl q)
    by_cases t1 : 1000 < a0
    · have q : 0 ≤ a0 ∧ 1000 < a0 := by omega
      exact (.inr (.inl q))
    by_cases t2 : a1 < 0
    · have q : 0 ≤ a0 ∧ a0 ≤ 1000 ∧ a1 < 0 := by omega
      exact (.inr (.inr (.inl q)))
    by_cases t3 : 1000 < a1
    · have q : 0 ≤ a0 ∧ a0 ≤ 1000 ∧ 1000 < a1 := by omega
      exact (.inr (.inr (.inr (.inl q))))
    by_cases t4 : a2 < 0
    · have q : 0 ≤ a0 ∧ a0 ≤ 1000 ∧ 0 ≤ a1 ∧ a1 ≤ 1000 ∧ a2 < 0 := by omega
      exact (.inr (.inr (.inr (.inr (.inl q)))))
    by_cases t5 : 3000 < a2
    · have q : 0 ≤ a0 ∧ a0 ≤ 1000 ∧ 0 ≤ a1 ∧ a1 ≤ 1000 ∧ 3000 < a2 := by omega
      exact (.inr (.inr (.inr (.inr (.inr (.inl q))))))
    by_cases t6 : a0 < a1 ∧ a0 + a1 < a2
    · have q : 0 ≤ a0 ∧ a0 ≤ 1000 ∧ 0 ≤ a1 ∧ a1 ≤ 1000 ∧ 0 ≤ a2 ∧ a2 ≤ 3000 ∧ a0 < a1 ∧ a0 + a1 < a2 := by omega
      exact (.inr (.inr (.inr (.inr (.inr (.inr (.inl q)))))))
    by_cases t7 : a0 < a1
    · have q : 0 ≤ a0 ∧ a0 ≤ 1000 ∧ 0 ≤ a1 ∧ a1 ≤ 1000 ∧ 0 ≤ a2 ∧ a2 ≤ 3000 ∧ a0 < a1 ∧ a2 ≤ a0 + a1 := by omega
      exact (.inr (.inr (.inr (.inr (.inr (.inr (.inr (.inl q))))))))
    by_cases t8 : a0 = a1 ∧ a0 + a1 < a2
    · have q : 0 ≤ a0 ∧ a0 ≤ 1000 ∧ 0 ≤ a1 ∧ a1 ≤ 1000 ∧ 0 ≤ a2 ∧ a2 ≤ 3000 ∧ a0 = a1 ∧ a0 + a1 < a2 := by omega
      exact (.inr (.inr (.inr (.inr (.inr (.inr (.inr (.inr (.inl q)))))))))
    by_cases t9 : a0 = a1
    · have q : 0 ≤ a0 ∧ a0 ≤ 1000 ∧ 0 ≤ a1 ∧ a1 ≤ 1000 ∧ 0 ≤ a2 ∧ a2 ≤ 3000 ∧ a0 = a1 ∧ a2 ≤ a0 + a1 := by omega
      exact (.inr (.inr (.inr (.inr (.inr (.inr (.inr (.inr (.inr (.inl q))))))))))
    by_cases t10 : a0 + a1 < a2
    · have q : 0 ≤ a0 ∧ a0 ≤ 1000 ∧ 0 ≤ a1 ∧ a1 ≤ 1000 ∧ 0 ≤ a2 ∧ a2 ≤ 3000 ∧ a1 < a0 ∧ a0 + a1 < a2 := by omega
      exact (.inr (.inr (.inr (.inr (.inr (.inr (.inr (.inr (.inr (.inr (.inl q)))))))))))
    have q : 0 ≤ a0 ∧ a0 ≤ 1000 ∧ 0 ≤ a1 ∧ a1 ≤ 1000 ∧ 0 ≤ a2 ∧ a2 ≤ 3000 ∧ a1 < a0 ∧ a2 ≤ a0 + a1 := by omega
    exact (.inr (.inr (.inr (.inr (.inr (.inr (.inr (.inr (.inr (.inr (.inr q)))))))))))
  rcases hcase with hc | hc | hc | hc | hc | hc | hc | hc | hc | hc | hc | hc
  · exact Calls.of_treeN evMixed evNames hone (orcOr_ok (fctOrc_ok (planColdFF0_ok a0 a1 a2 hc)) (orcOr_ok (arcOrc_ok (planColdFA0_ok a0 a1 a2 w0 w1 w2 hc)) (orcOr_ok (mncOrc_ok (planColdFM0_ok a0 a1 a2 w0 w1 w2 hc)) hgo))) planColdFHook_ok (EqOK.nil _) (planColdFKB0_ok a0 a1 a2 w0 w1 w2 hc) hS (tableL_self _) htab (args := planColdFArgs) (fun r hr => by simp [planColdFArgs, ren, hr, symF, planColdFSym]) planColdFCheck0 w hgl
  · exact Calls.of_treeN evMixed evNames hone (orcOr_ok (fctOrc_ok (planColdFF1_ok a0 a1 a2 hc)) (orcOr_ok (arcOrc_ok (planColdFA1_ok a0 a1 a2 w0 w1 w2 hc)) (orcOr_ok (mncOrc_ok (planColdFM1_ok a0 a1 a2 w0 w1 w2 hc)) hgo))) planColdFHook_ok (EqOK.nil _) (planColdFKB1_ok a0 a1 a2 w0 w1 w2 hc) hS (tableL_self _) htab (args := planColdFArgs) (fun r hr => by simp [planColdFArgs, ren, hr, symF, planColdFSym]) planColdFCheck1 w hgl
  · exact Calls.of_treeN evMixed evNames hone (orcOr_ok (fctOrc_ok (planColdFF2_ok a0 a1 a2 hc)) (orcOr_ok (arcOrc_ok (planColdFA2_ok a0 a1 a2 w0 w1 w2 hc)) (orcOr_ok (mncOrc_ok (planColdFM2_ok a0 a1 a2 w0 w1 w2 hc)) hgo))) planColdFHook_ok (EqOK.nil _) (planColdFKB2_ok a0 a1 a2 w0 w1 w2 hc) hS (tableL_self _) htab (args := planColdFArgs) (fun r hr => by simp [planColdFArgs, ren, hr, symF, planColdFSym]) planColdFCheck2 w hgl
  · exact Calls.of_treeN evMixed evNames hone (orcOr_ok (fctOrc_ok (planColdFF3_ok a0 a1 a2 hc)) (orcOr_ok (arcOrc_ok (planColdFA3_ok a0 a1 a2 w0 w1 w2 hc)) (orcOr_ok (mncOrc_ok (planColdFM3_ok a0 a1 a2 w0 w1 w2 hc)) hgo))) planColdFHook_ok (EqOK.nil _) (planColdFKB3_ok a0 a1 a2 w0 w1 w2 hc) hS (tableL_self _) htab (args := planColdFArgs) (fun r hr => by simp [planColdFArgs, ren, hr, symF, planColdFSym]) planColdFCheck3 w hgl
  · exact Calls.of_treeN evMixed evNames hone (orcOr_ok (fctOrc_ok (planColdFF4_ok a0 a1 a2 hc)) (orcOr_ok (arcOrc_ok (planColdFA4_ok a0 a1 a2 w0 w1 w2 hc)) (orcOr_ok (mncOrc_ok (planColdFM4_ok a0 a1 a2 w0 w1 w2 hc)) hgo))) planColdFHook_ok (EqOK.nil _) (planColdFKB4_ok a0 a1 a2 w0 w1 w2 hc) hS (tableL_self _) htab (args := planColdFArgs) (fun r hr => by simp [planColdFArgs, ren, hr, symF, planColdFSym]) planColdFCheck4 w hgl
  · exact Calls.of_treeN evMixed evNames hone (orcOr_ok (fctOrc_ok (planColdFF5_ok a0 a1 a2 hc)) (orcOr_ok (arcOrc_ok (planColdFA5_ok a0 a1 a2 w0 w1 w2 hc)) (orcOr_ok (mncOrc_ok (planColdFM5_ok a0 a1 a2 w0 w1 w2 hc)) hgo))) planColdFHook_ok (EqOK.nil _) (planColdFKB5_ok a0 a1 a2 w0 w1 w2 hc) hS (tableL_self _) htab (args := planColdFArgs) (fun r hr => by simp [planColdFArgs, ren, hr, symF, planColdFSym]) planColdFCheck5 w hgl
  · exact Calls.of_treeN evMixed evNames hone (orcOr_ok (fctOrc_ok (planColdFF6_ok a0 a1 a2 hc)) (orcOr_ok (arcOrc_ok (planColdFA6_ok a0 a1 a2 w0 w1 w2 hc)) (orcOr_ok (mncOrc_ok (planColdFM6_ok a0 a1 a2 w0 w1 w2 hc)) hgo))) planColdFHook_ok (EqOK.nil _) (planColdFKB6_ok a0 a1 a2 w0 w1 w2 hc) hS (tableL_self _) htab (args := planColdFArgs) (fun r hr => by simp [planColdFArgs, ren, hr, symF, planColdFSym]) planColdFCheck6 w hgl
  · exact Calls.of_treeN evMixed evNames hone (orcOr_ok (fctOrc_ok (planColdFF7_ok a0 a1 a2 hc)) (orcOr_ok (arcOrc_ok (planColdFA7_ok a0 a1 a2 w0 w1 w2 hc)) (orcOr_ok (mncOrc_ok (planColdFM7_ok a0 a1 a2 w0 w1 w2 hc)) hgo))) planColdFHook_ok (EqOK.nil _) (planColdFKB7_ok a0 a1 a2 w0 w1 w2 hc) hS (tableL_self _) htab (args := planColdFArgs) (fun r hr => by simp [planColdFArgs, ren, hr, symF, planColdFSym]) planColdFCheck7 w hgl
  · exact Calls.of_treeN evMixed evNames hone (orcOr_ok (fctOrc_ok (planColdFF8_ok a0 a1 a2 hc)) (orcOr_ok (arcOrc_ok (planColdFA8_ok a0 a1 a2 w0 w1 w2 hc)) (orcOr_ok (mncOrc_ok (planColdFM8_ok a0 a1 a2 w0 w1 w2 hc)) hgo))) planColdFHook_ok (EqOK.nil _) (planColdFKB8_ok a0 a1 a2 w0 w1 w2 hc) hS (tableL_self _) htab (args := planColdFArgs) (fun r hr => by simp [planColdFArgs, ren, hr, symF, planColdFSym]) planColdFCheck8 w hgl
  · exact Calls.of_treeN evMixed evNames hone (orcOr_ok (fctOrc_ok (planColdFF9_ok a0 a1 a2 hc)) (orcOr_ok (arcOrc_ok (planColdFA9_ok a0 a1 a2 w0 w1 w2 hc)) (orcOr_ok (mncOrc_ok (planColdFM9_ok a0 a1 a2 w0 w1 w2 hc)) hgo))) planColdFHook_ok (EqOK.nil _) (planColdFKB9_ok a0 a1 a2 w0 w1 w2 hc) hS (tableL_self _) htab (args := planColdFArgs) (fun r hr => by simp [planColdFArgs, ren, hr, symF, planColdFSym]) planColdFCheck9 w hgl
  · exact Calls.of_treeN evMixed evNames hone (orcOr_ok (fctOrc_ok (planColdFF10_ok a0 a1 a2 hc)) (orcOr_ok (arcOrc_ok (planColdFA10_ok a0 a1 a2 w0 w1 w2 hc)) (orcOr_ok (mncOrc_ok (planColdFM10_ok a0 a1 a2 w0 w1 w2 hc)) hgo))) planColdFHook_ok (EqOK.nil _) (planColdFKB10_ok a0 a1 a2 w0 w1 w2 hc) hS (tableL_self _) htab (args := planColdFArgs) (fun r hr => by simp [planColdFArgs, ren, hr, symF, planColdFSym]) planColdFCheck10 w hgl
  · exact Calls.of_treeN evMixed evNames hone (orcOr_ok (fctOrc_ok (planColdFF11_ok a0 a1 a2 hc)) (orcOr_ok (arcOrc_ok (planColdFA11_ok a0 a1 a2 w0 w1 w2 hc)) (orcOr_ok (mncOrc_ok (planColdFM11_ok a0 a1 a2 w0 w1 w2 hc)) hgo))) planColdFHook_ok (EqOK.nil _) (planColdFKB11_ok a0 a1 a2 w0 w1 w2 hc) hS (tableL_self _) htab (args := planColdFArgs) (fun r hr => by simp [planColdFArgs, ren, hr, symF, planColdFSym]) planColdFCheck11 w hgl
end Go.Proofs.Ytljhlnpbomehkaa
