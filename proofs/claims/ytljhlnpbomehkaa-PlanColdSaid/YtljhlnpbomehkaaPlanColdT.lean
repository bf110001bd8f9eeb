/- PlanColdT: the walk of the statement, by the evaluator with forks, trees of questions, facts. -/
import Derived.Test.YtljhlnpbomehkaaEwM8
import Derived.Test.YtljhlnpbomehkaaPlanK
import Derived.Test.YtljhlnpbomehkaaPlanColdTB0
import Derived.Test.YtljhlnpbomehkaaPlanColdTB1
import Derived.Test.YtljhlnpbomehkaaPlanColdTB2
import Derived.Test.YtljhlnpbomehkaaPlanColdTB3
import Derived.ProofKit
namespace Go.Proofs.Ytljhlnpbomehkaa
open Go.RowKit
set_option linter.unusedVariables false
set_option linter.unusedSimpArgs false
set_option maxRecDepth 100000

theorem planColdTCheck0 : DT.leaf.check (okT Try.prog (orcOr (fctOrc planColdTF0) (orcOr (arcOrc planColdTA0) (orcOr (mncOrc planColdTM0) (noOrc)))) planColdTHook planColdTCut [] planColdTET 100000 (cFnL Try.prog) (knTabW 16) 90 6 planColdTArgs ⟨.lf, 0, 0, [], []⟩) planColdTKB0 = true := planColdT0h0
theorem planColdTF0_ok (a0 : Int) (a1 : Int) (a2 : Int) (hc : a0 < 0) : FctOK Try.prog planColdTF0 (symF (planColdTSym a0 a1 a2)) := by
  intro p hp
  exact absurd hp (by simp [planColdTF0])
theorem planColdTA0_ok (a0 : Int) (a1 : Int) (a2 : Int) (w0 : (Lit.int .i64 a0).wf = true) (w1 : (Lit.int .i64 a1).wf = true) (w2 : (Lit.int .i64 a2).wf = true) (hc : a0 < 0) : ArcOK Try.prog planColdTA0 (symF (planColdTSym a0 a1 a2)) := by
  intro p hp t x y w
  exact absurd hp (by simp [planColdTA0])
theorem planColdTM0_ok (a0 : Int) (a1 : Int) (a2 : Int) (w0 : (Lit.int .i64 a0).wf = true) (w1 : (Lit.int .i64 a1).wf = true) (w2 : (Lit.int .i64 a2).wf = true) (hc : a0 < 0) : MncOK planColdTM0 (symF (planColdTSym a0 a1 a2)) := by
  intro p hp
  exact absurd hp (by simp [planColdTM0])
theorem planColdTKB0_ok (a0 : Int) (a1 : Int) (a2 : Int) (w0 : (Lit.int .i64 a0).wf = true) (w1 : (Lit.int .i64 a1).wf = true) (w2 : (Lit.int .i64 a2).wf = true) (hc : a0 < 0) : KOK planColdTKB0 (symF (planColdTSym a0 a1 a2)) := by
  have r0 : IntKind.i64.min ≤ a0 ∧ a0 ≤ IntKind.i64.max := by simpa [Lit.wf] using w0
  have r1 : IntKind.i64.min ≤ a1 ∧ a1 ≤ IntKind.i64.max := by simpa [Lit.wf] using w1
  have r2 : IntKind.i64.min ≤ a2 ∧ a2 ≤ IntKind.i64.max := by simpa [Lit.wf] using w2
  simp only [show IntKind.i64.min = -9223372036854775808 from rfl, show IntKind.i64.max = 9223372036854775807 from rfl] at r0 r1 r2
  intro k j h
  unfold planColdTKB0 at h
  unfold KB.find at h
  split at h
  · rename_i he
    injection h with h; subst h; dsimp only at he; subst he
    exact ⟨a0, by simp [symF, planColdTSym], by show (-9223372036854775808 : Int) ≤ a0; omega, by show a0 ≤ (-1 : Int); omega, by simp⟩
  unfold KB.find at h
  split at h
  · rename_i he
    injection h with h; subst h; dsimp only at he; subst he
    exact ⟨a1, by simp [symF, planColdTSym], by show (-9223372036854775808 : Int) ≤ a1; omega, by show a1 ≤ (9223372036854775807 : Int); omega, by simp⟩
  unfold KB.find at h
  split at h
  · rename_i he
    injection h with h; subst h; dsimp only at he; subst he
    exact ⟨a2, by simp [symF, planColdTSym], by show (-9223372036854775808 : Int) ≤ a2; omega, by show a2 ≤ (9223372036854775807 : Int); omega, by simp⟩
  cases h
theorem planColdTCheck1 : DT.leaf.check (okT Try.prog (orcOr (fctOrc planColdTF1) (orcOr (arcOrc planColdTA1) (orcOr (mncOrc planColdTM1) (noOrc)))) planColdTHook planColdTCut [] planColdTET 100000 (cFnL Try.prog) (knTabW 16) 90 6 planColdTArgs ⟨.lf, 0, 0, [], []⟩) planColdTKB1 = true := planColdT1h0
theorem planColdTF1_ok (a0 : Int) (a1 : Int) (a2 : Int) (hc : 0 ≤ a0 ∧ 1000 < a0) : FctOK Try.prog planColdTF1 (symF (planColdTSym a0 a1 a2)) := by
  intro p hp
  exact absurd hp (by simp [planColdTF1])
theorem planColdTA1_ok (a0 : Int) (a1 : Int) (a2 : Int) (w0 : (Lit.int .i64 a0).wf = true) (w1 : (Lit.int .i64 a1).wf = true) (w2 : (Lit.int .i64 a2).wf = true) (hc : 0 ≤ a0 ∧ 1000 < a0) : ArcOK Try.prog planColdTA1 (symF (planColdTSym a0 a1 a2)) := by
  intro p hp t x y w
  exact absurd hp (by simp [planColdTA1])
theorem planColdTM1_ok (a0 : Int) (a1 : Int) (a2 : Int) (w0 : (Lit.int .i64 a0).wf = true) (w1 : (Lit.int .i64 a1).wf = true) (w2 : (Lit.int .i64 a2).wf = true) (hc : 0 ≤ a0 ∧ 1000 < a0) : MncOK planColdTM1 (symF (planColdTSym a0 a1 a2)) := by
  intro p hp
  exact absurd hp (by simp [planColdTM1])
theorem planColdTKB1_ok (a0 : Int) (a1 : Int) (a2 : Int) (w0 : (Lit.int .i64 a0).wf = true) (w1 : (Lit.int .i64 a1).wf = true) (w2 : (Lit.int .i64 a2).wf = true) (hc : 0 ≤ a0 ∧ 1000 < a0) : KOK planColdTKB1 (symF (planColdTSym a0 a1 a2)) := by
  have r0 : IntKind.i64.min ≤ a0 ∧ a0 ≤ IntKind.i64.max := by simpa [Lit.wf] using w0
  have r1 : IntKind.i64.min ≤ a1 ∧ a1 ≤ IntKind.i64.max := by simpa [Lit.wf] using w1
  have r2 : IntKind.i64.min ≤ a2 ∧ a2 ≤ IntKind.i64.max := by simpa [Lit.wf] using w2
  simp only [show IntKind.i64.min = -9223372036854775808 from rfl, show IntKind.i64.max = 9223372036854775807 from rfl] at r0 r1 r2
  intro k j h
  unfold planColdTKB1 at h
  unfold KB.find at h
  split at h
  · rename_i he
    injection h with h; subst h; dsimp only at he; subst he
    exact ⟨a0, by simp [symF, planColdTSym], by show (1001 : Int) ≤ a0; omega, by show a0 ≤ (9223372036854775807 : Int); omega, by simp⟩
  unfold KB.find at h
  split at h
  · rename_i he
    injection h with h; subst h; dsimp only at he; subst he
    exact ⟨a1, by simp [symF, planColdTSym], by show (-9223372036854775808 : Int) ≤ a1; omega, by show a1 ≤ (9223372036854775807 : Int); omega, by simp⟩
  unfold KB.find at h
  split at h
  · rename_i he
    injection h with h; subst h; dsimp only at he; subst he
    exact ⟨a2, by simp [symF, planColdTSym], by show (-9223372036854775808 : Int) ≤ a2; omega, by show a2 ≤ (9223372036854775807 : Int); omega, by simp⟩
  cases h
theorem planColdTCheck2 : DT.leaf.check (okT Try.prog (orcOr (fctOrc planColdTF2) (orcOr (arcOrc planColdTA2) (orcOr (mncOrc planColdTM2) (noOrc)))) planColdTHook planColdTCut [] planColdTET 100000 (cFnL Try.prog) (knTabW 16) 90 6 planColdTArgs ⟨.lf, 0, 0, [], []⟩) planColdTKB2 = true := planColdT2h0
theorem planColdTF2_ok (a0 : Int) (a1 : Int) (a2 : Int) (hc : 0 ≤ a0 ∧ a0 ≤ 1000 ∧ a1 < 0) : FctOK Try.prog planColdTF2 (symF (planColdTSym a0 a1 a2)) := by
  intro p hp
  exact absurd hp (by simp [planColdTF2])
theorem planColdTA2_ok (a0 : Int) (a1 : Int) (a2 : Int) (w0 : (Lit.int .i64 a0).wf = true) (w1 : (Lit.int .i64 a1).wf = true) (w2 : (Lit.int .i64 a2).wf = true) (hc : 0 ≤ a0 ∧ a0 ≤ 1000 ∧ a1 < 0) : ArcOK Try.prog planColdTA2 (symF (planColdTSym a0 a1 a2)) := by
  intro p hp t x y w
  exact absurd hp (by simp [planColdTA2])
theorem planColdTM2_ok (a0 : Int) (a1 : Int) (a2 : Int) (w0 : (Lit.int .i64 a0).wf = true) (w1 : (Lit.int .i64 a1).wf = true) (w2 : (Lit.int .i64 a2).wf = true) (hc : 0 ≤ a0 ∧ a0 ≤ 1000 ∧ a1 < 0) : MncOK planColdTM2 (symF (planColdTSym a0 a1 a2)) := by
  intro p hp
  exact absurd hp (by simp [planColdTM2])
theorem planColdTKB2_ok (a0 : Int) (a1 : Int) (a2 : Int) (w0 : (Lit.int .i64 a0).wf = true) (w1 : (Lit.int .i64 a1).wf = true) (w2 : (Lit.int .i64 a2).wf = true) (hc : 0 ≤ a0 ∧ a0 ≤ 1000 ∧ a1 < 0) : KOK planColdTKB2 (symF (planColdTSym a0 a1 a2)) := by
  have r0 : IntKind.i64.min ≤ a0 ∧ a0 ≤ IntKind.i64.max := by simpa [Lit.wf] using w0
  have r1 : IntKind.i64.min ≤ a1 ∧ a1 ≤ IntKind.i64.max := by simpa [Lit.wf] using w1
  have r2 : IntKind.i64.min ≤ a2 ∧ a2 ≤ IntKind.i64.max := by simpa [Lit.wf] using w2
  simp only [show IntKind.i64.min = -9223372036854775808 from rfl, show IntKind.i64.max = 9223372036854775807 from rfl] at r0 r1 r2
  intro k j h
  unfold planColdTKB2 at h
  unfold KB.find at h
  split at h
  · rename_i he
    injection h with h; subst h; dsimp only at he; subst he
    exact ⟨a0, by simp [symF, planColdTSym], by show (0 : Int) ≤ a0; omega, by show a0 ≤ (1000 : Int); omega, by simp⟩
  unfold KB.find at h
  split at h
  · rename_i he
    injection h with h; subst h; dsimp only at he; subst he
    exact ⟨a1, by simp [symF, planColdTSym], by show (-9223372036854775808 : Int) ≤ a1; omega, by show a1 ≤ (-1 : Int); omega, by simp⟩
  unfold KB.find at h
  split at h
  · rename_i he
    injection h with h; subst h; dsimp only at he; subst he
    exact ⟨a2, by simp [symF, planColdTSym], by show (-9223372036854775808 : Int) ≤ a2; omega, by show a2 ≤ (9223372036854775807 : Int); omega, by simp⟩
  cases h
theorem planColdTCheck3 : DT.leaf.check (okT Try.prog (orcOr (fctOrc planColdTF3) (orcOr (arcOrc planColdTA3) (orcOr (mncOrc planColdTM3) (noOrc)))) planColdTHook planColdTCut [] planColdTET 100000 (cFnL Try.prog) (knTabW 16) 90 6 planColdTArgs ⟨.lf, 0, 0, [], []⟩) planColdTKB3 = true := planColdT3h0
theorem planColdTF3_ok (a0 : Int) (a1 : Int) (a2 : Int) (hc : 0 ≤ a0 ∧ a0 ≤ 1000 ∧ 1000 < a1) : FctOK Try.prog planColdTF3 (symF (planColdTSym a0 a1 a2)) := by
  intro p hp
  exact absurd hp (by simp [planColdTF3])
theorem planColdTA3_ok (a0 : Int) (a1 : Int) (a2 : Int) (w0 : (Lit.int .i64 a0).wf = true) (w1 : (Lit.int .i64 a1).wf = true) (w2 : (Lit.int .i64 a2).wf = true) (hc : 0 ≤ a0 ∧ a0 ≤ 1000 ∧ 1000 < a1) : ArcOK Try.prog planColdTA3 (symF (planColdTSym a0 a1 a2)) := by
  intro p hp t x y w
  exact absurd hp (by simp [planColdTA3])
theorem planColdTM3_ok (a0 : Int) (a1 : Int) (a2 : Int) (w0 : (Lit.int .i64 a0).wf = true) (w1 : (Lit.int .i64 a1).wf = true) (w2 : (Lit.int .i64 a2).wf = true) (hc : 0 ≤ a0 ∧ a0 ≤ 1000 ∧ 1000 < a1) : MncOK planColdTM3 (symF (planColdTSym a0 a1 a2)) := by
  intro p hp
  exact absurd hp (by simp [planColdTM3])
theorem planColdTKB3_ok (a0 : Int) (a1 : Int) (a2 : Int) (w0 : (Lit.int .i64 a0).wf = true) (w1 : (Lit.int .i64 a1).wf = true) (w2 : (Lit.int .i64 a2).wf = true) (hc : 0 ≤ a0 ∧ a0 ≤ 1000 ∧ 1000 < a1) : KOK planColdTKB3 (symF (planColdTSym a0 a1 a2)) := by
  have r0 : IntKind.i64.min ≤ a0 ∧ a0 ≤ IntKind.i64.max := by simpa [Lit.wf] using w0
  have r1 : IntKind.i64.min ≤ a1 ∧ a1 ≤ IntKind.i64.max := by simpa [Lit.wf] using w1
  have r2 : IntKind.i64.min ≤ a2 ∧ a2 ≤ IntKind.i64.max := by simpa [Lit.wf] using w2
  simp only [show IntKind.i64.min = -9223372036854775808 from rfl, show IntKind.i64.max = 9223372036854775807 from rfl] at r0 r1 r2
  intro k j h
  unfold planColdTKB3 at h
  unfold KB.find at h
  split at h
  · rename_i he
    injection h with h; subst h; dsimp only at he; subst he
    exact ⟨a0, by simp [symF, planColdTSym], by show (0 : Int) ≤ a0; omega, by show a0 ≤ (1000 : Int); omega, by simp⟩
  unfold KB.find at h
  split at h
  · rename_i he
    injection h with h; subst h; dsimp only at he; subst he
    exact ⟨a1, by simp [symF, planColdTSym], by show (1001 : Int) ≤ a1; omega, by show a1 ≤ (9223372036854775807 : Int); omega, by simp⟩
  unfold KB.find at h
  split at h
  · rename_i he
    injection h with h; subst h; dsimp only at he; subst he
    exact ⟨a2, by simp [symF, planColdTSym], by show (-9223372036854775808 : Int) ≤ a2; omega, by show a2 ≤ (9223372036854775807 : Int); omega, by simp⟩
  cases h
theorem planColdTCheck4 : DT.leaf.check (okT Try.prog (orcOr (fctOrc planColdTF4) (orcOr (arcOrc planColdTA4) (orcOr (mncOrc planColdTM4) (noOrc)))) planColdTHook planColdTCut [] planColdTET 100000 (cFnL Try.prog) (knTabW 16) 90 6 planColdTArgs ⟨.lf, 0, 0, [], []⟩) planColdTKB4 = true := planColdT4h0
theorem planColdTF4_ok (a0 : Int) (a1 : Int) (a2 : Int) (hc : 0 ≤ a0 ∧ a0 ≤ 1000 ∧ 0 ≤ a1 ∧ a1 ≤ 1000 ∧ a2 < 0) : FctOK Try.prog planColdTF4 (symF (planColdTSym a0 a1 a2)) := by
  intro p hp
  exact absurd hp (by simp [planColdTF4])
theorem planColdTA4_ok (a0 : Int) (a1 : Int) (a2 : Int) (w0 : (Lit.int .i64 a0).wf = true) (w1 : (Lit.int .i64 a1).wf = true) (w2 : (Lit.int .i64 a2).wf = true) (hc : 0 ≤ a0 ∧ a0 ≤ 1000 ∧ 0 ≤ a1 ∧ a1 ≤ 1000 ∧ a2 < 0) : ArcOK Try.prog planColdTA4 (symF (planColdTSym a0 a1 a2)) := by
  intro p hp t x y w
  exact absurd hp (by simp [planColdTA4])
theorem planColdTM4_ok (a0 : Int) (a1 : Int) (a2 : Int) (w0 : (Lit.int .i64 a0).wf = true) (w1 : (Lit.int .i64 a1).wf = true) (w2 : (Lit.int .i64 a2).wf = true) (hc : 0 ≤ a0 ∧ a0 ≤ 1000 ∧ 0 ≤ a1 ∧ a1 ≤ 1000 ∧ a2 < 0) : MncOK planColdTM4 (symF (planColdTSym a0 a1 a2)) := by
  intro p hp
  exact absurd hp (by simp [planColdTM4])
theorem planColdTKB4_ok (a0 : Int) (a1 : Int) (a2 : Int) (w0 : (Lit.int .i64 a0).wf = true) (w1 : (Lit.int .i64 a1).wf = true) (w2 : (Lit.int .i64 a2).wf = true) (hc : 0 ≤ a0 ∧ a0 ≤ 1000 ∧ 0 ≤ a1 ∧ a1 ≤ 1000 ∧ a2 < 0) : KOK planColdTKB4 (symF (planColdTSym a0 a1 a2)) := by
  have r0 : IntKind.i64.min ≤ a0 ∧ a0 ≤ IntKind.i64.max := by simpa [Lit.wf] using w0
  have r1 : IntKind.i64.min ≤ a1 ∧ a1 ≤ IntKind.i64.max := by simpa [Lit.wf] using w1
  have r2 : IntKind.i64.min ≤ a2 ∧ a2 ≤ IntKind.i64.max := by simpa [Lit.wf] using w2
  simp only [show IntKind.i64.min = -9223372036854775808 from rfl, show IntKind.i64.max = 9223372036854775807 from rfl] at r0 r1 r2
  intro k j h
  unfold planColdTKB4 at h
  unfold KB.find at h
  split at h
  · rename_i he
    injection h with h; subst h; dsimp only at he; subst he
    exact ⟨a0, by simp [symF, planColdTSym], by show (0 : Int) ≤ a0; omega, by show a0 ≤ (1000 : Int); omega, by simp⟩
  unfold KB.find at h
  split at h
  · rename_i he
    injection h with h; subst h; dsimp only at he; subst he
    exact ⟨a1, by simp [symF, planColdTSym], by show (0 : Int) ≤ a1; omega, by show a1 ≤ (1000 : Int); omega, by simp⟩
  unfold KB.find at h
  split at h
  · rename_i he
    injection h with h; subst h; dsimp only at he; subst he
    exact ⟨a2, by simp [symF, planColdTSym], by show (-9223372036854775808 : Int) ≤ a2; omega, by show a2 ≤ (-1 : Int); omega, by simp⟩
  cases h
theorem planColdTCheck5 : DT.leaf.check (okT Try.prog (orcOr (fctOrc planColdTF5) (orcOr (arcOrc planColdTA5) (orcOr (mncOrc planColdTM5) (noOrc)))) planColdTHook planColdTCut [] planColdTET 100000 (cFnL Try.prog) (knTabW 16) 90 6 planColdTArgs ⟨.lf, 0, 0, [], []⟩) planColdTKB5 = true := planColdT5h0
theorem planColdTF5_ok (a0 : Int) (a1 : Int) (a2 : Int) (hc : 0 ≤ a0 ∧ a0 ≤ 1000 ∧ 0 ≤ a1 ∧ a1 ≤ 1000 ∧ 3000 < a2) : FctOK Try.prog planColdTF5 (symF (planColdTSym a0 a1 a2)) := by
  intro p hp
  exact absurd hp (by simp [planColdTF5])
theorem planColdTA5_ok (a0 : Int) (a1 : Int) (a2 : Int) (w0 : (Lit.int .i64 a0).wf = true) (w1 : (Lit.int .i64 a1).wf = true) (w2 : (Lit.int .i64 a2).wf = true) (hc : 0 ≤ a0 ∧ a0 ≤ 1000 ∧ 0 ≤ a1 ∧ a1 ≤ 1000 ∧ 3000 < a2) : ArcOK Try.prog planColdTA5 (symF (planColdTSym a0 a1 a2)) := by
  intro p hp t x y w
  exact absurd hp (by simp [planColdTA5])
theorem planColdTM5_ok (a0 : Int) (a1 : Int) (a2 : Int) (w0 : (Lit.int .i64 a0).wf = true) (w1 : (Lit.int .i64 a1).wf = true) (w2 : (Lit.int .i64 a2).wf = true) (hc : 0 ≤ a0 ∧ a0 ≤ 1000 ∧ 0 ≤ a1 ∧ a1 ≤ 1000 ∧ 3000 < a2) : MncOK planColdTM5 (symF (planColdTSym a0 a1 a2)) := by
  intro p hp
  exact absurd hp (by simp [planColdTM5])
theorem planColdTKB5_ok (a0 : Int) (a1 : Int) (a2 : Int) (w0 : (Lit.int .i64 a0).wf = true) (w1 : (Lit.int .i64 a1).wf = true) (w2 : (Lit.int .i64 a2).wf = true) (hc : 0 ≤ a0 ∧ a0 ≤ 1000 ∧ 0 ≤ a1 ∧ a1 ≤ 1000 ∧ 3000 < a2) : KOK planColdTKB5 (symF (planColdTSym a0 a1 a2)) := by
  have r0 : IntKind.i64.min ≤ a0 ∧ a0 ≤ IntKind.i64.max := by simpa [Lit.wf] using w0
  have r1 : IntKind.i64.min ≤ a1 ∧ a1 ≤ IntKind.i64.max := by simpa [Lit.wf] using w1
  have r2 : IntKind.i64.min ≤ a2 ∧ a2 ≤ IntKind.i64.max := by simpa [Lit.wf] using w2
  simp only [show IntKind.i64.min = -9223372036854775808 from rfl, show IntKind.i64.max = 9223372036854775807 from rfl] at r0 r1 r2
  intro k j h
  unfold planColdTKB5 at h
  unfold KB.find at h
  split at h
  · rename_i he
    injection h with h; subst h; dsimp only at he; subst he
    exact ⟨a0, by simp [symF, planColdTSym], by show (0 : Int) ≤ a0; omega, by show a0 ≤ (1000 : Int); omega, by simp⟩
  unfold KB.find at h
  split at h
  · rename_i he
    injection h with h; subst h; dsimp only at he; subst he
    exact ⟨a1, by simp [symF, planColdTSym], by show (0 : Int) ≤ a1; omega, by show a1 ≤ (1000 : Int); omega, by simp⟩
  unfold KB.find at h
  split at h
  · rename_i he
    injection h with h; subst h; dsimp only at he; subst he
    exact ⟨a2, by simp [symF, planColdTSym], by show (3001 : Int) ≤ a2; omega, by show a2 ≤ (9223372036854775807 : Int); omega, by simp⟩
  cases h
def planColdT6t1 : DT := .same 0 (0) .leaf .leaf
theorem planColdT6h1 : planColdT6t1.check (okT Try.prog (orcOr (fctOrc planColdTF6) (orcOr (arcOrc planColdTA6) (orcOr (mncOrc planColdTM6) (noOrc)))) planColdTHook planColdTCut [] planColdTET 100000 (cFnL Try.prog) (knTabW 16) 90 6 planColdTArgs ⟨.lf, 0, 0, [], []⟩) planColdT6k0y = true := check_same (Ky := planColdT6k1y) (Kn := planColdT6k1n) (i := ⟨0, 1000, []⟩) (by kernel_rfl) (by kernel_rfl) (by kernel_rfl) (.inr planColdT6h2) (.inr planColdT6h3)
def planColdT6t0 : DT := .less 1 (1) planColdT6t1 .leaf
theorem planColdT6h0 : planColdT6t0.check (okT Try.prog (orcOr (fctOrc planColdTF6) (orcOr (arcOrc planColdTA6) (orcOr (mncOrc planColdTM6) (noOrc)))) planColdTHook planColdTCut [] planColdTET 100000 (cFnL Try.prog) (knTabW 16) 90 6 planColdTArgs ⟨.lf, 0, 0, [], []⟩) planColdTKB6 = true := check_less (Ky := planColdT6k0y) (Kn := planColdT6k0n) (i := ⟨0, 1000, []⟩) (by kernel_rfl) (by kernel_rfl) (by kernel_rfl) (.inr planColdT6h1) (.inr planColdT6h4)
theorem planColdTCheck6 : planColdT6t0.check (okT Try.prog (orcOr (fctOrc planColdTF6) (orcOr (arcOrc planColdTA6) (orcOr (mncOrc planColdTM6) (noOrc)))) planColdTHook planColdTCut [] planColdTET 100000 (cFnL Try.prog) (knTabW 16) 90 6 planColdTArgs ⟨.lf, 0, 0, [], []⟩) planColdTKB6 = true := planColdT6h0
theorem planColdTF6_ok (a0 : Int) (a1 : Int) (a2 : Int) (hc : 0 ≤ a0 ∧ a0 ≤ 1000 ∧ 0 ≤ a1 ∧ a1 ≤ 1000 ∧ 0 ≤ a2 ∧ a2 ≤ 3000 ∧ a0 < a1 ∧ a0 + a1 < a2) : FctOK Try.prog planColdTF6 (symF (planColdTSym a0 a1 a2)) := by
  intro p hp t x y w
  simp only [planColdTF6, List.mem_cons, List.not_mem_nil, or_false] at hp
  rcases hp with rfl | rfl | rfl | rfl | rfl
  all_goals (simp [atomOf, symF, planColdTSym, eqGuard, binOp, Op.intCmp]; try omega)
theorem planColdTA6_ok (a0 : Int) (a1 : Int) (a2 : Int) (w0 : (Lit.int .i64 a0).wf = true) (w1 : (Lit.int .i64 a1).wf = true) (w2 : (Lit.int .i64 a2).wf = true) (hc : 0 ≤ a0 ∧ a0 ≤ 1000 ∧ 0 ≤ a1 ∧ a1 ≤ 1000 ∧ 0 ≤ a2 ∧ a2 ≤ 3000 ∧ a0 < a1 ∧ a0 + a1 < a2) : ArcOK Try.prog planColdTA6 (symF (planColdTSym a0 a1 a2)) := by
  intro p hp t x y w
  simp only [planColdTA6, List.mem_cons, List.not_mem_nil, or_false] at hp
  rcases hp with rfl | rfl | rfl | rfl | rfl | rfl | rfl
  · refine arith_run (.inl ⟨rfl, ?_⟩) ?_ ?_ t x y w <;> omega
  · refine arith_run (.inl ⟨rfl, ?_⟩) ?_ ?_ t x y w <;> omega
  · refine arith_run (.inr (.inr ⟨rfl, ?_⟩)) ?_ ?_ t x y w <;> omega
  · refine arith_run (.inr (.inr ⟨rfl, ?_⟩)) ?_ ?_ t x y w <;> omega
  · refine arith_run (.inr (.inr ⟨rfl, ?_⟩)) ?_ ?_ t x y w <;> omega
  · refine arith_run (.inr (.inr ⟨rfl, ?_⟩)) ?_ ?_ t x y w <;> omega
  · refine arith_run (.inl ⟨rfl, ?_⟩) ?_ ?_ t x y w <;> omega
theorem planColdTM6_ok (a0 : Int) (a1 : Int) (a2 : Int) (w0 : (Lit.int .i64 a0).wf = true) (w1 : (Lit.int .i64 a1).wf = true) (w2 : (Lit.int .i64 a2).wf = true) (hc : 0 ≤ a0 ∧ a0 ≤ 1000 ∧ 0 ≤ a1 ∧ a1 ≤ 1000 ∧ 0 ≤ a2 ∧ a2 ≤ 3000 ∧ a0 < a1 ∧ a0 + a1 < a2) : MncOK planColdTM6 (symF (planColdTSym a0 a1 a2)) := by
  intro p hp
  simp only [planColdTM6, List.mem_cons, List.not_mem_nil, or_false] at hp
  rcases hp with rfl | rfl | rfl | rfl
  · exact ⟨a0, (0), by simp [atomOf, symF, planColdTSym], by simp [atomOf, symF, planColdTSym], by simp [atomOf, symF, planColdTSym] <;> omega⟩
  · exact ⟨a0, (1099511627776), by simp [atomOf, symF, planColdTSym], by simp [atomOf, symF, planColdTSym], by simp [atomOf, symF, planColdTSym] <;> omega⟩
  · exact ⟨a1, (0), by simp [atomOf, symF, planColdTSym], by simp [atomOf, symF, planColdTSym], by simp [atomOf, symF, planColdTSym] <;> omega⟩
  · exact ⟨a1, (1099511627776), by simp [atomOf, symF, planColdTSym], by simp [atomOf, symF, planColdTSym], by simp [atomOf, symF, planColdTSym] <;> omega⟩
theorem planColdTKB6_ok (a0 : Int) (a1 : Int) (a2 : Int) (w0 : (Lit.int .i64 a0).wf = true) (w1 : (Lit.int .i64 a1).wf = true) (w2 : (Lit.int .i64 a2).wf = true) (hc : 0 ≤ a0 ∧ a0 ≤ 1000 ∧ 0 ≤ a1 ∧ a1 ≤ 1000 ∧ 0 ≤ a2 ∧ a2 ≤ 3000 ∧ a0 < a1 ∧ a0 + a1 < a2) : KOK planColdTKB6 (symF (planColdTSym a0 a1 a2)) := by
  have r0 : IntKind.i64.min ≤ a0 ∧ a0 ≤ IntKind.i64.max := by simpa [Lit.wf] using w0
  have r1 : IntKind.i64.min ≤ a1 ∧ a1 ≤ IntKind.i64.max := by simpa [Lit.wf] using w1
  have r2 : IntKind.i64.min ≤ a2 ∧ a2 ≤ IntKind.i64.max := by simpa [Lit.wf] using w2
  simp only [show IntKind.i64.min = -9223372036854775808 from rfl, show IntKind.i64.max = 9223372036854775807 from rfl] at r0 r1 r2
  intro k j h
  unfold planColdTKB6 at h
  unfold KB.find at h
  split at h
  · rename_i he
    injection h with h; subst h; dsimp only at he; subst he
    exact ⟨a0, by simp [symF, planColdTSym], by show (0 : Int) ≤ a0; omega, by show a0 ≤ (1000 : Int); omega, by simp⟩
  unfold KB.find at h
  split at h
  · rename_i he
    injection h with h; subst h; dsimp only at he; subst he
    exact ⟨a1, by simp [symF, planColdTSym], by show (0 : Int) ≤ a1; omega, by show a1 ≤ (1000 : Int); omega, by simp⟩
  unfold KB.find at h
  split at h
  · rename_i he
    injection h with h; subst h; dsimp only at he; subst he
    exact ⟨a2, by simp [symF, planColdTSym], by show (0 : Int) ≤ a2; omega, by show a2 ≤ (3000 : Int); omega, by simp⟩
  unfold KB.find at h
  split at h
  · rename_i he
    injection h with h; subst h; dsimp only at he; subst he
    exact ⟨((-1) * a1), by simp [symF, planColdTSym], by show (-1000 : Int) ≤ ((-1) * a1); omega, by show ((-1) * a1) ≤ (-1 : Int); omega, by simp⟩
  unfold KB.find at h
  split at h
  · rename_i he
    injection h with h; subst h; dsimp only at he; subst he
    exact ⟨((-1) * a0), by simp [symF, planColdTSym], by show (-999 : Int) ≤ ((-1) * a0); omega, by show ((-1) * a0) ≤ (0 : Int); omega, by simp⟩
  unfold KB.find at h
  split at h
  · rename_i he
    injection h with h; subst h; dsimp only at he; subst he
    exact ⟨(a0 + a1), by simp [symF, planColdTSym], by show (1 : Int) ≤ (a0 + a1); omega, by show (a0 + a1) ≤ (1999 : Int); omega, by simp⟩
  cases h
def planColdT7t1 : DT := .same 0 (0) .leaf .leaf
theorem planColdT7h1 : planColdT7t1.check (okT Try.prog (orcOr (fctOrc planColdTF7) (orcOr (arcOrc planColdTA7) (orcOr (mncOrc planColdTM7) (noOrc)))) planColdTHook planColdTCut [] planColdTET 100000 (cFnL Try.prog) (knTabW 16) 90 6 planColdTArgs ⟨.lf, 0, 0, [], []⟩) planColdT7k0y = true := check_same (Ky := planColdT7k1y) (Kn := planColdT7k1n) (i := ⟨0, 1000, []⟩) (by kernel_rfl) (by kernel_rfl) (by kernel_rfl) (.inr planColdT7h2) (.inr planColdT7h3)
def planColdT7t0 : DT := .less 1 (1) planColdT7t1 .leaf
theorem planColdT7h0 : planColdT7t0.check (okT Try.prog (orcOr (fctOrc planColdTF7) (orcOr (arcOrc planColdTA7) (orcOr (mncOrc planColdTM7) (noOrc)))) planColdTHook planColdTCut [] planColdTET 100000 (cFnL Try.prog) (knTabW 16) 90 6 planColdTArgs ⟨.lf, 0, 0, [], []⟩) planColdTKB7 = true := check_less (Ky := planColdT7k0y) (Kn := planColdT7k0n) (i := ⟨0, 1000, []⟩) (by kernel_rfl) (by kernel_rfl) (by kernel_rfl) (.inr planColdT7h1) (.inr planColdT7h4)
theorem planColdTCheck7 : planColdT7t0.check (okT Try.prog (orcOr (fctOrc planColdTF7) (orcOr (arcOrc planColdTA7) (orcOr (mncOrc planColdTM7) (noOrc)))) planColdTHook planColdTCut [] planColdTET 100000 (cFnL Try.prog) (knTabW 16) 90 6 planColdTArgs ⟨.lf, 0, 0, [], []⟩) planColdTKB7 = true := planColdT7h0
theorem planColdTF7_ok (a0 : Int) (a1 : Int) (a2 : Int) (hc : 0 ≤ a0 ∧ a0 ≤ 1000 ∧ 0 ≤ a1 ∧ a1 ≤ 1000 ∧ 0 ≤ a2 ∧ a2 ≤ 3000 ∧ a0 < a1 ∧ a2 ≤ a0 + a1) : FctOK Try.prog planColdTF7 (symF (planColdTSym a0 a1 a2)) := by
  intro p hp t x y w
  simp only [planColdTF7, List.mem_cons, List.not_mem_nil, or_false] at hp
  rcases hp with rfl | rfl | rfl | rfl | rfl
  all_goals (simp [atomOf, symF, planColdTSym, eqGuard, binOp, Op.intCmp]; try omega)
theorem planColdTA7_ok (a0 : Int) (a1 : Int) (a2 : Int) (w0 : (Lit.int .i64 a0).wf = true) (w1 : (Lit.int .i64 a1).wf = true) (w2 : (Lit.int .i64 a2).wf = true) (hc : 0 ≤ a0 ∧ a0 ≤ 1000 ∧ 0 ≤ a1 ∧ a1 ≤ 1000 ∧ 0 ≤ a2 ∧ a2 ≤ 3000 ∧ a0 < a1 ∧ a2 ≤ a0 + a1) : ArcOK Try.prog planColdTA7 (symF (planColdTSym a0 a1 a2)) := by
  intro p hp t x y w
  simp only [planColdTA7, List.mem_cons, List.not_mem_nil, or_false] at hp
  rcases hp with rfl | rfl | rfl | rfl | rfl | rfl | rfl
  · refine arith_run (.inl ⟨rfl, ?_⟩) ?_ ?_ t x y w <;> omega
  · refine arith_run (.inl ⟨rfl, ?_⟩) ?_ ?_ t x y w <;> omega
  · refine arith_run (.inr (.inr ⟨rfl, ?_⟩)) ?_ ?_ t x y w <;> omega
  · refine arith_run (.inr (.inr ⟨rfl, ?_⟩)) ?_ ?_ t x y w <;> omega
  · refine arith_run (.inr (.inr ⟨rfl, ?_⟩)) ?_ ?_ t x y w <;> omega
  · refine arith_run (.inr (.inr ⟨rfl, ?_⟩)) ?_ ?_ t x y w <;> omega
  · refine arith_run (.inl ⟨rfl, ?_⟩) ?_ ?_ t x y w <;> omega
theorem planColdTM7_ok (a0 : Int) (a1 : Int) (a2 : Int) (w0 : (Lit.int .i64 a0).wf = true) (w1 : (Lit.int .i64 a1).wf = true) (w2 : (Lit.int .i64 a2).wf = true) (hc : 0 ≤ a0 ∧ a0 ≤ 1000 ∧ 0 ≤ a1 ∧ a1 ≤ 1000 ∧ 0 ≤ a2 ∧ a2 ≤ 3000 ∧ a0 < a1 ∧ a2 ≤ a0 + a1) : MncOK planColdTM7 (symF (planColdTSym a0 a1 a2)) := by
  intro p hp
  simp only [planColdTM7, List.mem_cons, List.not_mem_nil, or_false] at hp
  rcases hp with rfl | rfl | rfl | rfl
  · exact ⟨a0, (0), by simp [atomOf, symF, planColdTSym], by simp [atomOf, symF, planColdTSym], by simp [atomOf, symF, planColdTSym] <;> omega⟩
  · exact ⟨a0, (1099511627776), by simp [atomOf, symF, planColdTSym], by simp [atomOf, symF, planColdTSym], by simp [atomOf, symF, planColdTSym] <;> omega⟩
  · exact ⟨a1, (0), by simp [atomOf, symF, planColdTSym], by simp [atomOf, symF, planColdTSym], by simp [atomOf, symF, planColdTSym] <;> omega⟩
  · exact ⟨a1, (1099511627776), by simp [atomOf, symF, planColdTSym], by simp [atomOf, symF, planColdTSym], by simp [atomOf, symF, planColdTSym] <;> omega⟩
theorem planColdTKB7_ok (a0 : Int) (a1 : Int) (a2 : Int) (w0 : (Lit.int .i64 a0).wf = true) (w1 : (Lit.int .i64 a1).wf = true) (w2 : (Lit.int .i64 a2).wf = true) (hc : 0 ≤ a0 ∧ a0 ≤ 1000 ∧ 0 ≤ a1 ∧ a1 ≤ 1000 ∧ 0 ≤ a2 ∧ a2 ≤ 3000 ∧ a0 < a1 ∧ a2 ≤ a0 + a1) : KOK planColdTKB7 (symF (planColdTSym a0 a1 a2)) := by
  have r0 : IntKind.i64.min ≤ a0 ∧ a0 ≤ IntKind.i64.max := by simpa [Lit.wf] using w0
  have r1 : IntKind.i64.min ≤ a1 ∧ a1 ≤ IntKind.i64.max := by simpa [Lit.wf] using w1
  have r2 : IntKind.i64.min ≤ a2 ∧ a2 ≤ IntKind.i64.max := by simpa [Lit.wf] using w2
  simp only [show IntKind.i64.min = -9223372036854775808 from rfl, show IntKind.i64.max = 9223372036854775807 from rfl] at r0 r1 r2
  intro k j h
  unfold planColdTKB7 at h
  unfold KB.find at h
  split at h
  · rename_i he
    injection h with h; subst h; dsimp only at he; subst he
    exact ⟨a0, by simp [symF, planColdTSym], by show (0 : Int) ≤ a0; omega, by show a0 ≤ (1000 : Int); omega, by simp⟩
  unfold KB.find at h
  split at h
  · rename_i he
    injection h with h; subst h; dsimp only at he; subst he
    exact ⟨a1, by simp [symF, planColdTSym], by show (0 : Int) ≤ a1; omega, by show a1 ≤ (1000 : Int); omega, by simp⟩
  unfold KB.find at h
  split at h
  · rename_i he
    injection h with h; subst h; dsimp only at he; subst he
    exact ⟨a2, by simp [symF, planColdTSym], by show (0 : Int) ≤ a2; omega, by show a2 ≤ (3000 : Int); omega, by simp⟩
  unfold KB.find at h
  split at h
  · rename_i he
    injection h with h; subst h; dsimp only at he; subst he
    exact ⟨((-1) * a1), by simp [symF, planColdTSym], by show (-1000 : Int) ≤ ((-1) * a1); omega, by show ((-1) * a1) ≤ (-1 : Int); omega, by simp⟩
  unfold KB.find at h
  split at h
  · rename_i he
    injection h with h; subst h; dsimp only at he; subst he
    exact ⟨((-1) * a0), by simp [symF, planColdTSym], by show (-999 : Int) ≤ ((-1) * a0); omega, by show ((-1) * a0) ≤ (0 : Int); omega, by simp⟩
  unfold KB.find at h
  split at h
  · rename_i he
    injection h with h; subst h; dsimp only at he; subst he
    exact ⟨(a0 + a1), by simp [symF, planColdTSym], by show (1 : Int) ≤ (a0 + a1); omega, by show (a0 + a1) ≤ (1999 : Int); omega, by simp⟩
  cases h
def planColdT8t0 : DT := .less 0 (1) .leaf .leaf
theorem planColdT8h0 : planColdT8t0.check (okT Try.prog (orcOr (fctOrc planColdTF8) (orcOr (arcOrc planColdTA8) (orcOr (mncOrc planColdTM8) (noOrc)))) planColdTHook planColdTCut [] planColdTET 100000 (cFnL Try.prog) (knTabW 16) 90 6 planColdTArgs ⟨.lf, 0, 0, [], []⟩) planColdTKB8 = true := check_less (Ky := planColdT8k0y) (Kn := planColdT8k0n) (i := ⟨0, 1000, []⟩) (by kernel_rfl) (by kernel_rfl) (by kernel_rfl) (.inr planColdT8h1) (.inr planColdT8h2)
theorem planColdTCheck8 : planColdT8t0.check (okT Try.prog (orcOr (fctOrc planColdTF8) (orcOr (arcOrc planColdTA8) (orcOr (mncOrc planColdTM8) (noOrc)))) planColdTHook planColdTCut [] planColdTET 100000 (cFnL Try.prog) (knTabW 16) 90 6 planColdTArgs ⟨.lf, 0, 0, [], []⟩) planColdTKB8 = true := planColdT8h0
theorem planColdTF8_ok (a0 : Int) (a1 : Int) (a2 : Int) (hc : 0 ≤ a0 ∧ a0 ≤ 1000 ∧ 0 ≤ a1 ∧ a1 ≤ 1000 ∧ 0 ≤ a2 ∧ a2 ≤ 3000 ∧ a0 = a1 ∧ a0 + a1 < a2) : FctOK Try.prog planColdTF8 (symF (planColdTSym a0 a1 a2)) := by
  intro p hp t x y w
  simp only [planColdTF8, List.mem_cons, List.not_mem_nil, or_false] at hp
  rcases hp with rfl | rfl
  all_goals (simp [atomOf, symF, planColdTSym, eqGuard, binOp, Op.intCmp]; try omega)
theorem planColdTA8_ok (a0 : Int) (a1 : Int) (a2 : Int) (w0 : (Lit.int .i64 a0).wf = true) (w1 : (Lit.int .i64 a1).wf = true) (w2 : (Lit.int .i64 a2).wf = true) (hc : 0 ≤ a0 ∧ a0 ≤ 1000 ∧ 0 ≤ a1 ∧ a1 ≤ 1000 ∧ 0 ≤ a2 ∧ a2 ≤ 3000 ∧ a0 = a1 ∧ a0 + a1 < a2) : ArcOK Try.prog planColdTA8 (symF (planColdTSym a0 a1 a2)) := by
  intro p hp t x y w
  simp only [planColdTA8, List.mem_cons, List.not_mem_nil, or_false] at hp
  rcases hp with rfl | rfl | rfl
  · refine arith_run (.inl ⟨rfl, ?_⟩) ?_ ?_ t x y w <;> omega
  · refine arith_run (.inl ⟨rfl, ?_⟩) ?_ ?_ t x y w <;> omega
  · refine arith_run (.inl ⟨rfl, ?_⟩) ?_ ?_ t x y w <;> omega
theorem planColdTM8_ok (a0 : Int) (a1 : Int) (a2 : Int) (w0 : (Lit.int .i64 a0).wf = true) (w1 : (Lit.int .i64 a1).wf = true) (w2 : (Lit.int .i64 a2).wf = true) (hc : 0 ≤ a0 ∧ a0 ≤ 1000 ∧ 0 ≤ a1 ∧ a1 ≤ 1000 ∧ 0 ≤ a2 ∧ a2 ≤ 3000 ∧ a0 = a1 ∧ a0 + a1 < a2) : MncOK planColdTM8 (symF (planColdTSym a0 a1 a2)) := by
  intro p hp
  simp only [planColdTM8, List.mem_cons, List.not_mem_nil, or_false] at hp
  rcases hp with rfl | rfl | rfl | rfl
  · exact ⟨a0, (0), by simp [atomOf, symF, planColdTSym], by simp [atomOf, symF, planColdTSym], by simp [atomOf, symF, planColdTSym] <;> omega⟩
  · exact ⟨a0, (1099511627776), by simp [atomOf, symF, planColdTSym], by simp [atomOf, symF, planColdTSym], by simp [atomOf, symF, planColdTSym] <;> omega⟩
  · exact ⟨a1, (0), by simp [atomOf, symF, planColdTSym], by simp [atomOf, symF, planColdTSym], by simp [atomOf, symF, planColdTSym] <;> omega⟩
  · exact ⟨a1, (1099511627776), by simp [atomOf, symF, planColdTSym], by simp [atomOf, symF, planColdTSym], by simp [atomOf, symF, planColdTSym] <;> omega⟩
theorem planColdTKB8_ok (a0 : Int) (a1 : Int) (a2 : Int) (w0 : (Lit.int .i64 a0).wf = true) (w1 : (Lit.int .i64 a1).wf = true) (w2 : (Lit.int .i64 a2).wf = true) (hc : 0 ≤ a0 ∧ a0 ≤ 1000 ∧ 0 ≤ a1 ∧ a1 ≤ 1000 ∧ 0 ≤ a2 ∧ a2 ≤ 3000 ∧ a0 = a1 ∧ a0 + a1 < a2) : KOK planColdTKB8 (symF (planColdTSym a0 a1 a2)) := by
  have r0 : IntKind.i64.min ≤ a0 ∧ a0 ≤ IntKind.i64.max := by simpa [Lit.wf] using w0
  have r1 : IntKind.i64.min ≤ a1 ∧ a1 ≤ IntKind.i64.max := by simpa [Lit.wf] using w1
  have r2 : IntKind.i64.min ≤ a2 ∧ a2 ≤ IntKind.i64.max := by simpa [Lit.wf] using w2
  simp only [show IntKind.i64.min = -9223372036854775808 from rfl, show IntKind.i64.max = 9223372036854775807 from rfl] at r0 r1 r2
  intro k j h
  unfold planColdTKB8 at h
  unfold KB.find at h
  split at h
  · rename_i he
    injection h with h; subst h; dsimp only at he; subst he
    exact ⟨a0, by simp [symF, planColdTSym], by show (0 : Int) ≤ a0; omega, by show a0 ≤ (1000 : Int); omega, by simp⟩
  unfold KB.find at h
  split at h
  · rename_i he
    injection h with h; subst h; dsimp only at he; subst he
    exact ⟨a1, by simp [symF, planColdTSym], by show (0 : Int) ≤ a1; omega, by show a1 ≤ (1000 : Int); omega, by simp⟩
  unfold KB.find at h
  split at h
  · rename_i he
    injection h with h; subst h; dsimp only at he; subst he
    exact ⟨a2, by simp [symF, planColdTSym], by show (0 : Int) ≤ a2; omega, by show a2 ≤ (3000 : Int); omega, by simp⟩
  unfold KB.find at h
  split at h
  · rename_i he
    injection h with h; subst h; dsimp only at he; subst he
    exact ⟨(a0 + a1), by simp [symF, planColdTSym], by show (0 : Int) ≤ (a0 + a1); omega, by show (a0 + a1) ≤ (2000 : Int); omega, by simp⟩
  cases h
def planColdT9t0 : DT := .less 0 (1) .leaf .leaf
theorem planColdT9h0 : planColdT9t0.check (okT Try.prog (orcOr (fctOrc planColdTF9) (orcOr (arcOrc planColdTA9) (orcOr (mncOrc planColdTM9) (noOrc)))) planColdTHook planColdTCut [] planColdTET 100000 (cFnL Try.prog) (knTabW 16) 90 6 planColdTArgs ⟨.lf, 0, 0, [], []⟩) planColdTKB9 = true := check_less (Ky := planColdT9k0y) (Kn := planColdT9k0n) (i := ⟨0, 1000, []⟩) (by kernel_rfl) (by kernel_rfl) (by kernel_rfl) (.inr planColdT9h1) (.inr planColdT9h2)
theorem planColdTCheck9 : planColdT9t0.check (okT Try.prog (orcOr (fctOrc planColdTF9) (orcOr (arcOrc planColdTA9) (orcOr (mncOrc planColdTM9) (noOrc)))) planColdTHook planColdTCut [] planColdTET 100000 (cFnL Try.prog) (knTabW 16) 90 6 planColdTArgs ⟨.lf, 0, 0, [], []⟩) planColdTKB9 = true := planColdT9h0
theorem planColdTF9_ok (a0 : Int) (a1 : Int) (a2 : Int) (hc : 0 ≤ a0 ∧ a0 ≤ 1000 ∧ 0 ≤ a1 ∧ a1 ≤ 1000 ∧ 0 ≤ a2 ∧ a2 ≤ 3000 ∧ a0 = a1 ∧ a2 ≤ a0 + a1) : FctOK Try.prog planColdTF9 (symF (planColdTSym a0 a1 a2)) := by
  intro p hp t x y w
  simp only [planColdTF9, List.mem_cons, List.not_mem_nil, or_false] at hp
  rcases hp with rfl | rfl
  all_goals (simp [atomOf, symF, planColdTSym, eqGuard, binOp, Op.intCmp]; try omega)
theorem planColdTA9_ok (a0 : Int) (a1 : Int) (a2 : Int) (w0 : (Lit.int .i64 a0).wf = true) (w1 : (Lit.int .i64 a1).wf = true) (w2 : (Lit.int .i64 a2).wf = true) (hc : 0 ≤ a0 ∧ a0 ≤ 1000 ∧ 0 ≤ a1 ∧ a1 ≤ 1000 ∧ 0 ≤ a2 ∧ a2 ≤ 3000 ∧ a0 = a1 ∧ a2 ≤ a0 + a1) : ArcOK Try.prog planColdTA9 (symF (planColdTSym a0 a1 a2)) := by
  intro p hp t x y w
  simp only [planColdTA9, List.mem_cons, List.not_mem_nil, or_false] at hp
  rcases hp with rfl | rfl | rfl
  · refine arith_run (.inl ⟨rfl, ?_⟩) ?_ ?_ t x y w <;> omega
  · refine arith_run (.inl ⟨rfl, ?_⟩) ?_ ?_ t x y w <;> omega
  · refine arith_run (.inl ⟨rfl, ?_⟩) ?_ ?_ t x y w <;> omega
theorem planColdTM9_ok (a0 : Int) (a1 : Int) (a2 : Int) (w0 : (Lit.int .i64 a0).wf = true) (w1 : (Lit.int .i64 a1).wf = true) (w2 : (Lit.int .i64 a2).wf = true) (hc : 0 ≤ a0 ∧ a0 ≤ 1000 ∧ 0 ≤ a1 ∧ a1 ≤ 1000 ∧ 0 ≤ a2 ∧ a2 ≤ 3000 ∧ a0 = a1 ∧ a2 ≤ a0 + a1) : MncOK planColdTM9 (symF (planColdTSym a0 a1 a2)) := by
  intro p hp
  simp only [planColdTM9, List.mem_cons, List.not_mem_nil, or_false] at hp
  rcases hp with rfl | rfl | rfl | rfl
  · exact ⟨a0, (0), by simp [atomOf, symF, planColdTSym], by simp [atomOf, symF, planColdTSym], by simp [atomOf, symF, planColdTSym] <;> omega⟩
  · exact ⟨a0, (1099511627776), by simp [atomOf, symF, planColdTSym], by simp [atomOf, symF, planColdTSym], by simp [atomOf, symF, planColdTSym] <;> omega⟩
  · exact ⟨a1, (0), by simp [atomOf, symF, planColdTSym], by simp [atomOf, symF, planColdTSym], by simp [atomOf, symF, planColdTSym] <;> omega⟩
  · exact ⟨a1, (1099511627776), by simp [atomOf, symF, planColdTSym], by simp [atomOf, symF, planColdTSym], by simp [atomOf, symF, planColdTSym] <;> omega⟩
theorem planColdTKB9_ok (a0 : Int) (a1 : Int) (a2 : Int) (w0 : (Lit.int .i64 a0).wf = true) (w1 : (Lit.int .i64 a1).wf = true) (w2 : (Lit.int .i64 a2).wf = true) (hc : 0 ≤ a0 ∧ a0 ≤ 1000 ∧ 0 ≤ a1 ∧ a1 ≤ 1000 ∧ 0 ≤ a2 ∧ a2 ≤ 3000 ∧ a0 = a1 ∧ a2 ≤ a0 + a1) : KOK planColdTKB9 (symF (planColdTSym a0 a1 a2)) := by
  have r0 : IntKind.i64.min ≤ a0 ∧ a0 ≤ IntKind.i64.max := by simpa [Lit.wf] using w0
  have r1 : IntKind.i64.min ≤ a1 ∧ a1 ≤ IntKind.i64.max := by simpa [Lit.wf] using w1
  have r2 : IntKind.i64.min ≤ a2 ∧ a2 ≤ IntKind.i64.max := by simpa [Lit.wf] using w2
  simp only [show IntKind.i64.min = -9223372036854775808 from rfl, show IntKind.i64.max = 9223372036854775807 from rfl] at r0 r1 r2
  intro k j h
  unfold planColdTKB9 at h
  unfold KB.find at h
  split at h
  · rename_i he
    injection h with h; subst h; dsimp only at he; subst he
    exact ⟨a0, by simp [symF, planColdTSym], by show (0 : Int) ≤ a0; omega, by show a0 ≤ (1000 : Int); omega, by simp⟩
  unfold KB.find at h
  split at h
  · rename_i he
    injection h with h; subst h; dsimp only at he; subst he
    exact ⟨a1, by simp [symF, planColdTSym], by show (0 : Int) ≤ a1; omega, by show a1 ≤ (1000 : Int); omega, by simp⟩
  unfold KB.find at h
  split at h
  · rename_i he
    injection h with h; subst h; dsimp only at he; subst he
    exact ⟨a2, by simp [symF, planColdTSym], by show (0 : Int) ≤ a2; omega, by show a2 ≤ (3000 : Int); omega, by simp⟩
  unfold KB.find at h
  split at h
  · rename_i he
    injection h with h; subst h; dsimp only at he; subst he
    exact ⟨(a0 + a1), by simp [symF, planColdTSym], by show (0 : Int) ≤ (a0 + a1); omega, by show (a0 + a1) ≤ (2000 : Int); omega, by simp⟩
  cases h
def planColdT10t3 : DT := .less 4 (0) .leaf .leaf
theorem planColdT10h3 : planColdT10t3.check (okT Try.prog (orcOr (fctOrc planColdTF10) (orcOr (arcOrc planColdTA10) (orcOr (mncOrc planColdTM10) (noOrc)))) planColdTHook planColdTCut [] planColdTET 100000 (cFnL Try.prog) (knTabW 16) 90 6 planColdTArgs ⟨.lf, 0, 0, [], []⟩) planColdT10k1n = true := check_less (Ky := planColdT10k3y) (Kn := planColdT10k3n) (i := ⟨-999, 0, []⟩) (by kernel_rfl) (by kernel_rfl) (by kernel_rfl) (.inr planColdT10h4) (.inr planColdT10h5)
def planColdT10t1 : DT := .same 1 (0) .leaf planColdT10t3
theorem planColdT10h1 : planColdT10t1.check (okT Try.prog (orcOr (fctOrc planColdTF10) (orcOr (arcOrc planColdTA10) (orcOr (mncOrc planColdTM10) (noOrc)))) planColdTHook planColdTCut [] planColdTET 100000 (cFnL Try.prog) (knTabW 16) 90 6 planColdTArgs ⟨.lf, 0, 0, [], []⟩) planColdT10k0y = true := check_same (Ky := planColdT10k1y) (Kn := planColdT10k1n) (i := ⟨0, 1000, []⟩) (by kernel_rfl) (by kernel_rfl) (by kernel_rfl) (.inr planColdT10h2) (.inr planColdT10h3)
def planColdT10t0 : DT := .less 0 (1) planColdT10t1 .leaf
theorem planColdT10h0 : planColdT10t0.check (okT Try.prog (orcOr (fctOrc planColdTF10) (orcOr (arcOrc planColdTA10) (orcOr (mncOrc planColdTM10) (noOrc)))) planColdTHook planColdTCut [] planColdTET 100000 (cFnL Try.prog) (knTabW 16) 90 6 planColdTArgs ⟨.lf, 0, 0, [], []⟩) planColdTKB10 = true := check_less (Ky := planColdT10k0y) (Kn := planColdT10k0n) (i := ⟨0, 1000, []⟩) (by kernel_rfl) (by kernel_rfl) (by kernel_rfl) (.inr planColdT10h1) (.inr planColdT10h6)
theorem planColdTCheck10 : planColdT10t0.check (okT Try.prog (orcOr (fctOrc planColdTF10) (orcOr (arcOrc planColdTA10) (orcOr (mncOrc planColdTM10) (noOrc)))) planColdTHook planColdTCut [] planColdTET 100000 (cFnL Try.prog) (knTabW 16) 90 6 planColdTArgs ⟨.lf, 0, 0, [], []⟩) planColdTKB10 = true := planColdT10h0
theorem planColdTF10_ok (a0 : Int) (a1 : Int) (a2 : Int) (hc : 0 ≤ a0 ∧ a0 ≤ 1000 ∧ 0 ≤ a1 ∧ a1 ≤ 1000 ∧ 0 ≤ a2 ∧ a2 ≤ 3000 ∧ a1 < a0 ∧ a0 + a1 < a2) : FctOK Try.prog planColdTF10 (symF (planColdTSym a0 a1 a2)) := by
  intro p hp t x y w
  simp only [planColdTF10, List.mem_cons, List.not_mem_nil, or_false] at hp
  rcases hp with rfl | rfl | rfl | rfl | rfl
  all_goals (simp [atomOf, symF, planColdTSym, eqGuard, binOp, Op.intCmp]; try omega)
theorem planColdTA10_ok (a0 : Int) (a1 : Int) (a2 : Int) (w0 : (Lit.int .i64 a0).wf = true) (w1 : (Lit.int .i64 a1).wf = true) (w2 : (Lit.int .i64 a2).wf = true) (hc : 0 ≤ a0 ∧ a0 ≤ 1000 ∧ 0 ≤ a1 ∧ a1 ≤ 1000 ∧ 0 ≤ a2 ∧ a2 ≤ 3000 ∧ a1 < a0 ∧ a0 + a1 < a2) : ArcOK Try.prog planColdTA10 (symF (planColdTSym a0 a1 a2)) := by
  intro p hp t x y w
  simp only [planColdTA10, List.mem_cons, List.not_mem_nil, or_false] at hp
  rcases hp with rfl | rfl | rfl | rfl | rfl | rfl | rfl
  · refine arith_run (.inl ⟨rfl, ?_⟩) ?_ ?_ t x y w <;> omega
  · refine arith_run (.inl ⟨rfl, ?_⟩) ?_ ?_ t x y w <;> omega
  · refine arith_run (.inr (.inr ⟨rfl, ?_⟩)) ?_ ?_ t x y w <;> omega
  · refine arith_run (.inr (.inr ⟨rfl, ?_⟩)) ?_ ?_ t x y w <;> omega
  · refine arith_run (.inr (.inr ⟨rfl, ?_⟩)) ?_ ?_ t x y w <;> omega
  · refine arith_run (.inr (.inr ⟨rfl, ?_⟩)) ?_ ?_ t x y w <;> omega
  · refine arith_run (.inl ⟨rfl, ?_⟩) ?_ ?_ t x y w <;> omega
theorem planColdTM10_ok (a0 : Int) (a1 : Int) (a2 : Int) (w0 : (Lit.int .i64 a0).wf = true) (w1 : (Lit.int .i64 a1).wf = true) (w2 : (Lit.int .i64 a2).wf = true) (hc : 0 ≤ a0 ∧ a0 ≤ 1000 ∧ 0 ≤ a1 ∧ a1 ≤ 1000 ∧ 0 ≤ a2 ∧ a2 ≤ 3000 ∧ a1 < a0 ∧ a0 + a1 < a2) : MncOK planColdTM10 (symF (planColdTSym a0 a1 a2)) := by
  intro p hp
  simp only [planColdTM10, List.mem_cons, List.not_mem_nil, or_false] at hp
  rcases hp with rfl | rfl | rfl | rfl
  · exact ⟨a0, (0), by simp [atomOf, symF, planColdTSym], by simp [atomOf, symF, planColdTSym], by simp [atomOf, symF, planColdTSym] <;> omega⟩
  · exact ⟨a0, (1099511627776), by simp [atomOf, symF, planColdTSym], by simp [atomOf, symF, planColdTSym], by simp [atomOf, symF, planColdTSym] <;> omega⟩
  · exact ⟨a1, (0), by simp [atomOf, symF, planColdTSym], by simp [atomOf, symF, planColdTSym], by simp [atomOf, symF, planColdTSym] <;> omega⟩
  · exact ⟨a1, (1099511627776), by simp [atomOf, symF, planColdTSym], by simp [atomOf, symF, planColdTSym], by simp [atomOf, symF, planColdTSym] <;> omega⟩
theorem planColdTKB10_ok (a0 : Int) (a1 : Int) (a2 : Int) (w0 : (Lit.int .i64 a0).wf = true) (w1 : (Lit.int .i64 a1).wf = true) (w2 : (Lit.int .i64 a2).wf = true) (hc : 0 ≤ a0 ∧ a0 ≤ 1000 ∧ 0 ≤ a1 ∧ a1 ≤ 1000 ∧ 0 ≤ a2 ∧ a2 ≤ 3000 ∧ a1 < a0 ∧ a0 + a1 < a2) : KOK planColdTKB10 (symF (planColdTSym a0 a1 a2)) := by
  have r0 : IntKind.i64.min ≤ a0 ∧ a0 ≤ IntKind.i64.max := by simpa [Lit.wf] using w0
  have r1 : IntKind.i64.min ≤ a1 ∧ a1 ≤ IntKind.i64.max := by simpa [Lit.wf] using w1
  have r2 : IntKind.i64.min ≤ a2 ∧ a2 ≤ IntKind.i64.max := by simpa [Lit.wf] using w2
  simp only [show IntKind.i64.min = -9223372036854775808 from rfl, show IntKind.i64.max = 9223372036854775807 from rfl] at r0 r1 r2
  intro k j h
  unfold planColdTKB10 at h
  unfold KB.find at h
  split at h
  · rename_i he
    injection h with h; subst h; dsimp only at he; subst he
    exact ⟨a0, by simp [symF, planColdTSym], by show (0 : Int) ≤ a0; omega, by show a0 ≤ (1000 : Int); omega, by simp⟩
  unfold KB.find at h
  split at h
  · rename_i he
    injection h with h; subst h; dsimp only at he; subst he
    exact ⟨a1, by simp [symF, planColdTSym], by show (0 : Int) ≤ a1; omega, by show a1 ≤ (1000 : Int); omega, by simp⟩
  unfold KB.find at h
  split at h
  · rename_i he
    injection h with h; subst h; dsimp only at he; subst he
    exact ⟨a2, by simp [symF, planColdTSym], by show (0 : Int) ≤ a2; omega, by show a2 ≤ (3000 : Int); omega, by simp⟩
  unfold KB.find at h
  split at h
  · rename_i he
    injection h with h; subst h; dsimp only at he; subst he
    exact ⟨((-1) * a1), by simp [symF, planColdTSym], by show (-999 : Int) ≤ ((-1) * a1); omega, by show ((-1) * a1) ≤ (0 : Int); omega, by simp⟩
  unfold KB.find at h
  split at h
  · rename_i he
    injection h with h; subst h; dsimp only at he; subst he
    exact ⟨((-1) * a0), by simp [symF, planColdTSym], by show (-1000 : Int) ≤ ((-1) * a0); omega, by show ((-1) * a0) ≤ (-1 : Int); omega, by simp⟩
  unfold KB.find at h
  split at h
  · rename_i he
    injection h with h; subst h; dsimp only at he; subst he
    exact ⟨(a0 + a1), by simp [symF, planColdTSym], by show (1 : Int) ≤ (a0 + a1); omega, by show (a0 + a1) ≤ (1999 : Int); omega, by simp⟩
  cases h
def planColdT11t3 : DT := .less 4 (0) .leaf .leaf
theorem planColdT11h3 : planColdT11t3.check (okT Try.prog (orcOr (fctOrc planColdTF11) (orcOr (arcOrc planColdTA11) (orcOr (mncOrc planColdTM11) (noOrc)))) planColdTHook planColdTCut [] planColdTET 100000 (cFnL Try.prog) (knTabW 16) 90 6 planColdTArgs ⟨.lf, 0, 0, [], []⟩) planColdT11k1n = true := check_less (Ky := planColdT11k3y) (Kn := planColdT11k3n) (i := ⟨-999, 0, []⟩) (by kernel_rfl) (by kernel_rfl) (by kernel_rfl) (.inr planColdT11h4) (.inr planColdT11h5)
def planColdT11t1 : DT := .same 1 (0) .leaf planColdT11t3
theorem planColdT11h1 : planColdT11t1.check (okT Try.prog (orcOr (fctOrc planColdTF11) (orcOr (arcOrc planColdTA11) (orcOr (mncOrc planColdTM11) (noOrc)))) planColdTHook planColdTCut [] planColdTET 100000 (cFnL Try.prog) (knTabW 16) 90 6 planColdTArgs ⟨.lf, 0, 0, [], []⟩) planColdT11k0y = true := check_same (Ky := planColdT11k1y) (Kn := planColdT11k1n) (i := ⟨0, 1000, []⟩) (by kernel_rfl) (by kernel_rfl) (by kernel_rfl) (.inr planColdT11h2) (.inr planColdT11h3)
def planColdT11t0 : DT := .less 0 (1) planColdT11t1 .leaf
theorem planColdT11h0 : planColdT11t0.check (okT Try.prog (orcOr (fctOrc planColdTF11) (orcOr (arcOrc planColdTA11) (orcOr (mncOrc planColdTM11) (noOrc)))) planColdTHook planColdTCut [] planColdTET 100000 (cFnL Try.prog) (knTabW 16) 90 6 planColdTArgs ⟨.lf, 0, 0, [], []⟩) planColdTKB11 = true := check_less (Ky := planColdT11k0y) (Kn := planColdT11k0n) (i := ⟨0, 1000, []⟩) (by kernel_rfl) (by kernel_rfl) (by kernel_rfl) (.inr planColdT11h1) (.inr planColdT11h6)
theorem planColdTCheck11 : planColdT11t0.check (okT Try.prog (orcOr (fctOrc planColdTF11) (orcOr (arcOrc planColdTA11) (orcOr (mncOrc planColdTM11) (noOrc)))) planColdTHook planColdTCut [] planColdTET 100000 (cFnL Try.prog) (knTabW 16) 90 6 planColdTArgs ⟨.lf, 0, 0, [], []⟩) planColdTKB11 = true := planColdT11h0
theorem planColdTF11_ok (a0 : Int) (a1 : Int) (a2 : Int) (hc : 0 ≤ a0 ∧ a0 ≤ 1000 ∧ 0 ≤ a1 ∧ a1 ≤ 1000 ∧ 0 ≤ a2 ∧ a2 ≤ 3000 ∧ a1 < a0 ∧ a2 ≤ a0 + a1) : FctOK Try.prog planColdTF11 (symF (planColdTSym a0 a1 a2)) := by
  intro p hp t x y w
  simp only [planColdTF11, List.mem_cons, List.not_mem_nil, or_false] at hp
  rcases hp with rfl | rfl | rfl | rfl | rfl
  all_goals (simp [atomOf, symF, planColdTSym, eqGuard, binOp, Op.intCmp]; try omega)
theorem planColdTA11_ok (a0 : Int) (a1 : Int) (a2 : Int) (w0 : (Lit.int .i64 a0).wf = true) (w1 : (Lit.int .i64 a1).wf = true) (w2 : (Lit.int .i64 a2).wf = true) (hc : 0 ≤ a0 ∧ a0 ≤ 1000 ∧ 0 ≤ a1 ∧ a1 ≤ 1000 ∧ 0 ≤ a2 ∧ a2 ≤ 3000 ∧ a1 < a0 ∧ a2 ≤ a0 + a1) : ArcOK Try.prog planColdTA11 (symF (planColdTSym a0 a1 a2)) := by
  intro p hp t x y w
  simp only [planColdTA11, List.mem_cons, List.not_mem_nil, or_false] at hp
  rcases hp with rfl | rfl | rfl | rfl | rfl | rfl | rfl
  · refine arith_run (.inl ⟨rfl, ?_⟩) ?_ ?_ t x y w <;> omega
  · refine arith_run (.inl ⟨rfl, ?_⟩) ?_ ?_ t x y w <;> omega
  · refine arith_run (.inr (.inr ⟨rfl, ?_⟩)) ?_ ?_ t x y w <;> omega
  · refine arith_run (.inr (.inr ⟨rfl, ?_⟩)) ?_ ?_ t x y w <;> omega
  · refine arith_run (.inr (.inr ⟨rfl, ?_⟩)) ?_ ?_ t x y w <;> omega
  · refine arith_run (.inr (.inr ⟨rfl, ?_⟩)) ?_ ?_ t x y w <;> omega
  · refine arith_run (.inl ⟨rfl, ?_⟩) ?_ ?_ t x y w <;> omega
theorem planColdTM11_ok (a0 : Int) (a1 : Int) (a2 : Int) (w0 : (Lit.int .i64 a0).wf = true) (w1 : (Lit.int .i64 a1).wf = true) (w2 : (Lit.int .i64 a2).wf = true) (hc : 0 ≤ a0 ∧ a0 ≤ 1000 ∧ 0 ≤ a1 ∧ a1 ≤ 1000 ∧ 0 ≤ a2 ∧ a2 ≤ 3000 ∧ a1 < a0 ∧ a2 ≤ a0 + a1) : MncOK planColdTM11 (symF (planColdTSym a0 a1 a2)) := by
  intro p hp
  simp only [planColdTM11, List.mem_cons, List.not_mem_nil, or_false] at hp
  rcases hp with rfl | rfl | rfl | rfl
  · exact ⟨a0, (0), by simp [atomOf, symF, planColdTSym], by simp [atomOf, symF, planColdTSym], by simp [atomOf, symF, planColdTSym] <;> omega⟩
  · exact ⟨a0, (1099511627776), by simp [atomOf, symF, planColdTSym], by simp [atomOf, symF, planColdTSym], by simp [atomOf, symF, planColdTSym] <;> omega⟩
  · exact ⟨a1, (0), by simp [atomOf, symF, planColdTSym], by simp [atomOf, symF, planColdTSym], by simp [atomOf, symF, planColdTSym] <;> omega⟩
  · exact ⟨a1, (1099511627776), by simp [atomOf, symF, planColdTSym], by simp [atomOf, symF, planColdTSym], by simp [atomOf, symF, planColdTSym] <;> omega⟩
theorem planColdTKB11_ok (a0 : Int) (a1 : Int) (a2 : Int) (w0 : (Lit.int .i64 a0).wf = true) (w1 : (Lit.int .i64 a1).wf = true) (w2 : (Lit.int .i64 a2).wf = true) (hc : 0 ≤ a0 ∧ a0 ≤ 1000 ∧ 0 ≤ a1 ∧ a1 ≤ 1000 ∧ 0 ≤ a2 ∧ a2 ≤ 3000 ∧ a1 < a0 ∧ a2 ≤ a0 + a1) : KOK planColdTKB11 (symF (planColdTSym a0 a1 a2)) := by
  have r0 : IntKind.i64.min ≤ a0 ∧ a0 ≤ IntKind.i64.max := by simpa [Lit.wf] using w0
  have r1 : IntKind.i64.min ≤ a1 ∧ a1 ≤ IntKind.i64.max := by simpa [Lit.wf] using w1
  have r2 : IntKind.i64.min ≤ a2 ∧ a2 ≤ IntKind.i64.max := by simpa [Lit.wf] using w2
  simp only [show IntKind.i64.min = -9223372036854775808 from rfl, show IntKind.i64.max = 9223372036854775807 from rfl] at r0 r1 r2
  intro k j h
  unfold planColdTKB11 at h
  unfold KB.find at h
  split at h
  · rename_i he
    injection h with h; subst h; dsimp only at he; subst he
    exact ⟨a0, by simp [symF, planColdTSym], by show (0 : Int) ≤ a0; omega, by show a0 ≤ (1000 : Int); omega, by simp⟩
  unfold KB.find at h
  split at h
  · rename_i he
    injection h with h; subst h; dsimp only at he; subst he
    exact ⟨a1, by simp [symF, planColdTSym], by show (0 : Int) ≤ a1; omega, by show a1 ≤ (1000 : Int); omega, by simp⟩
  unfold KB.find at h
  split at h
  · rename_i he
    injection h with h; subst h; dsimp only at he; subst he
    exact ⟨a2, by simp [symF, planColdTSym], by show (0 : Int) ≤ a2; omega, by show a2 ≤ (3000 : Int); omega, by simp⟩
  unfold KB.find at h
  split at h
  · rename_i he
    injection h with h; subst h; dsimp only at he; subst he
    exact ⟨((-1) * a1), by simp [symF, planColdTSym], by show (-999 : Int) ≤ ((-1) * a1); omega, by show ((-1) * a1) ≤ (0 : Int); omega, by simp⟩
  unfold KB.find at h
  split at h
  · rename_i he
    injection h with h; subst h; dsimp only at he; subst he
    exact ⟨((-1) * a0), by simp [symF, planColdTSym], by show (-1000 : Int) ≤ ((-1) * a0); omega, by show ((-1) * a0) ≤ (-1 : Int); omega, by simp⟩
  unfold KB.find at h
  split at h
  · rename_i he
    injection h with h; subst h; dsimp only at he; subst he
    exact ⟨(a0 + a1), by simp [symF, planColdTSym], by show (1 : Int) ≤ (a0 + a1); omega, by show (a0 + a1) ≤ (1999 : Int); omega, by simp⟩
  cases h
set_option maxHeartbeats 400000 in
theorem walkPlanColdT (a0 : Int) (a1 : Int) (a2 : Int) (w0 : (Lit.int .i64 a0).wf = true) (w1 : (Lit.int .i64 a1).wf = true) (w2 : (Lit.int .i64 a2).wf = true) (w : World) :
    Calls Try.prog 6 #[.int .i64 a0, .int .i64 a1, .int .i64 a2, .bool true] w fun e' w' => e' = .returned (.bool true) ∧ Below w.heap.size w w' := by
  have hone : ∀ q, (symF (planColdTSym a0 a1 a2) q).oneCell' = true := symF_one (by intro p hp; simp [planColdTSym] at hp; rcases hp with rfl | rfl | rfl | rfl | rfl | rfl <;> rfl)
  have hS : SOK [] (symF (planColdTSym a0 a1 a2)) := by
    intro k hk
    cases hk
  have hgo : OrcOK Try.prog (· = symF (planColdTSym a0 a1 a2)) noOrc := noOrc_ok _ _
  have hgl : ∀ g, symF (planColdTSym a0 a1 a2) (gsym g) ≠ .nilFunc := fun g => symF_glob rfl g
  have htab : TabOK Try.prog (· = symF (planColdTSym a0 a1 a2)) (knTabW 16) := (knTabW_ok planKKnown)
  have hcase : (a0 < 0) ∨ (0 ≤ a0 ∧ 1000 < a0) ∨ (0 ≤ a0 ∧ a0 ≤ 1000 ∧ a1 < 0) ∨ (0 ≤ a0 ∧ a0 ≤ 1000 ∧ 1000 < a1) ∨ (0 ≤ a0 ∧ a0 ≤ 1000 ∧ 0 ≤ a1 ∧ a1 ≤ 1000 ∧ a2 < 0) ∨ (0 ≤ a0 ∧ a0 ≤ 1000 ∧ 0 ≤ a1 ∧ a1 ≤ 1000 ∧ 3000 < a2) ∨ (0 ≤ a0 ∧ a0 ≤ 1000 ∧ 0 ≤ a1 ∧ a1 ≤ 1000 ∧ 0 ≤ a2 ∧ a2 ≤ 3000 ∧ a0 < a1 ∧ a0 + a1 < a2) ∨ (0 ≤ a0 ∧ a0 ≤ 1000 ∧ 0 ≤ a1 ∧ a1 ≤ 1000 ∧ 0 ≤ a2 ∧ a2 ≤ 3000 ∧ a0 < a1 ∧ a2 ≤ a0 + a1) ∨ (0 ≤ a0 ∧ a0 ≤ 1000 ∧ 0 ≤ a1 ∧ a1 ≤ 1000 ∧ 0 ≤ a2 ∧ a2 ≤ 3000 ∧ a0 = a1 ∧ a0 + a1 < a2) ∨ (0 ≤ a0 ∧ a0 ≤ 1000 ∧ 0 ≤ a1 ∧ a1 ≤ 1000 ∧ 0 ≤ a2 ∧ a2 ≤ 3000 ∧ a0 = a1 ∧ a2 ≤ a0 + a1) ∨ (0 ≤ a0 ∧ a0 ≤ 1000 ∧ 0 ≤ a1 ∧ a1 ≤ 1000 ∧ 0 ≤ a2 ∧ a2 ≤ 3000 ∧ a1 < a0 ∧ a0 + a1 < a2) ∨ (0 ≤ a0 ∧ a0 ≤ 1000 ∧ 0 ≤ a1 ∧ a1 ≤ 1000 ∧ 0 ≤ a2 ∧ a2 ≤ 3000 ∧ a1 < a0 ∧ a2 ≤ a0 + a1) := by
    by_cases t0 : a0 < 0
    · have q : a0 < 0 := by omega
      exact (.inl q)
    by_cases t1 : 1000 < a0
    · have q : 0 ≤ a0 ∧ 1000 < a0 := by omega
      exact (.inr (.inl q))
    by_cases t2 : a1 < 0
    · have q : 0 ≤ a0 ∧ a0 ≤ 1000 ∧ a1 < 0 := by omega
      exact (.inr (.inr (.inl q)))
    by_cases t3 : 1000 < a1
    · have q : 0 ≤ a0 ∧ a0 ≤ 1000 ∧ 1000 < a1 := by omega
      exact (.inr (.inr (.inr (.inl q))))
    by_cases t4 : a2 < 0
    · have q : 0 ≤ a0 ∧ a0 ≤ 1000 ∧ 0 ≤ a1 ∧ a1 ≤ 1000 ∧ a2 < 0 := by omega
      exact (.inr (.inr (.inr (.inr (.inl q)))))
    by_cases t5 : 3000 < a2
    · have q : 0 ≤ a0 ∧ a0 ≤ 1000 ∧ 0 ≤ a1 ∧ a1 ≤ 1000 ∧ 3000 < a2 := by omega
      exact (.inr (.inr (.inr (.inr (.inr (.inl q))))))
    by_cases t6 : a0 < a1 ∧ a0 + a1 < a2
    · have q : 0 ≤ a0 ∧ a0 ≤ 1000 ∧ 0 ≤ a1 ∧ a1 ≤ 1000 ∧ 0 ≤ a2 ∧ a2 ≤ 3000 ∧ a0 < a1 ∧ a0 + a1 < a2 := by omega
      exact (.inr (.inr (.inr (.inr (.inr (.inr (.inl q)))))))
    by_cases t7 : a0 < a1
    · have q : 0 ≤ a0 ∧ a0 ≤ 1000 ∧ 0 ≤ a1 ∧ a1 ≤ 1000 ∧ 0 ≤ a2 ∧ a2 ≤ 3000 ∧ a0 < a1 ∧ a2 ≤ a0 + a1 := by omega
      exact (.inr (.inr (.inr (.inr (.inr (.inr (.inr (.inl q))))))))
    by_cases t8 : a0 = a1 ∧ a0 + a1 < a2
    · have q : 0 ≤ a0 ∧ a0 ≤ 1000 ∧ 0 ≤ a1 ∧ a1 ≤ 1000 ∧ 0 ≤ a2 ∧ a2 ≤ 3000 ∧ a0 = a1 ∧ a0 + a1 < a2 := by omega
      exact (.inr (.inr (.inr (.inr (.inr (.inr (.inr (.inr (.inl q)))))))))
    by_cases t9 : a0 = a1
    · have q : 0 ≤ a0 ∧ a0 ≤ 1000 ∧ 0 ≤ a1 ∧ a1 ≤ 1000 ∧ 0 ≤ a2 ∧ a2 ≤ 3000 ∧ a0 = a1 ∧ a2 ≤ a0 + a1 := by omega
      exact (.inr (.inr (.inr (.inr (.inr (.inr (.inr (.inr (.inr (.inl q))))))))))
    by_cases t10 : a0 + a1 < a2
    · have q : 0 ≤ a0 ∧ a0 ≤ 1000 ∧ 0 ≤ a1 ∧ a1 ≤ 1000 ∧ 0 ≤ a2 ∧ a2 ≤ 3000 ∧ a1 < a0 ∧ a0 + a1 < a2 := by omega
      exact (.inr (.inr (.inr (.inr (.inr (.inr (.inr (.inr (.inr (.inr (.inl q)))))))))))
    have q : 0 ≤ a0 ∧ a0 ≤ 1000 ∧ 0 ≤ a1 ∧ a1 ≤ 1000 ∧ 0 ≤ a2 ∧ a2 ≤ 3000 ∧ a1 < a0 ∧ a2 ≤ a0 + a1 := by omega
    exact (.inr (.inr (.inr (.inr (.inr (.inr (.inr (.inr (.inr (.inr (.inr q)))))))))))
  rcases hcase with hc | hc | hc | hc | hc | hc | hc | hc | hc | hc | hc | hc
  · exact Calls.of_treeN evMixed evNames hone (orcOr_ok (fctOrc_ok (planColdTF0_ok a0 a1 a2 hc)) (orcOr_ok (arcOrc_ok (planColdTA0_ok a0 a1 a2 w0 w1 w2 hc)) (orcOr_ok (mncOrc_ok (planColdTM0_ok a0 a1 a2 w0 w1 w2 hc)) hgo))) planColdTHook_ok (EqOK.nil _) (planColdTKB0_ok a0 a1 a2 w0 w1 w2 hc) hS (tableL_self _) htab (args := planColdTArgs) (fun r hr => by simp [planColdTArgs, ren, hr, symF, planColdTSym]) planColdTCheck0 w hgl
  · exact Calls.of_treeN evMixed evNames hone (orcOr_ok (fctOrc_ok (planColdTF1_ok a0 a1 a2 hc)) (orcOr_ok (arcOrc_ok (planColdTA1_ok a0 a1 a2 w0 w1 w2 hc)) (orcOr_ok (mncOrc_ok (planColdTM1_ok a0 a1 a2 w0 w1 w2 hc)) hgo))) planColdTHook_ok (EqOK.nil _) (planColdTKB1_ok a0 a1 a2 w0 w1 w2 hc) hS (tableL_self _) htab (args := planColdTArgs) (fun r hr => by simp [planColdTArgs, ren, hr, symF, planColdTSym]) planColdTCheck1 w hgl
  · exact Calls.of_treeN evMixed evNames hone (orcOr_ok (fctOrc_ok (planColdTF2_ok a0 a1 a2 hc)) (orcOr_ok (arcOrc_ok (planColdTA2_ok a0 a1 a2 w0 w1 w2 hc)) (orcOr_ok (mncOrc_ok (planColdTM2_ok a0 a1 a2 w0 w1 w2 hc)) hgo))) planColdTHook_ok (EqOK.nil _) (planColdTKB2_ok a0 a1 a2 w0 w1 w2 hc) hS (tableL_self _) htab (args := planColdTArgs) (fun r hr => by simp [planColdTArgs, ren, hr, symF, planColdTSym]) planColdTCheck2 w hgl
  · exact Calls.of_treeN evMixed evNames hone (orcOr_ok (fctOrc_ok (planColdTF3_ok a0 a1 a2 hc)) (orcOr_ok (arcOrc_ok (planColdTA3_ok a0 a1 a2 w0 w1 w2 hc)) (orcOr_ok (mncOrc_ok (planColdTM3_ok a0 a1 a2 w0 w1 w2 hc)) hgo))) planColdTHook_ok (EqOK.nil _) (planColdTKB3_ok a0 a1 a2 w0 w1 w2 hc) hS (tableL_self _) htab (args := planColdTArgs) (fun r hr => by simp [planColdTArgs, ren, hr, symF, planColdTSym]) planColdTCheck3 w hgl
  · exact Calls.of_treeN evMixed evNames hone (orcOr_ok (fctOrc_ok (planColdTF4_ok a0 a1 a2 hc)) (orcOr_ok (arcOrc_ok (planColdTA4_ok a0 a1 a2 w0 w1 w2 hc)) (orcOr_ok (mncOrc_ok (planColdTM4_ok a0 a1 a2 w0 w1 w2 hc)) hgo))) planColdTHook_ok (EqOK.nil _) (planColdTKB4_ok a0 a1 a2 w0 w1 w2 hc) hS (tableL_self _) htab (args := planColdTArgs) (fun r hr => by simp [planColdTArgs, ren, hr, symF, planColdTSym]) planColdTCheck4 w hgl
  · exact Calls.of_treeN evMixed evNames hone (orcOr_ok (fctOrc_ok (planColdTF5_ok a0 a1 a2 hc)) (orcOr_ok (arcOrc_ok (planColdTA5_ok a0 a1 a2 w0 w1 w2 hc)) (orcOr_ok (mncOrc_ok (planColdTM5_ok a0 a1 a2 w0 w1 w2 hc)) hgo))) planColdTHook_ok (EqOK.nil _) (planColdTKB5_ok a0 a1 a2 w0 w1 w2 hc) hS (tableL_self _) htab (args := planColdTArgs) (fun r hr => by simp [planColdTArgs, ren, hr, symF, planColdTSym]) planColdTCheck5 w hgl
  · exact Calls.of_treeN evMixed evNames hone (orcOr_ok (fctOrc_ok (planColdTF6_ok a0 a1 a2 hc)) (orcOr_ok (arcOrc_ok (planColdTA6_ok a0 a1 a2 w0 w1 w2 hc)) (orcOr_ok (mncOrc_ok (planColdTM6_ok a0 a1 a2 w0 w1 w2 hc)) hgo))) planColdTHook_ok (EqOK.nil _) (planColdTKB6_ok a0 a1 a2 w0 w1 w2 hc) hS (tableL_self _) htab (args := planColdTArgs) (fun r hr => by simp [planColdTArgs, ren, hr, symF, planColdTSym]) planColdTCheck6 w hgl
  · exact Calls.of_treeN evMixed evNames hone (orcOr_ok (fctOrc_ok (planColdTF7_ok a0 a1 a2 hc)) (orcOr_ok (arcOrc_ok (planColdTA7_ok a0 a1 a2 w0 w1 w2 hc)) (orcOr_ok (mncOrc_ok (planColdTM7_ok a0 a1 a2 w0 w1 w2 hc)) hgo))) planColdTHook_ok (EqOK.nil _) (planColdTKB7_ok a0 a1 a2 w0 w1 w2 hc) hS (tableL_self _) htab (args := planColdTArgs) (fun r hr => by simp [planColdTArgs, ren, hr, symF, planColdTSym]) planColdTCheck7 w hgl
  · exact Calls.of_treeN evMixed evNames hone (orcOr_ok (fctOrc_ok (planColdTF8_ok a0 a1 a2 hc)) (orcOr_ok (arcOrc_ok (planColdTA8_ok a0 a1 a2 w0 w1 w2 hc)) (orcOr_ok (mncOrc_ok (planColdTM8_ok a0 a1 a2 w0 w1 w2 hc)) hgo))) planColdTHook_ok (EqOK.nil _) (planColdTKB8_ok a0 a1 a2 w0 w1 w2 hc) hS (tableL_self _) htab (args := planColdTArgs) (fun r hr => by simp [planColdTArgs, ren, hr, symF, planColdTSym]) planColdTCheck8 w hgl
  · exact Calls.of_treeN evMixed evNames hone (orcOr_ok (fctOrc_ok (planColdTF9_ok a0 a1 a2 hc)) (orcOr_ok (arcOrc_ok (planColdTA9_ok a0 a1 a2 w0 w1 w2 hc)) (orcOr_ok (mncOrc_ok (planColdTM9_ok a0 a1 a2 w0 w1 w2 hc)) hgo))) planColdTHook_ok (EqOK.nil _) (planColdTKB9_ok a0 a1 a2 w0 w1 w2 hc) hS (tableL_self _) htab (args := planColdTArgs) (fun r hr => by simp [planColdTArgs, ren, hr, symF, planColdTSym]) planColdTCheck9 w hgl
  · exact Calls.of_treeN evMixed evNames hone (orcOr_ok (fctOrc_ok (planColdTF10_ok a0 a1 a2 hc)) (orcOr_ok (arcOrc_ok (planColdTA10_ok a0 a1 a2 w0 w1 w2 hc)) (orcOr_ok (mncOrc_ok (planColdTM10_ok a0 a1 a2 w0 w1 w2 hc)) hgo))) planColdTHook_ok (EqOK.nil _) (planColdTKB10_ok a0 a1 a2 w0 w1 w2 hc) hS (tableL_self _) htab (args := planColdTArgs) (fun r hr => by simp [planColdTArgs, ren, hr, symF, planColdTSym]) planColdTCheck10 w hgl
  · exact Calls.of_treeN evMixed evNames hone (orcOr_ok (fctOrc_ok (planColdTF11_ok a0 a1 a2 hc)) (orcOr_ok (arcOrc_ok (planColdTA11_ok a0 a1 a2 w0 w1 w2 hc)) (orcOr_ok (mncOrc_ok (planColdTM11_ok a0 a1 a2 w0 w1 w2 hc)) hgo))) planColdTHook_ok (EqOK.nil _) (planColdTKB11_ok a0 a1 a2 w0 w1 w2 hc) hS (tableL_self _) htab (args := planColdTArgs) (fun r hr => by simp [planColdTArgs, ren, hr, symF, planColdTSym]) planColdTCheck11 w hgl
end Go.Proofs.Ytljhlnpbomehkaa
