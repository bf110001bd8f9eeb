/- VaultRefunds: the walk of the statement, by the evaluator, trees of questions, facts. -/
import Derived.Test.YtleengigapmnpaaEvS
import Derived.Test.YtleengigapmnpaaEvZc
import Derived.Test.YtleengigapmnpaaEvXd
import Derived.Test.YtleengigapmnpaaTabVR
import Derived.Test.YtleengigapmnpaaItemsEqE
import Derived.ProofKit
namespace Go.Proofs.Ytleengigapmnpaa
open Go.RowKit
set_option linter.unusedVariables false
set_option linter.unusedSimpArgs false
set_option maxRecDepth 100000

def vaultRefundsSym (a0 : Int) (a1 : Int) (a2 : Int) (a3 : Int) : List (Nat × Value) := [(0, .int .i64 a0), (1, .int .i64 a1), (2, .int .i64 a2), (3, .int .i64 a3), (4, .int .i64 (1024 - a0)), (5, .int .i64 (a2 + a3)), (6, .int .i64 (a0 + a1)), (7, .int .i64 ((a2 + a3) * (a0 + a1))), (8, .int .i64 (a2 * a0)), (9, .int .i64 (a2 * a1)), (10, .int .i64 (a3 * (a0 + a1))), (11, .int .i64 (a2 * a1 + a3 * (a0 + a1)))]
def vaultRefundsKn : KN := [(15, .bool true)]
def vaultRefundsET : ET := [(37, [CK.i, CK.i, CK.i, CK.i])]
def vaultRefundsArgs : Array Value := #[.chan (some 0), .chan (some 1), .chan (some 2), .chan (some 3)]
theorem vaultRefundsKnown15 : ((aCall Try.prog noOrc 100000 60 15 #[]).run ⟨.lf, 0, 0, [], []⟩).map (·.1) = some (.bool true) := eval_fast (table_self _) (by kernel_rfl)
theorem vaultRefundsKnOK : KnOK Try.prog vaultRefundsKn := by
  intro f v h
  unfold vaultRefundsKn at h
  unfold KN.find at h
  split at h
  · rename_i he
    injection h with h; subst h; subst he
    exact ⟨rfl, fun w => Calls.of_eval evMixed evNames (σ := fun _ => .bool false) (fun _ => rfl) (noOrc_ok _ _) (fun r _ => by simp) vaultRefundsKnown15 rfl w⟩
  cases h
def vaultRefundsKB0 : KB := [(0, ⟨-9223372036854775808, 0, []⟩), (1, ⟨-9223372036854775808, 9223372036854775807, []⟩), (2, ⟨-9223372036854775808, 9223372036854775807, []⟩), (3, ⟨-9223372036854775808, 9223372036854775807, []⟩)]
def vaultRefundsF0 : Fct := []
def vaultRefundsA0 : Arc := []
def vaultRefundsM0 : Mnc := []
theorem vaultRefunds0h0 : DT.leaf.check (okKX Try.prog vaultRefundsKn (orcOr (fctOrc vaultRefundsF0) (orcOr (arcOrc vaultRefundsA0) (mncOrc vaultRefundsM0))) [] vaultRefundsET 100000 60 4 vaultRefundsArgs) vaultRefundsKB0 = true := leafX_fast (tblOr_ok ctL_ok) (by kernel_rfl)
theorem vaultRefundsCheck0 : DT.leaf.check (okKX Try.prog vaultRefundsKn (orcOr (fctOrc vaultRefundsF0) (orcOr (arcOrc vaultRefundsA0) (mncOrc vaultRefundsM0))) [] vaultRefundsET 100000 60 4 vaultRefundsArgs) vaultRefundsKB0 = true := vaultRefunds0h0
theorem vaultRefundsF0_ok (a0 : Int) (a1 : Int) (a2 : Int) (a3 : Int) (hc : a0 < 1) : FctOK Try.prog vaultRefundsF0 (symF (vaultRefundsSym a0 a1 a2 a3)) := by
  intro p hp
  exact absurd hp (by simp [vaultRefundsF0])
theorem vaultRefundsA0_ok (a0 : Int) (a1 : Int) (a2 : Int) (a3 : Int) (w0 : (Lit.int .i64 a0).wf = true) (w1 : (Lit.int .i64 a1).wf = true) (w2 : (Lit.int .i64 a2).wf = true) (w3 : (Lit.int .i64 a3).wf = true) (hc : a0 < 1) : ArcOK Try.prog vaultRefundsA0 (symF (vaultRefundsSym a0 a1 a2 a3)) := by
  intro p hp t x y w
  exact absurd hp (by simp [vaultRefundsA0])
theorem vaultRefundsM0_ok (a0 : Int) (a1 : Int) (a2 : Int) (a3 : Int) (w0 : (Lit.int .i64 a0).wf = true) (w1 : (Lit.int .i64 a1).wf = true) (w2 : (Lit.int .i64 a2).wf = true) (w3 : (Lit.int .i64 a3).wf = true) (hc : a0 < 1) : MncOK vaultRefundsM0 (symF (vaultRefundsSym a0 a1 a2 a3)) := by
  intro p hp
  exact absurd hp (by simp [vaultRefundsM0])
theorem vaultRefundsKB0_ok (a0 : Int) (a1 : Int) (a2 : Int) (a3 : Int) (w0 : (Lit.int .i64 a0).wf = true) (w1 : (Lit.int .i64 a1).wf = true) (w2 : (Lit.int .i64 a2).wf = true) (w3 : (Lit.int .i64 a3).wf = true) (hc : a0 < 1) : KOK vaultRefundsKB0 (symF (vaultRefundsSym a0 a1 a2 a3)) := by
  have r0 : IntKind.i64.min ≤ a0 ∧ a0 ≤ IntKind.i64.max := by simpa [Lit.wf] using w0
  have r1 : IntKind.i64.min ≤ a1 ∧ a1 ≤ IntKind.i64.max := by simpa [Lit.wf] using w1
  have r2 : IntKind.i64.min ≤ a2 ∧ a2 ≤ IntKind.i64.max := by simpa [Lit.wf] using w2
  have r3 : IntKind.i64.min ≤ a3 ∧ a3 ≤ IntKind.i64.max := by simpa [Lit.wf] using w3
  simp only [show IntKind.i64.min = -9223372036854775808 from rfl, show IntKind.i64.max = 9223372036854775807 from rfl] at r0 r1 r2 r3
  intro k j h
  unfold vaultRefundsKB0 at h
  unfold KB.find at h
  split at h
  · rename_i he
    injection h with h; subst h; dsimp only at he; subst he
    exact ⟨a0, by simp [symF, vaultRefundsSym], by show (-9223372036854775808 : Int) ≤ a0; omega, by show a0 ≤ (0 : Int); omega, by simp⟩
  unfold KB.find at h
  split at h
  · rename_i he
    injection h with h; subst h; dsimp only at he; subst he
    exact ⟨a1, by simp [symF, vaultRefundsSym], by show (-9223372036854775808 : Int) ≤ a1; omega, by show a1 ≤ (9223372036854775807 : Int); omega, by simp⟩
  unfold KB.find at h
  split at h
  · rename_i he
    injection h with h; subst h; dsimp only at he; subst he
    exact ⟨a2, by simp [symF, vaultRefundsSym], by show (-9223372036854775808 : Int) ≤ a2; omega, by show a2 ≤ (9223372036854775807 : Int); omega, by simp⟩
  unfold KB.find at h
  split at h
  · rename_i he
    injection h with h; subst h; dsimp only at he; subst he
    exact ⟨a3, by simp [symF, vaultRefundsSym], by show (-9223372036854775808 : Int) ≤ a3; omega, by show a3 ≤ (9223372036854775807 : Int); omega, by simp⟩
  cases h
def vaultRefundsKB1 : KB := [(0, ⟨1025, 9223372036854775807, []⟩), (1, ⟨-9223372036854775808, 9223372036854775807, []⟩), (2, ⟨-9223372036854775808, 9223372036854775807, []⟩), (3, ⟨-9223372036854775808, 9223372036854775807, []⟩)]
def vaultRefundsF1 : Fct := []
def vaultRefundsA1 : Arc := []
def vaultRefundsM1 : Mnc := []
theorem vaultRefunds1h0 : DT.leaf.check (okKX Try.prog vaultRefundsKn (orcOr (fctOrc vaultRefundsF1) (orcOr (arcOrc vaultRefundsA1) (mncOrc vaultRefundsM1))) [] vaultRefundsET 100000 60 4 vaultRefundsArgs) vaultRefundsKB1 = true := leafX_fast (tblOr_ok ctL_ok) (by kernel_rfl)
theorem vaultRefundsCheck1 : DT.leaf.check (okKX Try.prog vaultRefundsKn (orcOr (fctOrc vaultRefundsF1) (orcOr (arcOrc vaultRefundsA1) (mncOrc vaultRefundsM1))) [] vaultRefundsET 100000 60 4 vaultRefundsArgs) vaultRefundsKB1 = true := vaultRefunds1h0
theorem vaultRefundsF1_ok (a0 : Int) (a1 : Int) (a2 : Int) (a3 : Int) (hc : 1024 < a0) : FctOK Try.prog vaultRefundsF1 (symF (vaultRefundsSym a0 a1 a2 a3)) := by
  intro p hp
  exact absurd hp (by simp [vaultRefundsF1])
theorem vaultRefundsA1_ok (a0 : Int) (a1 : Int) (a2 : Int) (a3 : Int) (w0 : (Lit.int .i64 a0).wf = true) (w1 : (Lit.int .i64 a1).wf = true) (w2 : (Lit.int .i64 a2).wf = true) (w3 : (Lit.int .i64 a3).wf = true) (hc : 1024 < a0) : ArcOK Try.prog vaultRefundsA1 (symF (vaultRefundsSym a0 a1 a2 a3)) := by
  intro p hp t x y w
  exact absurd hp (by simp [vaultRefundsA1])
theorem vaultRefundsM1_ok (a0 : Int) (a1 : Int) (a2 : Int) (a3 : Int) (w0 : (Lit.int .i64 a0).wf = true) (w1 : (Lit.int .i64 a1).wf = true) (w2 : (Lit.int .i64 a2).wf = true) (w3 : (Lit.int .i64 a3).wf = true) (hc : 1024 < a0) : MncOK vaultRefundsM1 (symF (vaultRefundsSym a0 a1 a2 a3)) := by
  intro p hp
  exact absurd hp (by simp [vaultRefundsM1])
theorem vaultRefundsKB1_ok (a0 : Int) (a1 : Int) (a2 : Int) (a3 : Int) (w0 : (Lit.int .i64 a0).wf = true) (w1 : (Lit.int .i64 a1).wf = true) (w2 : (Lit.int .i64 a2).wf = true) (w3 : (Lit.int .i64 a3).wf = true) (hc : 1024 < a0) : KOK vaultRefundsKB1 (symF (vaultRefundsSym a0 a1 a2 a3)) := by
  have r0 : IntKind.i64.min ≤ a0 ∧ a0 ≤ IntKind.i64.max := by simpa [Lit.wf] using w0
  have r1 : IntKind.i64.min ≤ a1 ∧ a1 ≤ IntKind.i64.max := by simpa [Lit.wf] using w1
  have r2 : IntKind.i64.min ≤ a2 ∧ a2 ≤ IntKind.i64.max := by simpa [Lit.wf] using w2
  have r3 : IntKind.i64.min ≤ a3 ∧ a3 ≤ IntKind.i64.max := by simpa [Lit.wf] using w3
  simp only [show IntKind.i64.min = -9223372036854775808 from rfl, show IntKind.i64.max = 9223372036854775807 from rfl] at r0 r1 r2 r3
  intro k j h
  unfold vaultRefundsKB1 at h
  unfold KB.find at h
  split at h
  · rename_i he
    injection h with h; subst h; dsimp only at he; subst he
    exact ⟨a0, by simp [symF, vaultRefundsSym], by show (1025 : Int) ≤ a0; omega, by show a0 ≤ (9223372036854775807 : Int); omega, by simp⟩
  unfold KB.find at h
  split at h
  · rename_i he
    injection h with h; subst h; dsimp only at he; subst he
    exact ⟨a1, by simp [symF, vaultRefundsSym], by show (-9223372036854775808 : Int) ≤ a1; omega, by show a1 ≤ (9223372036854775807 : Int); omega, by simp⟩
  unfold KB.find at h
  split at h
  · rename_i he
    injection h with h; subst h; dsimp only at he; subst he
    exact ⟨a2, by simp [symF, vaultRefundsSym], by show (-9223372036854775808 : Int) ≤ a2; omega, by show a2 ≤ (9223372036854775807 : Int); omega, by simp⟩
  unfold KB.find at h
  split at h
  · rename_i he
    injection h with h; subst h; dsimp only at he; subst he
    exact ⟨a3, by simp [symF, vaultRefundsSym], by show (-9223372036854775808 : Int) ≤ a3; omega, by show a3 ≤ (9223372036854775807 : Int); omega, by simp⟩
  cases h
def vaultRefundsKB2 : KB := [(0, ⟨1, 1024, []⟩), (1, ⟨-9223372036854775808, -1, []⟩), (2, ⟨-9223372036854775808, 9223372036854775807, []⟩), (3, ⟨-9223372036854775808, 9223372036854775807, []⟩)]
def vaultRefundsF2 : Fct := []
def vaultRefundsA2 : Arc := []
def vaultRefundsM2 : Mnc := []
theorem vaultRefunds2h0 : DT.leaf.check (okKX Try.prog vaultRefundsKn (orcOr (fctOrc vaultRefundsF2) (orcOr (arcOrc vaultRefundsA2) (mncOrc vaultRefundsM2))) [] vaultRefundsET 100000 60 4 vaultRefundsArgs) vaultRefundsKB2 = true := leafX_fast (tblOr_ok ctL_ok) (by kernel_rfl)
theorem vaultRefundsCheck2 : DT.leaf.check (okKX Try.prog vaultRefundsKn (orcOr (fctOrc vaultRefundsF2) (orcOr (arcOrc vaultRefundsA2) (mncOrc vaultRefundsM2))) [] vaultRefundsET 100000 60 4 vaultRefundsArgs) vaultRefundsKB2 = true := vaultRefunds2h0
theorem vaultRefundsF2_ok (a0 : Int) (a1 : Int) (a2 : Int) (a3 : Int) (hc : 1 ≤ a0 ∧ a0 ≤ 1024 ∧ a1 < 0) : FctOK Try.prog vaultRefundsF2 (symF (vaultRefundsSym a0 a1 a2 a3)) := by
  intro p hp
  exact absurd hp (by simp [vaultRefundsF2])
theorem vaultRefundsA2_ok (a0 : Int) (a1 : Int) (a2 : Int) (a3 : Int) (w0 : (Lit.int .i64 a0).wf = true) (w1 : (Lit.int .i64 a1).wf = true) (w2 : (Lit.int .i64 a2).wf = true) (w3 : (Lit.int .i64 a3).wf = true) (hc : 1 ≤ a0 ∧ a0 ≤ 1024 ∧ a1 < 0) : ArcOK Try.prog vaultRefundsA2 (symF (vaultRefundsSym a0 a1 a2 a3)) := by
  intro p hp t x y w
  exact absurd hp (by simp [vaultRefundsA2])
theorem vaultRefundsM2_ok (a0 : Int) (a1 : Int) (a2 : Int) (a3 : Int) (w0 : (Lit.int .i64 a0).wf = true) (w1 : (Lit.int .i64 a1).wf = true) (w2 : (Lit.int .i64 a2).wf = true) (w3 : (Lit.int .i64 a3).wf = true) (hc : 1 ≤ a0 ∧ a0 ≤ 1024 ∧ a1 < 0) : MncOK vaultRefundsM2 (symF (vaultRefundsSym a0 a1 a2 a3)) := by
  intro p hp
  exact absurd hp (by simp [vaultRefundsM2])
theorem vaultRefundsKB2_ok (a0 : Int) (a1 : Int) (a2 : Int) (a3 : Int) (w0 : (Lit.int .i64 a0).wf = true) (w1 : (Lit.int .i64 a1).wf = true) (w2 : (Lit.int .i64 a2).wf = true) (w3 : (Lit.int .i64 a3).wf = true) (hc : 1 ≤ a0 ∧ a0 ≤ 1024 ∧ a1 < 0) : KOK vaultRefundsKB2 (symF (vaultRefundsSym a0 a1 a2 a3)) := by
  have r0 : IntKind.i64.min ≤ a0 ∧ a0 ≤ IntKind.i64.max := by simpa [Lit.wf] using w0
  have r1 : IntKind.i64.min ≤ a1 ∧ a1 ≤ IntKind.i64.max := by simpa [Lit.wf] using w1
  have r2 : IntKind.i64.min ≤ a2 ∧ a2 ≤ IntKind.i64.max := by simpa [Lit.wf] using w2
  have r3 : IntKind.i64.min ≤ a3 ∧ a3 ≤ IntKind.i64.max := by simpa [Lit.wf] using w3
  simp only [show IntKind.i64.min = -9223372036854775808 from rfl, show IntKind.i64.max = 9223372036854775807 from rfl] at r0 r1 r2 r3
  intro k j h
  unfold vaultRefundsKB2 at h
  unfold KB.find at h
  split at h
  · rename_i he
    injection h with h; subst h; dsimp only at he; subst he
    exact ⟨a0, by simp [symF, vaultRefundsSym], by show (1 : Int) ≤ a0; omega, by show a0 ≤ (1024 : Int); omega, by simp⟩
  unfold KB.find at h
  split at h
  · rename_i he
    injection h with h; subst h; dsimp only at he; subst he
    exact ⟨a1, by simp [symF, vaultRefundsSym], by show (-9223372036854775808 : Int) ≤ a1; omega, by show a1 ≤ (-1 : Int); omega, by simp⟩
  unfold KB.find at h
  split at h
  · rename_i he
    injection h with h; subst h; dsimp only at he; subst he
    exact ⟨a2, by simp [symF, vaultRefundsSym], by show (-9223372036854775808 : Int) ≤ a2; omega, by show a2 ≤ (9223372036854775807 : Int); omega, by simp⟩
  unfold KB.find at h
  split at h
  · rename_i he
    injection h with h; subst h; dsimp only at he; subst he
    exact ⟨a3, by simp [symF, vaultRefundsSym], by show (-9223372036854775808 : Int) ≤ a3; omega, by show a3 ≤ (9223372036854775807 : Int); omega, by simp⟩
  cases h
def vaultRefundsKB3 : KB := [(0, ⟨1, 1024, []⟩), (1, ⟨0, 9223372036854775807, []⟩), (2, ⟨-9223372036854775808, 9223372036854775807, []⟩), (3, ⟨-9223372036854775808, 9223372036854775807, []⟩)]
def vaultRefundsF3 : Fct := [(.gtr, .chan (some 1), .chan (some 4), true)]
def vaultRefundsA3 : Arc := [(.sub, .int .i64 (1024), .chan (some 0), .chan (some 4))]
def vaultRefundsM3 : Mnc := []
theorem vaultRefunds3h0 : DT.leaf.check (okKX Try.prog vaultRefundsKn (orcOr (fctOrc vaultRefundsF3) (orcOr (arcOrc vaultRefundsA3) (mncOrc vaultRefundsM3))) [] vaultRefundsET 100000 60 4 vaultRefundsArgs) vaultRefundsKB3 = true := leafX_fast (tblOr_ok ctL_ok) (by kernel_rfl)
theorem vaultRefundsCheck3 : DT.leaf.check (okKX Try.prog vaultRefundsKn (orcOr (fctOrc vaultRefundsF3) (orcOr (arcOrc vaultRefundsA3) (mncOrc vaultRefundsM3))) [] vaultRefundsET 100000 60 4 vaultRefundsArgs) vaultRefundsKB3 = true := vaultRefunds3h0
theorem vaultRefundsF3_ok (a0 : Int) (a1 : Int) (a2 : Int) (a3 : Int) (hc : 1 ≤ a0 ∧ a0 ≤ 1024 ∧ 0 ≤ a1 ∧ 1024 - a0 < a1) : FctOK Try.prog vaultRefundsF3 (symF (vaultRefundsSym a0 a1 a2 a3)) := by
  intro p hp t x y w
  simp only [vaultRefundsF3, List.mem_cons, List.not_mem_nil, or_false] at hp
  rcases hp with rfl
  all_goals (simp [atomOf, symF, vaultRefundsSym, eqGuard, binOp, Op.intCmp]; try omega)
theorem vaultRefundsA3_ok (a0 : Int) (a1 : Int) (a2 : Int) (a3 : Int) (w0 : (Lit.int .i64 a0).wf = true) (w1 : (Lit.int .i64 a1).wf = true) (w2 : (Lit.int .i64 a2).wf = true) (w3 : (Lit.int .i64 a3).wf = true) (hc : 1 ≤ a0 ∧ a0 ≤ 1024 ∧ 0 ≤ a1 ∧ 1024 - a0 < a1) : ArcOK Try.prog vaultRefundsA3 (symF (vaultRefundsSym a0 a1 a2 a3)) := by
  intro p hp t x y w
  simp only [vaultRefundsA3, List.mem_cons, List.not_mem_nil, or_false] at hp
  rcases hp with rfl
  · refine arith_run (.inr (.inl ⟨rfl, ?_⟩)) ?_ ?_ t x y w <;> omega
theorem vaultRefundsM3_ok (a0 : Int) (a1 : Int) (a2 : Int) (a3 : Int) (w0 : (Lit.int .i64 a0).wf = true) (w1 : (Lit.int .i64 a1).wf = true) (w2 : (Lit.int .i64 a2).wf = true) (w3 : (Lit.int .i64 a3).wf = true) (hc : 1 ≤ a0 ∧ a0 ≤ 1024 ∧ 0 ≤ a1 ∧ 1024 - a0 < a1) : MncOK vaultRefundsM3 (symF (vaultRefundsSym a0 a1 a2 a3)) := by
  intro p hp
  exact absurd hp (by simp [vaultRefundsM3])
theorem vaultRefundsKB3_ok (a0 : Int) (a1 : Int) (a2 : Int) (a3 : Int) (w0 : (Lit.int .i64 a0).wf = true) (w1 : (Lit.int .i64 a1).wf = true) (w2 : (Lit.int .i64 a2).wf = true) (w3 : (Lit.int .i64 a3).wf = true) (hc : 1 ≤ a0 ∧ a0 ≤ 1024 ∧ 0 ≤ a1 ∧ 1024 - a0 < a1) : KOK vaultRefundsKB3 (symF (vaultRefundsSym a0 a1 a2 a3)) := by
  have r0 : IntKind.i64.min ≤ a0 ∧ a0 ≤ IntKind.i64.max := by simpa [Lit.wf] using w0
  have r1 : IntKind.i64.min ≤ a1 ∧ a1 ≤ IntKind.i64.max := by simpa [Lit.wf] using w1
  have r2 : IntKind.i64.min ≤ a2 ∧ a2 ≤ IntKind.i64.max := by simpa [Lit.wf] using w2
  have r3 : IntKind.i64.min ≤ a3 ∧ a3 ≤ IntKind.i64.max := by simpa [Lit.wf] using w3
  simp only [show IntKind.i64.min = -9223372036854775808 from rfl, show IntKind.i64.max = 9223372036854775807 from rfl] at r0 r1 r2 r3
  intro k j h
  unfold vaultRefundsKB3 at h
  unfold KB.find at h
  split at h
  · rename_i he
    injection h with h; subst h; dsimp only at he; subst he
    exact ⟨a0, by simp [symF, vaultRefundsSym], by show (1 : Int) ≤ a0; omega, by show a0 ≤ (1024 : Int); omega, by simp⟩
  unfold KB.find at h
  split at h
  · rename_i he
    injection h with h; subst h; dsimp only at he; subst he
    exact ⟨a1, by simp [symF, vaultRefundsSym], by show (0 : Int) ≤ a1; omega, by show a1 ≤ (9223372036854775807 : Int); omega, by simp⟩
  unfold KB.find at h
  split at h
  · rename_i he
    injection h with h; subst h; dsimp only at he; subst he
    exact ⟨a2, by simp [symF, vaultRefundsSym], by show (-9223372036854775808 : Int) ≤ a2; omega, by show a2 ≤ (9223372036854775807 : Int); omega, by simp⟩
  unfold KB.find at h
  split at h
  · rename_i he
    injection h with h; subst h; dsimp only at he; subst he
    exact ⟨a3, by simp [symF, vaultRefundsSym], by show (-9223372036854775808 : Int) ≤ a3; omega, by show a3 ≤ (9223372036854775807 : Int); omega, by simp⟩
  cases h
def vaultRefundsKB4 : KB := [(0, ⟨1, 1024, []⟩), (1, ⟨0, 1023, []⟩), (2, ⟨-9223372036854775808, 0, []⟩), (3, ⟨-9223372036854775808, 9223372036854775807, []⟩)]
def vaultRefundsF4 : Fct := [(.gtr, .chan (some 1), .chan (some 4), false)]
def vaultRefundsA4 : Arc := [(.sub, .int .i64 (1024), .chan (some 0), .chan (some 4))]
def vaultRefundsM4 : Mnc := []
theorem vaultRefunds4h0 : DT.leaf.check (okKX Try.prog vaultRefundsKn (orcOr (fctOrc vaultRefundsF4) (orcOr (arcOrc vaultRefundsA4) (mncOrc vaultRefundsM4))) [] vaultRefundsET 100000 60 4 vaultRefundsArgs) vaultRefundsKB4 = true := leafX_fast (tblOr_ok ctL_ok) (by kernel_rfl)
theorem vaultRefundsCheck4 : DT.leaf.check (okKX Try.prog vaultRefundsKn (orcOr (fctOrc vaultRefundsF4) (orcOr (arcOrc vaultRefundsA4) (mncOrc vaultRefundsM4))) [] vaultRefundsET 100000 60 4 vaultRefundsArgs) vaultRefundsKB4 = true := vaultRefunds4h0
theorem vaultRefundsF4_ok (a0 : Int) (a1 : Int) (a2 : Int) (a3 : Int) (hc : 1 ≤ a0 ∧ a0 ≤ 1024 ∧ 0 ≤ a1 ∧ a1 ≤ 1024 - a0 ∧ a2 < 1) : FctOK Try.prog vaultRefundsF4 (symF (vaultRefundsSym a0 a1 a2 a3)) := by
  intro p hp t x y w
  simp only [vaultRefundsF4, List.mem_cons, List.not_mem_nil, or_false] at hp
  rcases hp with rfl
  all_goals (simp [atomOf, symF, vaultRefundsSym, eqGuard, binOp, Op.intCmp]; try omega)
theorem vaultRefundsA4_ok (a0 : Int) (a1 : Int) (a2 : Int) (a3 : Int) (w0 : (Lit.int .i64 a0).wf = true) (w1 : (Lit.int .i64 a1).wf = true) (w2 : (Lit.int .i64 a2).wf = true) (w3 : (Lit.int .i64 a3).wf = true) (hc : 1 ≤ a0 ∧ a0 ≤ 1024 ∧ 0 ≤ a1 ∧ a1 ≤ 1024 - a0 ∧ a2 < 1) : ArcOK Try.prog vaultRefundsA4 (symF (vaultRefundsSym a0 a1 a2 a3)) := by
  intro p hp t x y w
  simp only [vaultRefundsA4, List.mem_cons, List.not_mem_nil, or_false] at hp
  rcases hp with rfl
  · refine arith_run (.inr (.inl ⟨rfl, ?_⟩)) ?_ ?_ t x y w <;> omega
theorem vaultRefundsM4_ok (a0 : Int) (a1 : Int) (a2 : Int) (a3 : Int) (w0 : (Lit.int .i64 a0).wf = true) (w1 : (Lit.int .i64 a1).wf = true) (w2 : (Lit.int .i64 a2).wf = true) (w3 : (Lit.int .i64 a3).wf = true) (hc : 1 ≤ a0 ∧ a0 ≤ 1024 ∧ 0 ≤ a1 ∧ a1 ≤ 1024 - a0 ∧ a2 < 1) : MncOK vaultRefundsM4 (symF (vaultRefundsSym a0 a1 a2 a3)) := by
  intro p hp
  exact absurd hp (by simp [vaultRefundsM4])
theorem vaultRefundsKB4_ok (a0 : Int) (a1 : Int) (a2 : Int) (a3 : Int) (w0 : (Lit.int .i64 a0).wf = true) (w1 : (Lit.int .i64 a1).wf = true) (w2 : (Lit.int .i64 a2).wf = true) (w3 : (Lit.int .i64 a3).wf = true) (hc : 1 ≤ a0 ∧ a0 ≤ 1024 ∧ 0 ≤ a1 ∧ a1 ≤ 1024 - a0 ∧ a2 < 1) : KOK vaultRefundsKB4 (symF (vaultRefundsSym a0 a1 a2 a3)) := by
  have r0 : IntKind.i64.min ≤ a0 ∧ a0 ≤ IntKind.i64.max := by simpa [Lit.wf] using w0
  have r1 : IntKind.i64.min ≤ a1 ∧ a1 ≤ IntKind.i64.max := by simpa [Lit.wf] using w1
  have r2 : IntKind.i64.min ≤ a2 ∧ a2 ≤ IntKind.i64.max := by simpa [Lit.wf] using w2
  have r3 : IntKind.i64.min ≤ a3 ∧ a3 ≤ IntKind.i64.max := by simpa [Lit.wf] using w3
  simp only [show IntKind.i64.min = -9223372036854775808 from rfl, show IntKind.i64.max = 9223372036854775807 from rfl] at r0 r1 r2 r3
  intro k j h
  unfold vaultRefundsKB4 at h
  unfold KB.find at h
  split at h
  · rename_i he
    injection h with h; subst h; dsimp only at he; subst he
    exact ⟨a0, by simp [symF, vaultRefundsSym], by show (1 : Int) ≤ a0; omega, by show a0 ≤ (1024 : Int); omega, by simp⟩
  unfold KB.find at h
  split at h
  · rename_i he
    injection h with h; subst h; dsimp only at he; subst he
    exact ⟨a1, by simp [symF, vaultRefundsSym], by show (0 : Int) ≤ a1; omega, by show a1 ≤ (1023 : Int); omega, by simp⟩
  unfold KB.find at h
  split at h
  · rename_i he
    injection h with h; subst h; dsimp only at he; subst he
    exact ⟨a2, by simp [symF, vaultRefundsSym], by show (-9223372036854775808 : Int) ≤ a2; omega, by show a2 ≤ (0 : Int); omega, by simp⟩
  unfold KB.find at h
  split at h
  · rename_i he
    injection h with h; subst h; dsimp only at he; subst he
    exact ⟨a3, by simp [symF, vaultRefundsSym], by show (-9223372036854775808 : Int) ≤ a3; omega, by show a3 ≤ (9223372036854775807 : Int); omega, by simp⟩
  cases h
def vaultRefundsKB5 : KB := [(0, ⟨1, 1024, []⟩), (1, ⟨0, 1023, []⟩), (2, ⟨1001, 9223372036854775807, []⟩), (3, ⟨-9223372036854775808, 9223372036854775807, []⟩)]
def vaultRefundsF5 : Fct := [(.gtr, .chan (some 1), .chan (some 4), false)]
def vaultRefundsA5 : Arc := [(.sub, .int .i64 (1024), .chan (some 0), .chan (some 4))]
def vaultRefundsM5 : Mnc := []
theorem vaultRefunds5h0 : DT.leaf.check (okKX Try.prog vaultRefundsKn (orcOr (fctOrc vaultRefundsF5) (orcOr (arcOrc vaultRefundsA5) (mncOrc vaultRefundsM5))) [] vaultRefundsET 100000 60 4 vaultRefundsArgs) vaultRefundsKB5 = true := leafX_fast (tblOr_ok ctL_ok) (by kernel_rfl)
theorem vaultRefundsCheck5 : DT.leaf.check (okKX Try.prog vaultRefundsKn (orcOr (fctOrc vaultRefundsF5) (orcOr (arcOrc vaultRefundsA5) (mncOrc vaultRefundsM5))) [] vaultRefundsET 100000 60 4 vaultRefundsArgs) vaultRefundsKB5 = true := vaultRefunds5h0
theorem vaultRefundsF5_ok (a0 : Int) (a1 : Int) (a2 : Int) (a3 : Int) (hc : 1 ≤ a0 ∧ a0 ≤ 1024 ∧ 0 ≤ a1 ∧ a1 ≤ 1024 - a0 ∧ 1000 < a2) : FctOK Try.prog vaultRefundsF5 (symF (vaultRefundsSym a0 a1 a2 a3)) := by
  intro p hp t x y w
  simp only [vaultRefundsF5, List.mem_cons, List.not_mem_nil, or_false] at hp
  rcases hp with rfl
  all_goals (simp [atomOf, symF, vaultRefundsSym, eqGuard, binOp, Op.intCmp]; try omega)
theorem vaultRefundsA5_ok (a0 : Int) (a1 : Int) (a2 : Int) (a3 : Int) (w0 : (Lit.int .i64 a0).wf = true) (w1 : (Lit.int .i64 a1).wf = true) (w2 : (Lit.int .i64 a2).wf = true) (w3 : (Lit.int .i64 a3).wf = true) (hc : 1 ≤ a0 ∧ a0 ≤ 1024 ∧ 0 ≤ a1 ∧ a1 ≤ 1024 - a0 ∧ 1000 < a2) : ArcOK Try.prog vaultRefundsA5 (symF (vaultRefundsSym a0 a1 a2 a3)) := by
  intro p hp t x y w
  simp only [vaultRefundsA5, List.mem_cons, List.not_mem_nil, or_false] at hp
  rcases hp with rfl
  · refine arith_run (.inr (.inl ⟨rfl, ?_⟩)) ?_ ?_ t x y w <;> omega
theorem vaultRefundsM5_ok (a0 : Int) (a1 : Int) (a2 : Int) (a3 : Int) (w0 : (Lit.int .i64 a0).wf = true) (w1 : (Lit.int .i64 a1).wf = true) (w2 : (Lit.int .i64 a2).wf = true) (w3 : (Lit.int .i64 a3).wf = true) (hc : 1 ≤ a0 ∧ a0 ≤ 1024 ∧ 0 ≤ a1 ∧ a1 ≤ 1024 - a0 ∧ 1000 < a2) : MncOK vaultRefundsM5 (symF (vaultRefundsSym a0 a1 a2 a3)) := by
  intro p hp
  exact absurd hp (by simp [vaultRefundsM5])
theorem vaultRefundsKB5_ok (a0 : Int) (a1 : Int) (a2 : Int) (a3 : Int) (w0 : (Lit.int .i64 a0).wf = true) (w1 : (Lit.int .i64 a1).wf = true) (w2 : (Lit.int .i64 a2).wf = true) (w3 : (Lit.int .i64 a3).wf = true) (hc : 1 ≤ a0 ∧ a0 ≤ 1024 ∧ 0 ≤ a1 ∧ a1 ≤ 1024 - a0 ∧ 1000 < a2) : KOK vaultRefundsKB5 (symF (vaultRefundsSym a0 a1 a2 a3)) := by
  have r0 : IntKind.i64.min ≤ a0 ∧ a0 ≤ IntKind.i64.max := by simpa [Lit.wf] using w0
  have r1 : IntKind.i64.min ≤ a1 ∧ a1 ≤ IntKind.i64.max := by simpa [Lit.wf] using w1
  have r2 : IntKind.i64.min ≤ a2 ∧ a2 ≤ IntKind.i64.max := by simpa [Lit.wf] using w2
  have r3 : IntKind.i64.min ≤ a3 ∧ a3 ≤ IntKind.i64.max := by simpa [Lit.wf] using w3
  simp only [show IntKind.i64.min = -9223372036854775808 from rfl, show IntKind.i64.max = 9223372036854775807 from rfl] at r0 r1 r2 r3
  intro k j h
  unfold vaultRefundsKB5 at h
  unfold KB.find at h
  split at h
  · rename_i he
    injection h with h; subst h; dsimp only at he; subst he
    exact ⟨a0, by simp [symF, vaultRefundsSym], by show (1 : Int) ≤ a0; omega, by show a0 ≤ (1024 : Int); omega, by simp⟩
  unfold KB.find at h
  split at h
  · rename_i he
    injection h with h; subst h; dsimp only at he; subst he
    exact ⟨a1, by simp [symF, vaultRefundsSym], by show (0 : Int) ≤ a1; omega, by show a1 ≤ (1023 : Int); omega, by simp⟩
  unfold KB.find at h
  split at h
  · rename_i he
    injection h with h; subst h; dsimp only at he; subst he
    exact ⟨a2, by simp [symF, vaultRefundsSym], by show (1001 : Int) ≤ a2; omega, by show a2 ≤ (9223372036854775807 : Int); omega, by simp⟩
  unfold KB.find at h
  split at h
  · rename_i he
    injection h with h; subst h; dsimp only at he; subst he
    exact ⟨a3, by simp [symF, vaultRefundsSym], by show (-9223372036854775808 : Int) ≤ a3; omega, by show a3 ≤ (9223372036854775807 : Int); omega, by simp⟩
  cases h
def vaultRefundsKB6 : KB := [(0, ⟨1, 1024, []⟩), (1, ⟨0, 1023, []⟩), (2, ⟨1, 1000, []⟩), (3, ⟨-9223372036854775808, -1, []⟩)]
def vaultRefundsF6 : Fct := [(.gtr, .chan (some 1), .chan (some 4), false)]
def vaultRefundsA6 : Arc := [(.sub, .int .i64 (1024), .chan (some 0), .chan (some 4))]
def vaultRefundsM6 : Mnc := []
theorem vaultRefunds6h0 : DT.leaf.check (okKX Try.prog vaultRefundsKn (orcOr (fctOrc vaultRefundsF6) (orcOr (arcOrc vaultRefundsA6) (mncOrc vaultRefundsM6))) [] vaultRefundsET 100000 60 4 vaultRefundsArgs) vaultRefundsKB6 = true := leafX_fast (tblOr_ok ctL_ok) (by kernel_rfl)
theorem vaultRefundsCheck6 : DT.leaf.check (okKX Try.prog vaultRefundsKn (orcOr (fctOrc vaultRefundsF6) (orcOr (arcOrc vaultRefundsA6) (mncOrc vaultRefundsM6))) [] vaultRefundsET 100000 60 4 vaultRefundsArgs) vaultRefundsKB6 = true := vaultRefunds6h0
theorem vaultRefundsF6_ok (a0 : Int) (a1 : Int) (a2 : Int) (a3 : Int) (hc : 1 ≤ a0 ∧ a0 ≤ 1024 ∧ 0 ≤ a1 ∧ a1 ≤ 1024 - a0 ∧ 1 ≤ a2 ∧ a2 ≤ 1000 ∧ a3 < 0) : FctOK Try.prog vaultRefundsF6 (symF (vaultRefundsSym a0 a1 a2 a3)) := by
  intro p hp t x y w
  simp only [vaultRefundsF6, List.mem_cons, List.not_mem_nil, or_false] at hp
  rcases hp with rfl
  all_goals (simp [atomOf, symF, vaultRefundsSym, eqGuard, binOp, Op.intCmp]; try omega)
theorem vaultRefundsA6_ok (a0 : Int) (a1 : Int) (a2 : Int) (a3 : Int) (w0 : (Lit.int .i64 a0).wf = true) (w1 : (Lit.int .i64 a1).wf = true) (w2 : (Lit.int .i64 a2).wf = true) (w3 : (Lit.int .i64 a3).wf = true) (hc : 1 ≤ a0 ∧ a0 ≤ 1024 ∧ 0 ≤ a1 ∧ a1 ≤ 1024 - a0 ∧ 1 ≤ a2 ∧ a2 ≤ 1000 ∧ a3 < 0) : ArcOK Try.prog vaultRefundsA6 (symF (vaultRefundsSym a0 a1 a2 a3)) := by
  intro p hp t x y w
  simp only [vaultRefundsA6, List.mem_cons, List.not_mem_nil, or_false] at hp
  rcases hp with rfl
  · refine arith_run (.inr (.inl ⟨rfl, ?_⟩)) ?_ ?_ t x y w <;> omega
theorem vaultRefundsM6_ok (a0 : Int) (a1 : Int) (a2 : Int) (a3 : Int) (w0 : (Lit.int .i64 a0).wf = true) (w1 : (Lit.int .i64 a1).wf = true) (w2 : (Lit.int .i64 a2).wf = true) (w3 : (Lit.int .i64 a3).wf = true) (hc : 1 ≤ a0 ∧ a0 ≤ 1024 ∧ 0 ≤ a1 ∧ a1 ≤ 1024 - a0 ∧ 1 ≤ a2 ∧ a2 ≤ 1000 ∧ a3 < 0) : MncOK vaultRefundsM6 (symF (vaultRefundsSym a0 a1 a2 a3)) := by
  intro p hp
  exact absurd hp (by simp [vaultRefundsM6])
theorem vaultRefundsKB6_ok (a0 : Int) (a1 : Int) (a2 : Int) (a3 : Int) (w0 : (Lit.int .i64 a0).wf = true) (w1 : (Lit.int .i64 a1).wf = true) (w2 : (Lit.int .i64 a2).wf = true) (w3 : (Lit.int .i64 a3).wf = true) (hc : 1 ≤ a0 ∧ a0 ≤ 1024 ∧ 0 ≤ a1 ∧ a1 ≤ 1024 - a0 ∧ 1 ≤ a2 ∧ a2 ≤ 1000 ∧ a3 < 0) : KOK vaultRefundsKB6 (symF (vaultRefundsSym a0 a1 a2 a3)) := by
  have r0 : IntKind.i64.min ≤ a0 ∧ a0 ≤ IntKind.i64.max := by simpa [Lit.wf] using w0
  have r1 : IntKind.i64.min ≤ a1 ∧ a1 ≤ IntKind.i64.max := by simpa [Lit.wf] using w1
  have r2 : IntKind.i64.min ≤ a2 ∧ a2 ≤ IntKind.i64.max := by simpa [Lit.wf] using w2
  have r3 : IntKind.i64.min ≤ a3 ∧ a3 ≤ IntKind.i64.max := by simpa [Lit.wf] using w3
  simp only [show IntKind.i64.min = -9223372036854775808 from rfl, show IntKind.i64.max = 9223372036854775807 from rfl] at r0 r1 r2 r3
  intro k j h
  unfold vaultRefundsKB6 at h
  unfold KB.find at h
  split at h
  · rename_i he
    injection h with h; subst h; dsimp only at he; subst he
    exact ⟨a0, by simp [symF, vaultRefundsSym], by show (1 : Int) ≤ a0; omega, by show a0 ≤ (1024 : Int); omega, by simp⟩
  unfold KB.find at h
  split at h
  · rename_i he
    injection h with h; subst h; dsimp only at he; subst he
    exact ⟨a1, by simp [symF, vaultRefundsSym], by show (0 : Int) ≤ a1; omega, by show a1 ≤ (1023 : Int); omega, by simp⟩
  unfold KB.find at h
  split at h
  · rename_i he
    injection h with h; subst h; dsimp only at he; subst he
    exact ⟨a2, by simp [symF, vaultRefundsSym], by show (1 : Int) ≤ a2; omega, by show a2 ≤ (1000 : Int); omega, by simp⟩
  unfold KB.find at h
  split at h
  · rename_i he
    injection h with h; subst h; dsimp only at he; subst he
    exact ⟨a3, by simp [symF, vaultRefundsSym], by show (-9223372036854775808 : Int) ≤ a3; omega, by show a3 ≤ (-1 : Int); omega, by simp⟩
  cases h
def vaultRefundsKB7 : KB := [(0, ⟨1, 1024, []⟩), (1, ⟨0, 1023, []⟩), (2, ⟨1, 1000, []⟩), (3, ⟨1001, 9223372036854775807, []⟩)]
def vaultRefundsF7 : Fct := [(.gtr, .chan (some 1), .chan (some 4), false)]
def vaultRefundsA7 : Arc := [(.sub, .int .i64 (1024), .chan (some 0), .chan (some 4))]
def vaultRefundsM7 : Mnc := []
theorem vaultRefunds7h0 : DT.leaf.check (okKX Try.prog vaultRefundsKn (orcOr (fctOrc vaultRefundsF7) (orcOr (arcOrc vaultRefundsA7) (mncOrc vaultRefundsM7))) [] vaultRefundsET 100000 60 4 vaultRefundsArgs) vaultRefundsKB7 = true := leafX_fast (tblOr_ok ctL_ok) (by kernel_rfl)
theorem vaultRefundsCheck7 : DT.leaf.check (okKX Try.prog vaultRefundsKn (orcOr (fctOrc vaultRefundsF7) (orcOr (arcOrc vaultRefundsA7) (mncOrc vaultRefundsM7))) [] vaultRefundsET 100000 60 4 vaultRefundsArgs) vaultRefundsKB7 = true := vaultRefunds7h0
theorem vaultRefundsF7_ok (a0 : Int) (a1 : Int) (a2 : Int) (a3 : Int) (hc : 1 ≤ a0 ∧ a0 ≤ 1024 ∧ 0 ≤ a1 ∧ a1 ≤ 1024 - a0 ∧ 1 ≤ a2 ∧ a2 ≤ 1000 ∧ 1000 < a3) : FctOK Try.prog vaultRefundsF7 (symF (vaultRefundsSym a0 a1 a2 a3)) := by
  intro p hp t x y w
  simp only [vaultRefundsF7, List.mem_cons, List.not_mem_nil, or_false] at hp
  rcases hp with rfl
  all_goals (simp [atomOf, symF, vaultRefundsSym, eqGuard, binOp, Op.intCmp]; try omega)
theorem vaultRefundsA7_ok (a0 : Int) (a1 : Int) (a2 : Int) (a3 : Int) (w0 : (Lit.int .i64 a0).wf = true) (w1 : (Lit.int .i64 a1).wf = true) (w2 : (Lit.int .i64 a2).wf = true) (w3 : (Lit.int .i64 a3).wf = true) (hc : 1 ≤ a0 ∧ a0 ≤ 1024 ∧ 0 ≤ a1 ∧ a1 ≤ 1024 - a0 ∧ 1 ≤ a2 ∧ a2 ≤ 1000 ∧ 1000 < a3) : ArcOK Try.prog vaultRefundsA7 (symF (vaultRefundsSym a0 a1 a2 a3)) := by
  intro p hp t x y w
  simp only [vaultRefundsA7, List.mem_cons, List.not_mem_nil, or_false] at hp
  rcases hp with rfl
  · refine arith_run (.inr (.inl ⟨rfl, ?_⟩)) ?_ ?_ t x y w <;> omega
theorem vaultRefundsM7_ok (a0 : Int) (a1 : Int) (a2 : Int) (a3 : Int) (w0 : (Lit.int .i64 a0).wf = true) (w1 : (Lit.int .i64 a1).wf = true) (w2 : (Lit.int .i64 a2).wf = true) (w3 : (Lit.int .i64 a3).wf = true) (hc : 1 ≤ a0 ∧ a0 ≤ 1024 ∧ 0 ≤ a1 ∧ a1 ≤ 1024 - a0 ∧ 1 ≤ a2 ∧ a2 ≤ 1000 ∧ 1000 < a3) : MncOK vaultRefundsM7 (symF (vaultRefundsSym a0 a1 a2 a3)) := by
  intro p hp
  exact absurd hp (by simp [vaultRefundsM7])
theorem vaultRefundsKB7_ok (a0 : Int) (a1 : Int) (a2 : Int) (a3 : Int) (w0 : (Lit.int .i64 a0).wf = true) (w1 : (Lit.int .i64 a1).wf = true) (w2 : (Lit.int .i64 a2).wf = true) (w3 : (Lit.int .i64 a3).wf = true) (hc : 1 ≤ a0 ∧ a0 ≤ 1024 ∧ 0 ≤ a1 ∧ a1 ≤ 1024 - a0 ∧ 1 ≤ a2 ∧ a2 ≤ 1000 ∧ 1000 < a3) : KOK vaultRefundsKB7 (symF (vaultRefundsSym a0 a1 a2 a3)) := by
  have r0 : IntKind.i64.min ≤ a0 ∧ a0 ≤ IntKind.i64.max := by simpa [Lit.wf] using w0
  have r1 : IntKind.i64.min ≤ a1 ∧ a1 ≤ IntKind.i64.max := by simpa [Lit.wf] using w1
  have r2 : IntKind.i64.min ≤ a2 ∧ a2 ≤ IntKind.i64.max := by simpa [Lit.wf] using w2
  have r3 : IntKind.i64.min ≤ a3 ∧ a3 ≤ IntKind.i64.max := by simpa [Lit.wf] using w3
  simp only [show IntKind.i64.min = -9223372036854775808 from rfl, show IntKind.i64.max = 9223372036854775807 from rfl] at r0 r1 r2 r3
  intro k j h
  unfold vaultRefundsKB7 at h
  unfold KB.find at h
  split at h
  · rename_i he
    injection h with h; subst h; dsimp only at he; subst he
    exact ⟨a0, by simp [symF, vaultRefundsSym], by show (1 : Int) ≤ a0; omega, by show a0 ≤ (1024 : Int); omega, by simp⟩
  unfold KB.find at h
  split at h
  · rename_i he
    injection h with h; subst h; dsimp only at he; subst he
    exact ⟨a1, by simp [symF, vaultRefundsSym], by show (0 : Int) ≤ a1; omega, by show a1 ≤ (1023 : Int); omega, by simp⟩
  unfold KB.find at h
  split at h
  · rename_i he
    injection h with h; subst h; dsimp only at he; subst he
    exact ⟨a2, by simp [symF, vaultRefundsSym], by show (1 : Int) ≤ a2; omega, by show a2 ≤ (1000 : Int); omega, by simp⟩
  unfold KB.find at h
  split at h
  · rename_i he
    injection h with h; subst h; dsimp only at he; subst he
    exact ⟨a3, by simp [symF, vaultRefundsSym], by show (1001 : Int) ≤ a3; omega, by show a3 ≤ (9223372036854775807 : Int); omega, by simp⟩
  cases h
def vaultRefundsKB8 : KB := [(0, ⟨1, 1024, []⟩), (1, ⟨0, 0, []⟩), (2, ⟨1, 1000, []⟩), (3, ⟨0, 0, []⟩), (4, ⟨0, 1023, []⟩), (5, ⟨1, 2000, []⟩), (6, ⟨1, 1024, []⟩), (7, ⟨1, 2048000, []⟩), (8, ⟨1, 1024000, []⟩), (9, ⟨0, 0, []⟩), (10, ⟨0, 0, []⟩), (11, ⟨0, 0, []⟩)]
def vaultRefundsF8 : Fct := [(.gtr, .chan (some 1), .chan (some 4), false), (.lss, .chan (some 2), .chan (some 2), false), (.lss, .chan (some 7), .chan (some 7), false), (.geq, .chan (some 0), .chan (some 0), true)]
def vaultRefundsA8 : Arc := [(.sub, .int .i64 (1024), .chan (some 0), .chan (some 4)), (.add, .int .i64 (0), .chan (some 2), .chan (some 2)), (.add, .chan (some 2), .chan (some 3), .chan (some 2)), (.add, .chan (some 0), .chan (some 1), .chan (some 0)), (.mul, .chan (some 2), .chan (some 0), .chan (some 7)), (.add, .int .i64 (0), .chan (some 7), .chan (some 7)), (.sub, .chan (some 2), .chan (some 2), .int .i64 (0)), (.sub, .chan (some 7), .chan (some 7), .int .i64 (0)), (.sub, .chan (some 0), .chan (some 0), .int .i64 (0)), (.mul, .chan (some 2), .int .i64 (0), .int .i64 (0)), (.mul, .chan (some 2), .chan (some 1), .int .i64 (0))]
def vaultRefundsM8 : Mnc := [(true, .chan (some 2), .chan (some 2), .chan (some 2)), (true, .chan (some 2), .int .i64 (1152921504606846976), .chan (some 2)), (true, .chan (some 7), .int .i64 (1152921504606846976), .chan (some 7))]
theorem vaultRefunds8h0 : DT.leaf.check (okKX Try.prog vaultRefundsKn (orcOr (fctOrc vaultRefundsF8) (orcOr (arcOrc vaultRefundsA8) (mncOrc vaultRefundsM8))) [] vaultRefundsET 100000 60 4 vaultRefundsArgs) vaultRefundsKB8 = true := leafX_fast (tblOr_ok ctL_ok) (by kernel_rfl)
theorem vaultRefundsCheck8 : DT.leaf.check (okKX Try.prog vaultRefundsKn (orcOr (fctOrc vaultRefundsF8) (orcOr (arcOrc vaultRefundsA8) (mncOrc vaultRefundsM8))) [] vaultRefundsET 100000 60 4 vaultRefundsArgs) vaultRefundsKB8 = true := vaultRefunds8h0
theorem vaultRefundsF8_ok (a0 : Int) (a1 : Int) (a2 : Int) (a3 : Int) (hc : 1 ≤ a0 ∧ a0 ≤ 1024 ∧ 0 ≤ a1 ∧ a1 ≤ 1024 - a0 ∧ 1 ≤ a2 ∧ a2 ≤ 1000 ∧ a1 = 0 ∧ a3 = 0) : FctOK Try.prog vaultRefundsF8 (symF (vaultRefundsSym a0 a1 a2 a3)) := by
  intro p hp t x y w
  simp only [vaultRefundsF8, List.mem_cons, List.not_mem_nil, or_false] at hp
  rcases hp with rfl | rfl | rfl | rfl
  all_goals (simp [atomOf, symF, vaultRefundsSym, eqGuard, binOp, Op.intCmp]; try omega)
theorem vaultRefundsA8_ok (a0 : Int) (a1 : Int) (a2 : Int) (a3 : Int) (w0 : (Lit.int .i64 a0).wf = true) (w1 : (Lit.int .i64 a1).wf = true) (w2 : (Lit.int .i64 a2).wf = true) (w3 : (Lit.int .i64 a3).wf = true) (hc : 1 ≤ a0 ∧ a0 ≤ 1024 ∧ 0 ≤ a1 ∧ a1 ≤ 1024 - a0 ∧ 1 ≤ a2 ∧ a2 ≤ 1000 ∧ a1 = 0 ∧ a3 = 0) : ArcOK Try.prog vaultRefundsA8 (symF (vaultRefundsSym a0 a1 a2 a3)) := by
  intro p hp t x y w
  have mb : ∀ x y X Y : Int, 0 ≤ x → x ≤ X → 0 ≤ y → y ≤ Y → 0 ≤ x * y ∧ x * y ≤ X * Y := fun x y X Y h1 h2 h3 h4 => ⟨Int.mul_nonneg h1 h3, Int.mul_le_mul h2 h4 h3 (by omega)⟩
  have m1 := mb a2 a0 1000 1024 (by omega) (by omega) (by omega) (by omega)
  have m2 := mb a2 a1 1000 1024 (by omega) (by omega) (by omega) (by omega)
  have m3 := mb a3 (a0 + a1) 1000 1024 (by omega) (by omega) (by omega) (by omega)
  have e7 : (a2 + a3) * (a0 + a1) = a2 * a0 + a2 * a1 + a3 * (a0 + a1) := by rw [Int.add_mul, Int.mul_add a2]
  have p1 : 1 ≤ a2 * a0 := by have := Int.mul_pos (a := a2) (b := a0) (by omega) (by omega); omega
  have z2 : a1 = 0 → a2 * a1 = 0 := fun h => by rw [h, Int.mul_zero]
  have z3 : a3 = 0 → a3 * (a0 + a1) = 0 := fun h => by rw [h, Int.zero_mul]
  have p2 : 1 ≤ a1 → 1 ≤ a2 * a1 := fun h => by have := Int.mul_pos (a := a2) (b := a1) (by omega) (by omega); omega
  have p3 : 1 ≤ a3 → 1 ≤ a3 * (a0 + a1) := fun h => by have := Int.mul_pos (a := a3) (b := a0 + a1) (by omega) (by omega); omega
  have q1 : a1 = 0 → (a2 + a3) * (a0 + a1) = (a2 + a3) * a0 ∧ a3 * (a0 + a1) = a3 * a0 := fun h => by rw [h, Int.add_zero]; exact ⟨rfl, rfl⟩
  have q2 : a3 = 0 → (a2 + a3) * (a0 + a1) = a2 * (a0 + a1) := fun h => by rw [h, Int.add_zero]
  have m4 : a3 ≤ 1000 → 0 ≤ (a2 + a3) * (a0 + a1) ∧ (a2 + a3) * (a0 + a1) ≤ 2000 * 1024 := fun h => mb (a2 + a3) (a0 + a1) 2000 1024 (by omega) (by omega) (by omega) (by omega)
  simp only [vaultRefundsA8, List.mem_cons, List.not_mem_nil, or_false] at hp
  rcases hp with rfl | rfl | rfl | rfl | rfl | rfl | rfl | rfl | rfl | rfl | rfl
  · refine arith_run (.inr (.inl ⟨rfl, ?_⟩)) ?_ ?_ t x y w <;> omega
  · refine arith_run (.inl ⟨rfl, ?_⟩) ?_ ?_ t x y w <;> omega
  · refine arith_run (.inl ⟨rfl, ?_⟩) ?_ ?_ t x y w <;> omega
  · refine arith_run (.inl ⟨rfl, ?_⟩) ?_ ?_ t x y w <;> omega
  · refine arith_run (.inr (.inr ⟨rfl, ?_⟩)) ?_ ?_ t x y w <;> omega
  · refine arith_run (.inl ⟨rfl, ?_⟩) ?_ ?_ t x y w <;> omega
  · refine arith_run (.inr (.inl ⟨rfl, ?_⟩)) ?_ ?_ t x y w <;> omega
  · refine arith_run (.inr (.inl ⟨rfl, ?_⟩)) ?_ ?_ t x y w <;> omega
  · refine arith_run (.inr (.inl ⟨rfl, ?_⟩)) ?_ ?_ t x y w <;> omega
  · refine arith_run (.inr (.inr ⟨rfl, ?_⟩)) ?_ ?_ t x y w <;> omega
  · refine arith_run (.inr (.inr ⟨rfl, ?_⟩)) ?_ ?_ t x y w <;> omega
theorem vaultRefundsM8_ok (a0 : Int) (a1 : Int) (a2 : Int) (a3 : Int) (w0 : (Lit.int .i64 a0).wf = true) (w1 : (Lit.int .i64 a1).wf = true) (w2 : (Lit.int .i64 a2).wf = true) (w3 : (Lit.int .i64 a3).wf = true) (hc : 1 ≤ a0 ∧ a0 ≤ 1024 ∧ 0 ≤ a1 ∧ a1 ≤ 1024 - a0 ∧ 1 ≤ a2 ∧ a2 ≤ 1000 ∧ a1 = 0 ∧ a3 = 0) : MncOK vaultRefundsM8 (symF (vaultRefundsSym a0 a1 a2 a3)) := by
  intro p hp
  have mb : ∀ x y X Y : Int, 0 ≤ x → x ≤ X → 0 ≤ y → y ≤ Y → 0 ≤ x * y ∧ x * y ≤ X * Y := fun x y X Y h1 h2 h3 h4 => ⟨Int.mul_nonneg h1 h3, Int.mul_le_mul h2 h4 h3 (by omega)⟩
  have m1 := mb a2 a0 1000 1024 (by omega) (by omega) (by omega) (by omega)
  have m2 := mb a2 a1 1000 1024 (by omega) (by omega) (by omega) (by omega)
  have m3 := mb a3 (a0 + a1) 1000 1024 (by omega) (by omega) (by omega) (by omega)
  have e7 : (a2 + a3) * (a0 + a1) = a2 * a0 + a2 * a1 + a3 * (a0 + a1) := by rw [Int.add_mul, Int.mul_add a2]
  have p1 : 1 ≤ a2 * a0 := by have := Int.mul_pos (a := a2) (b := a0) (by omega) (by omega); omega
  have z2 : a1 = 0 → a2 * a1 = 0 := fun h => by rw [h, Int.mul_zero]
  have z3 : a3 = 0 → a3 * (a0 + a1) = 0 := fun h => by rw [h, Int.zero_mul]
  have p2 : 1 ≤ a1 → 1 ≤ a2 * a1 := fun h => by have := Int.mul_pos (a := a2) (b := a1) (by omega) (by omega); omega
  have p3 : 1 ≤ a3 → 1 ≤ a3 * (a0 + a1) := fun h => by have := Int.mul_pos (a := a3) (b := a0 + a1) (by omega) (by omega); omega
  have q1 : a1 = 0 → (a2 + a3) * (a0 + a1) = (a2 + a3) * a0 ∧ a3 * (a0 + a1) = a3 * a0 := fun h => by rw [h, Int.add_zero]; exact ⟨rfl, rfl⟩
  have q2 : a3 = 0 → (a2 + a3) * (a0 + a1) = a2 * (a0 + a1) := fun h => by rw [h, Int.add_zero]
  have m4 : a3 ≤ 1000 → 0 ≤ (a2 + a3) * (a0 + a1) ∧ (a2 + a3) * (a0 + a1) ≤ 2000 * 1024 := fun h => mb (a2 + a3) (a0 + a1) 2000 1024 (by omega) (by omega) (by omega) (by omega)
  simp only [vaultRefundsM8, List.mem_cons, List.not_mem_nil, or_false] at hp
  rcases hp with rfl | rfl | rfl
  · exact ⟨a2, a2, by simp [atomOf, symF, vaultRefundsSym], by simp [atomOf, symF, vaultRefundsSym], by simp [atomOf, symF, vaultRefundsSym] <;> omega⟩
  · exact ⟨a2, (1152921504606846976), by simp [atomOf, symF, vaultRefundsSym], by simp [atomOf, symF, vaultRefundsSym], by simp [atomOf, symF, vaultRefundsSym] <;> omega⟩
  · exact ⟨((a2 + a3) * (a0 + a1)), (1152921504606846976), by simp [atomOf, symF, vaultRefundsSym], by simp [atomOf, symF, vaultRefundsSym], by simp [atomOf, symF, vaultRefundsSym] <;> omega⟩
theorem vaultRefundsKB8_ok (a0 : Int) (a1 : Int) (a2 : Int) (a3 : Int) (w0 : (Lit.int .i64 a0).wf = true) (w1 : (Lit.int .i64 a1).wf = true) (w2 : (Lit.int .i64 a2).wf = true) (w3 : (Lit.int .i64 a3).wf = true) (hc : 1 ≤ a0 ∧ a0 ≤ 1024 ∧ 0 ≤ a1 ∧ a1 ≤ 1024 - a0 ∧ 1 ≤ a2 ∧ a2 ≤ 1000 ∧ a1 = 0 ∧ a3 = 0) : KOK vaultRefundsKB8 (symF (vaultRefundsSym a0 a1 a2 a3)) := by
  have r0 : IntKind.i64.min ≤ a0 ∧ a0 ≤ IntKind.i64.max := by simpa [Lit.wf] using w0
  have r1 : IntKind.i64.min ≤ a1 ∧ a1 ≤ IntKind.i64.max := by simpa [Lit.wf] using w1
  have r2 : IntKind.i64.min ≤ a2 ∧ a2 ≤ IntKind.i64.max := by simpa [Lit.wf] using w2
  have r3 : IntKind.i64.min ≤ a3 ∧ a3 ≤ IntKind.i64.max := by simpa [Lit.wf] using w3
  simp only [show IntKind.i64.min = -9223372036854775808 from rfl, show IntKind.i64.max = 9223372036854775807 from rfl] at r0 r1 r2 r3
  have mb : ∀ x y X Y : Int, 0 ≤ x → x ≤ X → 0 ≤ y → y ≤ Y → 0 ≤ x * y ∧ x * y ≤ X * Y := fun x y X Y h1 h2 h3 h4 => ⟨Int.mul_nonneg h1 h3, Int.mul_le_mul h2 h4 h3 (by omega)⟩
  have m1 := mb a2 a0 1000 1024 (by omega) (by omega) (by omega) (by omega)
  have m2 := mb a2 a1 1000 1024 (by omega) (by omega) (by omega) (by omega)
  have m3 := mb a3 (a0 + a1) 1000 1024 (by omega) (by omega) (by omega) (by omega)
  have e7 : (a2 + a3) * (a0 + a1) = a2 * a0 + a2 * a1 + a3 * (a0 + a1) := by rw [Int.add_mul, Int.mul_add a2]
  have p1 : 1 ≤ a2 * a0 := by have := Int.mul_pos (a := a2) (b := a0) (by omega) (by omega); omega
  have z2 : a1 = 0 → a2 * a1 = 0 := fun h => by rw [h, Int.mul_zero]
  have z3 : a3 = 0 → a3 * (a0 + a1) = 0 := fun h => by rw [h, Int.zero_mul]
  have p2 : 1 ≤ a1 → 1 ≤ a2 * a1 := fun h => by have := Int.mul_pos (a := a2) (b := a1) (by omega) (by omega); omega
  have p3 : 1 ≤ a3 → 1 ≤ a3 * (a0 + a1) := fun h => by have := Int.mul_pos (a := a3) (b := a0 + a1) (by omega) (by omega); omega
  have q1 : a1 = 0 → (a2 + a3) * (a0 + a1) = (a2 + a3) * a0 ∧ a3 * (a0 + a1) = a3 * a0 := fun h => by rw [h, Int.add_zero]; exact ⟨rfl, rfl⟩
  have q2 : a3 = 0 → (a2 + a3) * (a0 + a1) = a2 * (a0 + a1) := fun h => by rw [h, Int.add_zero]
  have m4 : a3 ≤ 1000 → 0 ≤ (a2 + a3) * (a0 + a1) ∧ (a2 + a3) * (a0 + a1) ≤ 2000 * 1024 := fun h => mb (a2 + a3) (a0 + a1) 2000 1024 (by omega) (by omega) (by omega) (by omega)
  intro k j h
  unfold vaultRefundsKB8 at h
  unfold KB.find at h
  split at h
  · rename_i he
    injection h with h; subst h; dsimp only at he; subst he
    exact ⟨a0, by simp [symF, vaultRefundsSym], by show (1 : Int) ≤ a0; omega, by show a0 ≤ (1024 : Int); omega, by simp⟩
  unfold KB.find at h
  split at h
  · rename_i he
    injection h with h; subst h; dsimp only at he; subst he
    exact ⟨a1, by simp [symF, vaultRefundsSym], by show (0 : Int) ≤ a1; omega, by show a1 ≤ (0 : Int); omega, by simp⟩
  unfold KB.find at h
  split at h
  · rename_i he
    injection h with h; subst h; dsimp only at he; subst he
    exact ⟨a2, by simp [symF, vaultRefundsSym], by show (1 : Int) ≤ a2; omega, by show a2 ≤ (1000 : Int); omega, by simp⟩
  unfold KB.find at h
  split at h
  · rename_i he
    injection h with h; subst h; dsimp only at he; subst he
    exact ⟨a3, by simp [symF, vaultRefundsSym], by show (0 : Int) ≤ a3; omega, by show a3 ≤ (0 : Int); omega, by simp⟩
  unfold KB.find at h
  split at h
  · rename_i he
    injection h with h; subst h; dsimp only at he; subst he
    exact ⟨(1024 - a0), by simp [symF, vaultRefundsSym], by show (0 : Int) ≤ (1024 - a0); omega, by show (1024 - a0) ≤ (1023 : Int); omega, by simp⟩
  unfold KB.find at h
  split at h
  · rename_i he
    injection h with h; subst h; dsimp only at he; subst he
    exact ⟨(a2 + a3), by simp [symF, vaultRefundsSym], by show (1 : Int) ≤ (a2 + a3); omega, by show (a2 + a3) ≤ (2000 : Int); omega, by simp⟩
  unfold KB.find at h
  split at h
  · rename_i he
    injection h with h; subst h; dsimp only at he; subst he
    exact ⟨(a0 + a1), by simp [symF, vaultRefundsSym], by show (1 : Int) ≤ (a0 + a1); omega, by show (a0 + a1) ≤ (1024 : Int); omega, by simp⟩
  unfold KB.find at h
  split at h
  · rename_i he
    injection h with h; subst h; dsimp only at he; subst he
    exact ⟨((a2 + a3) * (a0 + a1)), by simp [symF, vaultRefundsSym], by show (1 : Int) ≤ ((a2 + a3) * (a0 + a1)); omega, by show ((a2 + a3) * (a0 + a1)) ≤ (2048000 : Int); omega, by simp⟩
  unfold KB.find at h
  split at h
  · rename_i he
    injection h with h; subst h; dsimp only at he; subst he
    exact ⟨(a2 * a0), by simp [symF, vaultRefundsSym], by show (1 : Int) ≤ (a2 * a0); omega, by show (a2 * a0) ≤ (1024000 : Int); omega, by simp⟩
  unfold KB.find at h
  split at h
  · rename_i he
    injection h with h; subst h; dsimp only at he; subst he
    exact ⟨(a2 * a1), by simp [symF, vaultRefundsSym], by show (0 : Int) ≤ (a2 * a1); omega, by show (a2 * a1) ≤ (0 : Int); omega, by simp⟩
  unfold KB.find at h
  split at h
  · rename_i he
    injection h with h; subst h; dsimp only at he; subst he
    exact ⟨(a3 * (a0 + a1)), by simp [symF, vaultRefundsSym], by show (0 : Int) ≤ (a3 * (a0 + a1)); omega, by show (a3 * (a0 + a1)) ≤ (0 : Int); omega, by simp⟩
  unfold KB.find at h
  split at h
  · rename_i he
    injection h with h; subst h; dsimp only at he; subst he
    exact ⟨(a2 * a1 + a3 * (a0 + a1)), by simp [symF, vaultRefundsSym], by show (0 : Int) ≤ (a2 * a1 + a3 * (a0 + a1)); omega, by show (a2 * a1 + a3 * (a0 + a1)) ≤ (0 : Int); omega, by simp⟩
  cases h
def vaultRefundsKB9 : KB := [(0, ⟨1, 1024, []⟩), (1, ⟨0, 0, []⟩), (2, ⟨1, 1000, []⟩), (3, ⟨1, 1000, []⟩), (4, ⟨0, 1023, []⟩), (5, ⟨1, 2000, []⟩), (6, ⟨1, 1024, []⟩), (7, ⟨1, 2048000, []⟩), (8, ⟨1, 1024000, []⟩), (9, ⟨0, 0, []⟩), (10, ⟨1, 1024000, []⟩), (11, ⟨1, 2048000, []⟩)]
def vaultRefundsF9 : Fct := [(.gtr, .chan (some 1), .chan (some 4), false), (.lss, .chan (some 2), .chan (some 2), false), (.lss, .chan (some 7), .chan (some 7), false), (.geq, .chan (some 0), .chan (some 0), true)]
def vaultRefundsA9 : Arc := [(.sub, .int .i64 (1024), .chan (some 0), .chan (some 4)), (.add, .int .i64 (0), .chan (some 2), .chan (some 2)), (.add, .chan (some 2), .chan (some 3), .chan (some 5)), (.add, .chan (some 0), .chan (some 1), .chan (some 0)), (.mul, .chan (some 5), .chan (some 0), .chan (some 7)), (.add, .int .i64 (0), .chan (some 7), .chan (some 7)), (.sub, .chan (some 2), .chan (some 2), .int .i64 (0)), (.sub, .chan (some 7), .chan (some 7), .int .i64 (0)), (.sub, .chan (some 5), .chan (some 2), .chan (some 3)), (.sub, .chan (some 0), .chan (some 0), .int .i64 (0)), (.mul, .chan (some 2), .int .i64 (0), .int .i64 (0)), (.mul, .chan (some 2), .chan (some 0), .chan (some 8)), (.add, .int .i64 (0), .chan (some 8), .chan (some 8)), (.mul, .chan (some 2), .chan (some 1), .int .i64 (0)), (.mul, .chan (some 3), .chan (some 0), .chan (some 10)), (.add, .int .i64 (0), .chan (some 10), .chan (some 10)), (.add, .chan (some 2), .int .i64 (0), .chan (some 2))]
def vaultRefundsM9 : Mnc := [(true, .chan (some 5), .chan (some 2), .chan (some 2)), (true, .chan (some 2), .int .i64 (1152921504606846976), .chan (some 2)), (true, .chan (some 8), .int .i64 (1152921504606846976), .chan (some 8)), (true, .chan (some 10), .int .i64 (1152921504606846976), .chan (some 10))]
theorem vaultRefunds9h0 : DT.leaf.check (okKX Try.prog vaultRefundsKn (orcOr (fctOrc vaultRefundsF9) (orcOr (arcOrc vaultRefundsA9) (mncOrc vaultRefundsM9))) [] vaultRefundsET 100000 60 4 vaultRefundsArgs) vaultRefundsKB9 = true := leafX_fast (tblOr_ok ctL_ok) (by kernel_rfl)
theorem vaultRefundsCheck9 : DT.leaf.check (okKX Try.prog vaultRefundsKn (orcOr (fctOrc vaultRefundsF9) (orcOr (arcOrc vaultRefundsA9) (mncOrc vaultRefundsM9))) [] vaultRefundsET 100000 60 4 vaultRefundsArgs) vaultRefundsKB9 = true := vaultRefunds9h0
theorem vaultRefundsF9_ok (a0 : Int) (a1 : Int) (a2 : Int) (a3 : Int) (hc : 1 ≤ a0 ∧ a0 ≤ 1024 ∧ 0 ≤ a1 ∧ a1 ≤ 1024 - a0 ∧ 1 ≤ a2 ∧ a2 ≤ 1000 ∧ a1 = 0 ∧ 1 ≤ a3 ∧ a3 ≤ 1000) : FctOK Try.prog vaultRefundsF9 (symF (vaultRefundsSym a0 a1 a2 a3)) := by
  intro p hp t x y w
  simp only [vaultRefundsF9, List.mem_cons, List.not_mem_nil, or_false] at hp
  rcases hp with rfl | rfl | rfl | rfl
  all_goals (simp [atomOf, symF, vaultRefundsSym, eqGuard, binOp, Op.intCmp]; try omega)
theorem vaultRefundsA9_ok (a0 : Int) (a1 : Int) (a2 : Int) (a3 : Int) (w0 : (Lit.int .i64 a0).wf = true) (w1 : (Lit.int .i64 a1).wf = true) (w2 : (Lit.int .i64 a2).wf = true) (w3 : (Lit.int .i64 a3).wf = true) (hc : 1 ≤ a0 ∧ a0 ≤ 1024 ∧ 0 ≤ a1 ∧ a1 ≤ 1024 - a0 ∧ 1 ≤ a2 ∧ a2 ≤ 1000 ∧ a1 = 0 ∧ 1 ≤ a3 ∧ a3 ≤ 1000) : ArcOK Try.prog vaultRefundsA9 (symF (vaultRefundsSym a0 a1 a2 a3)) := by
  intro p hp t x y w
  have mb : ∀ x y X Y : Int, 0 ≤ x → x ≤ X → 0 ≤ y → y ≤ Y → 0 ≤ x * y ∧ x * y ≤ X * Y := fun x y X Y h1 h2 h3 h4 => ⟨Int.mul_nonneg h1 h3, Int.mul_le_mul h2 h4 h3 (by omega)⟩
  have m1 := mb a2 a0 1000 1024 (by omega) (by omega) (by omega) (by omega)
  have m2 := mb a2 a1 1000 1024 (by omega) (by omega) (by omega) (by omega)
  have m3 := mb a3 (a0 + a1) 1000 1024 (by omega) (by omega) (by omega) (by omega)
  have e7 : (a2 + a3) * (a0 + a1) = a2 * a0 + a2 * a1 + a3 * (a0 + a1) := by rw [Int.add_mul, Int.mul_add a2]
  have p1 : 1 ≤ a2 * a0 := by have := Int.mul_pos (a := a2) (b := a0) (by omega) (by omega); omega
  have z2 : a1 = 0 → a2 * a1 = 0 := fun h => by rw [h, Int.mul_zero]
  have z3 : a3 = 0 → a3 * (a0 + a1) = 0 := fun h => by rw [h, Int.zero_mul]
  have p2 : 1 ≤ a1 → 1 ≤ a2 * a1 := fun h => by have := Int.mul_pos (a := a2) (b := a1) (by omega) (by omega); omega
  have p3 : 1 ≤ a3 → 1 ≤ a3 * (a0 + a1) := fun h => by have := Int.mul_pos (a := a3) (b := a0 + a1) (by omega) (by omega); omega
  have q1 : a1 = 0 → (a2 + a3) * (a0 + a1) = (a2 + a3) * a0 ∧ a3 * (a0 + a1) = a3 * a0 := fun h => by rw [h, Int.add_zero]; exact ⟨rfl, rfl⟩
  have q2 : a3 = 0 → (a2 + a3) * (a0 + a1) = a2 * (a0 + a1) := fun h => by rw [h, Int.add_zero]
  have m4 : a3 ≤ 1000 → 0 ≤ (a2 + a3) * (a0 + a1) ∧ (a2 + a3) * (a0 + a1) ≤ 2000 * 1024 := fun h => mb (a2 + a3) (a0 + a1) 2000 1024 (by omega) (by omega) (by omega) (by omega)
  simp only [vaultRefundsA9, List.mem_cons, List.not_mem_nil, or_false] at hp
  rcases hp with rfl | rfl | rfl | rfl | rfl | rfl | rfl | rfl | rfl | rfl | rfl | rfl | rfl | rfl | rfl | rfl | rfl
  · refine arith_run (.inr (.inl ⟨rfl, ?_⟩)) ?_ ?_ t x y w <;> omega
  · refine arith_run (.inl ⟨rfl, ?_⟩) ?_ ?_ t x y w <;> omega
  · refine arith_run (.inl ⟨rfl, ?_⟩) ?_ ?_ t x y w <;> omega
  · refine arith_run (.inl ⟨rfl, ?_⟩) ?_ ?_ t x y w <;> omega
  · refine arith_run (.inr (.inr ⟨rfl, ?_⟩)) ?_ ?_ t x y w <;> omega
  · refine arith_run (.inl ⟨rfl, ?_⟩) ?_ ?_ t x y w <;> omega
  · refine arith_run (.inr (.inl ⟨rfl, ?_⟩)) ?_ ?_ t x y w <;> omega
  · refine arith_run (.inr (.inl ⟨rfl, ?_⟩)) ?_ ?_ t x y w <;> omega
  · refine arith_run (.inr (.inl ⟨rfl, ?_⟩)) ?_ ?_ t x y w <;> omega
  · refine arith_run (.inr (.inl ⟨rfl, ?_⟩)) ?_ ?_ t x y w <;> omega
  · refine arith_run (.inr (.inr ⟨rfl, ?_⟩)) ?_ ?_ t x y w <;> omega
  · refine arith_run (.inr (.inr ⟨rfl, ?_⟩)) ?_ ?_ t x y w <;> omega
  · refine arith_run (.inl ⟨rfl, ?_⟩) ?_ ?_ t x y w <;> omega
  · refine arith_run (.inr (.inr ⟨rfl, ?_⟩)) ?_ ?_ t x y w <;> omega
  · refine arith_run (.inr (.inr ⟨rfl, ?_⟩)) ?_ ?_ t x y w <;> omega
  · refine arith_run (.inl ⟨rfl, ?_⟩) ?_ ?_ t x y w <;> omega
  · refine arith_run (.inl ⟨rfl, ?_⟩) ?_ ?_ t x y w <;> omega
theorem vaultRefundsM9_ok (a0 : Int) (a1 : Int) (a2 : Int) (a3 : Int) (w0 : (Lit.int .i64 a0).wf = true) (w1 : (Lit.int .i64 a1).wf = true) (w2 : (Lit.int .i64 a2).wf = true) (w3 : (Lit.int .i64 a3).wf = true) (hc : 1 ≤ a0 ∧ a0 ≤ 1024 ∧ 0 ≤ a1 ∧ a1 ≤ 1024 - a0 ∧ 1 ≤ a2 ∧ a2 ≤ 1000 ∧ a1 = 0 ∧ 1 ≤ a3 ∧ a3 ≤ 1000) : MncOK vaultRefundsM9 (symF (vaultRefundsSym a0 a1 a2 a3)) := by
  intro p hp
  have mb : ∀ x y X Y : Int, 0 ≤ x → x ≤ X → 0 ≤ y → y ≤ Y → 0 ≤ x * y ∧ x * y ≤ X * Y := fun x y X Y h1 h2 h3 h4 => ⟨Int.mul_nonneg h1 h3, Int.mul_le_mul h2 h4 h3 (by omega)⟩
  have m1 := mb a2 a0 1000 1024 (by omega) (by omega) (by omega) (by omega)
  have m2 := mb a2 a1 1000 1024 (by omega) (by omega) (by omega) (by omega)
  have m3 := mb a3 (a0 + a1) 1000 1024 (by omega) (by omega) (by omega) (by omega)
  have e7 : (a2 + a3) * (a0 + a1) = a2 * a0 + a2 * a1 + a3 * (a0 + a1) := by rw [Int.add_mul, Int.mul_add a2]
  have p1 : 1 ≤ a2 * a0 := by have := Int.mul_pos (a := a2) (b := a0) (by omega) (by omega); omega
  have z2 : a1 = 0 → a2 * a1 = 0 := fun h => by rw [h, Int.mul_zero]
  have z3 : a3 = 0 → a3 * (a0 + a1) = 0 := fun h => by rw [h, Int.zero_mul]
  have p2 : 1 ≤ a1 → 1 ≤ a2 * a1 := fun h => by have := Int.mul_pos (a := a2) (b := a1) (by omega) (by omega); omega
  have p3 : 1 ≤ a3 → 1 ≤ a3 * (a0 + a1) := fun h => by have := Int.mul_pos (a := a3) (b := a0 + a1) (by omega) (by omega); omega
  have q1 : a1 = 0 → (a2 + a3) * (a0 + a1) = (a2 + a3) * a0 ∧ a3 * (a0 + a1) = a3 * a0 := fun h => by rw [h, Int.add_zero]; exact ⟨rfl, rfl⟩
  have q2 : a3 = 0 → (a2 + a3) * (a0 + a1) = a2 * (a0 + a1) := fun h => by rw [h, Int.add_zero]
  have m4 : a3 ≤ 1000 → 0 ≤ (a2 + a3) * (a0 + a1) ∧ (a2 + a3) * (a0 + a1) ≤ 2000 * 1024 := fun h => mb (a2 + a3) (a0 + a1) 2000 1024 (by omega) (by omega) (by omega) (by omega)
  simp only [vaultRefundsM9, List.mem_cons, List.not_mem_nil, or_false] at hp
  rcases hp with rfl | rfl | rfl | rfl
  · exact ⟨(a2 + a3), a2, by simp [atomOf, symF, vaultRefundsSym], by simp [atomOf, symF, vaultRefundsSym], by simp [atomOf, symF, vaultRefundsSym] <;> omega⟩
  · exact ⟨a2, (1152921504606846976), by simp [atomOf, symF, vaultRefundsSym], by simp [atomOf, symF, vaultRefundsSym], by simp [atomOf, symF, vaultRefundsSym] <;> omega⟩
  · exact ⟨(a2 * a0), (1152921504606846976), by simp [atomOf, symF, vaultRefundsSym], by simp [atomOf, symF, vaultRefundsSym], by simp [atomOf, symF, vaultRefundsSym] <;> omega⟩
  · exact ⟨(a3 * (a0 + a1)), (1152921504606846976), by simp [atomOf, symF, vaultRefundsSym], by simp [atomOf, symF, vaultRefundsSym], by simp [atomOf, symF, vaultRefundsSym] <;> omega⟩
theorem vaultRefundsKB9_ok (a0 : Int) (a1 : Int) (a2 : Int) (a3 : Int) (w0 : (Lit.int .i64 a0).wf = true) (w1 : (Lit.int .i64 a1).wf = true) (w2 : (Lit.int .i64 a2).wf = true) (w3 : (Lit.int .i64 a3).wf = true) (hc : 1 ≤ a0 ∧ a0 ≤ 1024 ∧ 0 ≤ a1 ∧ a1 ≤ 1024 - a0 ∧ 1 ≤ a2 ∧ a2 ≤ 1000 ∧ a1 = 0 ∧ 1 ≤ a3 ∧ a3 ≤ 1000) : KOK vaultRefundsKB9 (symF (vaultRefundsSym a0 a1 a2 a3)) := by
  have r0 : IntKind.i64.min ≤ a0 ∧ a0 ≤ IntKind.i64.max := by simpa [Lit.wf] using w0
  have r1 : IntKind.i64.min ≤ a1 ∧ a1 ≤ IntKind.i64.max := by simpa [Lit.wf] using w1
  have r2 : IntKind.i64.min ≤ a2 ∧ a2 ≤ IntKind.i64.max := by simpa [Lit.wf] using w2
  have r3 : IntKind.i64.min ≤ a3 ∧ a3 ≤ IntKind.i64.max := by simpa [Lit.wf] using w3
  simp only [show IntKind.i64.min = -9223372036854775808 from rfl, show IntKind.i64.max = 9223372036854775807 from rfl] at r0 r1 r2 r3
  have mb : ∀ x y X Y : Int, 0 ≤ x → x ≤ X → 0 ≤ y → y ≤ Y → 0 ≤ x * y ∧ x * y ≤ X * Y := fun x y X Y h1 h2 h3 h4 => ⟨Int.mul_nonneg h1 h3, Int.mul_le_mul h2 h4 h3 (by omega)⟩
  have m1 := mb a2 a0 1000 1024 (by omega) (by omega) (by omega) (by omega)
  have m2 := mb a2 a1 1000 1024 (by omega) (by omega) (by omega) (by omega)
  have m3 := mb a3 (a0 + a1) 1000 1024 (by omega) (by omega) (by omega) (by omega)
  have e7 : (a2 + a3) * (a0 + a1) = a2 * a0 + a2 * a1 + a3 * (a0 + a1) := by rw [Int.add_mul, Int.mul_add a2]
  have p1 : 1 ≤ a2 * a0 := by have := Int.mul_pos (a := a2) (b := a0) (by omega) (by omega); omega
  have z2 : a1 = 0 → a2 * a1 = 0 := fun h => by rw [h, Int.mul_zero]
  have z3 : a3 = 0 → a3 * (a0 + a1) = 0 := fun h => by rw [h, Int.zero_mul]
  have p2 : 1 ≤ a1 → 1 ≤ a2 * a1 := fun h => by have := Int.mul_pos (a := a2) (b := a1) (by omega) (by omega); omega
  have p3 : 1 ≤ a3 → 1 ≤ a3 * (a0 + a1) := fun h => by have := Int.mul_pos (a := a3) (b := a0 + a1) (by omega) (by omega); omega
  have q1 : a1 = 0 → (a2 + a3) * (a0 + a1) = (a2 + a3) * a0 ∧ a3 * (a0 + a1) = a3 * a0 := fun h => by rw [h, Int.add_zero]; exact ⟨rfl, rfl⟩
  have q2 : a3 = 0 → (a2 + a3) * (a0 + a1) = a2 * (a0 + a1) := fun h => by rw [h, Int.add_zero]
  have m4 : a3 ≤ 1000 → 0 ≤ (a2 + a3) * (a0 + a1) ∧ (a2 + a3) * (a0 + a1) ≤ 2000 * 1024 := fun h => mb (a2 + a3) (a0 + a1) 2000 1024 (by omega) (by omega) (by omega) (by omega)
  intro k j h
  unfold vaultRefundsKB9 at h
  unfold KB.find at h
  split at h
  · rename_i he
    injection h with h; subst h; dsimp only at he; subst he
    exact ⟨a0, by simp [symF, vaultRefundsSym], by show (1 : Int) ≤ a0; omega, by show a0 ≤ (1024 : Int); omega, by simp⟩
  unfold KB.find at h
  split at h
  · rename_i he
    injection h with h; subst h; dsimp only at he; subst he
    exact ⟨a1, by simp [symF, vaultRefundsSym], by show (0 : Int) ≤ a1; omega, by show a1 ≤ (0 : Int); omega, by simp⟩
  unfold KB.find at h
  split at h
  · rename_i he
    injection h with h; subst h; dsimp only at he; subst he
    exact ⟨a2, by simp [symF, vaultRefundsSym], by show (1 : Int) ≤ a2; omega, by show a2 ≤ (1000 : Int); omega, by simp⟩
  unfold KB.find at h
  split at h
  · rename_i he
    injection h with h; subst h; dsimp only at he; subst he
    exact ⟨a3, by simp [symF, vaultRefundsSym], by show (1 : Int) ≤ a3; omega, by show a3 ≤ (1000 : Int); omega, by simp⟩
  unfold KB.find at h
  split at h
  · rename_i he
    injection h with h; subst h; dsimp only at he; subst he
    exact ⟨(1024 - a0), by simp [symF, vaultRefundsSym], by show (0 : Int) ≤ (1024 - a0); omega, by show (1024 - a0) ≤ (1023 : Int); omega, by simp⟩
  unfold KB.find at h
  split at h
  · rename_i he
    injection h with h; subst h; dsimp only at he; subst he
    exact ⟨(a2 + a3), by simp [symF, vaultRefundsSym], by show (1 : Int) ≤ (a2 + a3); omega, by show (a2 + a3) ≤ (2000 : Int); omega, by simp⟩
  unfold KB.find at h
  split at h
  · rename_i he
    injection h with h; subst h; dsimp only at he; subst he
    exact ⟨(a0 + a1), by simp [symF, vaultRefundsSym], by show (1 : Int) ≤ (a0 + a1); omega, by show (a0 + a1) ≤ (1024 : Int); omega, by simp⟩
  unfold KB.find at h
  split at h
  · rename_i he
    injection h with h; subst h; dsimp only at he; subst he
    exact ⟨((a2 + a3) * (a0 + a1)), by simp [symF, vaultRefundsSym], by show (1 : Int) ≤ ((a2 + a3) * (a0 + a1)); omega, by show ((a2 + a3) * (a0 + a1)) ≤ (2048000 : Int); omega, by simp⟩
  unfold KB.find at h
  split at h
  · rename_i he
    injection h with h; subst h; dsimp only at he; subst he
    exact ⟨(a2 * a0), by simp [symF, vaultRefundsSym], by show (1 : Int) ≤ (a2 * a0); omega, by show (a2 * a0) ≤ (1024000 : Int); omega, by simp⟩
  unfold KB.find at h
  split at h
  · rename_i he
    injection h with h; subst h; dsimp only at he; subst he
    exact ⟨(a2 * a1), by simp [symF, vaultRefundsSym], by show (0 : Int) ≤ (a2 * a1); omega, by show (a2 * a1) ≤ (0 : Int); omega, by simp⟩
  unfold KB.find at h
  split at h
  · rename_i he
    injection h with h; subst h; dsimp only at he; subst he
    exact ⟨(a3 * (a0 + a1)), by simp [symF, vaultRefundsSym], by show (1 : Int) ≤ (a3 * (a0 + a1)); omega, by show (a3 * (a0 + a1)) ≤ (1024000 : Int); omega, by simp⟩
  unfold KB.find at h
  split at h
  · rename_i he
    injection h with h; subst h; dsimp only at he; subst he
    exact ⟨(a2 * a1 + a3 * (a0 + a1)), by simp [symF, vaultRefundsSym], by show (1 : Int) ≤ (a2 * a1 + a3 * (a0 + a1)); omega, by show (a2 * a1 + a3 * (a0 + a1)) ≤ (2048000 : Int); omega, by simp⟩
  cases h
def vaultRefundsKB10 : KB := [(0, ⟨1, 1024, []⟩), (1, ⟨1, 1023, []⟩), (2, ⟨1, 1000, []⟩), (3, ⟨0, 0, []⟩), (4, ⟨0, 1023, []⟩), (5, ⟨1, 2000, []⟩), (6, ⟨1, 1024, []⟩), (7, ⟨1, 2048000, []⟩), (8, ⟨1, 1024000, []⟩), (9, ⟨1, 1024000, []⟩), (10, ⟨0, 0, []⟩), (11, ⟨1, 2048000, []⟩)]
def vaultRefundsF10 : Fct := [(.gtr, .chan (some 1), .chan (some 4), false), (.lss, .chan (some 2), .chan (some 2), false), (.lss, .chan (some 7), .chan (some 7), false), (.geq, .chan (some 6), .chan (some 0), true)]
def vaultRefundsA10 : Arc := [(.sub, .int .i64 (1024), .chan (some 0), .chan (some 4)), (.add, .int .i64 (0), .chan (some 2), .chan (some 2)), (.add, .chan (some 2), .chan (some 3), .chan (some 2)), (.add, .chan (some 0), .chan (some 1), .chan (some 6)), (.mul, .chan (some 2), .chan (some 6), .chan (some 7)), (.add, .int .i64 (0), .chan (some 7), .chan (some 7)), (.sub, .chan (some 2), .chan (some 2), .int .i64 (0)), (.sub, .chan (some 7), .chan (some 7), .int .i64 (0)), (.sub, .chan (some 6), .chan (some 0), .chan (some 1)), (.mul, .chan (some 2), .chan (some 1), .chan (some 9)), (.add, .int .i64 (0), .chan (some 9), .chan (some 9)), (.mul, .chan (some 2), .chan (some 0), .chan (some 8)), (.add, .int .i64 (0), .chan (some 8), .chan (some 8))]
def vaultRefundsM10 : Mnc := [(true, .chan (some 2), .chan (some 2), .chan (some 2)), (true, .chan (some 2), .int .i64 (1152921504606846976), .chan (some 2)), (true, .chan (some 9), .int .i64 (1152921504606846976), .chan (some 9)), (true, .chan (some 8), .int .i64 (1152921504606846976), .chan (some 8))]
theorem vaultRefunds10h0 : DT.leaf.check (okKX Try.prog vaultRefundsKn (orcOr (fctOrc vaultRefundsF10) (orcOr (arcOrc vaultRefundsA10) (mncOrc vaultRefundsM10))) [] vaultRefundsET 100000 60 4 vaultRefundsArgs) vaultRefundsKB10 = true := leafX_fast (tblOr_ok ctL_ok) (by kernel_rfl)
theorem vaultRefundsCheck10 : DT.leaf.check (okKX Try.prog vaultRefundsKn (orcOr (fctOrc vaultRefundsF10) (orcOr (arcOrc vaultRefundsA10) (mncOrc vaultRefundsM10))) [] vaultRefundsET 100000 60 4 vaultRefundsArgs) vaultRefundsKB10 = true := vaultRefunds10h0
theorem vaultRefundsF10_ok (a0 : Int) (a1 : Int) (a2 : Int) (a3 : Int) (hc : 1 ≤ a0 ∧ a0 ≤ 1024 ∧ 0 ≤ a1 ∧ a1 ≤ 1024 - a0 ∧ 1 ≤ a2 ∧ a2 ≤ 1000 ∧ 1 ≤ a1 ∧ a3 = 0) : FctOK Try.prog vaultRefundsF10 (symF (vaultRefundsSym a0 a1 a2 a3)) := by
  intro p hp t x y w
  simp only [vaultRefundsF10, List.mem_cons, List.not_mem_nil, or_false] at hp
  rcases hp with rfl | rfl | rfl | rfl
  all_goals (simp [atomOf, symF, vaultRefundsSym, eqGuard, binOp, Op.intCmp]; try omega)
theorem vaultRefundsA10_ok (a0 : Int) (a1 : Int) (a2 : Int) (a3 : Int) (w0 : (Lit.int .i64 a0).wf = true) (w1 : (Lit.int .i64 a1).wf = true) (w2 : (Lit.int .i64 a2).wf = true) (w3 : (Lit.int .i64 a3).wf = true) (hc : 1 ≤ a0 ∧ a0 ≤ 1024 ∧ 0 ≤ a1 ∧ a1 ≤ 1024 - a0 ∧ 1 ≤ a2 ∧ a2 ≤ 1000 ∧ 1 ≤ a1 ∧ a3 = 0) : ArcOK Try.prog vaultRefundsA10 (symF (vaultRefundsSym a0 a1 a2 a3)) := by
  intro p hp t x y w
  have mb : ∀ x y X Y : Int, 0 ≤ x → x ≤ X → 0 ≤ y → y ≤ Y → 0 ≤ x * y ∧ x * y ≤ X * Y := fun x y X Y h1 h2 h3 h4 => ⟨Int.mul_nonneg h1 h3, Int.mul_le_mul h2 h4 h3 (by omega)⟩
  have m1 := mb a2 a0 1000 1024 (by omega) (by omega) (by omega) (by omega)
  have m2 := mb a2 a1 1000 1024 (by omega) (by omega) (by omega) (by omega)
  have m3 := mb a3 (a0 + a1) 1000 1024 (by omega) (by omega) (by omega) (by omega)
  have e7 : (a2 + a3) * (a0 + a1) = a2 * a0 + a2 * a1 + a3 * (a0 + a1) := by rw [Int.add_mul, Int.mul_add a2]
  have p1 : 1 ≤ a2 * a0 := by have := Int.mul_pos (a := a2) (b := a0) (by omega) (by omega); omega
  have z2 : a1 = 0 → a2 * a1 = 0 := fun h => by rw [h, Int.mul_zero]
  have z3 : a3 = 0 → a3 * (a0 + a1) = 0 := fun h => by rw [h, Int.zero_mul]
  have p2 : 1 ≤ a1 → 1 ≤ a2 * a1 := fun h => by have := Int.mul_pos (a := a2) (b := a1) (by omega) (by omega); omega
  have p3 : 1 ≤ a3 → 1 ≤ a3 * (a0 + a1) := fun h => by have := Int.mul_pos (a := a3) (b := a0 + a1) (by omega) (by omega); omega
  have q1 : a1 = 0 → (a2 + a3) * (a0 + a1) = (a2 + a3) * a0 ∧ a3 * (a0 + a1) = a3 * a0 := fun h => by rw [h, Int.add_zero]; exact ⟨rfl, rfl⟩
  have q2 : a3 = 0 → (a2 + a3) * (a0 + a1) = a2 * (a0 + a1) := fun h => by rw [h, Int.add_zero]
  have m4 : a3 ≤ 1000 → 0 ≤ (a2 + a3) * (a0 + a1) ∧ (a2 + a3) * (a0 + a1) ≤ 2000 * 1024 := fun h => mb (a2 + a3) (a0 + a1) 2000 1024 (by omega) (by omega) (by omega) (by omega)
  simp only [vaultRefundsA10, List.mem_cons, List.not_mem_nil, or_false] at hp
  rcases hp with rfl | rfl | rfl | rfl | rfl | rfl | rfl | rfl | rfl | rfl | rfl | rfl | rfl
  · refine arith_run (.inr (.inl ⟨rfl, ?_⟩)) ?_ ?_ t x y w <;> omega
  · refine arith_run (.inl ⟨rfl, ?_⟩) ?_ ?_ t x y w <;> omega
  · refine arith_run (.inl ⟨rfl, ?_⟩) ?_ ?_ t x y w <;> omega
  · refine arith_run (.inl ⟨rfl, ?_⟩) ?_ ?_ t x y w <;> omega
  · refine arith_run (.inr (.inr ⟨rfl, ?_⟩)) ?_ ?_ t x y w <;> omega
  · refine arith_run (.inl ⟨rfl, ?_⟩) ?_ ?_ t x y w <;> omega
  · refine arith_run (.inr (.inl ⟨rfl, ?_⟩)) ?_ ?_ t x y w <;> omega
  · refine arith_run (.inr (.inl ⟨rfl, ?_⟩)) ?_ ?_ t x y w <;> omega
  · refine arith_run (.inr (.inl ⟨rfl, ?_⟩)) ?_ ?_ t x y w <;> omega
  · refine arith_run (.inr (.inr ⟨rfl, ?_⟩)) ?_ ?_ t x y w <;> omega
  · refine arith_run (.inl ⟨rfl, ?_⟩) ?_ ?_ t x y w <;> omega
  · refine arith_run (.inr (.inr ⟨rfl, ?_⟩)) ?_ ?_ t x y w <;> omega
  · refine arith_run (.inl ⟨rfl, ?_⟩) ?_ ?_ t x y w <;> omega
theorem vaultRefundsM10_ok (a0 : Int) (a1 : Int) (a2 : Int) (a3 : Int) (w0 : (Lit.int .i64 a0).wf = true) (w1 : (Lit.int .i64 a1).wf = true) (w2 : (Lit.int .i64 a2).wf = true) (w3 : (Lit.int .i64 a3).wf = true) (hc : 1 ≤ a0 ∧ a0 ≤ 1024 ∧ 0 ≤ a1 ∧ a1 ≤ 1024 - a0 ∧ 1 ≤ a2 ∧ a2 ≤ 1000 ∧ 1 ≤ a1 ∧ a3 = 0) : MncOK vaultRefundsM10 (symF (vaultRefundsSym a0 a1 a2 a3)) := by
  intro p hp
  have mb : ∀ x y X Y : Int, 0 ≤ x → x ≤ X → 0 ≤ y → y ≤ Y → 0 ≤ x * y ∧ x * y ≤ X * Y := fun x y X Y h1 h2 h3 h4 => ⟨Int.mul_nonneg h1 h3, Int.mul_le_mul h2 h4 h3 (by omega)⟩
  have m1 := mb a2 a0 1000 1024 (by omega) (by omega) (by omega) (by omega)
  have m2 := mb a2 a1 1000 1024 (by omega) (by omega) (by omega) (by omega)
  have m3 := mb a3 (a0 + a1) 1000 1024 (by omega) (by omega) (by omega) (by omega)
  have e7 : (a2 + a3) * (a0 + a1) = a2 * a0 + a2 * a1 + a3 * (a0 + a1) := by rw [Int.add_mul, Int.mul_add a2]
  have p1 : 1 ≤ a2 * a0 := by have := Int.mul_pos (a := a2) (b := a0) (by omega) (by omega); omega
  have z2 : a1 = 0 → a2 * a1 = 0 := fun h => by rw [h, Int.mul_zero]
  have z3 : a3 = 0 → a3 * (a0 + a1) = 0 := fun h => by rw [h, Int.zero_mul]
  have p2 : 1 ≤ a1 → 1 ≤ a2 * a1 := fun h => by have := Int.mul_pos (a := a2) (b := a1) (by omega) (by omega); omega
  have p3 : 1 ≤ a3 → 1 ≤ a3 * (a0 + a1) := fun h => by have := Int.mul_pos (a := a3) (b := a0 + a1) (by omega) (by omega); omega
  have q1 : a1 = 0 → (a2 + a3) * (a0 + a1) = (a2 + a3) * a0 ∧ a3 * (a0 + a1) = a3 * a0 := fun h => by rw [h, Int.add_zero]; exact ⟨rfl, rfl⟩
  have q2 : a3 = 0 → (a2 + a3) * (a0 + a1) = a2 * (a0 + a1) := fun h => by rw [h, Int.add_zero]
  have m4 : a3 ≤ 1000 → 0 ≤ (a2 + a3) * (a0 + a1) ∧ (a2 + a3) * (a0 + a1) ≤ 2000 * 1024 := fun h => mb (a2 + a3) (a0 + a1) 2000 1024 (by omega) (by omega) (by omega) (by omega)
  simp only [vaultRefundsM10, List.mem_cons, List.not_mem_nil, or_false] at hp
  rcases hp with rfl | rfl | rfl | rfl
  · exact ⟨a2, a2, by simp [atomOf, symF, vaultRefundsSym], by simp [atomOf, symF, vaultRefundsSym], by simp [atomOf, symF, vaultRefundsSym] <;> omega⟩
  · exact ⟨a2, (1152921504606846976), by simp [atomOf, symF, vaultRefundsSym], by simp [atomOf, symF, vaultRefundsSym], by simp [atomOf, symF, vaultRefundsSym] <;> omega⟩
  · exact ⟨(a2 * a1), (1152921504606846976), by simp [atomOf, symF, vaultRefundsSym], by simp [atomOf, symF, vaultRefundsSym], by simp [atomOf, symF, vaultRefundsSym] <;> omega⟩
  · exact ⟨(a2 * a0), (1152921504606846976), by simp [atomOf, symF, vaultRefundsSym], by simp [atomOf, symF, vaultRefundsSym], by simp [atomOf, symF, vaultRefundsSym] <;> omega⟩
theorem vaultRefundsKB10_ok (a0 : Int) (a1 : Int) (a2 : Int) (a3 : Int) (w0 : (Lit.int .i64 a0).wf = true) (w1 : (Lit.int .i64 a1).wf = true) (w2 : (Lit.int .i64 a2).wf = true) (w3 : (Lit.int .i64 a3).wf = true) (hc : 1 ≤ a0 ∧ a0 ≤ 1024 ∧ 0 ≤ a1 ∧ a1 ≤ 1024 - a0 ∧ 1 ≤ a2 ∧ a2 ≤ 1000 ∧ 1 ≤ a1 ∧ a3 = 0) : KOK vaultRefundsKB10 (symF (vaultRefundsSym a0 a1 a2 a3)) := by
  have r0 : IntKind.i64.min ≤ a0 ∧ a0 ≤ IntKind.i64.max := by simpa [Lit.wf] using w0
  have r1 : IntKind.i64.min ≤ a1 ∧ a1 ≤ IntKind.i64.max := by simpa [Lit.wf] using w1
  have r2 : IntKind.i64.min ≤ a2 ∧ a2 ≤ IntKind.i64.max := by simpa [Lit.wf] using w2
  have r3 : IntKind.i64.min ≤ a3 ∧ a3 ≤ IntKind.i64.max := by simpa [Lit.wf] using w3
  simp only [show IntKind.i64.min = -9223372036854775808 from rfl, show IntKind.i64.max = 9223372036854775807 from rfl] at r0 r1 r2 r3
  have mb : ∀ x y X Y : Int, 0 ≤ x → x ≤ X → 0 ≤ y → y ≤ Y → 0 ≤ x * y ∧ x * y ≤ X * Y := fun x y X Y h1 h2 h3 h4 => ⟨Int.mul_nonneg h1 h3, Int.mul_le_mul h2 h4 h3 (by omega)⟩
  have m1 := mb a2 a0 1000 1024 (by omega) (by omega) (by omega) (by omega)
  have m2 := mb a2 a1 1000 1024 (by omega) (by omega) (by omega) (by omega)
  have m3 := mb a3 (a0 + a1) 1000 1024 (by omega) (by omega) (by omega) (by omega)
  have e7 : (a2 + a3) * (a0 + a1) = a2 * a0 + a2 * a1 + a3 * (a0 + a1) := by rw [Int.add_mul, Int.mul_add a2]
  have p1 : 1 ≤ a2 * a0 := by have := Int.mul_pos (a := a2) (b := a0) (by omega) (by omega); omega
  have z2 : a1 = 0 → a2 * a1 = 0 := fun h => by rw [h, Int.mul_zero]
  have z3 : a3 = 0 → a3 * (a0 + a1) = 0 := fun h => by rw [h, Int.zero_mul]
  have p2 : 1 ≤ a1 → 1 ≤ a2 * a1 := fun h => by have := Int.mul_pos (a := a2) (b := a1) (by omega) (by omega); omega
  have p3 : 1 ≤ a3 → 1 ≤ a3 * (a0 + a1) := fun h => by have := Int.mul_pos (a := a3) (b := a0 + a1) (by omega) (by omega); omega
  have q1 : a1 = 0 → (a2 + a3) * (a0 + a1) = (a2 + a3) * a0 ∧ a3 * (a0 + a1) = a3 * a0 := fun h => by rw [h, Int.add_zero]; exact ⟨rfl, rfl⟩
  have q2 : a3 = 0 → (a2 + a3) * (a0 + a1) = a2 * (a0 + a1) := fun h => by rw [h, Int.add_zero]
  have m4 : a3 ≤ 1000 → 0 ≤ (a2 + a3) * (a0 + a1) ∧ (a2 + a3) * (a0 + a1) ≤ 2000 * 1024 := fun h => mb (a2 + a3) (a0 + a1) 2000 1024 (by omega) (by omega) (by omega) (by omega)
  intro k j h
  unfold vaultRefundsKB10 at h
  unfold KB.find at h
  split at h
  · rename_i he
    injection h with h; subst h; dsimp only at he; subst he
    exact ⟨a0, by simp [symF, vaultRefundsSym], by show (1 : Int) ≤ a0; omega, by show a0 ≤ (1024 : Int); omega, by simp⟩
  unfold KB.find at h
  split at h
  · rename_i he
    injection h with h; subst h; dsimp only at he; subst he
    exact ⟨a1, by simp [symF, vaultRefundsSym], by show (1 : Int) ≤ a1; omega, by show a1 ≤ (1023 : Int); omega, by simp⟩
  unfold KB.find at h
  split at h
  · rename_i he
    injection h with h; subst h; dsimp only at he; subst he
    exact ⟨a2, by simp [symF, vaultRefundsSym], by show (1 : Int) ≤ a2; omega, by show a2 ≤ (1000 : Int); omega, by simp⟩
  unfold KB.find at h
  split at h
  · rename_i he
    injection h with h; subst h; dsimp only at he; subst he
    exact ⟨a3, by simp [symF, vaultRefundsSym], by show (0 : Int) ≤ a3; omega, by show a3 ≤ (0 : Int); omega, by simp⟩
  unfold KB.find at h
  split at h
  · rename_i he
    injection h with h; subst h; dsimp only at he; subst he
    exact ⟨(1024 - a0), by simp [symF, vaultRefundsSym], by show (0 : Int) ≤ (1024 - a0); omega, by show (1024 - a0) ≤ (1023 : Int); omega, by simp⟩
  unfold KB.find at h
  split at h
  · rename_i he
    injection h with h; subst h; dsimp only at he; subst he
    exact ⟨(a2 + a3), by simp [symF, vaultRefundsSym], by show (1 : Int) ≤ (a2 + a3); omega, by show (a2 + a3) ≤ (2000 : Int); omega, by simp⟩
  unfold KB.find at h
  split at h
  · rename_i he
    injection h with h; subst h; dsimp only at he; subst he
    exact ⟨(a0 + a1), by simp [symF, vaultRefundsSym], by show (1 : Int) ≤ (a0 + a1); omega, by show (a0 + a1) ≤ (1024 : Int); omega, by simp⟩
  unfold KB.find at h
  split at h
  · rename_i he
    injection h with h; subst h; dsimp only at he; subst he
    exact ⟨((a2 + a3) * (a0 + a1)), by simp [symF, vaultRefundsSym], by show (1 : Int) ≤ ((a2 + a3) * (a0 + a1)); omega, by show ((a2 + a3) * (a0 + a1)) ≤ (2048000 : Int); omega, by simp⟩
  unfold KB.find at h
  split at h
  · rename_i he
    injection h with h; subst h; dsimp only at he; subst he
    exact ⟨(a2 * a0), by simp [symF, vaultRefundsSym], by show (1 : Int) ≤ (a2 * a0); omega, by show (a2 * a0) ≤ (1024000 : Int); omega, by simp⟩
  unfold KB.find at h
  split at h
  · rename_i he
    injection h with h; subst h; dsimp only at he; subst he
    exact ⟨(a2 * a1), by simp [symF, vaultRefundsSym], by show (1 : Int) ≤ (a2 * a1); omega, by show (a2 * a1) ≤ (1024000 : Int); omega, by simp⟩
  unfold KB.find at h
  split at h
  · rename_i he
    injection h with h; subst h; dsimp only at he; subst he
    exact ⟨(a3 * (a0 + a1)), by simp [symF, vaultRefundsSym], by show (0 : Int) ≤ (a3 * (a0 + a1)); omega, by show (a3 * (a0 + a1)) ≤ (0 : Int); omega, by simp⟩
  unfold KB.find at h
  split at h
  · rename_i he
    injection h with h; subst h; dsimp only at he; subst he
    exact ⟨(a2 * a1 + a3 * (a0 + a1)), by simp [symF, vaultRefundsSym], by show (1 : Int) ≤ (a2 * a1 + a3 * (a0 + a1)); omega, by show (a2 * a1 + a3 * (a0 + a1)) ≤ (2048000 : Int); omega, by simp⟩
  cases h
def vaultRefundsKB11 : KB := [(0, ⟨1, 1024, []⟩), (1, ⟨1, 1023, []⟩), (2, ⟨1, 1000, []⟩), (3, ⟨1, 1000, []⟩), (4, ⟨0, 1023, []⟩), (5, ⟨1, 2000, []⟩), (6, ⟨1, 1024, []⟩), (7, ⟨1, 2048000, []⟩), (8, ⟨1, 1024000, []⟩), (9, ⟨1, 1024000, []⟩), (10, ⟨1, 1024000, []⟩), (11, ⟨1, 2048000, []⟩)]
def vaultRefundsF11 : Fct := [(.gtr, .chan (some 1), .chan (some 4), false), (.lss, .chan (some 2), .chan (some 2), false), (.lss, .chan (some 7), .chan (some 7), false), (.geq, .chan (some 6), .chan (some 0), true)]
def vaultRefundsA11 : Arc := [(.sub, .int .i64 (1024), .chan (some 0), .chan (some 4)), (.add, .int .i64 (0), .chan (some 2), .chan (some 2)), (.add, .chan (some 2), .chan (some 3), .chan (some 5)), (.add, .chan (some 0), .chan (some 1), .chan (some 6)), (.mul, .chan (some 5), .chan (some 6), .chan (some 7)), (.add, .int .i64 (0), .chan (some 7), .chan (some 7)), (.sub, .chan (some 2), .chan (some 2), .int .i64 (0)), (.sub, .chan (some 7), .chan (some 7), .int .i64 (0)), (.sub, .chan (some 5), .chan (some 2), .chan (some 3)), (.sub, .chan (some 6), .chan (some 0), .chan (some 1)), (.mul, .chan (some 2), .chan (some 1), .chan (some 9)), (.add, .int .i64 (0), .chan (some 9), .chan (some 9)), (.mul, .chan (some 2), .chan (some 0), .chan (some 8)), (.add, .int .i64 (0), .chan (some 8), .chan (some 8)), (.mul, .chan (some 3), .chan (some 6), .chan (some 10)), (.add, .chan (some 9), .chan (some 10), .chan (some 11)), (.add, .chan (some 2), .int .i64 (0), .chan (some 2))]
def vaultRefundsM11 : Mnc := [(true, .chan (some 5), .chan (some 2), .chan (some 2)), (true, .chan (some 2), .int .i64 (1152921504606846976), .chan (some 2)), (true, .chan (some 9), .int .i64 (1152921504606846976), .chan (some 9)), (true, .chan (some 8), .int .i64 (1152921504606846976), .chan (some 8)), (true, .chan (some 11), .int .i64 (1152921504606846976), .chan (some 11))]
theorem vaultRefunds11h0 : DT.leaf.check (okKX Try.prog vaultRefundsKn (orcOr (fctOrc vaultRefundsF11) (orcOr (arcOrc vaultRefundsA11) (mncOrc vaultRefundsM11))) [] vaultRefundsET 100000 60 4 vaultRefundsArgs) vaultRefundsKB11 = true := leafX_fast (tblOr_ok ctL_ok) (by kernel_rfl)
theorem vaultRefundsCheck11 : DT.leaf.check (okKX Try.prog vaultRefundsKn (orcOr (fctOrc vaultRefundsF11) (orcOr (arcOrc vaultRefundsA11) (mncOrc vaultRefundsM11))) [] vaultRefundsET 100000 60 4 vaultRefundsArgs) vaultRefundsKB11 = true := vaultRefunds11h0
theorem vaultRefundsF11_ok (a0 : Int) (a1 : Int) (a2 : Int) (a3 : Int) (hc : 1 ≤ a0 ∧ a0 ≤ 1024 ∧ 0 ≤ a1 ∧ a1 ≤ 1024 - a0 ∧ 1 ≤ a2 ∧ a2 ≤ 1000 ∧ 1 ≤ a1 ∧ 1 ≤ a3 ∧ a3 ≤ 1000) : FctOK Try.prog vaultRefundsF11 (symF (vaultRefundsSym a0 a1 a2 a3)) := by
  intro p hp t x y w
  simp only [vaultRefundsF11, List.mem_cons, List.not_mem_nil, or_false] at hp
  rcases hp with rfl | rfl | rfl | rfl
  all_goals (simp [atomOf, symF, vaultRefundsSym, eqGuard, binOp, Op.intCmp]; try omega)
theorem vaultRefundsA11_ok (a0 : Int) (a1 : Int) (a2 : Int) (a3 : Int) (w0 : (Lit.int .i64 a0).wf = true) (w1 : (Lit.int .i64 a1).wf = true) (w2 : (Lit.int .i64 a2).wf = true) (w3 : (Lit.int .i64 a3).wf = true) (hc : 1 ≤ a0 ∧ a0 ≤ 1024 ∧ 0 ≤ a1 ∧ a1 ≤ 1024 - a0 ∧ 1 ≤ a2 ∧ a2 ≤ 1000 ∧ 1 ≤ a1 ∧ 1 ≤ a3 ∧ a3 ≤ 1000) : ArcOK Try.prog vaultRefundsA11 (symF (vaultRefundsSym a0 a1 a2 a3)) := by
  intro p hp t x y w
  have mb : ∀ x y X Y : Int, 0 ≤ x → x ≤ X → 0 ≤ y → y ≤ Y → 0 ≤ x * y ∧ x * y ≤ X * Y := fun x y X Y h1 h2 h3 h4 => ⟨Int.mul_nonneg h1 h3, Int.mul_le_mul h2 h4 h3 (by omega)⟩
  have m1 := mb a2 a0 1000 1024 (by omega) (by omega) (by omega) (by omega)
  have m2 := mb a2 a1 1000 1024 (by omega) (by omega) (by omega) (by omega)
  have m3 := mb a3 (a0 + a1) 1000 1024 (by omega) (by omega) (by omega) (by omega)
  have e7 : (a2 + a3) * (a0 + a1) = a2 * a0 + a2 * a1 + a3 * (a0 + a1) := by rw [Int.add_mul, Int.mul_add a2]
  have p1 : 1 ≤ a2 * a0 := by have := Int.mul_pos (a := a2) (b := a0) (by omega) (by omega); omega
  have z2 : a1 = 0 → a2 * a1 = 0 := fun h => by rw [h, Int.mul_zero]
  have z3 : a3 = 0 → a3 * (a0 + a1) = 0 := fun h => by rw [h, Int.zero_mul]
  have p2 : 1 ≤ a1 → 1 ≤ a2 * a1 := fun h => by have := Int.mul_pos (a := a2) (b := a1) (by omega) (by omega); omega
  have p3 : 1 ≤ a3 → 1 ≤ a3 * (a0 + a1) := fun h => by have := Int.mul_pos (a := a3) (b := a0 + a1) (by omega) (by omega); omega
  have q1 : a1 = 0 → (a2 + a3) * (a0 + a1) = (a2 + a3) * a0 ∧ a3 * (a0 + a1) = a3 * a0 := fun h => by rw [h, Int.add_zero]; exact ⟨rfl, rfl⟩
  have q2 : a3 = 0 → (a2 + a3) * (a0 + a1) = a2 * (a0 + a1) := fun h => by rw [h, Int.add_zero]
  have m4 : a3 ≤ 1000 → 0 ≤ (a2 + a3) * (a0 + a1) ∧ (a2 + a3) * (a0 + a1) ≤ 2000 * 1024 := fun h => mb (a2 + a3) (a0 + a1) 2000 1024 (by omega) (by omega) (by omega) (by omega)
  simp only [vaultRefundsA11, List.mem_cons, List.not_mem_nil, or_false] at hp
  rcases hp with rfl | rfl | rfl | rfl | rfl | rfl | rfl | rfl | rfl | rfl | rfl | rfl | rfl | rfl | rfl | rfl | rfl
  · refine arith_run (.inr (.inl ⟨rfl, ?_⟩)) ?_ ?_ t x y w <;> omega
  · refine arith_run (.inl ⟨rfl, ?_⟩) ?_ ?_ t x y w <;> omega
  · refine arith_run (.inl ⟨rfl, ?_⟩) ?_ ?_ t x y w <;> omega
  · refine arith_run (.inl ⟨rfl, ?_⟩) ?_ ?_ t x y w <;> omega
  · refine arith_run (.inr (.inr ⟨rfl, ?_⟩)) ?_ ?_ t x y w <;> omega
  · refine arith_run (.inl ⟨rfl, ?_⟩) ?_ ?_ t x y w <;> omega
  · refine arith_run (.inr (.inl ⟨rfl, ?_⟩)) ?_ ?_ t x y w <;> omega
  · refine arith_run (.inr (.inl ⟨rfl, ?_⟩)) ?_ ?_ t x y w <;> omega
  · refine arith_run (.inr (.inl ⟨rfl, ?_⟩)) ?_ ?_ t x y w <;> omega
  · refine arith_run (.inr (.inl ⟨rfl, ?_⟩)) ?_ ?_ t x y w <;> omega
  · refine arith_run (.inr (.inr ⟨rfl, ?_⟩)) ?_ ?_ t x y w <;> omega
  · refine arith_run (.inl ⟨rfl, ?_⟩) ?_ ?_ t x y w <;> omega
  · refine arith_run (.inr (.inr ⟨rfl, ?_⟩)) ?_ ?_ t x y w <;> omega
  · refine arith_run (.inl ⟨rfl, ?_⟩) ?_ ?_ t x y w <;> omega
  · refine arith_run (.inr (.inr ⟨rfl, ?_⟩)) ?_ ?_ t x y w <;> omega
  · refine arith_run (.inl ⟨rfl, ?_⟩) ?_ ?_ t x y w <;> omega
  · refine arith_run (.inl ⟨rfl, ?_⟩) ?_ ?_ t x y w <;> omega
theorem vaultRefundsM11_ok (a0 : Int) (a1 : Int) (a2 : Int) (a3 : Int) (w0 : (Lit.int .i64 a0).wf = true) (w1 : (Lit.int .i64 a1).wf = true) (w2 : (Lit.int .i64 a2).wf = true) (w3 : (Lit.int .i64 a3).wf = true) (hc : 1 ≤ a0 ∧ a0 ≤ 1024 ∧ 0 ≤ a1 ∧ a1 ≤ 1024 - a0 ∧ 1 ≤ a2 ∧ a2 ≤ 1000 ∧ 1 ≤ a1 ∧ 1 ≤ a3 ∧ a3 ≤ 1000) : MncOK vaultRefundsM11 (symF (vaultRefundsSym a0 a1 a2 a3)) := by
  intro p hp
  have mb : ∀ x y X Y : Int, 0 ≤ x → x ≤ X → 0 ≤ y → y ≤ Y → 0 ≤ x * y ∧ x * y ≤ X * Y := fun x y X Y h1 h2 h3 h4 => ⟨Int.mul_nonneg h1 h3, Int.mul_le_mul h2 h4 h3 (by omega)⟩
  have m1 := mb a2 a0 1000 1024 (by omega) (by omega) (by omega) (by omega)
  have m2 := mb a2 a1 1000 1024 (by omega) (by omega) (by omega) (by omega)
  have m3 := mb a3 (a0 + a1) 1000 1024 (by omega) (by omega) (by omega) (by omega)
  have e7 : (a2 + a3) * (a0 + a1) = a2 * a0 + a2 * a1 + a3 * (a0 + a1) := by rw [Int.add_mul, Int.mul_add a2]
  have p1 : 1 ≤ a2 * a0 := by have := Int.mul_pos (a := a2) (b := a0) (by omega) (by omega); omega
  have z2 : a1 = 0 → a2 * a1 = 0 := fun h => by rw [h, Int.mul_zero]
  have z3 : a3 = 0 → a3 * (a0 + a1) = 0 := fun h => by rw [h, Int.zero_mul]
  have p2 : 1 ≤ a1 → 1 ≤ a2 * a1 := fun h => by have := Int.mul_pos (a := a2) (b := a1) (by omega) (by omega); omega
  have p3 : 1 ≤ a3 → 1 ≤ a3 * (a0 + a1) := fun h => by have := Int.mul_pos (a := a3) (b := a0 + a1) (by omega) (by omega); omega
  have q1 : a1 = 0 → (a2 + a3) * (a0 + a1) = (a2 + a3) * a0 ∧ a3 * (a0 + a1) = a3 * a0 := fun h => by rw [h, Int.add_zero]; exact ⟨rfl, rfl⟩
  have q2 : a3 = 0 → (a2 + a3) * (a0 + a1) = a2 * (a0 + a1) := fun h => by rw [h, Int.add_zero]
  have m4 : a3 ≤ 1000 → 0 ≤ (a2 + a3) * (a0 + a1) ∧ (a2 + a3) * (a0 + a1) ≤ 2000 * 1024 := fun h => mb (a2 + a3) (a0 + a1) 2000 1024 (by omega) (by omega) (by omega) (by omega)
  simp only [vaultRefundsM11, List.mem_cons, List.not_mem_nil, or_false] at hp
  rcases hp with rfl | rfl | rfl | rfl | rfl
  · exact ⟨(a2 + a3), a2, by simp [atomOf, symF, vaultRefundsSym], by simp [atomOf, symF, vaultRefundsSym], by simp [atomOf, symF, vaultRefundsSym] <;> omega⟩
  · exact ⟨a2, (1152921504606846976), by simp [atomOf, symF, vaultRefundsSym], by simp [atomOf, symF, vaultRefundsSym], by simp [atomOf, symF, vaultRefundsSym] <;> omega⟩
  · exact ⟨(a2 * a1), (1152921504606846976), by simp [atomOf, symF, vaultRefundsSym], by simp [atomOf, symF, vaultRefundsSym], by simp [atomOf, symF, vaultRefundsSym] <;> omega⟩
  · exact ⟨(a2 * a0), (1152921504606846976), by simp [atomOf, symF, vaultRefundsSym], by simp [atomOf, symF, vaultRefundsSym], by simp [atomOf, symF, vaultRefundsSym] <;> omega⟩
  · exact ⟨(a2 * a1 + a3 * (a0 + a1)), (1152921504606846976), by simp [atomOf, symF, vaultRefundsSym], by simp [atomOf, symF, vaultRefundsSym], by simp [atomOf, symF, vaultRefundsSym] <;> omega⟩
theorem vaultRefundsKB11_ok (a0 : Int) (a1 : Int) (a2 : Int) (a3 : Int) (w0 : (Lit.int .i64 a0).wf = true) (w1 : (Lit.int .i64 a1).wf = true) (w2 : (Lit.int .i64 a2).wf = true) (w3 : (Lit.int .i64 a3).wf = true) (hc : 1 ≤ a0 ∧ a0 ≤ 1024 ∧ 0 ≤ a1 ∧ a1 ≤ 1024 - a0 ∧ 1 ≤ a2 ∧ a2 ≤ 1000 ∧ 1 ≤ a1 ∧ 1 ≤ a3 ∧ a3 ≤ 1000) : KOK vaultRefundsKB11 (symF (vaultRefundsSym a0 a1 a2 a3)) := by
  have r0 : IntKind.i64.min ≤ a0 ∧ a0 ≤ IntKind.i64.max := by simpa [Lit.wf] using w0
  have r1 : IntKind.i64.min ≤ a1 ∧ a1 ≤ IntKind.i64.max := by simpa [Lit.wf] using w1
  have r2 : IntKind.i64.min ≤ a2 ∧ a2 ≤ IntKind.i64.max := by simpa [Lit.wf] using w2
  have r3 : IntKind.i64.min ≤ a3 ∧ a3 ≤ IntKind.i64.max := by simpa [Lit.wf] using w3
  simp only [show IntKind.i64.min = -9223372036854775808 from rfl, show IntKind.i64.max = 9223372036854775807 from rfl] at r0 r1 r2 r3
  have mb : ∀ x y X Y : Int, 0 ≤ x → x ≤ X → 0 ≤ y → y ≤ Y → 0 ≤ x * y ∧ x * y ≤ X * Y := fun x y X Y h1 h2 h3 h4 => ⟨Int.mul_nonneg h1 h3, Int.mul_le_mul h2 h4 h3 (by omega)⟩
  have m1 := mb a2 a0 1000 1024 (by omega) (by omega) (by omega) (by omega)
  have m2 := mb a2 a1 1000 1024 (by omega) (by omega) (by omega) (by omega)
  have m3 := mb a3 (a0 + a1) 1000 1024 (by omega) (by omega) (by omega) (by omega)
  have e7 : (a2 + a3) * (a0 + a1) = a2 * a0 + a2 * a1 + a3 * (a0 + a1) := by rw [Int.add_mul, Int.mul_add a2]
  have p1 : 1 ≤ a2 * a0 := by have := Int.mul_pos (a := a2) (b := a0) (by omega) (by omega); omega
  have z2 : a1 = 0 → a2 * a1 = 0 := fun h => by rw [h, Int.mul_zero]
  have z3 : a3 = 0 → a3 * (a0 + a1) = 0 := fun h => by rw [h, Int.zero_mul]
  have p2 : 1 ≤ a1 → 1 ≤ a2 * a1 := fun h => by have := Int.mul_pos (a := a2) (b := a1) (by omega) (by omega); omega
  have p3 : 1 ≤ a3 → 1 ≤ a3 * (a0 + a1) := fun h => by have := Int.mul_pos (a := a3) (b := a0 + a1) (by omega) (by omega); omega
  have q1 : a1 = 0 → (a2 + a3) * (a0 + a1) = (a2 + a3) * a0 ∧ a3 * (a0 + a1) = a3 * a0 := fun h => by rw [h, Int.add_zero]; exact ⟨rfl, rfl⟩
  have q2 : a3 = 0 → (a2 + a3) * (a0 + a1) = a2 * (a0 + a1) := fun h => by rw [h, Int.add_zero]
  have m4 : a3 ≤ 1000 → 0 ≤ (a2 + a3) * (a0 + a1) ∧ (a2 + a3) * (a0 + a1) ≤ 2000 * 1024 := fun h => mb (a2 + a3) (a0 + a1) 2000 1024 (by omega) (by omega) (by omega) (by omega)
  intro k j h
  unfold vaultRefundsKB11 at h
  unfold KB.find at h
  split at h
  · rename_i he
    injection h with h; subst h; dsimp only at he; subst he
    exact ⟨a0, by simp [symF, vaultRefundsSym], by show (1 : Int) ≤ a0; omega, by show a0 ≤ (1024 : Int); omega, by simp⟩
  unfold KB.find at h
  split at h
  · rename_i he
    injection h with h; subst h; dsimp only at he; subst he
    exact ⟨a1, by simp [symF, vaultRefundsSym], by show (1 : Int) ≤ a1; omega, by show a1 ≤ (1023 : Int); omega, by simp⟩
  unfold KB.find at h
  split at h
  · rename_i he
    injection h with h; subst h; dsimp only at he; subst he
    exact ⟨a2, by simp [symF, vaultRefundsSym], by show (1 : Int) ≤ a2; omega, by show a2 ≤ (1000 : Int); omega, by simp⟩
  unfold KB.find at h
  split at h
  · rename_i he
    injection h with h; subst h; dsimp only at he; subst he
    exact ⟨a3, by simp [symF, vaultRefundsSym], by show (1 : Int) ≤ a3; omega, by show a3 ≤ (1000 : Int); omega, by simp⟩
  unfold KB.find at h
  split at h
  · rename_i he
    injection h with h; subst h; dsimp only at he; subst he
    exact ⟨(1024 - a0), by simp [symF, vaultRefundsSym], by show (0 : Int) ≤ (1024 - a0); omega, by show (1024 - a0) ≤ (1023 : Int); omega, by simp⟩
  unfold KB.find at h
  split at h
  · rename_i he
    injection h with h; subst h; dsimp only at he; subst he
    exact ⟨(a2 + a3), by simp [symF, vaultRefundsSym], by show (1 : Int) ≤ (a2 + a3); omega, by show (a2 + a3) ≤ (2000 : Int); omega, by simp⟩
  unfold KB.find at h
  split at h
  · rename_i he
    injection h with h; subst h; dsimp only at he; subst he
    exact ⟨(a0 + a1), by simp [symF, vaultRefundsSym], by show (1 : Int) ≤ (a0 + a1); omega, by show (a0 + a1) ≤ (1024 : Int); omega, by simp⟩
  unfold KB.find at h
  split at h
  · rename_i he
    injection h with h; subst h; dsimp only at he; subst he
    exact ⟨((a2 + a3) * (a0 + a1)), by simp [symF, vaultRefundsSym], by show (1 : Int) ≤ ((a2 + a3) * (a0 + a1)); omega, by show ((a2 + a3) * (a0 + a1)) ≤ (2048000 : Int); omega, by simp⟩
  unfold KB.find at h
  split at h
  · rename_i he
    injection h with h; subst h; dsimp only at he; subst he
    exact ⟨(a2 * a0), by simp [symF, vaultRefundsSym], by show (1 : Int) ≤ (a2 * a0); omega, by show (a2 * a0) ≤ (1024000 : Int); omega, by simp⟩
  unfold KB.find at h
  split at h
  · rename_i he
    injection h with h; subst h; dsimp only at he; subst he
    exact ⟨(a2 * a1), by simp [symF, vaultRefundsSym], by show (1 : Int) ≤ (a2 * a1); omega, by show (a2 * a1) ≤ (1024000 : Int); omega, by simp⟩
  unfold KB.find at h
  split at h
  · rename_i he
    injection h with h; subst h; dsimp only at he; subst he
    exact ⟨(a3 * (a0 + a1)), by simp [symF, vaultRefundsSym], by show (1 : Int) ≤ (a3 * (a0 + a1)); omega, by show (a3 * (a0 + a1)) ≤ (1024000 : Int); omega, by simp⟩
  unfold KB.find at h
  split at h
  · rename_i he
    injection h with h; subst h; dsimp only at he; subst he
    exact ⟨(a2 * a1 + a3 * (a0 + a1)), by simp [symF, vaultRefundsSym], by show (1 : Int) ≤ (a2 * a1 + a3 * (a0 + a1)); omega, by show (a2 * a1 + a3 * (a0 + a1)) ≤ (2048000 : Int); omega, by simp⟩
  cases h
set_option maxHeartbeats 400000 in
theorem walkVaultRefunds (a0 : Int) (a1 : Int) (a2 : Int) (a3 : Int) (w0 : (Lit.int .i64 a0).wf = true) (w1 : (Lit.int .i64 a1).wf = true) (w2 : (Lit.int .i64 a2).wf = true) (w3 : (Lit.int .i64 a3).wf = true) (w : World) :
    Calls Try.prog 4 #[.int .i64 a0, .int .i64 a1, .int .i64 a2, .int .i64 a3] w fun e' w' => e' = .returned (.bool true) ∧ Below w.heap.size w w' := by
  have hone : ∀ q, (symF (vaultRefundsSym a0 a1 a2 a3) q).oneCell' = true := symF_one (by intro p hp; simp [vaultRefundsSym] at hp; rcases hp with rfl | rfl | rfl | rfl | rfl | rfl | rfl | rfl | rfl | rfl | rfl | rfl <;> rfl)
  have hS : SOK [] (symF (vaultRefundsSym a0 a1 a2 a3)) := by
    intro k hk
    cases hk
  have hcase : (a0 < 1) ∨ (1024 < a0) ∨ (1 ≤ a0 ∧ a0 ≤ 1024 ∧ a1 < 0) ∨ (1 ≤ a0 ∧ a0 ≤ 1024 ∧ 0 ≤ a1 ∧ 1024 - a0 < a1) ∨ (1 ≤ a0 ∧ a0 ≤ 1024 ∧ 0 ≤ a1 ∧ a1 ≤ 1024 - a0 ∧ a2 < 1) ∨ (1 ≤ a0 ∧ a0 ≤ 1024 ∧ 0 ≤ a1 ∧ a1 ≤ 1024 - a0 ∧ 1000 < a2) ∨ (1 ≤ a0 ∧ a0 ≤ 1024 ∧ 0 ≤ a1 ∧ a1 ≤ 1024 - a0 ∧ 1 ≤ a2 ∧ a2 ≤ 1000 ∧ a3 < 0) ∨ (1 ≤ a0 ∧ a0 ≤ 1024 ∧ 0 ≤ a1 ∧ a1 ≤ 1024 - a0 ∧ 1 ≤ a2 ∧ a2 ≤ 1000 ∧ 1000 < a3) ∨ (1 ≤ a0 ∧ a0 ≤ 1024 ∧ 0 ≤ a1 ∧ a1 ≤ 1024 - a0 ∧ 1 ≤ a2 ∧ a2 ≤ 1000 ∧ a1 = 0 ∧ a3 = 0) ∨ (1 ≤ a0 ∧ a0 ≤ 1024 ∧ 0 ≤ a1 ∧ a1 ≤ 1024 - a0 ∧ 1 ≤ a2 ∧ a2 ≤ 1000 ∧ a1 = 0 ∧ 1 ≤ a3 ∧ a3 ≤ 1000) ∨ (1 ≤ a0 ∧ a0 ≤ 1024 ∧ 0 ≤ a1 ∧ a1 ≤ 1024 - a0 ∧ 1 ≤ a2 ∧ a2 ≤ 1000 ∧ 1 ≤ a1 ∧ a3 = 0) ∨ (1 ≤ a0 ∧ a0 ≤ 1024 ∧ 0 ≤ a1 ∧ a1 ≤ 1024 - a0 ∧ 1 ≤ a2 ∧ a2 ≤ 1000 ∧ 1 ≤ a1 ∧ 1 ≤ a3 ∧ a3 ≤ 1000) := by
    by_cases t0 : a0 < 1
    · have q : a0 < 1 := by omega
      exact (.inl q)
    by_cases t1 : 1024 < a0
    · have q : 1024 < a0 := by omega
      exact (.inr (.inl q))
    by_cases t2 : a1 < 0
    · have q : 1 ≤ a0 ∧ a0 ≤ 1024 ∧ a1 < 0 := by omega
      exact (.inr (.inr (.inl q)))
    by_cases t3 : 1024 - a0 < a1
    · have q : 1 ≤ a0 ∧ a0 ≤ 1024 ∧ 0 ≤ a1 ∧ 1024 - a0 < a1 := by omega
      exact (.inr (.inr (.inr (.inl q))))
    by_cases t4 : a2 < 1
    · have q : 1 ≤ a0 ∧ a0 ≤ 1024 ∧ 0 ≤ a1 ∧ a1 ≤ 1024 - a0 ∧ a2 < 1 := by omega
      exact (.inr (.inr (.inr (.inr (.inl q)))))
    by_cases t5 : 1000 < a2
    · have q : 1 ≤ a0 ∧ a0 ≤ 1024 ∧ 0 ≤ a1 ∧ a1 ≤ 1024 - a0 ∧ 1000 < a2 := by omega
      exact (.inr (.inr (.inr (.inr (.inr (.inl q))))))
    by_cases t6 : a3 < 0
    · have q : 1 ≤ a0 ∧ a0 ≤ 1024 ∧ 0 ≤ a1 ∧ a1 ≤ 1024 - a0 ∧ 1 ≤ a2 ∧ a2 ≤ 1000 ∧ a3 < 0 := by omega
      exact (.inr (.inr (.inr (.inr (.inr (.inr (.inl q)))))))
    by_cases t7 : 1000 < a3
    · have q : 1 ≤ a0 ∧ a0 ≤ 1024 ∧ 0 ≤ a1 ∧ a1 ≤ 1024 - a0 ∧ 1 ≤ a2 ∧ a2 ≤ 1000 ∧ 1000 < a3 := by omega
      exact (.inr (.inr (.inr (.inr (.inr (.inr (.inr (.inl q))))))))
    by_cases t8 : a1 = 0 ∧ a3 = 0
    · have q : 1 ≤ a0 ∧ a0 ≤ 1024 ∧ 0 ≤ a1 ∧ a1 ≤ 1024 - a0 ∧ 1 ≤ a2 ∧ a2 ≤ 1000 ∧ a1 = 0 ∧ a3 = 0 := by omega
      exact (.inr (.inr (.inr (.inr (.inr (.inr (.inr (.inr (.inl q)))))))))
    by_cases t9 : a1 = 0
    · have q : 1 ≤ a0 ∧ a0 ≤ 1024 ∧ 0 ≤ a1 ∧ a1 ≤ 1024 - a0 ∧ 1 ≤ a2 ∧ a2 ≤ 1000 ∧ a1 = 0 ∧ 1 ≤ a3 ∧ a3 ≤ 1000 := by omega
      exact (.inr (.inr (.inr (.inr (.inr (.inr (.inr (.inr (.inr (.inl q))))))))))
    by_cases t10 : a3 = 0
    · have q : 1 ≤ a0 ∧ a0 ≤ 1024 ∧ 0 ≤ a1 ∧ a1 ≤ 1024 - a0 ∧ 1 ≤ a2 ∧ a2 ≤ 1000 ∧ 1 ≤ a1 ∧ a3 = 0 := by omega
      exact (.inr (.inr (.inr (.inr (.inr (.inr (.inr (.inr (.inr (.inr (.inl q)))))))))))
    have q : 1 ≤ a0 ∧ a0 ≤ 1024 ∧ 0 ≤ a1 ∧ a1 ≤ 1024 - a0 ∧ 1 ≤ a2 ∧ a2 ≤ 1000 ∧ 1 ≤ a1 ∧ 1 ≤ a3 ∧ a3 ≤ 1000 := by omega
    exact (.inr (.inr (.inr (.inr (.inr (.inr (.inr (.inr (.inr (.inr (.inr q)))))))))))
  rcases hcase with hc | hc | hc | hc | hc | hc | hc | hc | hc | hc | hc | hc
  · exact Calls.of_treeX evMixed evNames vaultRefundsKnOK hone (orcOr_ok (fctOrc_ok (vaultRefundsF0_ok a0 a1 a2 a3 hc)) (orcOr_ok (arcOrc_ok (vaultRefundsA0_ok a0 a1 a2 a3 w0 w1 w2 w3 hc)) (mncOrc_ok (vaultRefundsM0_ok a0 a1 a2 a3 w0 w1 w2 w3 hc)))) itEqOK (vaultRefundsKB0_ok a0 a1 a2 a3 w0 w1 w2 w3 hc) hS (args := vaultRefundsArgs) (fun r hr => by simp [vaultRefundsArgs, ren, hr, symF, vaultRefundsSym]) vaultRefundsCheck0 w
  · exact Calls.of_treeX evMixed evNames vaultRefundsKnOK hone (orcOr_ok (fctOrc_ok (vaultRefundsF1_ok a0 a1 a2 a3 hc)) (orcOr_ok (arcOrc_ok (vaultRefundsA1_ok a0 a1 a2 a3 w0 w1 w2 w3 hc)) (mncOrc_ok (vaultRefundsM1_ok a0 a1 a2 a3 w0 w1 w2 w3 hc)))) itEqOK (vaultRefundsKB1_ok a0 a1 a2 a3 w0 w1 w2 w3 hc) hS (args := vaultRefundsArgs) (fun r hr => by simp [vaultRefundsArgs, ren, hr, symF, vaultRefundsSym]) vaultRefundsCheck1 w
  · exact Calls.of_treeX evMixed evNames vaultRefundsKnOK hone (orcOr_ok (fctOrc_ok (vaultRefundsF2_ok a0 a1 a2 a3 hc)) (orcOr_ok (arcOrc_ok (vaultRefundsA2_ok a0 a1 a2 a3 w0 w1 w2 w3 hc)) (mncOrc_ok (vaultRefundsM2_ok a0 a1 a2 a3 w0 w1 w2 w3 hc)))) itEqOK (vaultRefundsKB2_ok a0 a1 a2 a3 w0 w1 w2 w3 hc) hS (args := vaultRefundsArgs) (fun r hr => by simp [vaultRefundsArgs, ren, hr, symF, vaultRefundsSym]) vaultRefundsCheck2 w
  · exact Calls.of_treeX evMixed evNames vaultRefundsKnOK hone (orcOr_ok (fctOrc_ok (vaultRefundsF3_ok a0 a1 a2 a3 hc)) (orcOr_ok (arcOrc_ok (vaultRefundsA3_ok a0 a1 a2 a3 w0 w1 w2 w3 hc)) (mncOrc_ok (vaultRefundsM3_ok a0 a1 a2 a3 w0 w1 w2 w3 hc)))) itEqOK (vaultRefundsKB3_ok a0 a1 a2 a3 w0 w1 w2 w3 hc) hS (args := vaultRefundsArgs) (fun r hr => by simp [vaultRefundsArgs, ren, hr, symF, vaultRefundsSym]) vaultRefundsCheck3 w
  · exact Calls.of_treeX evMixed evNames vaultRefundsKnOK hone (orcOr_ok (fctOrc_ok (vaultRefundsF4_ok a0 a1 a2 a3 hc)) (orcOr_ok (arcOrc_ok (vaultRefundsA4_ok a0 a1 a2 a3 w0 w1 w2 w3 hc)) (mncOrc_ok (vaultRefundsM4_ok a0 a1 a2 a3 w0 w1 w2 w3 hc)))) itEqOK (vaultRefundsKB4_ok a0 a1 a2 a3 w0 w1 w2 w3 hc) hS (args := vaultRefundsArgs) (fun r hr => by simp [vaultRefundsArgs, ren, hr, symF, vaultRefundsSym]) vaultRefundsCheck4 w
  · exact Calls.of_treeX evMixed evNames vaultRefundsKnOK hone (orcOr_ok (fctOrc_ok (vaultRefundsF5_ok a0 a1 a2 a3 hc)) (orcOr_ok (arcOrc_ok (vaultRefundsA5_ok a0 a1 a2 a3 w0 w1 w2 w3 hc)) (mncOrc_ok (vaultRefundsM5_ok a0 a1 a2 a3 w0 w1 w2 w3 hc)))) itEqOK (vaultRefundsKB5_ok a0 a1 a2 a3 w0 w1 w2 w3 hc) hS (args := vaultRefundsArgs) (fun r hr => by simp [vaultRefundsArgs, ren, hr, symF, vaultRefundsSym]) vaultRefundsCheck5 w
  · exact Calls.of_treeX evMixed evNames vaultRefundsKnOK hone (orcOr_ok (fctOrc_ok (vaultRefundsF6_ok a0 a1 a2 a3 hc)) (orcOr_ok (arcOrc_ok (vaultRefundsA6_ok a0 a1 a2 a3 w0 w1 w2 w3 hc)) (mncOrc_ok (vaultRefundsM6_ok a0 a1 a2 a3 w0 w1 w2 w3 hc)))) itEqOK (vaultRefundsKB6_ok a0 a1 a2 a3 w0 w1 w2 w3 hc) hS (args := vaultRefundsArgs) (fun r hr => by simp [vaultRefundsArgs, ren, hr, symF, vaultRefundsSym]) vaultRefundsCheck6 w
  · exact Calls.of_treeX evMixed evNames vaultRefundsKnOK hone (orcOr_ok (fctOrc_ok (vaultRefundsF7_ok a0 a1 a2 a3 hc)) (orcOr_ok (arcOrc_ok (vaultRefundsA7_ok a0 a1 a2 a3 w0 w1 w2 w3 hc)) (mncOrc_ok (vaultRefundsM7_ok a0 a1 a2 a3 w0 w1 w2 w3 hc)))) itEqOK (vaultRefundsKB7_ok a0 a1 a2 a3 w0 w1 w2 w3 hc) hS (args := vaultRefundsArgs) (fun r hr => by simp [vaultRefundsArgs, ren, hr, symF, vaultRefundsSym]) vaultRefundsCheck7 w
  · exact Calls.of_treeX evMixed evNames vaultRefundsKnOK hone (orcOr_ok (fctOrc_ok (vaultRefundsF8_ok a0 a1 a2 a3 hc)) (orcOr_ok (arcOrc_ok (vaultRefundsA8_ok a0 a1 a2 a3 w0 w1 w2 w3 hc)) (mncOrc_ok (vaultRefundsM8_ok a0 a1 a2 a3 w0 w1 w2 w3 hc)))) itEqOK (vaultRefundsKB8_ok a0 a1 a2 a3 w0 w1 w2 w3 hc) hS (args := vaultRefundsArgs) (fun r hr => by simp [vaultRefundsArgs, ren, hr, symF, vaultRefundsSym]) vaultRefundsCheck8 w
  · exact Calls.of_treeX evMixed evNames vaultRefundsKnOK hone (orcOr_ok (fctOrc_ok (vaultRefundsF9_ok a0 a1 a2 a3 hc)) (orcOr_ok (arcOrc_ok (vaultRefundsA9_ok a0 a1 a2 a3 w0 w1 w2 w3 hc)) (mncOrc_ok (vaultRefundsM9_ok a0 a1 a2 a3 w0 w1 w2 w3 hc)))) itEqOK (vaultRefundsKB9_ok a0 a1 a2 a3 w0 w1 w2 w3 hc) hS (args := vaultRefundsArgs) (fun r hr => by simp [vaultRefundsArgs, ren, hr, symF, vaultRefundsSym]) vaultRefundsCheck9 w
  · exact Calls.of_treeX evMixed evNames vaultRefundsKnOK hone (orcOr_ok (fctOrc_ok (vaultRefundsF10_ok a0 a1 a2 a3 hc)) (orcOr_ok (arcOrc_ok (vaultRefundsA10_ok a0 a1 a2 a3 w0 w1 w2 w3 hc)) (mncOrc_ok (vaultRefundsM10_ok a0 a1 a2 a3 w0 w1 w2 w3 hc)))) itEqOK (vaultRefundsKB10_ok a0 a1 a2 a3 w0 w1 w2 w3 hc) hS (args := vaultRefundsArgs) (fun r hr => by simp [vaultRefundsArgs, ren, hr, symF, vaultRefundsSym]) vaultRefundsCheck10 w
  · exact Calls.of_treeX evMixed evNames vaultRefundsKnOK hone (orcOr_ok (fctOrc_ok (vaultRefundsF11_ok a0 a1 a2 a3 hc)) (orcOr_ok (arcOrc_ok (vaultRefundsA11_ok a0 a1 a2 a3 w0 w1 w2 w3 hc)) (mncOrc_ok (vaultRefundsM11_ok a0 a1 a2 a3 w0 w1 w2 w3 hc)))) itEqOK (vaultRefundsKB11_ok a0 a1 a2 a3 w0 w1 w2 w3 hc) hS (args := vaultRefundsArgs) (fun r hr => by simp [vaultRefundsArgs, ren, hr, symF, vaultRefundsSym]) vaultRefundsCheck11 w
end Go.Proofs.Ytleengigapmnpaa
