/- BookFull: the walk of the statement, by the evaluator, trees of questions, facts. -/
import Derived.Test.YtleengigapmnpaaEvS
import Derived.Test.YtleengigapmnpaaEvZc
import Derived.Test.YtleengigapmnpaaBookFullB0
import Derived.Test.YtleengigapmnpaaBookFullB1
import Derived.Test.YtleengigapmnpaaBookFullB2
import Derived.Test.YtleengigapmnpaaBookFullB3
import Derived.Test.YtleengigapmnpaaBookFullB4
import Derived.Test.YtleengigapmnpaaBookFullB5
import Derived.ProofKit
namespace Go.Proofs.Ytleengigapmnpaa
open Go.RowKit
set_option linter.unusedVariables false
set_option linter.unusedSimpArgs false
set_option maxRecDepth 100000

def bookFull0t15 : DT := .less 0 (33) .leaf .leaf
def bookFull0t14 : DT := .less 5 (1025) bookFull0t15 .leaf
def bookFull0t12 : DT := .less 5 (1) .leaf bookFull0t14
def bookFull0t11 : DT := .less 4 (1048577) bookFull0t12 .leaf
def bookFull0t9 : DT := .less 4 (1) .leaf bookFull0t11
def bookFull0t8 : DT := .less 3 (4) bookFull0t9 .leaf
def bookFull0t6 : DT := .less 3 (1) .leaf bookFull0t8
def bookFull0t5 : DT := .less 1001 (17) bookFull0t6 .leaf
def bookFull0t3 : DT := .less 1001 (1) .leaf bookFull0t5
def bookFull0t2 : DT := .less 0 (1099511627777) bookFull0t3 .leaf
def bookFull0t0 : DT := .less 0 (1) .leaf bookFull0t2

theorem bookFullKnown14 : ((aCall Try.prog noOrc 100000 60 14 #[]).run ⟨.lf, 0, 0, [], []⟩).map (·.1) = some (.bool true) := eval_fast (table_self _) (by kernel_rfl)
theorem bookFullKnOK : KnOK Try.prog bookFullKn := by
  intro f v h
  unfold bookFullKn at h
  unfold KN.find at h
  split at h
  · rename_i he
    injection h with h; subst h; subst he
    exact ⟨rfl, fun w => Calls.of_eval evMixed evNames (σ := fun _ => .bool false) (fun _ => rfl) (noOrc_ok _ _) (fun r _ => by simp) bookFullKnown14 rfl w⟩
  cases h
theorem bookFull0h15 : bookFull0t15.check (okKX Try.prog bookFullKn (fctOrc bookFullF0) [1] bookFullET 100000 60 3 bookFullArgs) bookFull0k14y = true := check_less (Ky := bookFull0k15y) (Kn := bookFull0k15n) (i := ⟨1, 1099511627776, []⟩) (by kernel_rfl) (by kernel_rfl) (by kernel_rfl) (.inr bookFull0h16) (.inr bookFull0h17)
theorem bookFull0h14 : bookFull0t14.check (okKX Try.prog bookFullKn (fctOrc bookFullF0) [1] bookFullET 100000 60 3 bookFullArgs) bookFull0k12n = true := check_less (Ky := bookFull0k14y) (Kn := bookFull0k14n) (i := ⟨1, 9223372036854775807, []⟩) (by kernel_rfl) (by kernel_rfl) (by kernel_rfl) (.inr bookFull0h15) (.inr bookFull0h18)
theorem bookFull0h12 : bookFull0t12.check (okKX Try.prog bookFullKn (fctOrc bookFullF0) [1] bookFullET 100000 60 3 bookFullArgs) bookFull0k11y = true := check_less (Ky := bookFull0k12y) (Kn := bookFull0k12n) (i := ⟨-9223372036854775808, 9223372036854775807, []⟩) (by kernel_rfl) (by kernel_rfl) (by kernel_rfl) (.inr bookFull0h13) (.inr bookFull0h14)
theorem bookFull0h11 : bookFull0t11.check (okKX Try.prog bookFullKn (fctOrc bookFullF0) [1] bookFullET 100000 60 3 bookFullArgs) bookFull0k9n = true := check_less (Ky := bookFull0k11y) (Kn := bookFull0k11n) (i := ⟨1, 9223372036854775807, []⟩) (by kernel_rfl) (by kernel_rfl) (by kernel_rfl) (.inr bookFull0h12) (.inr bookFull0h19)
theorem bookFull0h9 : bookFull0t9.check (okKX Try.prog bookFullKn (fctOrc bookFullF0) [1] bookFullET 100000 60 3 bookFullArgs) bookFull0k8y = true := check_less (Ky := bookFull0k9y) (Kn := bookFull0k9n) (i := ⟨-9223372036854775808, 9223372036854775807, []⟩) (by kernel_rfl) (by kernel_rfl) (by kernel_rfl) (.inr bookFull0h10) (.inr bookFull0h11)
theorem bookFull0h8 : bookFull0t8.check (okKX Try.prog bookFullKn (fctOrc bookFullF0) [1] bookFullET 100000 60 3 bookFullArgs) bookFull0k6n = true := check_less (Ky := bookFull0k8y) (Kn := bookFull0k8n) (i := ⟨1, 9223372036854775807, []⟩) (by kernel_rfl) (by kernel_rfl) (by kernel_rfl) (.inr bookFull0h9) (.inr bookFull0h20)
theorem bookFull0h6 : bookFull0t6.check (okKX Try.prog bookFullKn (fctOrc bookFullF0) [1] bookFullET 100000 60 3 bookFullArgs) bookFull0k5y = true := check_less (Ky := bookFull0k6y) (Kn := bookFull0k6n) (i := ⟨-9223372036854775808, 9223372036854775807, []⟩) (by kernel_rfl) (by kernel_rfl) (by kernel_rfl) (.inr bookFull0h7) (.inr bookFull0h8)
theorem bookFull0h5 : bookFull0t5.check (okKX Try.prog bookFullKn (fctOrc bookFullF0) [1] bookFullET 100000 60 3 bookFullArgs) bookFull0k3n = true := check_less (Ky := bookFull0k5y) (Kn := bookFull0k5n) (i := ⟨1, 9223372036854775807, []⟩) (by kernel_rfl) (by kernel_rfl) (by kernel_rfl) (.inr bookFull0h6) (.inr bookFull0h21)
theorem bookFull0h3 : bookFull0t3.check (okKX Try.prog bookFullKn (fctOrc bookFullF0) [1] bookFullET 100000 60 3 bookFullArgs) bookFull0k2y = true := check_less (Ky := bookFull0k3y) (Kn := bookFull0k3n) (i := ⟨0, 9223372036854775807, []⟩) (by kernel_rfl) (by kernel_rfl) (by kernel_rfl) (.inr bookFull0h4) (.inr bookFull0h5)
theorem bookFull0h2 : bookFull0t2.check (okKX Try.prog bookFullKn (fctOrc bookFullF0) [1] bookFullET 100000 60 3 bookFullArgs) bookFull0k0n = true := check_less (Ky := bookFull0k2y) (Kn := bookFull0k2n) (i := ⟨1, 9223372036854775807, []⟩) (by kernel_rfl) (by kernel_rfl) (by kernel_rfl) (.inr bookFull0h3) (.inr bookFull0h22)
theorem bookFull0h0 : bookFull0t0.check (okKX Try.prog bookFullKn (fctOrc bookFullF0) [1] bookFullET 100000 60 3 bookFullArgs) bookFullKB0 = true := check_less (Ky := bookFull0k0y) (Kn := bookFull0k0n) (i := ⟨-9223372036854775808, 9223372036854775807, []⟩) (by kernel_rfl) (by kernel_rfl) (by kernel_rfl) (.inr bookFull0h1) (.inr bookFull0h2)
theorem bookFullCheck0 : bookFull0t0.check (okKX Try.prog bookFullKn (fctOrc bookFullF0) [1] bookFullET 100000 60 3 bookFullArgs) bookFullKB0 = true := bookFull0h0
theorem bookFullF0_ok (a0 : Int) (a1 : ByteArray) (a2 : Bool) (a3 : Int) (a4 : Int) (a5 : Int) (hc : a0 = a0) : FctOK Try.prog bookFullF0 (symF (bookFullSym a0 a1 a2 a3 a4 a5)) := by
  intro p hp
  exact absurd hp (by simp [bookFullF0])
theorem bookFullKB0_ok (a0 : Int) (a1 : ByteArray) (a2 : Bool) (a3 : Int) (a4 : Int) (a5 : Int) (w0 : (Lit.int .i64 a0).wf = true) (w1 : a1.size ≤ maxLen) (w3 : (Lit.int .i64 a3).wf = true) (w4 : (Lit.int .i64 a4).wf = true) (w5 : (Lit.int .i64 a5).wf = true) (hc : a0 = a0) : KOK bookFullKB0 (symF (bookFullSym a0 a1 a2 a3 a4 a5)) := by
  have r0 : IntKind.i64.min ≤ a0 ∧ a0 ≤ IntKind.i64.max := by simpa [Lit.wf] using w0
  have r3 : IntKind.i64.min ≤ a3 ∧ a3 ≤ IntKind.i64.max := by simpa [Lit.wf] using w3
  have r4 : IntKind.i64.min ≤ a4 ∧ a4 ≤ IntKind.i64.max := by simpa [Lit.wf] using w4
  have r5 : IntKind.i64.min ≤ a5 ∧ a5 ≤ IntKind.i64.max := by simpa [Lit.wf] using w5
  simp only [show IntKind.i64.min = -9223372036854775808 from rfl, show IntKind.i64.max = 9223372036854775807 from rfl] at r0 r3 r4 r5
  unfold maxLen at w1
  intro k j h
  unfold bookFullKB0 at h
  unfold KB.find at h
  split at h
  · rename_i he
    injection h with h; subst h; dsimp only at he; subst he
    exact ⟨a0, by simp [symF, bookFullSym], by show (-9223372036854775808 : Int) ≤ a0; omega, by show a0 ≤ (9223372036854775807 : Int); omega, by simp⟩
  unfold KB.find at h
  split at h
  · rename_i he
    injection h with h; subst h; dsimp only at he; subst he
    exact ⟨a1.size, by simp [symF, bookFullSym], by show (0 : Int) ≤ (a1.size : Int); omega, by show (a1.size : Int) ≤ (9223372036854775807 : Int); omega, by simp⟩
  unfold KB.find at h
  split at h
  · rename_i he
    injection h with h; subst h; dsimp only at he; subst he
    exact ⟨a3, by simp [symF, bookFullSym], by show (-9223372036854775808 : Int) ≤ a3; omega, by show a3 ≤ (9223372036854775807 : Int); omega, by simp⟩
  unfold KB.find at h
  split at h
  · rename_i he
    injection h with h; subst h; dsimp only at he; subst he
    exact ⟨a4, by simp [symF, bookFullSym], by show (-9223372036854775808 : Int) ≤ a4; omega, by show a4 ≤ (9223372036854775807 : Int); omega, by simp⟩
  unfold KB.find at h
  split at h
  · rename_i he
    injection h with h; subst h; dsimp only at he; subst he
    exact ⟨a5, by simp [symF, bookFullSym], by show (-9223372036854775808 : Int) ≤ a5; omega, by show a5 ≤ (9223372036854775807 : Int); omega, by simp⟩
  cases h
theorem walkBookFull (a0 : Int) (a1 : ByteArray) (a2 : Bool) (a3 : Int) (a4 : Int) (a5 : Int) (w0 : (Lit.int .i64 a0).wf = true) (w1 : a1.size ≤ maxLen) (w3 : (Lit.int .i64 a3).wf = true) (w4 : (Lit.int .i64 a4).wf = true) (w5 : (Lit.int .i64 a5).wf = true) (w : World) :
    Calls Try.prog 3 #[.agg #[.int .i64 a0, .string a1, .bool a2, .int .i64 a3, .int .i64 a4, .int .i64 a5]] w fun e' w' => e' = .returned (.bool true) ∧ Below w.heap.size w w' := by
  have hone : ∀ q, (symF (bookFullSym a0 a1 a2 a3 a4 a5) q).oneCell' = true := symF_one (by intro p hp; simp [bookFullSym] at hp; rcases hp with rfl | rfl | rfl | rfl | rfl | rfl | rfl <;> rfl)
  have hS : SOK [1] (symF (bookFullSym a0 a1 a2 a3 a4 a5)) := by
    intro k hk
    simp only [List.mem_cons, List.not_mem_nil, or_false] at hk
    rcases hk with rfl
    · exact ⟨a1, by simp [symF, bookFullSym], by simp [symF, bookFullSym]⟩
  have hcase : a0 = a0 := by omega
  have hc := hcase
  · exact Calls.of_treeX evMixed evNames bookFullKnOK hone (fctOrc_ok (bookFullF0_ok a0 a1 a2 a3 a4 a5 hc)) (EqOK.nil _) (bookFullKB0_ok a0 a1 a2 a3 a4 a5 w0 w1 w3 w4 w5 hc) hS (args := bookFullArgs) (fun r hr => by simp [bookFullArgs, ren, hr, symF, bookFullSym]) bookFullCheck0 w
end Go.Proofs.Ytleengigapmnpaa
