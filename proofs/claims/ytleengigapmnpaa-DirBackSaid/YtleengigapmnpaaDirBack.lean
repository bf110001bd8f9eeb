/- DirBack: the walk of the statement, by the evaluator, trees of questions, facts. -/
import Derived.Test.YtleengigapmnpaaEvS
import Derived.Test.YtleengigapmnpaaEvZc
import Derived.Test.YtleengigapmnpaaChangeEq
import Derived.ProofKit
namespace Go.Proofs.Ytleengigapmnpaa
open Go.RowKit
set_option linter.unusedVariables false
set_option linter.unusedSimpArgs false
set_option maxRecDepth 100000

def dirBackSym (a0 : ByteArray) : List (Nat × Value) := [(0, .string a0), (1000, .int .i64 a0.size)]
def dirBackKn : KN := [(23, .bool true)]
def dirBackET : ET := [(52, [CK.i, CK.i, CK.i, CK.i, CK.s])]
def dirBackArgs : Array Value := #[.chan (some 0)]
theorem dirBackKnown23 : ((aCall Try.prog noOrc 100000 60 23 #[]).run ⟨.lf, 0, 0, [], []⟩).map (·.1) = some (.bool true) := eval_fast (table_self _) (by kernel_rfl)
theorem dirBackKnOK : KnOK Try.prog dirBackKn := by
  intro f v h
  unfold dirBackKn at h
  unfold KN.find at h
  split at h
  · rename_i he
    injection h with h; subst h; subst he
    exact ⟨rfl, fun w => Calls.of_eval evMixed evNames (σ := fun _ => .bool false) (fun _ => rfl) (noOrc_ok _ _) (fun r _ => by simp) dirBackKnown23 rfl w⟩
  cases h
def dirBackKB0 : KB := [(1000, ⟨0, 0, []⟩)]
def dirBackF0 : Fct := []
theorem dirBack0h0 : DT.leaf.check (okKX Try.prog dirBackKn (fctOrc dirBackF0) [0] dirBackET 100000 60 6 dirBackArgs) dirBackKB0 = true := leafX_fast (table_self _) (by kernel_rfl)
theorem dirBackCheck0 : DT.leaf.check (okKX Try.prog dirBackKn (fctOrc dirBackF0) [0] dirBackET 100000 60 6 dirBackArgs) dirBackKB0 = true := dirBack0h0
theorem dirBackF0_ok (a0 : ByteArray) (hc : a0.size = 0) : FctOK Try.prog dirBackF0 (symF (dirBackSym a0)) := by
  intro p hp
  exact absurd hp (by simp [dirBackF0])
theorem dirBackKB0_ok (a0 : ByteArray) (w0 : a0.size ≤ maxLen) (hc : a0.size = 0) : KOK dirBackKB0 (symF (dirBackSym a0)) := by
  unfold maxLen at w0
  intro k j h
  unfold dirBackKB0 at h
  unfold KB.find at h
  split at h
  · rename_i he
    injection h with h; subst h; dsimp only at he; subst he
    exact ⟨a0.size, by simp [symF, dirBackSym], by show (0 : Int) ≤ (a0.size : Int); omega, by show (a0.size : Int) ≤ (0 : Int); omega, by simp⟩
  cases h
def dirBackKB1 : KB := [(1000, ⟨1, 9223372036854775807, []⟩)]
def dirBackF1 : Fct := [(.lss, .chan (some 0), .string ⟨#[]⟩, false), (.leq, .chan (some 0), .string ⟨#[]⟩, false), (.gtr, .chan (some 0), .string ⟨#[]⟩, true), (.geq, .chan (some 0), .string ⟨#[]⟩, true), (.lss, .string ⟨#[]⟩, .chan (some 0), true), (.leq, .string ⟨#[]⟩, .chan (some 0), true), (.gtr, .string ⟨#[]⟩, .chan (some 0), false), (.geq, .string ⟨#[]⟩, .chan (some 0), false), (.lss, .chan (some 0), .chan (some 0), false), (.leq, .chan (some 0), .chan (some 0), true), (.gtr, .chan (some 0), .chan (some 0), false), (.geq, .chan (some 0), .chan (some 0), true), (.eql, .chan (some 0), .string ⟨#[]⟩, false), (.neq, .chan (some 0), .string ⟨#[]⟩, true), (.eql, .string ⟨#[]⟩, .chan (some 0), false), (.neq, .string ⟨#[]⟩, .chan (some 0), true), (.eql, .chan (some 0), .chan (some 0), true), (.neq, .chan (some 0), .chan (some 0), false)]
def dirBack1k0y : KB := dirBackKB1.put 1000 ⟨1, 16, []⟩
def dirBack1k0n : KB := dirBackKB1.put 1000 ⟨17, 9223372036854775807, []⟩
theorem dirBack1h1 : DT.leaf.check (okKX Try.prog dirBackKn (fctOrc dirBackF1) [0] dirBackET 100000 60 6 dirBackArgs) dirBack1k0y = true := leafX_fast (table_self _) (by kernel_rfl)
theorem dirBack1h2 : DT.leaf.check (okKX Try.prog dirBackKn (fctOrc dirBackF1) [0] dirBackET 100000 60 6 dirBackArgs) dirBack1k0n = true := leafX_fast (table_self _) (by kernel_rfl)
def dirBack1t0 : DT := .less 1000 (17) .leaf .leaf
theorem dirBack1h0 : dirBack1t0.check (okKX Try.prog dirBackKn (fctOrc dirBackF1) [0] dirBackET 100000 60 6 dirBackArgs) dirBackKB1 = true := check_less (Ky := dirBack1k0y) (Kn := dirBack1k0n) (i := ⟨1, 9223372036854775807, []⟩) (by kernel_rfl) (by kernel_rfl) (by kernel_rfl) (.inr dirBack1h1) (.inr dirBack1h2)
theorem dirBackCheck1 : dirBack1t0.check (okKX Try.prog dirBackKn (fctOrc dirBackF1) [0] dirBackET 100000 60 6 dirBackArgs) dirBackKB1 = true := dirBack1h0
theorem dirBackF1_ok (a0 : ByteArray) (hc : 1 ≤ a0.size) : FctOK Try.prog dirBackF1 (symF (dirBackSym a0)) := by
  have hl : ∃ b r, a0.toList = b :: r := by
    cases h : a0.toList with
    | nil =>
      have h1 : a0.toList.length = a0.size := by rw [ByteArray.toList_eq, Array.length_toList]; rfl
      rw [h] at h1
      simp at h1
      omega
    | cons b r => exact ⟨b, r, rfl⟩
  obtain ⟨b, r, hl⟩ := hl
  have hn : (ByteArray.mk #[]).toList = [] := by rw [ByteArray.toList_eq]
  have hi : ∀ l : List UInt8, Op.bytesLess l l = false := by
    intro l
    induction l with
    | nil => rfl
    | cons x l ih => simp [Op.bytesLess, ih]
  intro p hp t x y w
  simp only [dirBackF1, List.mem_cons, List.not_mem_nil, or_false] at hp
  rcases hp with rfl | rfl | rfl | rfl | rfl | rfl | rfl | rfl | rfl | rfl | rfl | rfl | rfl | rfl | rfl | rfl | rfl | rfl
  all_goals (simp [atomOf, symF, dirBackSym, eqGuard, binOp, Op.intCmp, Op.stringOp, hl, hn, hi, Op.bytesLess]; try omega)
theorem dirBackKB1_ok (a0 : ByteArray) (w0 : a0.size ≤ maxLen) (hc : 1 ≤ a0.size) : KOK dirBackKB1 (symF (dirBackSym a0)) := by
  unfold maxLen at w0
  intro k j h
  unfold dirBackKB1 at h
  unfold KB.find at h
  split at h
  · rename_i he
    injection h with h; subst h; dsimp only at he; subst he
    exact ⟨a0.size, by simp [symF, dirBackSym], by show (1 : Int) ≤ (a0.size : Int); omega, by show (a0.size : Int) ≤ (9223372036854775807 : Int); omega, by simp⟩
  cases h
theorem walkDirBack (a0 : ByteArray) (w0 : a0.size ≤ maxLen) (w : World) :
    Calls Try.prog 6 #[.string a0] w fun e' w' => e' = .returned (.bool true) ∧ Below w.heap.size w w' := by
  have hone : ∀ q, (symF (dirBackSym a0) q).oneCell' = true := symF_one (by intro p hp; simp [dirBackSym] at hp; rcases hp with rfl | rfl <;> rfl)
  have hS : SOK [0] (symF (dirBackSym a0)) := by
    intro k hk
    simp only [List.mem_cons, List.not_mem_nil, or_false] at hk
    rcases hk with rfl
    · exact ⟨a0, by simp [symF, dirBackSym], by simp [symF, dirBackSym]⟩
  have hcase : (a0.size = 0) ∨ (1 ≤ a0.size) := by omega
  rcases hcase with hc | hc
  · exact Calls.of_treeX evMixed evNames dirBackKnOK hone (fctOrc_ok (dirBackF0_ok a0 hc)) changeEqEqOK (dirBackKB0_ok a0 w0 hc) hS (args := dirBackArgs) (fun r hr => by simp [dirBackArgs, ren, hr, symF, dirBackSym]) dirBackCheck0 w
  · exact Calls.of_treeX evMixed evNames dirBackKnOK hone (fctOrc_ok (dirBackF1_ok a0 hc)) changeEqEqOK (dirBackKB1_ok a0 w0 hc) hS (args := dirBackArgs) (fun r hr => by simp [dirBackArgs, ren, hr, symF, dirBackSym]) dirBackCheck1 w
end Go.Proofs.Ytleengigapmnpaa
