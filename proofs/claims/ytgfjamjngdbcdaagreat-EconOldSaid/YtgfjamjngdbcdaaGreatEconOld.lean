/- EconOld: the walk of the statement, by the evaluator, trees of questions, facts. -/
import Derived.Test.YtgfjamjngdbcdaaGreatEvS
import Derived.Test.YtgfjamjngdbcdaaGreatEvX
import Derived.Test.YtgfjamjngdbcdaaGreatOpEq
import Derived.ProofKit
namespace Go.Proofs.YtgfjamjngdbcdaaGreat
open Go.RowKit
set_option linter.unusedVariables false
set_option linter.unusedSimpArgs false
set_option maxRecDepth 100000

def econOldSym (a0 : Int) (a1 : Int) (a2 : Int) (a3 : ByteArray) (a4 : ByteArray) (a5 : ByteArray) (a6 : ByteArray) (a7 : Int) (a8 : Int) (a9 : Int) (a10 : Bool) (a11 : Int) (a12 : Int) (a13 : Int) : List (Nat × Value) := [(0, .int .i64 a0), (1, .int .i64 a1), (2, .int .i64 a2), (3, .string a3), (4, .string a4), (5, .string a5), (6, .string a6), (7, .int .i64 a7), (8, .int .i64 a8), (9, .int .i64 a9), (10, .bool a10), (11, .int .i64 a11), (12, .int .i64 a12), (13, .int .i64 a13), (1003, .int .i64 a3.size), (1004, .int .i64 a4.size), (1005, .int .i64 a5.size), (1006, .int .i64 a6.size)]
def econOldKn : KN := [(7, .bool true)]
def econOldET : ET := [(25, [CK.i, CK.i, CK.i, CK.s, CK.s, CK.s, CK.s, CK.i, CK.i, CK.i, CK.b, CK.i]), (67, [CK.i, CK.i, CK.i, CK.s, CK.s, CK.s, CK.s, CK.i, CK.i, CK.i, CK.b, CK.i])]
def econOldArgs : Array Value := #[.agg #[.chan (some 0), .chan (some 1), .chan (some 2), .chan (some 3), .chan (some 4), .chan (some 5), .chan (some 6), .chan (some 7), .chan (some 8), .chan (some 9), .chan (some 10), .chan (some 11)], .chan (some 12), .chan (some 13)]
theorem econOldKnown7 : ((aCall Tryz.prog noOrc 100000 60 7 #[]).run ⟨.lf, 0, 0, [], []⟩).map (·.1) = some (.bool true) := by kernel_rfl
theorem econOldKnOK : KnOK Tryz.prog econOldKn := by
  intro f v h
  unfold econOldKn at h
  unfold KN.find at h
  split at h
  · rename_i he
    injection h with h; subst h; subst he
    exact ⟨rfl, fun w => Calls.of_eval evMixed evNames (σ := fun _ => .bool false) (fun _ => rfl) (noOrc_ok _ _) (fun r _ => by simp) econOldKnown7 rfl w⟩
  cases h
def econOldKB0 : KB := [(12, ⟨-9223372036854775808, 9223372036854775807, []⟩), (13, ⟨-9223372036854775808, 9223372036854775807, []⟩), (1003, ⟨0, 9223372036854775807, []⟩), (1004, ⟨0, 9223372036854775807, []⟩), (1005, ⟨0, 9223372036854775807, []⟩), (1006, ⟨0, 9223372036854775807, []⟩)]
def econOldF0 : Fct := [(.lss, .chan (some 13), .chan (some 12), true)]
def econOld0k0y : KB := econOldKB0.put 1003 ⟨0, 60, []⟩
def econOld0k0n : KB := econOldKB0.put 1003 ⟨61, 9223372036854775807, []⟩
def econOld0k1y : KB := econOld0k0y.put 1004 ⟨0, 60, []⟩
def econOld0k1n : KB := econOld0k0y.put 1004 ⟨61, 9223372036854775807, []⟩
def econOld0k2y : KB := econOld0k1y.put 1005 ⟨0, 60, []⟩
def econOld0k2n : KB := econOld0k1y.put 1005 ⟨61, 9223372036854775807, []⟩
def econOld0k3y : KB := econOld0k2y.put 1006 ⟨0, 60, []⟩
def econOld0k3n : KB := econOld0k2y.put 1006 ⟨61, 9223372036854775807, []⟩
def econOld0k4y : KB := econOld0k3y.put 12 ⟨-9223372036854775808, 0, []⟩
def econOld0k4n : KB := econOld0k3y.put 12 ⟨1, 9223372036854775807, []⟩
theorem econOld0h5 : DT.leaf.check (okKX Tryz.prog econOldKn (fctOrc econOldF0) [3, 4, 5, 6] econOldET 100000 60 3 econOldArgs) econOld0k4y = true := check_leaf (by kernel_rfl)
def econOld0k6y : KB := econOld0k4n.put 12 ⟨1, 1000, []⟩
def econOld0k6n : KB := econOld0k4n.put 12 ⟨1001, 9223372036854775807, []⟩
def econOld0k7y : KB := econOld0k6y.put 13 ⟨-9223372036854775808, 0, []⟩
def econOld0k7n : KB := econOld0k6y.put 13 ⟨1, 9223372036854775807, []⟩
theorem econOld0h8 : DT.leaf.check (okKX Tryz.prog econOldKn (fctOrc econOldF0) [3, 4, 5, 6] econOldET 100000 60 3 econOldArgs) econOld0k7y = true := check_leaf (by kernel_rfl)
def econOld0k9y : KB := econOld0k7n.put 13 ⟨1, 1000, []⟩
def econOld0k9n : KB := econOld0k7n.put 13 ⟨1001, 9223372036854775807, []⟩
theorem econOld0h10 : DT.leaf.check (okKX Tryz.prog econOldKn (fctOrc econOldF0) [3, 4, 5, 6] econOldET 100000 60 3 econOldArgs) econOld0k9y = true := check_leaf (by kernel_rfl)
theorem econOld0h11 : DT.leaf.check (okKX Tryz.prog econOldKn (fctOrc econOldF0) [3, 4, 5, 6] econOldET 100000 60 3 econOldArgs) econOld0k9n = true := check_leaf (by kernel_rfl)
def econOld0t9 : DT := .less 13 (1001) .leaf .leaf
theorem econOld0h9 : econOld0t9.check (okKX Tryz.prog econOldKn (fctOrc econOldF0) [3, 4, 5, 6] econOldET 100000 60 3 econOldArgs) econOld0k7n = true := check_less (Ky := econOld0k9y) (Kn := econOld0k9n) (i := ⟨1, 9223372036854775807, []⟩) (by kernel_rfl) (by kernel_rfl) (by kernel_rfl) (.inr econOld0h10) (.inr econOld0h11)
def econOld0t7 : DT := .less 13 (1) .leaf econOld0t9
theorem econOld0h7 : econOld0t7.check (okKX Tryz.prog econOldKn (fctOrc econOldF0) [3, 4, 5, 6] econOldET 100000 60 3 econOldArgs) econOld0k6y = true := check_less (Ky := econOld0k7y) (Kn := econOld0k7n) (i := ⟨-9223372036854775808, 9223372036854775807, []⟩) (by kernel_rfl) (by kernel_rfl) (by kernel_rfl) (.inr econOld0h8) (.inr econOld0h9)
theorem econOld0h12 : DT.leaf.check (okKX Tryz.prog econOldKn (fctOrc econOldF0) [3, 4, 5, 6] econOldET 100000 60 3 econOldArgs) econOld0k6n = true := check_leaf (by kernel_rfl)
def econOld0t6 : DT := .less 12 (1001) econOld0t7 .leaf
theorem econOld0h6 : econOld0t6.check (okKX Tryz.prog econOldKn (fctOrc econOldF0) [3, 4, 5, 6] econOldET 100000 60 3 econOldArgs) econOld0k4n = true := check_less (Ky := econOld0k6y) (Kn := econOld0k6n) (i := ⟨1, 9223372036854775807, []⟩) (by kernel_rfl) (by kernel_rfl) (by kernel_rfl) (.inr econOld0h7) (.inr econOld0h12)
def econOld0t4 : DT := .less 12 (1) .leaf econOld0t6
theorem econOld0h4 : econOld0t4.check (okKX Tryz.prog econOldKn (fctOrc econOldF0) [3, 4, 5, 6] econOldET 100000 60 3 econOldArgs) econOld0k3y = true := check_less (Ky := econOld0k4y) (Kn := econOld0k4n) (i := ⟨-9223372036854775808, 9223372036854775807, []⟩) (by kernel_rfl) (by kernel_rfl) (by kernel_rfl) (.inr econOld0h5) (.inr econOld0h6)
theorem econOld0h13 : DT.leaf.check (okKX Tryz.prog econOldKn (fctOrc econOldF0) [3, 4, 5, 6] econOldET 100000 60 3 econOldArgs) econOld0k3n = true := check_leaf (by kernel_rfl)
def econOld0t3 : DT := .less 1006 (61) econOld0t4 .leaf
theorem econOld0h3 : econOld0t3.check (okKX Tryz.prog econOldKn (fctOrc econOldF0) [3, 4, 5, 6] econOldET 100000 60 3 econOldArgs) econOld0k2y = true := check_less (Ky := econOld0k3y) (Kn := econOld0k3n) (i := ⟨0, 9223372036854775807, []⟩) (by kernel_rfl) (by kernel_rfl) (by kernel_rfl) (.inr econOld0h4) (.inr econOld0h13)
theorem econOld0h14 : DT.leaf.check (okKX Tryz.prog econOldKn (fctOrc econOldF0) [3, 4, 5, 6] econOldET 100000 60 3 econOldArgs) econOld0k2n = true := check_leaf (by kernel_rfl)
def econOld0t2 : DT := .less 1005 (61) econOld0t3 .leaf
theorem econOld0h2 : econOld0t2.check (okKX Tryz.prog econOldKn (fctOrc econOldF0) [3, 4, 5, 6] econOldET 100000 60 3 econOldArgs) econOld0k1y = true := check_less (Ky := econOld0k2y) (Kn := econOld0k2n) (i := ⟨0, 9223372036854775807, []⟩) (by kernel_rfl) (by kernel_rfl) (by kernel_rfl) (.inr econOld0h3) (.inr econOld0h14)
theorem econOld0h15 : DT.leaf.check (okKX Tryz.prog econOldKn (fctOrc econOldF0) [3, 4, 5, 6] econOldET 100000 60 3 econOldArgs) econOld0k1n = true := check_leaf (by kernel_rfl)
def econOld0t1 : DT := .less 1004 (61) econOld0t2 .leaf
theorem econOld0h1 : econOld0t1.check (okKX Tryz.prog econOldKn (fctOrc econOldF0) [3, 4, 5, 6] econOldET 100000 60 3 econOldArgs) econOld0k0y = true := check_less (Ky := econOld0k1y) (Kn := econOld0k1n) (i := ⟨0, 9223372036854775807, []⟩) (by kernel_rfl) (by kernel_rfl) (by kernel_rfl) (.inr econOld0h2) (.inr econOld0h15)
theorem econOld0h16 : DT.leaf.check (okKX Tryz.prog econOldKn (fctOrc econOldF0) [3, 4, 5, 6] econOldET 100000 60 3 econOldArgs) econOld0k0n = true := check_leaf (by kernel_rfl)
def econOld0t0 : DT := .less 1003 (61) econOld0t1 .leaf
theorem econOld0h0 : econOld0t0.check (okKX Tryz.prog econOldKn (fctOrc econOldF0) [3, 4, 5, 6] econOldET 100000 60 3 econOldArgs) econOldKB0 = true := check_less (Ky := econOld0k0y) (Kn := econOld0k0n) (i := ⟨0, 9223372036854775807, []⟩) (by kernel_rfl) (by kernel_rfl) (by kernel_rfl) (.inr econOld0h1) (.inr econOld0h16)
theorem econOldCheck0 : econOld0t0.check (okKX Tryz.prog econOldKn (fctOrc econOldF0) [3, 4, 5, 6] econOldET 100000 60 3 econOldArgs) econOldKB0 = true := econOld0h0
theorem econOldF0_ok (a0 : Int) (a1 : Int) (a2 : Int) (a3 : ByteArray) (a4 : ByteArray) (a5 : ByteArray) (a6 : ByteArray) (a7 : Int) (a8 : Int) (a9 : Int) (a10 : Bool) (a11 : Int) (a12 : Int) (a13 : Int) (hc : a13 < a12) : FctOK Tryz.prog econOldF0 (symF (econOldSym a0 a1 a2 a3 a4 a5 a6 a7 a8 a9 a10 a11 a12 a13)) := by
  intro p hp t x y w
  simp only [econOldF0, List.mem_cons, List.not_mem_nil, or_false] at hp
  rcases hp with rfl
  all_goals (simp [atomOf, symF, econOldSym, eqGuard, binOp, Op.intCmp]; try omega)
theorem econOldKB0_ok (a0 : Int) (a1 : Int) (a2 : Int) (a3 : ByteArray) (a4 : ByteArray) (a5 : ByteArray) (a6 : ByteArray) (a7 : Int) (a8 : Int) (a9 : Int) (a10 : Bool) (a11 : Int) (a12 : Int) (a13 : Int) (w0 : (Lit.int .i64 a0).wf = true) (w1 : (Lit.int .i64 a1).wf = true) (w2 : (Lit.int .i64 a2).wf = true) (w3 : a3.size ≤ maxLen) (w4 : a4.size ≤ maxLen) (w5 : a5.size ≤ maxLen) (w6 : a6.size ≤ maxLen) (w7 : (Lit.int .i64 a7).wf = true) (w8 : (Lit.int .i64 a8).wf = true) (w9 : (Lit.int .i64 a9).wf = true) (w11 : (Lit.int .i64 a11).wf = true) (w12 : (Lit.int .i64 a12).wf = true) (w13 : (Lit.int .i64 a13).wf = true) (hc : a13 < a12) : KOK econOldKB0 (symF (econOldSym a0 a1 a2 a3 a4 a5 a6 a7 a8 a9 a10 a11 a12 a13)) := by
  have r0 : IntKind.i64.min ≤ a0 ∧ a0 ≤ IntKind.i64.max := by simpa [Lit.wf] using w0
  have r1 : IntKind.i64.min ≤ a1 ∧ a1 ≤ IntKind.i64.max := by simpa [Lit.wf] using w1
  have r2 : IntKind.i64.min ≤ a2 ∧ a2 ≤ IntKind.i64.max := by simpa [Lit.wf] using w2
  have r7 : IntKind.i64.min ≤ a7 ∧ a7 ≤ IntKind.i64.max := by simpa [Lit.wf] using w7
  have r8 : IntKind.i64.min ≤ a8 ∧ a8 ≤ IntKind.i64.max := by simpa [Lit.wf] using w8
  have r9 : IntKind.i64.min ≤ a9 ∧ a9 ≤ IntKind.i64.max := by simpa [Lit.wf] using w9
  have r11 : IntKind.i64.min ≤ a11 ∧ a11 ≤ IntKind.i64.max := by simpa [Lit.wf] using w11
  have r12 : IntKind.i64.min ≤ a12 ∧ a12 ≤ IntKind.i64.max := by simpa [Lit.wf] using w12
  have r13 : IntKind.i64.min ≤ a13 ∧ a13 ≤ IntKind.i64.max := by simpa [Lit.wf] using w13
  simp only [show IntKind.i64.min = -9223372036854775808 from rfl, show IntKind.i64.max = 9223372036854775807 from rfl] at r0 r1 r2 r7 r8 r9 r11 r12 r13
  unfold maxLen at w3 w4 w5 w6
  intro k j h
  unfold econOldKB0 at h
  unfold KB.find at h
  split at h
  · rename_i he
    injection h with h; subst h; dsimp only at he; subst he
    exact ⟨a12, by simp [symF, econOldSym], by show (-9223372036854775808 : Int) ≤ a12; omega, by show a12 ≤ (9223372036854775807 : Int); omega, by simp⟩
  unfold KB.find at h
  split at h
  · rename_i he
    injection h with h; subst h; dsimp only at he; subst he
    exact ⟨a13, by simp [symF, econOldSym], by show (-9223372036854775808 : Int) ≤ a13; omega, by show a13 ≤ (9223372036854775807 : Int); omega, by simp⟩
  unfold KB.find at h
  split at h
  · rename_i he
    injection h with h; subst h; dsimp only at he; subst he
    exact ⟨a3.size, by simp [symF, econOldSym], by show (0 : Int) ≤ (a3.size : Int); omega, by show (a3.size : Int) ≤ (9223372036854775807 : Int); omega, by simp⟩
  unfold KB.find at h
  split at h
  · rename_i he
    injection h with h; subst h; dsimp only at he; subst he
    exact ⟨a4.size, by simp [symF, econOldSym], by show (0 : Int) ≤ (a4.size : Int); omega, by show (a4.size : Int) ≤ (9223372036854775807 : Int); omega, by simp⟩
  unfold KB.find at h
  split at h
  · rename_i he
    injection h with h; subst h; dsimp only at he; subst he
    exact ⟨a5.size, by simp [symF, econOldSym], by show (0 : Int) ≤ (a5.size : Int); omega, by show (a5.size : Int) ≤ (9223372036854775807 : Int); omega, by simp⟩
  unfold KB.find at h
  split at h
  · rename_i he
    injection h with h; subst h; dsimp only at he; subst he
    exact ⟨a6.size, by simp [symF, econOldSym], by show (0 : Int) ≤ (a6.size : Int); omega, by show (a6.size : Int) ≤ (9223372036854775807 : Int); omega, by simp⟩
  cases h
def econOldKB1 : KB := [(12, ⟨-9223372036854775808, 9223372036854775807, []⟩), (13, ⟨-9223372036854775808, 9223372036854775807, []⟩), (1003, ⟨0, 9223372036854775807, []⟩), (1004, ⟨0, 9223372036854775807, []⟩), (1005, ⟨0, 9223372036854775807, []⟩), (1006, ⟨0, 9223372036854775807, []⟩)]
def econOldF1 : Fct := [(.lss, .chan (some 13), .chan (some 12), false), (.eql, .chan (some 13), .chan (some 12), true)]
def econOld1k0y : KB := econOldKB1.put 1003 ⟨0, 60, []⟩
def econOld1k0n : KB := econOldKB1.put 1003 ⟨61, 9223372036854775807, []⟩
def econOld1k1y : KB := econOld1k0y.put 1004 ⟨0, 60, []⟩
def econOld1k1n : KB := econOld1k0y.put 1004 ⟨61, 9223372036854775807, []⟩
def econOld1k2y : KB := econOld1k1y.put 1005 ⟨0, 60, []⟩
def econOld1k2n : KB := econOld1k1y.put 1005 ⟨61, 9223372036854775807, []⟩
def econOld1k3y : KB := econOld1k2y.put 1006 ⟨0, 60, []⟩
def econOld1k3n : KB := econOld1k2y.put 1006 ⟨61, 9223372036854775807, []⟩
def econOld1k4y : KB := econOld1k3y.put 12 ⟨-9223372036854775808, 0, []⟩
def econOld1k4n : KB := econOld1k3y.put 12 ⟨1, 9223372036854775807, []⟩
theorem econOld1h5 : DT.leaf.check (okKX Tryz.prog econOldKn (fctOrc econOldF1) [3, 4, 5, 6] econOldET 100000 60 3 econOldArgs) econOld1k4y = true := check_leaf (by kernel_rfl)
def econOld1k6y : KB := econOld1k4n.put 12 ⟨1, 1000, []⟩
def econOld1k6n : KB := econOld1k4n.put 12 ⟨1001, 9223372036854775807, []⟩
def econOld1k7y : KB := econOld1k6y.put 13 ⟨-9223372036854775808, 0, []⟩
def econOld1k7n : KB := econOld1k6y.put 13 ⟨1, 9223372036854775807, []⟩
theorem econOld1h8 : DT.leaf.check (okKX Tryz.prog econOldKn (fctOrc econOldF1) [3, 4, 5, 6] econOldET 100000 60 3 econOldArgs) econOld1k7y = true := check_leaf (by kernel_rfl)
def econOld1k9y : KB := econOld1k7n.put 13 ⟨1, 1000, []⟩
def econOld1k9n : KB := econOld1k7n.put 13 ⟨1001, 9223372036854775807, []⟩
theorem econOld1h10 : DT.leaf.check (okKX Tryz.prog econOldKn (fctOrc econOldF1) [3, 4, 5, 6] econOldET 100000 60 3 econOldArgs) econOld1k9y = true := check_leaf (by kernel_rfl)
theorem econOld1h11 : DT.leaf.check (okKX Tryz.prog econOldKn (fctOrc econOldF1) [3, 4, 5, 6] econOldET 100000 60 3 econOldArgs) econOld1k9n = true := check_leaf (by kernel_rfl)
def econOld1t9 : DT := .less 13 (1001) .leaf .leaf
theorem econOld1h9 : econOld1t9.check (okKX Tryz.prog econOldKn (fctOrc econOldF1) [3, 4, 5, 6] econOldET 100000 60 3 econOldArgs) econOld1k7n = true := check_less (Ky := econOld1k9y) (Kn := econOld1k9n) (i := ⟨1, 9223372036854775807, []⟩) (by kernel_rfl) (by kernel_rfl) (by kernel_rfl) (.inr econOld1h10) (.inr econOld1h11)
def econOld1t7 : DT := .less 13 (1) .leaf econOld1t9
theorem econOld1h7 : econOld1t7.check (okKX Tryz.prog econOldKn (fctOrc econOldF1) [3, 4, 5, 6] econOldET 100000 60 3 econOldArgs) econOld1k6y = true := check_less (Ky := econOld1k7y) (Kn := econOld1k7n) (i := ⟨-9223372036854775808, 9223372036854775807, []⟩) (by kernel_rfl) (by kernel_rfl) (by kernel_rfl) (.inr econOld1h8) (.inr econOld1h9)
theorem econOld1h12 : DT.leaf.check (okKX Tryz.prog econOldKn (fctOrc econOldF1) [3, 4, 5, 6] econOldET 100000 60 3 econOldArgs) econOld1k6n = true := check_leaf (by kernel_rfl)
def econOld1t6 : DT := .less 12 (1001) econOld1t7 .leaf
theorem econOld1h6 : econOld1t6.check (okKX Tryz.prog econOldKn (fctOrc econOldF1) [3, 4, 5, 6] econOldET 100000 60 3 econOldArgs) econOld1k4n = true := check_less (Ky := econOld1k6y) (Kn := econOld1k6n) (i := ⟨1, 9223372036854775807, []⟩) (by kernel_rfl) (by kernel_rfl) (by kernel_rfl) (.inr econOld1h7) (.inr econOld1h12)
def econOld1t4 : DT := .less 12 (1) .leaf econOld1t6
theorem econOld1h4 : econOld1t4.check (okKX Tryz.prog econOldKn (fctOrc econOldF1) [3, 4, 5, 6] econOldET 100000 60 3 econOldArgs) econOld1k3y = true := check_less (Ky := econOld1k4y) (Kn := econOld1k4n) (i := ⟨-9223372036854775808, 9223372036854775807, []⟩) (by kernel_rfl) (by kernel_rfl) (by kernel_rfl) (.inr econOld1h5) (.inr econOld1h6)
theorem econOld1h13 : DT.leaf.check (okKX Tryz.prog econOldKn (fctOrc econOldF1) [3, 4, 5, 6] econOldET 100000 60 3 econOldArgs) econOld1k3n = true := check_leaf (by kernel_rfl)
def econOld1t3 : DT := .less 1006 (61) econOld1t4 .leaf
theorem econOld1h3 : econOld1t3.check (okKX Tryz.prog econOldKn (fctOrc econOldF1) [3, 4, 5, 6] econOldET 100000 60 3 econOldArgs) econOld1k2y = true := check_less (Ky := econOld1k3y) (Kn := econOld1k3n) (i := ⟨0, 9223372036854775807, []⟩) (by kernel_rfl) (by kernel_rfl) (by kernel_rfl) (.inr econOld1h4) (.inr econOld1h13)
theorem econOld1h14 : DT.leaf.check (okKX Tryz.prog econOldKn (fctOrc econOldF1) [3, 4, 5, 6] econOldET 100000 60 3 econOldArgs) econOld1k2n = true := check_leaf (by kernel_rfl)
def econOld1t2 : DT := .less 1005 (61) econOld1t3 .leaf
theorem econOld1h2 : econOld1t2.check (okKX Tryz.prog econOldKn (fctOrc econOldF1) [3, 4, 5, 6] econOldET 100000 60 3 econOldArgs) econOld1k1y = true := check_less (Ky := econOld1k2y) (Kn := econOld1k2n) (i := ⟨0, 9223372036854775807, []⟩) (by kernel_rfl) (by kernel_rfl) (by kernel_rfl) (.inr econOld1h3) (.inr econOld1h14)
theorem econOld1h15 : DT.leaf.check (okKX Tryz.prog econOldKn (fctOrc econOldF1) [3, 4, 5, 6] econOldET 100000 60 3 econOldArgs) econOld1k1n = true := check_leaf (by kernel_rfl)
def econOld1t1 : DT := .less 1004 (61) econOld1t2 .leaf
theorem econOld1h1 : econOld1t1.check (okKX Tryz.prog econOldKn (fctOrc econOldF1) [3, 4, 5, 6] econOldET 100000 60 3 econOldArgs) econOld1k0y = true := check_less (Ky := econOld1k1y) (Kn := econOld1k1n) (i := ⟨0, 9223372036854775807, []⟩) (by kernel_rfl) (by kernel_rfl) (by kernel_rfl) (.inr econOld1h2) (.inr econOld1h15)
theorem econOld1h16 : DT.leaf.check (okKX Tryz.prog econOldKn (fctOrc econOldF1) [3, 4, 5, 6] econOldET 100000 60 3 econOldArgs) econOld1k0n = true := check_leaf (by kernel_rfl)
def econOld1t0 : DT := .less 1003 (61) econOld1t1 .leaf
theorem econOld1h0 : econOld1t0.check (okKX Tryz.prog econOldKn (fctOrc econOldF1) [3, 4, 5, 6] econOldET 100000 60 3 econOldArgs) econOldKB1 = true := check_less (Ky := econOld1k0y) (Kn := econOld1k0n) (i := ⟨0, 9223372036854775807, []⟩) (by kernel_rfl) (by kernel_rfl) (by kernel_rfl) (.inr econOld1h1) (.inr econOld1h16)
theorem econOldCheck1 : econOld1t0.check (okKX Tryz.prog econOldKn (fctOrc econOldF1) [3, 4, 5, 6] econOldET 100000 60 3 econOldArgs) econOldKB1 = true := econOld1h0
theorem econOldF1_ok (a0 : Int) (a1 : Int) (a2 : Int) (a3 : ByteArray) (a4 : ByteArray) (a5 : ByteArray) (a6 : ByteArray) (a7 : Int) (a8 : Int) (a9 : Int) (a10 : Bool) (a11 : Int) (a12 : Int) (a13 : Int) (hc : a13 = a12) : FctOK Tryz.prog econOldF1 (symF (econOldSym a0 a1 a2 a3 a4 a5 a6 a7 a8 a9 a10 a11 a12 a13)) := by
  intro p hp t x y w
  simp only [econOldF1, List.mem_cons, List.not_mem_nil, or_false] at hp
  rcases hp with rfl | rfl
  all_goals (simp [atomOf, symF, econOldSym, eqGuard, binOp, Op.intCmp]; try omega)
theorem econOldKB1_ok (a0 : Int) (a1 : Int) (a2 : Int) (a3 : ByteArray) (a4 : ByteArray) (a5 : ByteArray) (a6 : ByteArray) (a7 : Int) (a8 : Int) (a9 : Int) (a10 : Bool) (a11 : Int) (a12 : Int) (a13 : Int) (w0 : (Lit.int .i64 a0).wf = true) (w1 : (Lit.int .i64 a1).wf = true) (w2 : (Lit.int .i64 a2).wf = true) (w3 : a3.size ≤ maxLen) (w4 : a4.size ≤ maxLen) (w5 : a5.size ≤ maxLen) (w6 : a6.size ≤ maxLen) (w7 : (Lit.int .i64 a7).wf = true) (w8 : (Lit.int .i64 a8).wf = true) (w9 : (Lit.int .i64 a9).wf = true) (w11 : (Lit.int .i64 a11).wf = true) (w12 : (Lit.int .i64 a12).wf = true) (w13 : (Lit.int .i64 a13).wf = true) (hc : a13 = a12) : KOK econOldKB1 (symF (econOldSym a0 a1 a2 a3 a4 a5 a6 a7 a8 a9 a10 a11 a12 a13)) := by
  have r0 : IntKind.i64.min ≤ a0 ∧ a0 ≤ IntKind.i64.max := by simpa [Lit.wf] using w0
  have r1 : IntKind.i64.min ≤ a1 ∧ a1 ≤ IntKind.i64.max := by simpa [Lit.wf] using w1
  have r2 : IntKind.i64.min ≤ a2 ∧ a2 ≤ IntKind.i64.max := by simpa [Lit.wf] using w2
  have r7 : IntKind.i64.min ≤ a7 ∧ a7 ≤ IntKind.i64.max := by simpa [Lit.wf] using w7
  have r8 : IntKind.i64.min ≤ a8 ∧ a8 ≤ IntKind.i64.max := by simpa [Lit.wf] using w8
  have r9 : IntKind.i64.min ≤ a9 ∧ a9 ≤ IntKind.i64.max := by simpa [Lit.wf] using w9
  have r11 : IntKind.i64.min ≤ a11 ∧ a11 ≤ IntKind.i64.max := by simpa [Lit.wf] using w11
  have r12 : IntKind.i64.min ≤ a12 ∧ a12 ≤ IntKind.i64.max := by simpa [Lit.wf] using w12
  have r13 : IntKind.i64.min ≤ a13 ∧ a13 ≤ IntKind.i64.max := by simpa [Lit.wf] using w13
  simp only [show IntKind.i64.min = -9223372036854775808 from rfl, show IntKind.i64.max = 9223372036854775807 from rfl] at r0 r1 r2 r7 r8 r9 r11 r12 r13
  unfold maxLen at w3 w4 w5 w6
  intro k j h
  unfold econOldKB1 at h
  unfold KB.find at h
  split at h
  · rename_i he
    injection h with h; subst h; dsimp only at he; subst he
    exact ⟨a12, by simp [symF, econOldSym], by show (-9223372036854775808 : Int) ≤ a12; omega, by show a12 ≤ (9223372036854775807 : Int); omega, by simp⟩
  unfold KB.find at h
  split at h
  · rename_i he
    injection h with h; subst h; dsimp only at he; subst he
    exact ⟨a13, by simp [symF, econOldSym], by show (-9223372036854775808 : Int) ≤ a13; omega, by show a13 ≤ (9223372036854775807 : Int); omega, by simp⟩
  unfold KB.find at h
  split at h
  · rename_i he
    injection h with h; subst h; dsimp only at he; subst he
    exact ⟨a3.size, by simp [symF, econOldSym], by show (0 : Int) ≤ (a3.size : Int); omega, by show (a3.size : Int) ≤ (9223372036854775807 : Int); omega, by simp⟩
  unfold KB.find at h
  split at h
  · rename_i he
    injection h with h; subst h; dsimp only at he; subst he
    exact ⟨a4.size, by simp [symF, econOldSym], by show (0 : Int) ≤ (a4.size : Int); omega, by show (a4.size : Int) ≤ (9223372036854775807 : Int); omega, by simp⟩
  unfold KB.find at h
  split at h
  · rename_i he
    injection h with h; subst h; dsimp only at he; subst he
    exact ⟨a5.size, by simp [symF, econOldSym], by show (0 : Int) ≤ (a5.size : Int); omega, by show (a5.size : Int) ≤ (9223372036854775807 : Int); omega, by simp⟩
  unfold KB.find at h
  split at h
  · rename_i he
    injection h with h; subst h; dsimp only at he; subst he
    exact ⟨a6.size, by simp [symF, econOldSym], by show (0 : Int) ≤ (a6.size : Int); omega, by show (a6.size : Int) ≤ (9223372036854775807 : Int); omega, by simp⟩
  cases h
def econOldKB2 : KB := [(12, ⟨-9223372036854775808, 9223372036854775807, []⟩), (13, ⟨-9223372036854775808, 9223372036854775807, []⟩), (1003, ⟨0, 9223372036854775807, []⟩), (1004, ⟨0, 9223372036854775807, []⟩), (1005, ⟨0, 9223372036854775807, []⟩), (1006, ⟨0, 9223372036854775807, []⟩)]
def econOldF2 : Fct := [(.lss, .chan (some 13), .chan (some 12), false), (.eql, .chan (some 13), .chan (some 12), false)]
def econOld2k0y : KB := econOldKB2.put 1003 ⟨0, 60, []⟩
def econOld2k0n : KB := econOldKB2.put 1003 ⟨61, 9223372036854775807, []⟩
def econOld2k1y : KB := econOld2k0y.put 1004 ⟨0, 60, []⟩
def econOld2k1n : KB := econOld2k0y.put 1004 ⟨61, 9223372036854775807, []⟩
def econOld2k2y : KB := econOld2k1y.put 1005 ⟨0, 60, []⟩
def econOld2k2n : KB := econOld2k1y.put 1005 ⟨61, 9223372036854775807, []⟩
def econOld2k3y : KB := econOld2k2y.put 1006 ⟨0, 60, []⟩
def econOld2k3n : KB := econOld2k2y.put 1006 ⟨61, 9223372036854775807, []⟩
def econOld2k4y : KB := econOld2k3y.put 12 ⟨-9223372036854775808, 0, []⟩
def econOld2k4n : KB := econOld2k3y.put 12 ⟨1, 9223372036854775807, []⟩
theorem econOld2h5 : DT.leaf.check (okKX Tryz.prog econOldKn (fctOrc econOldF2) [3, 4, 5, 6] econOldET 100000 60 3 econOldArgs) econOld2k4y = true := check_leaf (by kernel_rfl)
def econOld2k6y : KB := econOld2k4n.put 12 ⟨1, 1000, []⟩
def econOld2k6n : KB := econOld2k4n.put 12 ⟨1001, 9223372036854775807, []⟩
def econOld2k7y : KB := econOld2k6y.put 13 ⟨-9223372036854775808, 0, []⟩
def econOld2k7n : KB := econOld2k6y.put 13 ⟨1, 9223372036854775807, []⟩
theorem econOld2h8 : DT.leaf.check (okKX Tryz.prog econOldKn (fctOrc econOldF2) [3, 4, 5, 6] econOldET 100000 60 3 econOldArgs) econOld2k7y = true := check_leaf (by kernel_rfl)
def econOld2k9y : KB := econOld2k7n.put 13 ⟨1, 1000, []⟩
def econOld2k9n : KB := econOld2k7n.put 13 ⟨1001, 9223372036854775807, []⟩
theorem econOld2h10 : DT.leaf.check (okKX Tryz.prog econOldKn (fctOrc econOldF2) [3, 4, 5, 6] econOldET 100000 60 3 econOldArgs) econOld2k9y = true := check_leaf (by kernel_rfl)
theorem econOld2h11 : DT.leaf.check (okKX Tryz.prog econOldKn (fctOrc econOldF2) [3, 4, 5, 6] econOldET 100000 60 3 econOldArgs) econOld2k9n = true := check_leaf (by kernel_rfl)
def econOld2t9 : DT := .less 13 (1001) .leaf .leaf
theorem econOld2h9 : econOld2t9.check (okKX Tryz.prog econOldKn (fctOrc econOldF2) [3, 4, 5, 6] econOldET 100000 60 3 econOldArgs) econOld2k7n = true := check_less (Ky := econOld2k9y) (Kn := econOld2k9n) (i := ⟨1, 9223372036854775807, []⟩) (by kernel_rfl) (by kernel_rfl) (by kernel_rfl) (.inr econOld2h10) (.inr econOld2h11)
def econOld2t7 : DT := .less 13 (1) .leaf econOld2t9
theorem econOld2h7 : econOld2t7.check (okKX Tryz.prog econOldKn (fctOrc econOldF2) [3, 4, 5, 6] econOldET 100000 60 3 econOldArgs) econOld2k6y = true := check_less (Ky := econOld2k7y) (Kn := econOld2k7n) (i := ⟨-9223372036854775808, 9223372036854775807, []⟩) (by kernel_rfl) (by kernel_rfl) (by kernel_rfl) (.inr econOld2h8) (.inr econOld2h9)
theorem econOld2h12 : DT.leaf.check (okKX Tryz.prog econOldKn (fctOrc econOldF2) [3, 4, 5, 6] econOldET 100000 60 3 econOldArgs) econOld2k6n = true := check_leaf (by kernel_rfl)
def econOld2t6 : DT := .less 12 (1001) econOld2t7 .leaf
theorem econOld2h6 : econOld2t6.check (okKX Tryz.prog econOldKn (fctOrc econOldF2) [3, 4, 5, 6] econOldET 100000 60 3 econOldArgs) econOld2k4n = true := check_less (Ky := econOld2k6y) (Kn := econOld2k6n) (i := ⟨1, 9223372036854775807, []⟩) (by kernel_rfl) (by kernel_rfl) (by kernel_rfl) (.inr econOld2h7) (.inr econOld2h12)
def econOld2t4 : DT := .less 12 (1) .leaf econOld2t6
theorem econOld2h4 : econOld2t4.check (okKX Tryz.prog econOldKn (fctOrc econOldF2) [3, 4, 5, 6] econOldET 100000 60 3 econOldArgs) econOld2k3y = true := check_less (Ky := econOld2k4y) (Kn := econOld2k4n) (i := ⟨-9223372036854775808, 9223372036854775807, []⟩) (by kernel_rfl) (by kernel_rfl) (by kernel_rfl) (.inr econOld2h5) (.inr econOld2h6)
theorem econOld2h13 : DT.leaf.check (okKX Tryz.prog econOldKn (fctOrc econOldF2) [3, 4, 5, 6] econOldET 100000 60 3 econOldArgs) econOld2k3n = true := check_leaf (by kernel_rfl)
def econOld2t3 : DT := .less 1006 (61) econOld2t4 .leaf
theorem econOld2h3 : econOld2t3.check (okKX Tryz.prog econOldKn (fctOrc econOldF2) [3, 4, 5, 6] econOldET 100000 60 3 econOldArgs) econOld2k2y = true := check_less (Ky := econOld2k3y) (Kn := econOld2k3n) (i := ⟨0, 9223372036854775807, []⟩) (by kernel_rfl) (by kernel_rfl) (by kernel_rfl) (.inr econOld2h4) (.inr econOld2h13)
theorem econOld2h14 : DT.leaf.check (okKX Tryz.prog econOldKn (fctOrc econOldF2) [3, 4, 5, 6] econOldET 100000 60 3 econOldArgs) econOld2k2n = true := check_leaf (by kernel_rfl)
def econOld2t2 : DT := .less 1005 (61) econOld2t3 .leaf
theorem econOld2h2 : econOld2t2.check (okKX Tryz.prog econOldKn (fctOrc econOldF2) [3, 4, 5, 6] econOldET 100000 60 3 econOldArgs) econOld2k1y = true := check_less (Ky := econOld2k2y) (Kn := econOld2k2n) (i := ⟨0, 9223372036854775807, []⟩) (by kernel_rfl) (by kernel_rfl) (by kernel_rfl) (.inr econOld2h3) (.inr econOld2h14)
theorem econOld2h15 : DT.leaf.check (okKX Tryz.prog econOldKn (fctOrc econOldF2) [3, 4, 5, 6] econOldET 100000 60 3 econOldArgs) econOld2k1n = true := check_leaf (by kernel_rfl)
def econOld2t1 : DT := .less 1004 (61) econOld2t2 .leaf
theorem econOld2h1 : econOld2t1.check (okKX Tryz.prog econOldKn (fctOrc econOldF2) [3, 4, 5, 6] econOldET 100000 60 3 econOldArgs) econOld2k0y = true := check_less (Ky := econOld2k1y) (Kn := econOld2k1n) (i := ⟨0, 9223372036854775807, []⟩) (by kernel_rfl) (by kernel_rfl) (by kernel_rfl) (.inr econOld2h2) (.inr econOld2h15)
theorem econOld2h16 : DT.leaf.check (okKX Tryz.prog econOldKn (fctOrc econOldF2) [3, 4, 5, 6] econOldET 100000 60 3 econOldArgs) econOld2k0n = true := check_leaf (by kernel_rfl)
def econOld2t0 : DT := .less 1003 (61) econOld2t1 .leaf
theorem econOld2h0 : econOld2t0.check (okKX Tryz.prog econOldKn (fctOrc econOldF2) [3, 4, 5, 6] econOldET 100000 60 3 econOldArgs) econOldKB2 = true := check_less (Ky := econOld2k0y) (Kn := econOld2k0n) (i := ⟨0, 9223372036854775807, []⟩) (by kernel_rfl) (by kernel_rfl) (by kernel_rfl) (.inr econOld2h1) (.inr econOld2h16)
theorem econOldCheck2 : econOld2t0.check (okKX Tryz.prog econOldKn (fctOrc econOldF2) [3, 4, 5, 6] econOldET 100000 60 3 econOldArgs) econOldKB2 = true := econOld2h0
theorem econOldF2_ok (a0 : Int) (a1 : Int) (a2 : Int) (a3 : ByteArray) (a4 : ByteArray) (a5 : ByteArray) (a6 : ByteArray) (a7 : Int) (a8 : Int) (a9 : Int) (a10 : Bool) (a11 : Int) (a12 : Int) (a13 : Int) (hc : a12 < a13) : FctOK Tryz.prog econOldF2 (symF (econOldSym a0 a1 a2 a3 a4 a5 a6 a7 a8 a9 a10 a11 a12 a13)) := by
  intro p hp t x y w
  simp only [econOldF2, List.mem_cons, List.not_mem_nil, or_false] at hp
  rcases hp with rfl | rfl
  all_goals (simp [atomOf, symF, econOldSym, eqGuard, binOp, Op.intCmp]; try omega)
theorem econOldKB2_ok (a0 : Int) (a1 : Int) (a2 : Int) (a3 : ByteArray) (a4 : ByteArray) (a5 : ByteArray) (a6 : ByteArray) (a7 : Int) (a8 : Int) (a9 : Int) (a10 : Bool) (a11 : Int) (a12 : Int) (a13 : Int) (w0 : (Lit.int .i64 a0).wf = true) (w1 : (Lit.int .i64 a1).wf = true) (w2 : (Lit.int .i64 a2).wf = true) (w3 : a3.size ≤ maxLen) (w4 : a4.size ≤ maxLen) (w5 : a5.size ≤ maxLen) (w6 : a6.size ≤ maxLen) (w7 : (Lit.int .i64 a7).wf = true) (w8 : (Lit.int .i64 a8).wf = true) (w9 : (Lit.int .i64 a9).wf = true) (w11 : (Lit.int .i64 a11).wf = true) (w12 : (Lit.int .i64 a12).wf = true) (w13 : (Lit.int .i64 a13).wf = true) (hc : a12 < a13) : KOK econOldKB2 (symF (econOldSym a0 a1 a2 a3 a4 a5 a6 a7 a8 a9 a10 a11 a12 a13)) := by
  have r0 : IntKind.i64.min ≤ a0 ∧ a0 ≤ IntKind.i64.max := by simpa [Lit.wf] using w0
  have r1 : IntKind.i64.min ≤ a1 ∧ a1 ≤ IntKind.i64.max := by simpa [Lit.wf] using w1
  have r2 : IntKind.i64.min ≤ a2 ∧ a2 ≤ IntKind.i64.max := by simpa [Lit.wf] using w2
  have r7 : IntKind.i64.min ≤ a7 ∧ a7 ≤ IntKind.i64.max := by simpa [Lit.wf] using w7
  have r8 : IntKind.i64.min ≤ a8 ∧ a8 ≤ IntKind.i64.max := by simpa [Lit.wf] using w8
  have r9 : IntKind.i64.min ≤ a9 ∧ a9 ≤ IntKind.i64.max := by simpa [Lit.wf] using w9
  have r11 : IntKind.i64.min ≤ a11 ∧ a11 ≤ IntKind.i64.max := by simpa [Lit.wf] using w11
  have r12 : IntKind.i64.min ≤ a12 ∧ a12 ≤ IntKind.i64.max := by simpa [Lit.wf] using w12
  have r13 : IntKind.i64.min ≤ a13 ∧ a13 ≤ IntKind.i64.max := by simpa [Lit.wf] using w13
  simp only [show IntKind.i64.min = -9223372036854775808 from rfl, show IntKind.i64.max = 9223372036854775807 from rfl] at r0 r1 r2 r7 r8 r9 r11 r12 r13
  unfold maxLen at w3 w4 w5 w6
  intro k j h
  unfold econOldKB2 at h
  unfold KB.find at h
  split at h
  · rename_i he
    injection h with h; subst h; dsimp only at he; subst he
    exact ⟨a12, by simp [symF, econOldSym], by show (-9223372036854775808 : Int) ≤ a12; omega, by show a12 ≤ (9223372036854775807 : Int); omega, by simp⟩
  unfold KB.find at h
  split at h
  · rename_i he
    injection h with h; subst h; dsimp only at he; subst he
    exact ⟨a13, by simp [symF, econOldSym], by show (-9223372036854775808 : Int) ≤ a13; omega, by show a13 ≤ (9223372036854775807 : Int); omega, by simp⟩
  unfold KB.find at h
  split at h
  · rename_i he
    injection h with h; subst h; dsimp only at he; subst he
    exact ⟨a3.size, by simp [symF, econOldSym], by show (0 : Int) ≤ (a3.size : Int); omega, by show (a3.size : Int) ≤ (9223372036854775807 : Int); omega, by simp⟩
  unfold KB.find at h
  split at h
  · rename_i he
    injection h with h; subst h; dsimp only at he; subst he
    exact ⟨a4.size, by simp [symF, econOldSym], by show (0 : Int) ≤ (a4.size : Int); omega, by show (a4.size : Int) ≤ (9223372036854775807 : Int); omega, by simp⟩
  unfold KB.find at h
  split at h
  · rename_i he
    injection h with h; subst h; dsimp only at he; subst he
    exact ⟨a5.size, by simp [symF, econOldSym], by show (0 : Int) ≤ (a5.size : Int); omega, by show (a5.size : Int) ≤ (9223372036854775807 : Int); omega, by simp⟩
  unfold KB.find at h
  split at h
  · rename_i he
    injection h with h; subst h; dsimp only at he; subst he
    exact ⟨a6.size, by simp [symF, econOldSym], by show (0 : Int) ≤ (a6.size : Int); omega, by show (a6.size : Int) ≤ (9223372036854775807 : Int); omega, by simp⟩
  cases h
theorem walkEconOld (a0 : Int) (a1 : Int) (a2 : Int) (a3 : ByteArray) (a4 : ByteArray) (a5 : ByteArray) (a6 : ByteArray) (a7 : Int) (a8 : Int) (a9 : Int) (a10 : Bool) (a11 : Int) (a12 : Int) (a13 : Int) (w0 : (Lit.int .i64 a0).wf = true) (w1 : (Lit.int .i64 a1).wf = true) (w2 : (Lit.int .i64 a2).wf = true) (w3 : a3.size ≤ maxLen) (w4 : a4.size ≤ maxLen) (w5 : a5.size ≤ maxLen) (w6 : a6.size ≤ maxLen) (w7 : (Lit.int .i64 a7).wf = true) (w8 : (Lit.int .i64 a8).wf = true) (w9 : (Lit.int .i64 a9).wf = true) (w11 : (Lit.int .i64 a11).wf = true) (w12 : (Lit.int .i64 a12).wf = true) (w13 : (Lit.int .i64 a13).wf = true) (w : World) :
    Calls Tryz.prog 3 #[.agg #[.int .i64 a0, .int .i64 a1, .int .i64 a2, .string a3, .string a4, .string a5, .string a6, .int .i64 a7, .int .i64 a8, .int .i64 a9, .bool a10, .int .i64 a11], .int .i64 a12, .int .i64 a13] w fun e' w' => e' = .returned (.bool true) ∧ Below w.heap.size w w' := by
  have hone : ∀ q, (symF (econOldSym a0 a1 a2 a3 a4 a5 a6 a7 a8 a9 a10 a11 a12 a13) q).oneCell' = true := symF_one (by intro p hp; simp [econOldSym] at hp; rcases hp with rfl | rfl | rfl | rfl | rfl | rfl | rfl | rfl | rfl | rfl | rfl | rfl | rfl | rfl | rfl | rfl | rfl | rfl <;> rfl)
  have hS : SOK [3, 4, 5, 6] (symF (econOldSym a0 a1 a2 a3 a4 a5 a6 a7 a8 a9 a10 a11 a12 a13)) := by
    intro k hk
    simp only [List.mem_cons, List.not_mem_nil, or_false] at hk
    rcases hk with rfl | rfl | rfl | rfl
    · exact ⟨a3, by simp [symF, econOldSym], by simp [symF, econOldSym]⟩
    · exact ⟨a4, by simp [symF, econOldSym], by simp [symF, econOldSym]⟩
    · exact ⟨a5, by simp [symF, econOldSym], by simp [symF, econOldSym]⟩
    · exact ⟨a6, by simp [symF, econOldSym], by simp [symF, econOldSym]⟩
  have hcase : (a13 < a12) ∨ (a13 = a12) ∨ (a12 < a13) := by omega
  rcases hcase with hc | hc | hc
  · exact Calls.of_treeX evMixed evNames econOldKnOK hone (fctOrc_ok (econOldF0_ok a0 a1 a2 a3 a4 a5 a6 a7 a8 a9 a10 a11 a12 a13 hc)) opEqOK (econOldKB0_ok a0 a1 a2 a3 a4 a5 a6 a7 a8 a9 a10 a11 a12 a13 w0 w1 w2 w3 w4 w5 w6 w7 w8 w9 w11 w12 w13 hc) hS (args := econOldArgs) (fun r hr => by simp [econOldArgs, ren, hr, symF, econOldSym]) econOldCheck0 w
  · exact Calls.of_treeX evMixed evNames econOldKnOK hone (fctOrc_ok (econOldF1_ok a0 a1 a2 a3 a4 a5 a6 a7 a8 a9 a10 a11 a12 a13 hc)) opEqOK (econOldKB1_ok a0 a1 a2 a3 a4 a5 a6 a7 a8 a9 a10 a11 a12 a13 w0 w1 w2 w3 w4 w5 w6 w7 w8 w9 w11 w12 w13 hc) hS (args := econOldArgs) (fun r hr => by simp [econOldArgs, ren, hr, symF, econOldSym]) econOldCheck1 w
  · exact Calls.of_treeX evMixed evNames econOldKnOK hone (fctOrc_ok (econOldF2_ok a0 a1 a2 a3 a4 a5 a6 a7 a8 a9 a10 a11 a12 a13 hc)) opEqOK (econOldKB2_ok a0 a1 a2 a3 a4 a5 a6 a7 a8 a9 a10 a11 a12 a13 w0 w1 w2 w3 w4 w5 w6 w7 w8 w9 w11 w12 w13 hc) hS (args := econOldArgs) (fun r hr => by simp [econOldArgs, ren, hr, symF, econOldSym]) econOldCheck2 w
end Go.Proofs.YtgfjamjngdbcdaaGreat
