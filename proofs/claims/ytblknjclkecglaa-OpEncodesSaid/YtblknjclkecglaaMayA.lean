/- What may be a request: a formula; symbols. -/
import Derived.Test.YtblknjclkecglaaEwM9
import Derived.Test.YtblknjclkecglaaOpEqW
import Derived.ProofKit
namespace Go.Proofs.Ytblknjclkecglaa
open Go.RowKit
set_option linter.unusedVariables false
set_option linter.unusedSimpArgs false
set_option maxRecDepth 100000

def mayFmT : Fm := (.and (.and (.and (.no (.lt 1 1)) (.lt 1 1048577)) (.and (.and (.no (.lt 2 1)) (.lt 2 1099511627777)) (.and (.and (.no (.lt 1003 1)) (.lt 1003 17)) (.and (.no (.lt 1004 1)) (.lt 1004 17))))) (.and (.eq 0 3) (.and (.and (.no (.lt 7 1)) (.lt 7 4)) (.and (.and (.no (.lt 8 1)) (.lt 8 1048577)) (.and (.and (.no (.lt 9 1)) (.lt 9 1025)) (.and (.eq 1005 0) (.and (.eq 1006 0) (.eq 11 0))))))))
def mayFmF : Fm := (.and (.and (.and (.no (.lt 1 1)) (.lt 1 1048577)) (.and (.and (.no (.lt 2 1)) (.lt 2 1099511627777)) (.and (.and (.no (.lt 1003 1)) (.lt 1003 17)) (.and (.no (.lt 1004 1)) (.lt 1004 17))))) (.or (.and (.or (.eq 0 1) (.eq 0 6)) (.and (.and (.and (.no (.lt 7 0)) (.lt 7 4)) (.and (.no (.lt 8 1)) (.lt 8 1048577))) (.and (.eq 1005 0) (.and (.eq 1006 0) (.and (.eq 9 0) (.eq 11 0)))))) (.or (.and (.eq 0 2) (.and (.and (.and (.no (.lt 7 0)) (.lt 7 4)) (.and (.no (.lt 8 1)) (.lt 8 1048577))) (.and (.and (.no (.lt 1005 1)) (.lt 1005 17)) (.and (.and (.no (.lt 1006 1)) (.lt 1006 17)) (.and (.eq 9 0) (.eq 11 0)))))) (.or (.and (.eq 0 3) (.and (.and (.no (.lt 7 1)) (.lt 7 4)) (.and (.and (.no (.lt 8 1)) (.lt 8 1048577)) (.and (.and (.no (.lt 9 1)) (.lt 9 1025)) (.and (.eq 1005 0) (.and (.eq 1006 0) (.eq 11 0))))))) (.or (.and (.eq 0 4) (.and (.and (.no (.lt 11 1)) (.lt 11 1099511627777)) (.and (.eq 7 0) (.and (.eq 8 0) (.and (.eq 9 0) (.and (.eq 1005 0) (.eq 1006 0))))))) (.and (.or (.eq 0 5) (.eq 0 7)) (.and (.eq 7 0) (.and (.eq 8 0) (.and (.eq 9 0) (.and (.eq 11 0) (.and (.eq 1005 0) (.eq 1006 0))))))))))))
def maySym (a0 a1 a2 : Int) (a3 a4 a5 a6 : ByteArray) (a7 a8 a9 a11 : Int) : List (Nat × Value) := [(0, .int .i64 a0), (1, .int .i64 a1), (2, .int .i64 a2), (7, .int .i64 a7), (8, .int .i64 a8), (9, .int .i64 a9), (11, .int .i64 a11), (3, .string a3), (4, .string a4), (5, .string a5), (6, .string a6), (1003, .int .i64 a3.size), (1004, .int .i64 a4.size), (1005, .int .i64 a5.size), (1006, .int .i64 a6.size)]
def mayET : ET := [(25, opCK), (65, opCK)]
def mayKB : KB := [(0, ⟨-9223372036854775808, 9223372036854775807, []⟩), (1, ⟨-9223372036854775808, 9223372036854775807, []⟩), (2, ⟨-9223372036854775808, 9223372036854775807, []⟩), (7, ⟨-9223372036854775808, 9223372036854775807, []⟩), (8, ⟨-9223372036854775808, 9223372036854775807, []⟩), (9, ⟨-9223372036854775808, 9223372036854775807, []⟩), (11, ⟨-9223372036854775808, 9223372036854775807, []⟩), (1003, ⟨0, 10000, []⟩), (1004, ⟨0, 10000, []⟩), (1005, ⟨0, 10000, []⟩), (1006, ⟨0, 10000, []⟩)]
def mayArgsT : Array Value := #[.agg #[.chan (some 0), .chan (some 1), .chan (some 2), .chan (some 3), .chan (some 4), .chan (some 5), .chan (some 6), .chan (some 7), .chan (some 8), .chan (some 9), .bool true, .chan (some 11)]]
def mayArgsF : Array Value := #[.agg #[.chan (some 0), .chan (some 1), .chan (some 2), .chan (some 3), .chan (some 4), .chan (some 5), .chan (some 6), .chan (some 7), .chan (some 8), .chan (some 9), .bool false, .chan (some 11)]]
theorem mayKB_ok (a0 a1 a2 : Int) (a3 a4 a5 a6 : ByteArray) (a7 a8 a9 a11 : Int) (w0 : (Lit.int .i64 a0).wf = true) (w1 : (Lit.int .i64 a1).wf = true) (w2 : (Lit.int .i64 a2).wf = true) (w7 : (Lit.int .i64 a7).wf = true) (w8 : (Lit.int .i64 a8).wf = true) (w9 : (Lit.int .i64 a9).wf = true) (w11 : (Lit.int .i64 a11).wf = true) (w3 : a3.size ≤ 10000) (w4 : a4.size ≤ 10000) (w5 : a5.size ≤ 10000) (w6 : a6.size ≤ 10000) : KOK mayKB (symF (maySym a0 a1 a2 a3 a4 a5 a6 a7 a8 a9 a11)) := by
  have r0 : IntKind.i64.min ≤ a0 ∧ a0 ≤ IntKind.i64.max := by simpa [Lit.wf] using w0
  have r1 : IntKind.i64.min ≤ a1 ∧ a1 ≤ IntKind.i64.max := by simpa [Lit.wf] using w1
  have r2 : IntKind.i64.min ≤ a2 ∧ a2 ≤ IntKind.i64.max := by simpa [Lit.wf] using w2
  have r7 : IntKind.i64.min ≤ a7 ∧ a7 ≤ IntKind.i64.max := by simpa [Lit.wf] using w7
  have r8 : IntKind.i64.min ≤ a8 ∧ a8 ≤ IntKind.i64.max := by simpa [Lit.wf] using w8
  have r9 : IntKind.i64.min ≤ a9 ∧ a9 ≤ IntKind.i64.max := by simpa [Lit.wf] using w9
  have r11 : IntKind.i64.min ≤ a11 ∧ a11 ≤ IntKind.i64.max := by simpa [Lit.wf] using w11
  simp only [show IntKind.i64.min = -9223372036854775808 from rfl, show IntKind.i64.max = 9223372036854775807 from rfl] at r0 r1 r2 r7 r8 r9 r11
  intro k j h
  unfold mayKB at h
  unfold KB.find at h
  split at h
  · rename_i he
    injection h with h; subst h; dsimp only at he; subst he
    exact ⟨a0, by simp [symF, maySym], by show (-9223372036854775808 : Int) ≤ a0; omega, by show a0 ≤ (9223372036854775807 : Int); omega, by simp⟩
  unfold KB.find at h
  split at h
  · rename_i he
    injection h with h; subst h; dsimp only at he; subst he
    exact ⟨a1, by simp [symF, maySym], by show (-9223372036854775808 : Int) ≤ a1; omega, by show a1 ≤ (9223372036854775807 : Int); omega, by simp⟩
  unfold KB.find at h
  split at h
  · rename_i he
    injection h with h; subst h; dsimp only at he; subst he
    exact ⟨a2, by simp [symF, maySym], by show (-9223372036854775808 : Int) ≤ a2; omega, by show a2 ≤ (9223372036854775807 : Int); omega, by simp⟩
  unfold KB.find at h
  split at h
  · rename_i he
    injection h with h; subst h; dsimp only at he; subst he
    exact ⟨a7, by simp [symF, maySym], by show (-9223372036854775808 : Int) ≤ a7; omega, by show a7 ≤ (9223372036854775807 : Int); omega, by simp⟩
  unfold KB.find at h
  split at h
  · rename_i he
    injection h with h; subst h; dsimp only at he; subst he
    exact ⟨a8, by simp [symF, maySym], by show (-9223372036854775808 : Int) ≤ a8; omega, by show a8 ≤ (9223372036854775807 : Int); omega, by simp⟩
  unfold KB.find at h
  split at h
  · rename_i he
    injection h with h; subst h; dsimp only at he; subst he
    exact ⟨a9, by simp [symF, maySym], by show (-9223372036854775808 : Int) ≤ a9; omega, by show a9 ≤ (9223372036854775807 : Int); omega, by simp⟩
  unfold KB.find at h
  split at h
  · rename_i he
    injection h with h; subst h; dsimp only at he; subst he
    exact ⟨a11, by simp [symF, maySym], by show (-9223372036854775808 : Int) ≤ a11; omega, by show a11 ≤ (9223372036854775807 : Int); omega, by simp⟩
  unfold KB.find at h
  split at h
  · rename_i he
    injection h with h; subst h; dsimp only at he; subst he
    exact ⟨a3.size, by simp [symF, maySym], by show (0 : Int) ≤ (a3.size : Int); omega, by show (a3.size : Int) ≤ (10000 : Int); omega, by simp⟩
  unfold KB.find at h
  split at h
  · rename_i he
    injection h with h; subst h; dsimp only at he; subst he
    exact ⟨a4.size, by simp [symF, maySym], by show (0 : Int) ≤ (a4.size : Int); omega, by show (a4.size : Int) ≤ (10000 : Int); omega, by simp⟩
  unfold KB.find at h
  split at h
  · rename_i he
    injection h with h; subst h; dsimp only at he; subst he
    exact ⟨a5.size, by simp [symF, maySym], by show (0 : Int) ≤ (a5.size : Int); omega, by show (a5.size : Int) ≤ (10000 : Int); omega, by simp⟩
  unfold KB.find at h
  split at h
  · rename_i he
    injection h with h; subst h; dsimp only at he; subst he
    exact ⟨a6.size, by simp [symF, maySym], by show (0 : Int) ≤ (a6.size : Int); omega, by show (a6.size : Int) ≤ (10000 : Int); omega, by simp⟩
  cases h
end Go.Proofs.Ytblknjclkecglaa
