/- What may be a request: op.May and the document's own May leave what one formula says. -/
import Derived.Test.YtblknjclkecglaaMayOT
import Derived.Test.YtblknjclkecglaaMayRT
import Derived.Test.YtblknjclkecglaaMayOF
import Derived.Test.YtblknjclkecglaaMayRF
import Derived.ProofKit
namespace Go.Proofs.Ytblknjclkecglaa
open Go.RowKit
set_option linter.unusedVariables false
set_option linter.unusedSimpArgs false
set_option maxRecDepth 100000

theorem mayOT (a0 a1 a2 : Int) (a3 a4 a5 a6 : ByteArray) (a7 a8 a9 a11 : Int) (w0 : (Lit.int .i64 a0).wf = true) (w1 : (Lit.int .i64 a1).wf = true) (w2 : (Lit.int .i64 a2).wf = true) (w7 : (Lit.int .i64 a7).wf = true) (w8 : (Lit.int .i64 a8).wf = true) (w9 : (Lit.int .i64 a9).wf = true) (w11 : (Lit.int .i64 a11).wf = true) (w3 : a3.size ≤ 10000) (w4 : a4.size ≤ 10000) (w5 : a5.size ≤ 10000) (w6 : a6.size ≤ 10000) (w : World) : Calls Try.prog 10 #[.agg #[.int .i64 a0, .int .i64 a1, .int .i64 a2, .string a3, .string a4, .string a5, .string a6, .int .i64 a7, .int .i64 a8, .int .i64 a9, .bool true, .int .i64 a11]] w fun e w' => e = .returned (.bool (mayFmT.val (symF (maySym a0 a1 a2 a3 a4 a5 a6 a7 a8 a9 a11)))) ∧ Below w.heap.size w w' := by
  have hone : ∀ q, (symF (maySym a0 a1 a2 a3 a4 a5 a6 a7 a8 a9 a11) q).oneCell' = true := symF_one (by intro p hp; simp [maySym] at hp; rcases hp with rfl | rfl | rfl | rfl | rfl | rfl | rfl | rfl | rfl | rfl | rfl | rfl | rfl | rfl | rfl <;> rfl)
  have hS : SOK [3, 4, 5, 6] (symF (maySym a0 a1 a2 a3 a4 a5 a6 a7 a8 a9 a11)) := by
    intro k hk
    simp only [List.mem_cons, List.not_mem_nil, or_false] at hk
    rcases hk with rfl | rfl | rfl | rfl
    · exact ⟨a3, by simp [symF, maySym], by simp [symF, maySym]⟩
    · exact ⟨a4, by simp [symF, maySym], by simp [symF, maySym]⟩
    · exact ⟨a5, by simp [symF, maySym], by simp [symF, maySym]⟩
    · exact ⟨a6, by simp [symF, maySym], by simp [symF, maySym]⟩
  exact Calls.of_treeF evMixed evNames hone (noOrc_ok _ _) (fun f m h => by cases h) opEqOK (mayKB_ok a0 a1 a2 a3 a4 a5 a6 a7 a8 a9 a11 w0 w1 w2 w7 w8 w9 w11 w3 w4 w5 w6) hS (tableL_self _) (noTab_ok _ _) (args := mayArgsT) (fun r hr => by simp [mayArgsT, ren, hr, symF, maySym]) mayOTCheck w (fun g => symF_glob rfl g)
theorem mayRT (a0 a1 a2 : Int) (a3 a4 a5 a6 : ByteArray) (a7 a8 a9 a11 : Int) (w0 : (Lit.int .i64 a0).wf = true) (w1 : (Lit.int .i64 a1).wf = true) (w2 : (Lit.int .i64 a2).wf = true) (w7 : (Lit.int .i64 a7).wf = true) (w8 : (Lit.int .i64 a8).wf = true) (w9 : (Lit.int .i64 a9).wf = true) (w11 : (Lit.int .i64 a11).wf = true) (w3 : a3.size ≤ 10000) (w4 : a4.size ≤ 10000) (w5 : a5.size ≤ 10000) (w6 : a6.size ≤ 10000) (w : World) : Calls Try.prog 19 #[.agg #[.int .i64 a0, .int .i64 a1, .int .i64 a2, .string a3, .string a4, .string a5, .string a6, .int .i64 a7, .int .i64 a8, .int .i64 a9, .bool true, .int .i64 a11]] w fun e w' => e = .returned (.bool (mayFmT.val (symF (maySym a0 a1 a2 a3 a4 a5 a6 a7 a8 a9 a11)))) ∧ Below w.heap.size w w' := by
  have hone : ∀ q, (symF (maySym a0 a1 a2 a3 a4 a5 a6 a7 a8 a9 a11) q).oneCell' = true := symF_one (by intro p hp; simp [maySym] at hp; rcases hp with rfl | rfl | rfl | rfl | rfl | rfl | rfl | rfl | rfl | rfl | rfl | rfl | rfl | rfl | rfl <;> rfl)
  have hS : SOK [3, 4, 5, 6] (symF (maySym a0 a1 a2 a3 a4 a5 a6 a7 a8 a9 a11)) := by
    intro k hk
    simp only [List.mem_cons, List.not_mem_nil, or_false] at hk
    rcases hk with rfl | rfl | rfl | rfl
    · exact ⟨a3, by simp [symF, maySym], by simp [symF, maySym]⟩
    · exact ⟨a4, by simp [symF, maySym], by simp [symF, maySym]⟩
    · exact ⟨a5, by simp [symF, maySym], by simp [symF, maySym]⟩
    · exact ⟨a6, by simp [symF, maySym], by simp [symF, maySym]⟩
  exact Calls.of_treeF evMixed evNames hone (noOrc_ok _ _) (fun f m h => by cases h) opEqOK (mayKB_ok a0 a1 a2 a3 a4 a5 a6 a7 a8 a9 a11 w0 w1 w2 w7 w8 w9 w11 w3 w4 w5 w6) hS (tableL_self _) (noTab_ok _ _) (args := mayArgsT) (fun r hr => by simp [mayArgsT, ren, hr, symF, maySym]) mayRTCheck w (fun g => symF_glob rfl g)
theorem mayOF (a0 a1 a2 : Int) (a3 a4 a5 a6 : ByteArray) (a7 a8 a9 a11 : Int) (w0 : (Lit.int .i64 a0).wf = true) (w1 : (Lit.int .i64 a1).wf = true) (w2 : (Lit.int .i64 a2).wf = true) (w7 : (Lit.int .i64 a7).wf = true) (w8 : (Lit.int .i64 a8).wf = true) (w9 : (Lit.int .i64 a9).wf = true) (w11 : (Lit.int .i64 a11).wf = true) (w3 : a3.size ≤ 10000) (w4 : a4.size ≤ 10000) (w5 : a5.size ≤ 10000) (w6 : a6.size ≤ 10000) (w : World) : Calls Try.prog 10 #[.agg #[.int .i64 a0, .int .i64 a1, .int .i64 a2, .string a3, .string a4, .string a5, .string a6, .int .i64 a7, .int .i64 a8, .int .i64 a9, .bool false, .int .i64 a11]] w fun e w' => e = .returned (.bool (mayFmF.val (symF (maySym a0 a1 a2 a3 a4 a5 a6 a7 a8 a9 a11)))) ∧ Below w.heap.size w w' := by
  have hone : ∀ q, (symF (maySym a0 a1 a2 a3 a4 a5 a6 a7 a8 a9 a11) q).oneCell' = true := symF_one (by intro p hp; simp [maySym] at hp; rcases hp with rfl | rfl | rfl | rfl | rfl | rfl | rfl | rfl | rfl | rfl | rfl | rfl | rfl | rfl | rfl <;> rfl)
  have hS : SOK [3, 4, 5, 6] (symF (maySym a0 a1 a2 a3 a4 a5 a6 a7 a8 a9 a11)) := by
    intro k hk
    simp only [List.mem_cons, List.not_mem_nil, or_false] at hk
    rcases hk with rfl | rfl | rfl | rfl
    · exact ⟨a3, by simp [symF, maySym], by simp [symF, maySym]⟩
    · exact ⟨a4, by simp [symF, maySym], by simp [symF, maySym]⟩
    · exact ⟨a5, by simp [symF, maySym], by simp [symF, maySym]⟩
    · exact ⟨a6, by simp [symF, maySym], by simp [symF, maySym]⟩
  exact Calls.of_treeF evMixed evNames hone (noOrc_ok _ _) (fun f m h => by cases h) opEqOK (mayKB_ok a0 a1 a2 a3 a4 a5 a6 a7 a8 a9 a11 w0 w1 w2 w7 w8 w9 w11 w3 w4 w5 w6) hS (tableL_self _) (noTab_ok _ _) (args := mayArgsF) (fun r hr => by simp [mayArgsF, ren, hr, symF, maySym]) mayOFCheck w (fun g => symF_glob rfl g)
theorem mayRF (a0 a1 a2 : Int) (a3 a4 a5 a6 : ByteArray) (a7 a8 a9 a11 : Int) (w0 : (Lit.int .i64 a0).wf = true) (w1 : (Lit.int .i64 a1).wf = true) (w2 : (Lit.int .i64 a2).wf = true) (w7 : (Lit.int .i64 a7).wf = true) (w8 : (Lit.int .i64 a8).wf = true) (w9 : (Lit.int .i64 a9).wf = true) (w11 : (Lit.int .i64 a11).wf = true) (w3 : a3.size ≤ 10000) (w4 : a4.size ≤ 10000) (w5 : a5.size ≤ 10000) (w6 : a6.size ≤ 10000) (w : World) : Calls Try.prog 19 #[.agg #[.int .i64 a0, .int .i64 a1, .int .i64 a2, .string a3, .string a4, .string a5, .string a6, .int .i64 a7, .int .i64 a8, .int .i64 a9, .bool false, .int .i64 a11]] w fun e w' => e = .returned (.bool (mayFmF.val (symF (maySym a0 a1 a2 a3 a4 a5 a6 a7 a8 a9 a11)))) ∧ Below w.heap.size w w' := by
  have hone : ∀ q, (symF (maySym a0 a1 a2 a3 a4 a5 a6 a7 a8 a9 a11) q).oneCell' = true := symF_one (by intro p hp; simp [maySym] at hp; rcases hp with rfl | rfl | rfl | rfl | rfl | rfl | rfl | rfl | rfl | rfl | rfl | rfl | rfl | rfl | rfl <;> rfl)
  have hS : SOK [3, 4, 5, 6] (symF (maySym a0 a1 a2 a3 a4 a5 a6 a7 a8 a9 a11)) := by
    intro k hk
    simp only [List.mem_cons, List.not_mem_nil, or_false] at hk
    rcases hk with rfl | rfl | rfl | rfl
    · exact ⟨a3, by simp [symF, maySym], by simp [symF, maySym]⟩
    · exact ⟨a4, by simp [symF, maySym], by simp [symF, maySym]⟩
    · exact ⟨a5, by simp [symF, maySym], by simp [symF, maySym]⟩
    · exact ⟨a6, by simp [symF, maySym], by simp [symF, maySym]⟩
  exact Calls.of_treeF evMixed evNames hone (noOrc_ok _ _) (fun f m h => by cases h) opEqOK (mayKB_ok a0 a1 a2 a3 a4 a5 a6 a7 a8 a9 a11 w0 w1 w2 w7 w8 w9 w11 w3 w4 w5 w6) hS (tableL_self _) (noTab_ok _ _) (args := mayArgsF) (fun r hr => by simp [mayArgsF, ren, hr, symF, maySym]) mayRFCheck w (fun g => symF_glob rfl g)
end Go.Proofs.Ytblknjclkecglaa
