/- OpKinds: the walk of the statement, by the evaluator and trees of questions. -/
import Derived.Test.YtliljfncbljfpaaOpKc0
import Derived.Test.YtliljfncbljfpaaOpKc1
import Derived.Test.YtliljfncbljfpaaOpKc2
import Derived.Test.YtliljfncbljfpaaOpKc3
import Derived.Test.YtliljfncbljfpaaOpKc4
import Derived.Test.YtliljfncbljfpaaOpKc5
import Derived.Test.YtliljfncbljfpaaOpKc6
import Derived.Test.YtliljfncbljfpaaOpKc7
import Derived.ProofKit
namespace Go.Proofs.Ytliljfncbljfpaa
open Go.RowKit
set_option linter.unusedVariables false
set_option linter.unusedSimpArgs false
set_option maxRecDepth 100000

theorem wrap_i64_range (n : Int) : -9223372036854775808 ≤ IntKind.i64.wrap n ∧ IntKind.i64.wrap n ≤ 9223372036854775807 := by
  unfold IntKind.wrap IntKind.bits IntKind.signed
  simp
  split <;> omega
theorem opkKB_ok (a0 a1 a2 : Int) (a3 a4 a5 a6 : ByteArray) (a7 a8 a9 : Int) (a10 : Bool) (a11 a12 : Int) (w0 : (Lit.int .i64 a0).wf = true) (w1 : (Lit.int .i64 a1).wf = true) (w2 : (Lit.int .i64 a2).wf = true) (w3 : a3.size ≤ maxLen) (w4 : a4.size ≤ maxLen) (w5 : a5.size ≤ maxLen) (w6 : a6.size ≤ maxLen) (w7 : (Lit.int .i64 a7).wf = true) (w8 : (Lit.int .i64 a8).wf = true) (w9 : (Lit.int .i64 a9).wf = true) (w11 : (Lit.int .i64 a11).wf = true) (w12 : (Lit.int .i64 a12).wf = true) (i s : Info) (hi : i.has a11) (hs : s.has (IntKind.i64.wrap (a11 + 1099511627776))) : KOK (opkKB i s) (symF (opkSym a0 a1 a2 a3 a4 a5 a6 a7 a8 a9 a10 a11 a12)) := by
  have r0 : IntKind.i64.min ≤ a0 ∧ a0 ≤ IntKind.i64.max := by simpa [Lit.wf] using w0
  have r1 : IntKind.i64.min ≤ a1 ∧ a1 ≤ IntKind.i64.max := by simpa [Lit.wf] using w1
  have r2 : IntKind.i64.min ≤ a2 ∧ a2 ≤ IntKind.i64.max := by simpa [Lit.wf] using w2
  have r7 : IntKind.i64.min ≤ a7 ∧ a7 ≤ IntKind.i64.max := by simpa [Lit.wf] using w7
  have r8 : IntKind.i64.min ≤ a8 ∧ a8 ≤ IntKind.i64.max := by simpa [Lit.wf] using w8
  have r9 : IntKind.i64.min ≤ a9 ∧ a9 ≤ IntKind.i64.max := by simpa [Lit.wf] using w9
  have r12 : IntKind.i64.min ≤ a12 ∧ a12 ≤ IntKind.i64.max := by simpa [Lit.wf] using w12
  simp only [show IntKind.i64.min = -9223372036854775808 from rfl, show IntKind.i64.max = 9223372036854775807 from rfl] at r0 r1 r2 r7 r8 r9 r12
  unfold maxLen at w3 w4 w5 w6
  intro k j h
  unfold opkKB at h
  unfold KB.find at h
  split at h
  · rename_i he
    injection h with h; subst h; dsimp only at he; subst he
    exact ⟨a0, by simp [symF, opkSym], r0.1, r0.2, by simp⟩
  unfold KB.find at h
  split at h
  · rename_i he
    injection h with h; subst h; dsimp only at he; subst he
    exact ⟨a1, by simp [symF, opkSym], r1.1, r1.2, by simp⟩
  unfold KB.find at h
  split at h
  · rename_i he
    injection h with h; subst h; dsimp only at he; subst he
    exact ⟨a2, by simp [symF, opkSym], r2.1, r2.2, by simp⟩
  unfold KB.find at h
  split at h
  · rename_i he
    injection h with h; subst h; dsimp only at he; subst he
    exact ⟨a7, by simp [symF, opkSym], r7.1, r7.2, by simp⟩
  unfold KB.find at h
  split at h
  · rename_i he
    injection h with h; subst h; dsimp only at he; subst he
    exact ⟨a8, by simp [symF, opkSym], r8.1, r8.2, by simp⟩
  unfold KB.find at h
  split at h
  · rename_i he
    injection h with h; subst h; dsimp only at he; subst he
    exact ⟨a9, by simp [symF, opkSym], r9.1, r9.2, by simp⟩
  unfold KB.find at h
  split at h
  · rename_i he
    injection h with h; subst h; dsimp only at he; subst he
    exact ⟨a11, by simp [symF, opkSym], hi⟩
  unfold KB.find at h
  split at h
  · rename_i he
    injection h with h; subst h; dsimp only at he; subst he
    exact ⟨a12, by simp [symF, opkSym], r12.1, r12.2, by simp⟩
  unfold KB.find at h
  split at h
  · rename_i he
    injection h with h; subst h; dsimp only at he; subst he
    exact ⟨a12 % 8, by simp [symF, opkSym], by show (0 : Int) ≤ a12 % 8; omega, by show a12 % 8 ≤ 7; omega, by simp⟩
  unfold KB.find at h
  split at h
  · rename_i he
    injection h with h; subst h; dsimp only at he; subst he
    exact ⟨_, by simp [symF, opkSym], hs⟩
  unfold KB.find at h
  split at h
  · rename_i he
    injection h with h; subst h; dsimp only at he; subst he
    exact ⟨a3.size, by simp [symF, opkSym], Int.natCast_nonneg _, by show (a3.size : Int) ≤ 9223372036854775807; omega, by simp⟩
  unfold KB.find at h
  split at h
  · rename_i he
    injection h with h; subst h; dsimp only at he; subst he
    exact ⟨a4.size, by simp [symF, opkSym], Int.natCast_nonneg _, by show (a4.size : Int) ≤ 9223372036854775807; omega, by simp⟩
  unfold KB.find at h
  split at h
  · rename_i he
    injection h with h; subst h; dsimp only at he; subst he
    exact ⟨a5.size, by simp [symF, opkSym], Int.natCast_nonneg _, by show (a5.size : Int) ≤ 9223372036854775807; omega, by simp⟩
  unfold KB.find at h
  split at h
  · rename_i he
    injection h with h; subst h; dsimp only at he; subst he
    exact ⟨a6.size, by simp [symF, opkSym], Int.natCast_nonneg _, by show (a6.size : Int) ≤ 9223372036854775807; omega, by simp⟩
  cases h
theorem and7 (n : Int) : Op.intBits .and .i64 n 7 = pure (.int .i64 (n % 8)) := by
  have h0 : IntKind.i64.bits = 64 := rfl
  unfold Op.intBits
  simp only [BitVec.toNat_and, BitVec.toNat_ofInt]
  have e1 : ((7 : Int) % (2 ^ IntKind.i64.bits : Nat)).toNat = 7 := by rw [h0]; rfl
  have e2 : ∀ m : Nat, m &&& 7 = m % 8 := fun m => Nat.and_two_pow_sub_one_eq_mod m 3
  rw [e1, e2, h0]
  have e3 : (((n % ((2 ^ 64 : Nat) : Int)).toNat % 8 : Nat) : Int) = n % 8 := by omega
  rw [e3]
  have e4 : IntKind.i64.wrap (n % 8) = n % 8 := by
    unfold IntKind.wrap IntKind.bits IntKind.signed
    simp
    omega
  rw [e4]
theorem opkDer_ok (a0 a1 a2 : Int) (a3 a4 a5 a6 : ByteArray) (a7 a8 a9 : Int) (a10 : Bool) (a11 a12 : Int) : DerOK Try.prog opkDer (symF (opkSym a0 a1 a2 a3 a4 a5 a6 a7 a8 a9 a10 a11 a12)) := by
  intro p hp
  simp only [opkDer, List.mem_cons, List.not_mem_nil, or_false] at hp
  rcases hp with rfl | rfl
  · refine ⟨a12, by simp [symF, opkSym], fun t x y w => ?_⟩
    have h1 : (eqGuard .and t x y (.int .i64 a12) (.int .i64 7)).run Try.prog w = .ok () w := rfl
    rw [Sem.run_bind, h1]
    simp only [Result.andThen_ok, binOp, ne_eq, not_true_eq_false, if_false, and7]
    simp [symF, opkSym]
  · refine ⟨a11, by simp [symF, opkSym], fun t x y w => ?_⟩
    have h1 : (eqGuard .add t x y (.int .i64 a11) (.int .i64 1099511627776)).run Try.prog w = .ok () w := rfl
    rw [Sem.run_bind, h1]
    simp [binOp, Op.intArith, symF, opkSym]
theorem walkOpKinds (a0 a1 a2 : Int) (a3 a4 a5 a6 : ByteArray) (a7 a8 a9 : Int) (a10 : Bool) (a11 a12 : Int) (w0 : (Lit.int .i64 a0).wf = true) (w1 : (Lit.int .i64 a1).wf = true) (w2 : (Lit.int .i64 a2).wf = true) (w3 : a3.size ≤ maxLen) (w4 : a4.size ≤ maxLen) (w5 : a5.size ≤ maxLen) (w6 : a6.size ≤ maxLen) (w7 : (Lit.int .i64 a7).wf = true) (w8 : (Lit.int .i64 a8).wf = true) (w9 : (Lit.int .i64 a9).wf = true) (w11 : (Lit.int .i64 a11).wf = true) (w12 : (Lit.int .i64 a12).wf = true) (w : World) :
    Calls Try.prog 7 #[.agg #[.int .i64 a0, .int .i64 a1, .int .i64 a2, .string a3, .string a4, .string a5, .string a6, .int .i64 a7, .int .i64 a8, .int .i64 a9, .bool a10, .int .i64 a11], .int .i64 a12] w fun e' w' => e' = .returned (.bool true) ∧ Below w.heap.size w w' := by
  have hone : ∀ q, (symF (opkSym a0 a1 a2 a3 a4 a5 a6 a7 a8 a9 a10 a11 a12) q).oneCell' = true := symF_one (by intro p hp; simp [opkSym] at hp; rcases hp with rfl | rfl | rfl | rfl | rfl | rfl | rfl | rfl | rfl | rfl | rfl | rfl | rfl | rfl | rfl | rfl | rfl | rfl | rfl <;> rfl)
  have hS : SOK [3, 4, 5, 6] (symF (opkSym a0 a1 a2 a3 a4 a5 a6 a7 a8 a9 a10 a11 a12)) := by
    intro k hk
    simp only [List.mem_cons, List.not_mem_nil, or_false] at hk
    rcases hk with rfl | rfl | rfl | rfl
    · exact ⟨a3, by simp [symF, opkSym], by simp [symF, opkSym]⟩
    · exact ⟨a4, by simp [symF, opkSym], by simp [symF, opkSym]⟩
    · exact ⟨a5, by simp [symF, opkSym], by simp [symF, opkSym]⟩
    · exact ⟨a6, by simp [symF, opkSym], by simp [symF, opkSym]⟩
  have r11 : IntKind.i64.min ≤ a11 ∧ a11 ≤ IntKind.i64.max := by simpa [Lit.wf] using w11
  simp only [show IntKind.i64.min = -9223372036854775808 from rfl, show IntKind.i64.max = 9223372036854775807 from rfl] at r11
  have hW := wrap_i64_range (a11 + 1099511627776)
  have hin : 0 ≤ a11 → a11 ≤ 1099511627776 → IntKind.i64.wrap (a11 + 1099511627776) = a11 + 1099511627776 := fun h1 h2 => IntWalk.i64_in _ (by omega)
  have hD := opkDer_ok a0 a1 a2 a3 a4 a5 a6 a7 a8 a9 a10 a11 a12
  have hK := opkKB_ok a0 a1 a2 a3 a4 a5 a6 a7 a8 a9 a10 a11 a12 w0 w1 w2 w3 w4 w5 w6 w7 w8 w9 w11 w12
  clear w0 w1 w2 w3 w4 w5 w6 w7 w8 w9 w11 w12
  have hcase : (a11 = 0) ∨ (1 ≤ a11 ∧ a11 ≤ 1099511627776) ∨ (a11 < 0) ∨ (1099511627776 < a11) := by omega
  cases a10 with
  | true =>
    rcases hcase with hc | hc | hc | hc
    · exact Calls.of_treeD evMixed evNames opkKnOK hone hD opEqOK (hK _ _ (by unfold Info.has; dsimp only; refine ⟨by omega, by omega, by simp⟩) (by rw [hin (by omega) (by omega)]; unfold Info.has; dsimp only; refine ⟨by omega, by omega, by simp⟩)) hS (args := opkArgs true) (fun r hr => by simp [opkArgs, ren, hr, symF, opkSym]) opkCheck0 w
    · exact Calls.of_treeD evMixed evNames opkKnOK hone hD opEqOK (hK _ _ (by unfold Info.has; dsimp only; refine ⟨by omega, by omega, by simp⟩) (by rw [hin (by omega) (by omega)]; unfold Info.has; dsimp only; refine ⟨by omega, by omega, by simp⟩)) hS (args := opkArgs true) (fun r hr => by simp [opkArgs, ren, hr, symF, opkSym]) opkCheck1 w
    · exact Calls.of_treeD evMixed evNames opkKnOK hone hD opEqOK (hK _ _ (by unfold Info.has; dsimp only; refine ⟨by omega, by omega, by simp⟩) (by unfold opkBig Info.has; dsimp only; exact ⟨hW.1, hW.2, by simp⟩)) hS (args := opkArgs true) (fun r hr => by simp [opkArgs, ren, hr, symF, opkSym]) opkCheck2 w
    · exact Calls.of_treeD evMixed evNames opkKnOK hone hD opEqOK (hK _ _ (by unfold Info.has; dsimp only; refine ⟨by omega, by omega, by simp⟩) (by unfold opkBig Info.has; dsimp only; exact ⟨hW.1, hW.2, by simp⟩)) hS (args := opkArgs true) (fun r hr => by simp [opkArgs, ren, hr, symF, opkSym]) opkCheck3 w
  | false =>
    rcases hcase with hc | hc | hc | hc
    · exact Calls.of_treeD evMixed evNames opkKnOK hone hD opEqOK (hK _ _ (by unfold Info.has; dsimp only; refine ⟨by omega, by omega, by simp⟩) (by rw [hin (by omega) (by omega)]; unfold Info.has; dsimp only; refine ⟨by omega, by omega, by simp⟩)) hS (args := opkArgs false) (fun r hr => by simp [opkArgs, ren, hr, symF, opkSym]) opkCheck4 w
    · exact Calls.of_treeD evMixed evNames opkKnOK hone hD opEqOK (hK _ _ (by unfold Info.has; dsimp only; refine ⟨by omega, by omega, by simp⟩) (by rw [hin (by omega) (by omega)]; unfold Info.has; dsimp only; refine ⟨by omega, by omega, by simp⟩)) hS (args := opkArgs false) (fun r hr => by simp [opkArgs, ren, hr, symF, opkSym]) opkCheck5 w
    · exact Calls.of_treeD evMixed evNames opkKnOK hone hD opEqOK (hK _ _ (by unfold Info.has; dsimp only; refine ⟨by omega, by omega, by simp⟩) (by unfold opkBig Info.has; dsimp only; exact ⟨hW.1, hW.2, by simp⟩)) hS (args := opkArgs false) (fun r hr => by simp [opkArgs, ren, hr, symF, opkSym]) opkCheck6 w
    · exact Calls.of_treeD evMixed evNames opkKnOK hone hD opEqOK (hK _ _ (by unfold Info.has; dsimp only; refine ⟨by omega, by omega, by simp⟩) (by unfold opkBig Info.has; dsimp only; exact ⟨hW.1, hW.2, by simp⟩)) hS (args := opkArgs false) (fun r hr => by simp [opkArgs, ren, hr, symF, opkSym]) opkCheck7 w
end Go.Proofs.Ytliljfncbljfpaa
