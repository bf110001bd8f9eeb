/- satrapy/satrapylaw25.known: in parts: all of them. -/
import Derived.Test.YtdbhmcldfikkmaaGreatDoorGateKB0
import Derived.Test.YtdbhmcldfikkmaaGreatDoorEwM8
import Derived.ProofKit
namespace Go.Proofs.YtdbhmcldfikkmaaGreatDoor
open Go.RowKit
set_option linter.unusedVariables false
set_option linter.unusedSimpArgs false
set_option maxRecDepth 100000

theorem gateKE16_is : EnFOK Tryz.prog SQG gateKE16 := gateKE16_ok 
def gateKSym : List (Nat × Value) := [(5000000, .nilFunc), (5000001, .nilFunc)]
theorem gateKTop (s t : TypeId) : isTrueL (fCallT Tryz.prog gateKOrc 100000 (cFnL Tryz.prog) (tabE [gateKE16]) 90 4 [] ⟨twoRows gateLow gateHigh s t, 2, 2, [], []⟩) = true := by kernel_rfl
theorem gateKKnown : KnG Tryz.prog 4 gateLow gateHigh := by
  intro w s t g0 g1
  have hone : ∀ q, (symF gateKSym q).oneCell' = true := symF_one (by intro p hp; simp [gateKSym] at hp; rcases hp with rfl | rfl <;> rfl)
  have hsq : SQG (symF gateKSym) := ⟨by simp [symF, gateKSym, gsym], by simp [symF, gateKSym, gsym]⟩
  have hgl : ∀ g, symF gateKSym (gsym g) = .nilFunc → g < 2 := fun g hg => by
    rcases Nat.lt_or_ge g 2 with h | h
    · exact h
    · exfalso
      have n : ∀ k : Nat, k < 5000002 → ¬ k = 5000000 + g := fun k hk => by omega
      simp only [gsym, symF, gateKSym] at hg
      simp only [n 5000000 (by decide), n 5000001 (by decide), if_false] at hg
      cases hg
  have hmono : ∀ x, x = symF gateKSym → SQG x := fun x hx => by rw [hx]; exact hsq
  exact Calls.of_fastT evMixed evNames hone ⟨OrcOK.weak hmono gateKOrc_ok.1, gateKOrc_ok.2⟩ (tableL_self _) ((tabE_ok (es := [gateKE16]) (allCons gateKE16_is allNil)).mono hmono) (args := #[]) (fun r hr => by simp) w hgl twoRows_none (twoRows_holds (σ := symF gateKSym) (a := gateLow) (b := gateHigh) rfl rfl g0 g1) (gateKTop s t)
end Go.Proofs.YtdbhmcldfikkmaaGreatDoor
