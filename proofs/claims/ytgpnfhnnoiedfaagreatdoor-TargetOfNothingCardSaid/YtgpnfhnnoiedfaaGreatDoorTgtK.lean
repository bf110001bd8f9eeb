/- satrapy/satrapylaw23.known: in parts: all of them. -/
import Derived.Test.YtgpnfhnnoiedfaaGreatDoorTgtKB0
import Derived.Test.YtgpnfhnnoiedfaaGreatDoorTgtKB1
import Derived.Test.YtgpnfhnnoiedfaaGreatDoorEwM8
import Derived.Test.YtgpnfhnnoiedfaaGreatDoorSortedAt2
import Derived.ProofKit
namespace Go.Proofs.YtgpnfhnnoiedfaaGreatDoor
open Go.RowKit
set_option linter.unusedVariables false
set_option linter.unusedSimpArgs false
set_option maxRecDepth 100000

theorem tgtKE74_is : EnFOK Tryz.prog SQG tgtKE74 := tgtKE74_ok 
theorem tgtKE15_is : EnFOK Tryz.prog SQG tgtKE15 := tgtKE15_ok tgtKE74_is
def tgtKSym : List (Nat × Value) := [(5000000, .nilFunc), (5000001, .nilFunc)]
theorem tgtKTop (s t : TypeId) : isTrueL (fCallT Tryz.prog tgtKOrc 100000 (cFnL Tryz.prog) (tabE [tgtKE15]) 90 23 [] ⟨twoRows gateLow gateHigh s t, 2, 2, [], []⟩) = true := by kernel_rfl
theorem tgtKKnown : KnG Tryz.prog 23 gateLow gateHigh := by
  intro w s t g0 g1
  have hone : ∀ q, (symF tgtKSym q).oneCell' = true := symF_one (by intro p hp; simp [tgtKSym] at hp; rcases hp with rfl | rfl <;> rfl)
  have hsq : SQG (symF tgtKSym) := ⟨by simp [symF, tgtKSym, gsym], by simp [symF, tgtKSym, gsym]⟩
  have hgl : ∀ g, symF tgtKSym (gsym g) = .nilFunc → g < 2 := fun g hg => by
    rcases Nat.lt_or_ge g 2 with h | h
    · exact h
    · exfalso
      have n : ∀ k : Nat, k < 5000002 → ¬ k = 5000000 + g := fun k hk => by omega
      simp only [gsym, symF, tgtKSym] at hg
      simp only [n 5000000 (by decide), n 5000001 (by decide), if_false] at hg
      cases hg
  have hmono : ∀ x, x = symF tgtKSym → SQG x := fun x hx => by rw [hx]; exact hsq
  exact Calls.of_fastT evMixed evNames hone ⟨OrcOK.weak hmono tgtKOrc_ok.1, tgtKOrc_ok.2⟩ (tableL_self _) ((tabE_ok (es := [tgtKE15]) (allCons tgtKE15_is allNil)).mono hmono) (args := #[]) (fun r hr => by simp) w hgl twoRows_none (twoRows_holds (σ := symF tgtKSym) (a := gateLow) (b := gateHigh) rfl rfl g0 g1) (tgtKTop s t)
end Go.Proofs.YtgpnfhnnoiedfaaGreatDoor
