/- satrapy/satrapylaw15.known: in parts: all of them. -/
import Derived.Test.YtgpnfhnnoiedfaaGreatDoorZoneKB0
import Derived.Test.YtgpnfhnnoiedfaaGreatDoorZoneKB1
import Derived.Test.YtgpnfhnnoiedfaaGreatDoorZoneKB2
import Derived.Test.YtgpnfhnnoiedfaaGreatDoorZoneKB3
import Derived.Test.YtgpnfhnnoiedfaaGreatDoorEwM8
import Derived.Test.YtgpnfhnnoiedfaaGreatDoorSortedAt2
import Derived.ProofKit
namespace Go.Proofs.YtgpnfhnnoiedfaaGreatDoor
open Go.RowKit
set_option linter.unusedVariables false
set_option linter.unusedSimpArgs false
set_option maxRecDepth 100000

theorem zoneKE410_is : EnFOK Tryz.prog SQG zoneKE410 := zoneKE410_ok 
theorem zoneKE306_is : EnFOK Tryz.prog SQG zoneKE306 := zoneKE306_ok 
theorem zoneKE298_is : EnFOK Tryz.prog SQG zoneKE298 := zoneKE298_ok zoneKE306_is zoneKE410_is
theorem zoneKE149_is : EnFOK Tryz.prog SQG zoneKE149 := zoneKE149_ok 
theorem zoneKE57_is : EnFOK Tryz.prog SQG zoneKE57 := zoneKE57_ok 
def zoneKSym : List (Nat × Value) := [(5000000, .nilFunc), (5000001, .nilFunc)]
theorem zoneKTop (s t : TypeId) : isTrueL (fCallT Tryz.prog zoneKOrc 100000 (cFnL Tryz.prog) (tabE [zoneKE57, zoneKE149, zoneKE298]) 90 18 [] ⟨twoRows gateLow gateHigh s t, 2, 2, [], []⟩) = true := by kernel_rfl
theorem zoneKKnown : KnG Tryz.prog 18 gateLow gateHigh := by
  intro w s t g0 g1
  have hone : ∀ q, (symF zoneKSym q).oneCell' = true := symF_one (by intro p hp; simp [zoneKSym] at hp; rcases hp with rfl | rfl <;> rfl)
  have hsq : SQG (symF zoneKSym) := ⟨by simp [symF, zoneKSym, gsym], by simp [symF, zoneKSym, gsym]⟩
  have hgl : ∀ g, symF zoneKSym (gsym g) = .nilFunc → g < 2 := fun g hg => by
    rcases Nat.lt_or_ge g 2 with h | h
    · exact h
    · exfalso
      have n : ∀ k : Nat, k < 5000002 → ¬ k = 5000000 + g := fun k hk => by omega
      simp only [gsym, symF, zoneKSym] at hg
      simp only [n 5000000 (by decide), n 5000001 (by decide), if_false] at hg
      cases hg
  have hmono : ∀ x, x = symF zoneKSym → SQG x := fun x hx => by rw [hx]; exact hsq
  exact Calls.of_fastT evMixed evNames hone ⟨OrcOK.weak hmono zoneKOrc_ok.1, zoneKOrc_ok.2⟩ (tableL_self _) ((tabE_ok (es := [zoneKE57, zoneKE149, zoneKE298]) (allCons zoneKE57_is (allCons zoneKE149_is (allCons zoneKE298_is allNil)))).mono hmono) (args := #[]) (fun r hr => by simp) w hgl twoRows_none (twoRows_holds (σ := symF zoneKSym) (a := gateLow) (b := gateHigh) rfl rfl g0 g1) (zoneKTop s t)
end Go.Proofs.YtgpnfhnnoiedfaaGreatDoor
