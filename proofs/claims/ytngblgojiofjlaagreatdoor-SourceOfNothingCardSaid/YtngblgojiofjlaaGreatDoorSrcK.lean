/- satrapy/satrapylaw22.known: in parts: all of them. -/
import Derived.Test.YtngblgojiofjlaaGreatDoorSrcKB0
import Derived.Test.YtngblgojiofjlaaGreatDoorSrcKB1
import Derived.Test.YtngblgojiofjlaaGreatDoorSrcKB2
import Derived.Test.YtngblgojiofjlaaGreatDoorSrcKB3
import Derived.Test.YtngblgojiofjlaaGreatDoorEwM8
import Derived.Test.YtngblgojiofjlaaGreatDoorSortedAt2
import Derived.ProofKit
namespace Go.Proofs.YtngblgojiofjlaaGreatDoor
open Go.RowKit
set_option linter.unusedVariables false
set_option linter.unusedSimpArgs false
set_option maxRecDepth 100000

theorem srcKE208_is : EnFOK Tryz.prog SQG srcKE208 := srcKE208_ok 
theorem srcKE154_is : EnFOK Tryz.prog SQG srcKE154 := srcKE154_ok 
theorem srcKE150_is : EnFOK Tryz.prog SQG srcKE150 := srcKE150_ok srcKE154_is srcKE208_is
theorem srcKE58_is : EnFOK Tryz.prog SQG srcKE58 := srcKE58_ok 
theorem srcKE1_is : EnFOK Tryz.prog SQG srcKE1 := srcKE1_ok srcKE58_is srcKE150_is
def srcKSym : List (Nat × Value) := [(5000000, .nilFunc), (5000001, .nilFunc)]
theorem srcKTop (s t : TypeId) : isTrueL (fCallT Tryz.prog srcKOrc 100000 (cFnL Tryz.prog) (tabE [srcKE1]) 90 11 [] ⟨twoRows gateLow gateHigh s t, 2, 2, [], []⟩) = true := by kernel_rfl
theorem srcKKnown : KnG Tryz.prog 11 gateLow gateHigh := by
  intro w s t g0 g1
  have hone : ∀ q, (symF srcKSym q).oneCell' = true := symF_one (by intro p hp; simp [srcKSym] at hp; rcases hp with rfl | rfl <;> rfl)
  have hsq : SQG (symF srcKSym) := ⟨by simp [symF, srcKSym, gsym], by simp [symF, srcKSym, gsym]⟩
  have hgl : ∀ g, symF srcKSym (gsym g) = .nilFunc → g < 2 := fun g hg => by
    rcases Nat.lt_or_ge g 2 with h | h
    · exact h
    · exfalso
      have n : ∀ k : Nat, k < 5000002 → ¬ k = 5000000 + g := fun k hk => by omega
      simp only [gsym, symF, srcKSym] at hg
      simp only [n 5000000 (by decide), n 5000001 (by decide), if_false] at hg
      cases hg
  have hmono : ∀ x, x = symF srcKSym → SQG x := fun x hx => by rw [hx]; exact hsq
  exact Calls.of_fastT evMixed evNames hone ⟨OrcOK.weak hmono srcKOrc_ok.1, srcKOrc_ok.2⟩ (tableL_self _) ((tabE_ok (es := [srcKE1]) (allCons srcKE1_is allNil)).mono hmono) (args := #[]) (fun r hr => by simp) w hgl twoRows_none (twoRows_holds (σ := symF srcKSym) (a := gateLow) (b := gateHigh) rfl rfl g0 g1) (srcKTop s t)
end Go.Proofs.YtngblgojiofjlaaGreatDoor
