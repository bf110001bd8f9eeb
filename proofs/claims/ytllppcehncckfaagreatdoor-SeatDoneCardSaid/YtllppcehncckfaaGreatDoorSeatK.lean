/- satrapy/satrapylaw18.known: in parts: all of them. -/
import Derived.Test.YtllppcehncckfaaGreatDoorSeatKB0
import Derived.Test.YtllppcehncckfaaGreatDoorSeatKB1
import Derived.Test.YtllppcehncckfaaGreatDoorSeatKB2
import Derived.Test.YtllppcehncckfaaGreatDoorSeatKB3
import Derived.Test.YtllppcehncckfaaGreatDoorEwM9
import Derived.Test.YtllppcehncckfaaGreatDoorSortedAt2
import Derived.ProofKit
namespace Go.Proofs.YtllppcehncckfaaGreatDoor
open Go.RowKit
set_option linter.unusedVariables false
set_option linter.unusedSimpArgs false
set_option maxRecDepth 100000

theorem seatKE1164_is : EnFOK Tryz.prog SQG seatKE1164 := seatKE1164_ok 
theorem seatKE1122_is : EnFOK Tryz.prog SQG seatKE1122 := seatKE1122_ok 
theorem seatKE1088_is : EnFOK Tryz.prog SQG seatKE1088 := seatKE1088_ok 
theorem seatKE1068_is : EnFOK Tryz.prog SQG seatKE1068 := seatKE1068_ok seatKE1088_is
theorem seatKE1034_is : EnFOK Tryz.prog SQG seatKE1034 := seatKE1034_ok seatKE1068_is
theorem seatKE1028_is : EnFOK Tryz.prog SQG seatKE1028 := seatKE1028_ok 
theorem seatKE981_is : EnFOK Tryz.prog SQG seatKE981 := seatKE981_ok 
theorem seatKE974_is : EnFOK Tryz.prog SQG seatKE974 := seatKE974_ok seatKE981_is seatKE1028_is
theorem seatKE927_is : EnFOK Tryz.prog SQG seatKE927 := seatKE927_ok 
theorem seatKE827_is : EnFOK Tryz.prog SQG seatKE827 := seatKE827_ok 
theorem seatKE719_is : EnFOK Tryz.prog SQG seatKE719 := seatKE719_ok 
theorem seatKE717_is : EnFOK Tryz.prog SQG seatKE717 := seatKE717_ok seatKE719_is seatKE827_is seatKE927_is seatKE974_is seatKE1034_is seatKE1122_is
theorem seatKE715_is : EnFOK Tryz.prog SQG seatKE715 := seatKE715_ok 
theorem seatKE679_is : EnFOK Tryz.prog SQG seatKE679 := seatKE679_ok 
theorem seatKE650_is : EnFOK Tryz.prog SQG seatKE650 := seatKE650_ok 
theorem seatKE610_is : EnFOK Tryz.prog SQG seatKE610 := seatKE610_ok 
theorem seatKE590_is : EnFOK Tryz.prog SQG seatKE590 := seatKE590_ok seatKE610_is
theorem seatKE555_is : EnFOK Tryz.prog SQG seatKE555 := seatKE555_ok seatKE590_is
theorem seatKE437_is : EnFOK Tryz.prog SQG seatKE437 := seatKE437_ok 
theorem seatKE382_is : EnFOK Tryz.prog SQG seatKE382 := seatKE382_ok seatKE437_is
theorem seatKE357_is : EnFOK Tryz.prog SQG seatKE357 := seatKE357_ok 
theorem seatKE333_is : EnFOK Tryz.prog SQG seatKE333 := seatKE333_ok 
theorem seatKE309_is : EnFOK Tryz.prog SQG seatKE309 := seatKE309_ok 
theorem seatKE285_is : EnFOK Tryz.prog SQG seatKE285 := seatKE285_ok 
theorem seatKE261_is : EnFOK Tryz.prog SQG seatKE261 := seatKE261_ok 
theorem seatKE237_is : EnFOK Tryz.prog SQG seatKE237 := seatKE237_ok 
theorem seatKE213_is : EnFOK Tryz.prog SQG seatKE213 := seatKE213_ok 
theorem seatKE189_is : EnFOK Tryz.prog SQG seatKE189 := seatKE189_ok 
theorem seatKE165_is : EnFOK Tryz.prog SQG seatKE165 := seatKE165_ok 
theorem seatKE125_is : EnFOK Tryz.prog SQG seatKE125 := seatKE125_ok 
theorem seatKE111_is : EnFOK Tryz.prog SQG seatKE111 := seatKE111_ok seatKE125_is
theorem seatKE97_is : EnFOK Tryz.prog SQG seatKE97 := seatKE97_ok seatKE111_is
theorem seatKE32_is : EnFOK Tryz.prog SQG seatKE32 := seatKE32_ok 
def seatKSym : List (Nat × Value) := [(5000000, .nilFunc), (5000001, .nilFunc)]
theorem seatKTop (s t : TypeId) : isTrueL (fCallT Tryz.prog seatKOrc 100000 (cFnL Tryz.prog) (tabE [seatKE32, seatKE97, seatKE165, seatKE189, seatKE213, seatKE237, seatKE261, seatKE285, seatKE309, seatKE333, seatKE357, seatKE382, seatKE555, seatKE650, seatKE679, seatKE715, seatKE717, seatKE1164]) 90 6 [] ⟨twoRows gateLow gateHigh s t, 2, 2, [], []⟩) = true := by kernel_rfl
theorem seatKKnown : KnG Tryz.prog 6 gateLow gateHigh := by
  intro w s t g0 g1
  have hone : ∀ q, (symF seatKSym q).oneCell' = true := symF_one (by intro p hp; simp [seatKSym] at hp; rcases hp with rfl | rfl <;> rfl)
  have hsq : SQG (symF seatKSym) := ⟨by simp [symF, seatKSym, gsym], by simp [symF, seatKSym, gsym]⟩
  have hgl : ∀ g, symF seatKSym (gsym g) = .nilFunc → g < 2 := fun g hg => by
    rcases Nat.lt_or_ge g 2 with h | h
    · exact h
    · exfalso
      have n : ∀ k : Nat, k < 5000002 → ¬ k = 5000000 + g := fun k hk => by omega
      simp only [gsym, symF, seatKSym] at hg
      simp only [n 5000000 (by decide), n 5000001 (by decide), if_false] at hg
      cases hg
  have hmono : ∀ x, x = symF seatKSym → SQG x := fun x hx => by rw [hx]; exact hsq
  exact Calls.of_fastT evMixed evNames hone ⟨OrcOK.weak hmono seatKOrc_ok.1, seatKOrc_ok.2⟩ (tableL_self _) ((tabE_ok (es := [seatKE32, seatKE97, seatKE165, seatKE189, seatKE213, seatKE237, seatKE261, seatKE285, seatKE309, seatKE333, seatKE357, seatKE382, seatKE555, seatKE650, seatKE679, seatKE715, seatKE717, seatKE1164]) (allCons seatKE32_is (allCons seatKE97_is (allCons seatKE165_is (allCons seatKE189_is (allCons seatKE213_is (allCons seatKE237_is (allCons seatKE261_is (allCons seatKE285_is (allCons seatKE309_is (allCons seatKE333_is (allCons seatKE357_is (allCons seatKE382_is (allCons seatKE555_is (allCons seatKE650_is (allCons seatKE679_is (allCons seatKE715_is (allCons seatKE717_is (allCons seatKE1164_is allNil))))))))))))))))))).mono hmono) (args := #[]) (fun r hr => by simp) w hgl twoRows_none (twoRows_holds (σ := symF seatKSym) (a := gateLow) (b := gateHigh) rfl rfl g0 g1) (seatKTop s t)
end Go.Proofs.YtllppcehncckfaaGreatDoor
