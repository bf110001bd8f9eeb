/- LoadFades: runs (3). -/
import Derived.KernelRfl
import Derived.Test.YtpcedcfpfkdkhaaLoadH
namespace Go.Proofs.Ytpcedcfpfkdkhaa
open Go.RowKit
set_option linter.unusedVariables false
set_option linter.unusedSimpArgs false
set_option maxRecDepth 100000

theorem hitN3 : allB (fun i => okHit (ldT (Int.ofNat ((i + 180) + 1))) 3 (ldT (Int.ofNat ((i + 180) + 2)))) 60 = true := by kernel_rfl
theorem fadeN3 : allB (fun i => okFade (ldT (Int.ofNat ((i + 90) + 1))) 3 (half ((i + 90) + 1))) 30 = true := by kernel_rfl
theorem fadeN7 : allB (fun i => okFade (ldT (Int.ofNat ((i + 210) + 1))) 3 (half ((i + 210) + 1))) 30 = true := by kernel_rfl
theorem tabNN3 : allB (fun i => okTab (ldT (Int.ofNat ((i + 60) + 1))) 3 (ldR tabN (Int.ofNat ((i + 60) + 1))) tabK (.slice (some ⟨tabN, 0, none⟩) 1 capTop)) 20 = true := by kernel_rfl
theorem tabNN7 : allB (fun i => okTab (ldT (Int.ofNat ((i + 140) + 1))) 3 (ldR tabN (Int.ofNat ((i + 140) + 1))) tabK (.slice (some ⟨tabN, 0, none⟩) 1 capTop)) 20 = true := by kernel_rfl
theorem tabNN11 : allB (fun i => okTab (ldT (Int.ofNat ((i + 220) + 1))) 3 (ldR tabN (Int.ofNat ((i + 220) + 1))) tabK (.slice (some ⟨tabN, 0, none⟩) 1 capTop)) 20 = true := by kernel_rfl
end Go.Proofs.Ytpcedcfpfkdkhaa
