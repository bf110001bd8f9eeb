/- LoadFades: runs (2). -/
import Derived.KernelRfl
import Derived.Test.YtpcedcfpfkdkhaaLoadH
namespace Go.Proofs.Ytpcedcfpfkdkhaa
open Go.RowKit
set_option linter.unusedVariables false
set_option linter.unusedSimpArgs false
set_option maxRecDepth 100000

theorem hitN2 : allB (fun i => okHit (ldT (Int.ofNat ((i + 120) + 1))) 3 (ldT (Int.ofNat ((i + 120) + 2)))) 60 = true := by kernel_rfl
theorem fadeN2 : allB (fun i => okFade (ldT (Int.ofNat ((i + 60) + 1))) 3 (half ((i + 60) + 1))) 30 = true := by kernel_rfl
theorem fadeN6 : allB (fun i => okFade (ldT (Int.ofNat ((i + 180) + 1))) 3 (half ((i + 180) + 1))) 30 = true := by kernel_rfl
theorem tabNN2 : allB (fun i => okTab (ldT (Int.ofNat ((i + 40) + 1))) 3 (ldR tabN (Int.ofNat ((i + 40) + 1))) tabK (.slice (some ⟨tabN, 0, none⟩) 1 capTop)) 20 = true := by kernel_rfl
theorem tabNN6 : allB (fun i => okTab (ldT (Int.ofNat ((i + 120) + 1))) 3 (ldR tabN (Int.ofNat ((i + 120) + 1))) tabK (.slice (some ⟨tabN, 0, none⟩) 1 capTop)) 20 = true := by kernel_rfl
theorem tabNN10 : allB (fun i => okTab (ldT (Int.ofNat ((i + 200) + 1))) 3 (ldR tabN (Int.ofNat ((i + 200) + 1))) tabK (.slice (some ⟨tabN, 0, none⟩) 1 capTop)) 20 = true := by kernel_rfl
theorem tabNN14 : allB (fun i => okTab (ldT (Int.ofNat ((i + 280) + 1))) 3 (ldR tabN (Int.ofNat ((i + 280) + 1))) tabK (.slice (some ⟨tabN, 0, none⟩) 1 capTop)) 20 = true := by kernel_rfl
end Go.Proofs.Ytpcedcfpfkdkhaa
