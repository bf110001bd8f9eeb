/- LoadFades: runs (1). -/
import Derived.KernelRfl
import Derived.Test.YtpcedcfpfkdkhaaLoadH
namespace Go.Proofs.Ytpcedcfpfkdkhaa
open Go.RowKit
set_option linter.unusedVariables false
set_option linter.unusedSimpArgs false
set_option maxRecDepth 100000

theorem hitN1 : allB (fun i => okHit (ldT (Int.ofNat ((i + 60) + 1))) 3 (ldT (Int.ofNat ((i + 60) + 2)))) 60 = true := by kernel_rfl
theorem fadeN1 : allB (fun i => okFade (ldT (Int.ofNat ((i + 30) + 1))) 3 (half ((i + 30) + 1))) 30 = true := by kernel_rfl
theorem fadeN5 : allB (fun i => okFade (ldT (Int.ofNat ((i + 150) + 1))) 3 (half ((i + 150) + 1))) 30 = true := by kernel_rfl
theorem fadeN9 : allB (fun i => okFade (ldT (Int.ofNat ((i + 270) + 1))) 3 (half ((i + 270) + 1))) 30 = true := by kernel_rfl
theorem tabNN1 : allB (fun i => okTab (ldT (Int.ofNat ((i + 20) + 1))) 3 (ldR tabN (Int.ofNat ((i + 20) + 1))) tabK (.slice (some ⟨tabN, 0, none⟩) 1 capTop)) 20 = true := by kernel_rfl
theorem tabNN5 : allB (fun i => okTab (ldT (Int.ofNat ((i + 100) + 1))) 3 (ldR tabN (Int.ofNat ((i + 100) + 1))) tabK (.slice (some ⟨tabN, 0, none⟩) 1 capTop)) 20 = true := by kernel_rfl
theorem tabNN9 : allB (fun i => okTab (ldT (Int.ofNat ((i + 180) + 1))) 3 (ldR tabN (Int.ofNat ((i + 180) + 1))) tabK (.slice (some ⟨tabN, 0, none⟩) 1 capTop)) 20 = true := by kernel_rfl
theorem tabNN13 : allB (fun i => okTab (ldT (Int.ofNat ((i + 260) + 1))) 3 (ldR tabN (Int.ofNat ((i + 260) + 1))) tabK (.slice (some ⟨tabN, 0, none⟩) 1 capTop)) 20 = true := by kernel_rfl
end Go.Proofs.Ytpcedcfpfkdkhaa
