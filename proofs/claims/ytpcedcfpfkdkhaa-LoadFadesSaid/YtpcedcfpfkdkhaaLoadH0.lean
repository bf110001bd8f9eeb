/- LoadFades: runs (0). -/
import Derived.KernelRfl
import Derived.Test.YtpcedcfpfkdkhaaLoadH
namespace Go.Proofs.Ytpcedcfpfkdkhaa
open Go.RowKit
set_option linter.unusedVariables false
set_option linter.unusedSimpArgs false
set_option maxRecDepth 100000

theorem hitN0 : allB (fun i => okHit (ldT (Int.ofNat ((i + 0) + 1))) 3 (ldT (Int.ofNat ((i + 0) + 2)))) 60 = true := by kernel_rfl
theorem hitN4 : allB (fun i => okHit (ldT (Int.ofNat ((i + 240) + 1))) 3 (ldT (Int.ofNat ((i + 240) + 2)))) 60 = true := by kernel_rfl
theorem fadeN0 : allB (fun i => okFade (ldT (Int.ofNat ((i + 0) + 1))) 3 (half ((i + 0) + 1))) 30 = true := by kernel_rfl
theorem fadeN4 : allB (fun i => okFade (ldT (Int.ofNat ((i + 120) + 1))) 3 (half ((i + 120) + 1))) 30 = true := by kernel_rfl
theorem fadeN8 : allB (fun i => okFade (ldT (Int.ofNat ((i + 240) + 1))) 3 (half ((i + 240) + 1))) 30 = true := by kernel_rfl
theorem tabNN0 : allB (fun i => okTab (ldT (Int.ofNat ((i + 0) + 1))) 3 (ldR tabN (Int.ofNat ((i + 0) + 1))) tabK (.slice (some ⟨tabN, 0, none⟩) 1 capTop)) 20 = true := by kernel_rfl
theorem tabNN4 : allB (fun i => okTab (ldT (Int.ofNat ((i + 80) + 1))) 3 (ldR tabN (Int.ofNat ((i + 80) + 1))) tabK (.slice (some ⟨tabN, 0, none⟩) 1 capTop)) 20 = true := by kernel_rfl
theorem tabNN8 : allB (fun i => okTab (ldT (Int.ofNat ((i + 160) + 1))) 3 (ldR tabN (Int.ofNat ((i + 160) + 1))) tabK (.slice (some ⟨tabN, 0, none⟩) 1 capTop)) 20 = true := by kernel_rfl
theorem tabNN12 : allB (fun i => okTab (ldT (Int.ofNat ((i + 240) + 1))) 3 (ldR tabN (Int.ofNat ((i + 240) + 1))) tabK (.slice (some ⟨tabN, 0, none⟩) 1 capTop)) 20 = true := by kernel_rfl
end Go.Proofs.Ytpcedcfpfkdkhaa
