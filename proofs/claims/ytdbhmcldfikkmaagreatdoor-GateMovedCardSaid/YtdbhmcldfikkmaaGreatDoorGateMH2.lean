/- GateMoved: runs (2). -/
import Derived.KernelRfl
import Derived.Test.YtdbhmcldfikkmaaGreatDoorGateMH
namespace Go.Proofs.YtdbhmcldfikkmaaGreatDoor
open Go.RowKit
set_option linter.unusedVariables false
set_option linter.unusedSimpArgs false
set_option maxRecDepth 100000

theorem msgN2 (s t : TypeId) : allB (fun i => okMsg s t (i + 8)) 4 = true := by kernel_rfl
theorem msgN6 (s t : TypeId) : allB (fun i => okMsg s t (i + 24)) 4 = true := by kernel_rfl
theorem msgN10 (s t : TypeId) : allB (fun i => okMsg s t (i + 40)) 4 = true := by kernel_rfl
theorem msgN14 (s t : TypeId) : allB (fun i => okMsg s t (i + 56)) 4 = true := by kernel_rfl
theorem msgN18 (s t : TypeId) : allB (fun i => okMsg s t (i + 72)) 4 = true := by kernel_rfl
theorem msgN22 (s t : TypeId) : allB (fun i => okMsg s t (i + 88)) 4 = true := by kernel_rfl
theorem hearL1 (s t : TypeId) : allB (fun i => okHearN gmFc s t (i + 3)) 3 = true := by kernel_rfl
theorem hearN0 (s t : TypeId) : allB (fun i => okHearN (gmFh (Int.ofNat (i + 8)) false) s t (i + 8)) 3 = true := by kernel_rfl
theorem hearN4 (s t : TypeId) : allB (fun i => okHearN (gmFh (Int.ofNat (i + 20)) false) s t (i + 20)) 3 = true := by kernel_rfl
theorem hearN8 (s t : TypeId) : allB (fun i => okHearN (gmFh (Int.ofNat (i + 32)) false) s t (i + 32)) 3 = true := by kernel_rfl
theorem hearN12 (s t : TypeId) : allB (fun i => okHearN (gmFh (Int.ofNat (i + 44)) false) s t (i + 44)) 3 = true := by kernel_rfl
theorem hearN16 (s t : TypeId) : allB (fun i => okHearN (gmFh (Int.ofNat (i + 56)) false) s t (i + 56)) 3 = true := by kernel_rfl
theorem hearN20 (s t : TypeId) : allB (fun i => okHearN (gmFh (Int.ofNat (i + 68)) false) s t (i + 68)) 3 = true := by kernel_rfl
theorem hearN24 (s t : TypeId) : allB (fun i => okHearN (gmFh (Int.ofNat (i + 80)) false) s t (i + 80)) 3 = true := by kernel_rfl
theorem hearN28 (s t : TypeId) : allB (fun i => okHearN (gmFh (Int.ofNat (i + 92)) false) s t (i + 92)) 3 = true := by kernel_rfl
theorem hearY3 (s t : TypeId) : allB (fun i => okHearY s t (i + 11)) 1 = true := by kernel_rfl
end Go.Proofs.YtdbhmcldfikkmaaGreatDoor
