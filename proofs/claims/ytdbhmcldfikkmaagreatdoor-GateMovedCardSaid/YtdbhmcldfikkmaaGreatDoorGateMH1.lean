/- GateMoved: runs (1). -/
import Derived.KernelRfl
import Derived.Test.YtdbhmcldfikkmaaGreatDoorGateMH
namespace Go.Proofs.YtdbhmcldfikkmaaGreatDoor
open Go.RowKit
set_option linter.unusedVariables false
set_option linter.unusedSimpArgs false
set_option maxRecDepth 100000

theorem msgN1 (s t : TypeId) : allB (fun i => okMsg s t (i + 4)) 4 = true := by kernel_rfl
theorem msgN5 (s t : TypeId) : allB (fun i => okMsg s t (i + 20)) 4 = true := by kernel_rfl
theorem msgN9 (s t : TypeId) : allB (fun i => okMsg s t (i + 36)) 4 = true := by kernel_rfl
theorem msgN13 (s t : TypeId) : allB (fun i => okMsg s t (i + 52)) 4 = true := by kernel_rfl
theorem msgN17 (s t : TypeId) : allB (fun i => okMsg s t (i + 68)) 4 = true := by kernel_rfl
theorem msgN21 (s t : TypeId) : allB (fun i => okMsg s t (i + 84)) 4 = true := by kernel_rfl
theorem msgN25 (s t : TypeId) : allB (fun i => okMsg s t (i + 100)) 1 = true := by kernel_rfl
theorem hearL0 (s t : TypeId) : allB (fun i => okHearN gmFc s t (i + 0)) 3 = true := by kernel_rfl
theorem hearN3 (s t : TypeId) : allB (fun i => okHearN (gmFh (Int.ofNat (i + 17)) false) s t (i + 17)) 3 = true := by kernel_rfl
theorem hearN7 (s t : TypeId) : allB (fun i => okHearN (gmFh (Int.ofNat (i + 29)) false) s t (i + 29)) 3 = true := by kernel_rfl
theorem hearN11 (s t : TypeId) : allB (fun i => okHearN (gmFh (Int.ofNat (i + 41)) false) s t (i + 41)) 3 = true := by kernel_rfl
theorem hearN15 (s t : TypeId) : allB (fun i => okHearN (gmFh (Int.ofNat (i + 53)) false) s t (i + 53)) 3 = true := by kernel_rfl
theorem hearN19 (s t : TypeId) : allB (fun i => okHearN (gmFh (Int.ofNat (i + 65)) false) s t (i + 65)) 3 = true := by kernel_rfl
theorem hearN23 (s t : TypeId) : allB (fun i => okHearN (gmFh (Int.ofNat (i + 77)) false) s t (i + 77)) 3 = true := by kernel_rfl
theorem hearN27 (s t : TypeId) : allB (fun i => okHearN (gmFh (Int.ofNat (i + 89)) false) s t (i + 89)) 3 = true := by kernel_rfl
theorem hearY2 (s t : TypeId) : allB (fun i => okHearY s t (i + 10)) 1 = true := by kernel_rfl
end Go.Proofs.YtdbhmcldfikkmaaGreatDoor
