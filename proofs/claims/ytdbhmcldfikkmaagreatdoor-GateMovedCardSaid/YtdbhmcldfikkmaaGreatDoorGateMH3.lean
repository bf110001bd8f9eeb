/- GateMoved: runs (3). -/
import Derived.KernelRfl
import Derived.Test.YtdbhmcldfikkmaaGreatDoorGateMH
namespace Go.Proofs.YtdbhmcldfikkmaaGreatDoor
open Go.RowKit
set_option linter.unusedVariables false
set_option linter.unusedSimpArgs false
set_option maxRecDepth 100000

theorem msgN3 (s t : TypeId) : allB (fun i => okMsg s t (i + 12)) 4 = true := by kernel_rfl
theorem msgN7 (s t : TypeId) : allB (fun i => okMsg s t (i + 28)) 4 = true := by kernel_rfl
theorem msgN11 (s t : TypeId) : allB (fun i => okMsg s t (i + 44)) 4 = true := by kernel_rfl
theorem msgN15 (s t : TypeId) : allB (fun i => okMsg s t (i + 60)) 4 = true := by kernel_rfl
theorem msgN19 (s t : TypeId) : allB (fun i => okMsg s t (i + 76)) 4 = true := by kernel_rfl
theorem msgN23 (s t : TypeId) : allB (fun i => okMsg s t (i + 92)) 4 = true := by kernel_rfl
theorem hearL2 (s t : TypeId) : allB (fun i => okHearN gmFc s t (i + 6)) 2 = true := by kernel_rfl
theorem hearN1 (s t : TypeId) : allB (fun i => okHearN (gmFh (Int.ofNat (i + 11)) false) s t (i + 11)) 3 = true := by kernel_rfl
theorem hearN5 (s t : TypeId) : allB (fun i => okHearN (gmFh (Int.ofNat (i + 23)) false) s t (i + 23)) 3 = true := by kernel_rfl
theorem hearN9 (s t : TypeId) : allB (fun i => okHearN (gmFh (Int.ofNat (i + 35)) false) s t (i + 35)) 3 = true := by kernel_rfl
theorem hearN13 (s t : TypeId) : allB (fun i => okHearN (gmFh (Int.ofNat (i + 47)) false) s t (i + 47)) 3 = true := by kernel_rfl
theorem hearN17 (s t : TypeId) : allB (fun i => okHearN (gmFh (Int.ofNat (i + 59)) false) s t (i + 59)) 3 = true := by kernel_rfl
theorem hearN21 (s t : TypeId) : allB (fun i => okHearN (gmFh (Int.ofNat (i + 71)) false) s t (i + 71)) 3 = true := by kernel_rfl
theorem hearN25 (s t : TypeId) : allB (fun i => okHearN (gmFh (Int.ofNat (i + 83)) false) s t (i + 83)) 3 = true := by kernel_rfl
theorem hearN29 (s t : TypeId) : allB (fun i => okHearN (gmFh (Int.ofNat (i + 95)) false) s t (i + 95)) 3 = true := by kernel_rfl
theorem hearY0 (s t : TypeId) : allB (fun i => okHearY s t (i + 8)) 1 = true := by kernel_rfl
theorem hearY4 (s t : TypeId) : allB (fun i => okHearY s t (i + 12)) 1 = true := by kernel_rfl
end Go.Proofs.YtdbhmcldfikkmaaGreatDoor
