/- GateMoved: runs (0). -/
import Derived.KernelRfl
import Derived.Test.YtdbhmcldfikkmaaGreatDoorGateMH
namespace Go.Proofs.YtdbhmcldfikkmaaGreatDoor
open Go.RowKit
set_option linter.unusedVariables false
set_option linter.unusedSimpArgs false
set_option maxRecDepth 100000

theorem msgN0 (s t : TypeId) : allB (fun i => okMsg s t (i + 0)) 4 = true := by kernel_rfl
theorem msgN4 (s t : TypeId) : allB (fun i => okMsg s t (i + 16)) 4 = true := by kernel_rfl
theorem msgN8 (s t : TypeId) : allB (fun i => okMsg s t (i + 32)) 4 = true := by kernel_rfl
theorem msgN12 (s t : TypeId) : allB (fun i => okMsg s t (i + 48)) 4 = true := by kernel_rfl
theorem msgN16 (s t : TypeId) : allB (fun i => okMsg s t (i + 64)) 4 = true := by kernel_rfl
theorem msgN20 (s t : TypeId) : allB (fun i => okMsg s t (i + 80)) 4 = true := by kernel_rfl
theorem msgN24 (s t : TypeId) : allB (fun i => okMsg s t (i + 96)) 4 = true := by kernel_rfl
theorem hearN2 (s t : TypeId) : allB (fun i => okHearN (gmFh (Int.ofNat (i + 14)) false) s t (i + 14)) 3 = true := by kernel_rfl
theorem hearN6 (s t : TypeId) : allB (fun i => okHearN (gmFh (Int.ofNat (i + 26)) false) s t (i + 26)) 3 = true := by kernel_rfl
theorem hearN10 (s t : TypeId) : allB (fun i => okHearN (gmFh (Int.ofNat (i + 38)) false) s t (i + 38)) 3 = true := by kernel_rfl
theorem hearN14 (s t : TypeId) : allB (fun i => okHearN (gmFh (Int.ofNat (i + 50)) false) s t (i + 50)) 3 = true := by kernel_rfl
theorem hearN18 (s t : TypeId) : allB (fun i => okHearN (gmFh (Int.ofNat (i + 62)) false) s t (i + 62)) 3 = true := by kernel_rfl
theorem hearN22 (s t : TypeId) : allB (fun i => okHearN (gmFh (Int.ofNat (i + 74)) false) s t (i + 74)) 3 = true := by kernel_rfl
theorem hearN26 (s t : TypeId) : allB (fun i => okHearN (gmFh (Int.ofNat (i + 86)) false) s t (i + 86)) 3 = true := by kernel_rfl
theorem hearN30 (s t : TypeId) : allB (fun i => okHearN (gmFh (Int.ofNat (i + 98)) false) s t (i + 98)) 3 = true := by kernel_rfl
theorem hearY1 (s t : TypeId) : allB (fun i => okHearY s t (i + 9)) 1 = true := by kernel_rfl
theorem hearY5 (s t : TypeId) : allB (fun i => okHearY s t (i + 13)) 1 = true := by kernel_rfl
theorem ansN0 (s t : TypeId) : allB (fun i => okAns s t (i + 8)) 6 = true := by kernel_rfl
end Go.Proofs.YtdbhmcldfikkmaaGreatDoor
