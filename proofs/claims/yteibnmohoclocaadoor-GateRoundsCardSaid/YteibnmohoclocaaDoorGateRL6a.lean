/- GateRounds: 6 hosts: the leaves (0). -/
import Derived.Test.YteibnmohoclocaaDoorEwM9
import Derived.Test.YteibnmohoclocaaDoorGateR6D
import Derived.ProofKit
namespace Go.Proofs.YteibnmohoclocaaDoor
open Go.RowKit
set_option linter.unusedVariables false
set_option linter.unusedSimpArgs false
set_option maxRecDepth 100000

theorem gateR6L30 (s t : TypeId) : isTrueL (fCallT Tryd.prog gateR6Orc 100000 (cFnL Tryd.prog) (tabOr (tabE gateR6Es) (knTab 4 gateLow gateHigh)) 90 3 [.int .i64 6, .int .i64 30] ⟨twoRows gateLow gateHigh s t, 2, 2, [], []⟩) = true := by kernel_rfl
theorem gateR6L28 (s t : TypeId) : isTrueL (fCallT Tryd.prog gateR6Orc 100000 (cFnL Tryd.prog) (tabOr (tabE gateR6Es) (knTab 4 gateLow gateHigh)) 90 3 [.int .i64 6, .int .i64 28] ⟨twoRows gateLow gateHigh s t, 2, 2, [], []⟩) = true := by kernel_rfl
theorem gateR6L26 (s t : TypeId) : isTrueL (fCallT Tryd.prog gateR6Orc 100000 (cFnL Tryd.prog) (tabOr (tabE gateR6Es) (knTab 4 gateLow gateHigh)) 90 3 [.int .i64 6, .int .i64 26] ⟨twoRows gateLow gateHigh s t, 2, 2, [], []⟩) = true := by kernel_rfl
theorem gateR6L24 (s t : TypeId) : isTrueL (fCallT Tryd.prog gateR6Orc 100000 (cFnL Tryd.prog) (tabOr (tabE gateR6Es) (knTab 4 gateLow gateHigh)) 90 3 [.int .i64 6, .int .i64 24] ⟨twoRows gateLow gateHigh s t, 2, 2, [], []⟩) = true := by kernel_rfl
theorem gateR6L22 (s t : TypeId) : isTrueL (fCallT Tryd.prog gateR6Orc 100000 (cFnL Tryd.prog) (tabOr (tabE gateR6Es) (knTab 4 gateLow gateHigh)) 90 3 [.int .i64 6, .int .i64 22] ⟨twoRows gateLow gateHigh s t, 2, 2, [], []⟩) = true := by kernel_rfl
theorem gateR6L20 (s t : TypeId) : isTrueL (fCallT Tryd.prog gateR6Orc 100000 (cFnL Tryd.prog) (tabOr (tabE gateR6Es) (knTab 4 gateLow gateHigh)) 90 3 [.int .i64 6, .int .i64 20] ⟨twoRows gateLow gateHigh s t, 2, 2, [], []⟩) = true := by kernel_rfl
theorem gateR6L18 (s t : TypeId) : isTrueL (fCallT Tryd.prog gateR6Orc 100000 (cFnL Tryd.prog) (tabOr (tabE gateR6Es) (knTab 4 gateLow gateHigh)) 90 3 [.int .i64 6, .int .i64 18] ⟨twoRows gateLow gateHigh s t, 2, 2, [], []⟩) = true := by kernel_rfl
theorem gateR6L16 (s t : TypeId) : isTrueL (fCallT Tryd.prog gateR6Orc 100000 (cFnL Tryd.prog) (tabOr (tabE gateR6Es) (knTab 4 gateLow gateHigh)) 90 3 [.int .i64 6, .int .i64 16] ⟨twoRows gateLow gateHigh s t, 2, 2, [], []⟩) = true := by kernel_rfl
theorem gateR6L14 (s t : TypeId) : isTrueL (fCallT Tryd.prog gateR6Orc 100000 (cFnL Tryd.prog) (tabOr (tabE gateR6Es) (knTab 4 gateLow gateHigh)) 90 3 [.int .i64 6, .int .i64 14] ⟨twoRows gateLow gateHigh s t, 2, 2, [], []⟩) = true := by kernel_rfl
theorem gateR6L12 (s t : TypeId) : isTrueL (fCallT Tryd.prog gateR6Orc 100000 (cFnL Tryd.prog) (tabOr (tabE gateR6Es) (knTab 4 gateLow gateHigh)) 90 3 [.int .i64 6, .int .i64 12] ⟨twoRows gateLow gateHigh s t, 2, 2, [], []⟩) = true := by kernel_rfl
theorem gateR6L10 (s t : TypeId) : isTrueL (fCallT Tryd.prog gateR6Orc 100000 (cFnL Tryd.prog) (tabOr (tabE gateR6Es) (knTab 4 gateLow gateHigh)) 90 3 [.int .i64 6, .int .i64 10] ⟨twoRows gateLow gateHigh s t, 2, 2, [], []⟩) = true := by kernel_rfl
theorem gateR6L8 (s t : TypeId) : isTrueL (fCallT Tryd.prog gateR6Orc 100000 (cFnL Tryd.prog) (tabOr (tabE gateR6Es) (knTab 4 gateLow gateHigh)) 90 3 [.int .i64 6, .int .i64 8] ⟨twoRows gateLow gateHigh s t, 2, 2, [], []⟩) = true := by kernel_rfl
theorem gateR6L6 (s t : TypeId) : isTrueL (fCallT Tryd.prog gateR6Orc 100000 (cFnL Tryd.prog) (tabOr (tabE gateR6Es) (knTab 4 gateLow gateHigh)) 90 3 [.int .i64 6, .int .i64 6] ⟨twoRows gateLow gateHigh s t, 2, 2, [], []⟩) = true := by kernel_rfl
theorem gateR6L4 (s t : TypeId) : isTrueL (fCallT Tryd.prog gateR6Orc 100000 (cFnL Tryd.prog) (tabOr (tabE gateR6Es) (knTab 4 gateLow gateHigh)) 90 3 [.int .i64 6, .int .i64 4] ⟨twoRows gateLow gateHigh s t, 2, 2, [], []⟩) = true := by kernel_rfl
theorem gateR6L2 (s t : TypeId) : isTrueL (fCallT Tryd.prog gateR6Orc 100000 (cFnL Tryd.prog) (tabOr (tabE gateR6Es) (knTab 4 gateLow gateHigh)) 90 3 [.int .i64 6, .int .i64 2] ⟨twoRows gateLow gateHigh s t, 2, 2, [], []⟩) = true := by kernel_rfl
end Go.Proofs.YteibnmohoclocaaDoor
