/- GateRounds: 3 hosts: the leaves (0). -/
import Derived.Test.YteibnmohoclocaaDoorEwM9
import Derived.Test.YteibnmohoclocaaDoorGateR3D
import Derived.ProofKit
namespace Go.Proofs.YteibnmohoclocaaDoor
open Go.RowKit
set_option linter.unusedVariables false
set_option linter.unusedSimpArgs false
set_option maxRecDepth 100000

theorem gateR3L30 (s t : TypeId) : isTrueL (fCallT Tryd.prog gateR3Orc 100000 (cFnL Tryd.prog) (tabOr (tabE gateR3Es) (knTab 4 gateLow gateHigh)) 90 3 [.int .i64 3, .int .i64 30] ⟨twoRows gateLow gateHigh s t, 2, 2, [], []⟩) = true := by kernel_rfl
theorem gateR3L28 (s t : TypeId) : isTrueL (fCallT Tryd.prog gateR3Orc 100000 (cFnL Tryd.prog) (tabOr (tabE gateR3Es) (knTab 4 gateLow gateHigh)) 90 3 [.int .i64 3, .int .i64 28] ⟨twoRows gateLow gateHigh s t, 2, 2, [], []⟩) = true := by kernel_rfl
theorem gateR3L26 (s t : TypeId) : isTrueL (fCallT Tryd.prog gateR3Orc 100000 (cFnL Tryd.prog) (tabOr (tabE gateR3Es) (knTab 4 gateLow gateHigh)) 90 3 [.int .i64 3, .int .i64 26] ⟨twoRows gateLow gateHigh s t, 2, 2, [], []⟩) = true := by kernel_rfl
theorem gateR3L24 (s t : TypeId) : isTrueL (fCallT Tryd.prog gateR3Orc 100000 (cFnL Tryd.prog) (tabOr (tabE gateR3Es) (knTab 4 gateLow gateHigh)) 90 3 [.int .i64 3, .int .i64 24] ⟨twoRows gateLow gateHigh s t, 2, 2, [], []⟩) = true := by kernel_rfl
theorem gateR3L22 (s t : TypeId) : isTrueL (fCallT Tryd.prog gateR3Orc 100000 (cFnL Tryd.prog) (tabOr (tabE gateR3Es) (knTab 4 gateLow gateHigh)) 90 3 [.int .i64 3, .int .i64 22] ⟨twoRows gateLow gateHigh s t, 2, 2, [], []⟩) = true := by kernel_rfl
theorem gateR3L20 (s t : TypeId) : isTrueL (fCallT Tryd.prog gateR3Orc 100000 (cFnL Tryd.prog) (tabOr (tabE gateR3Es) (knTab 4 gateLow gateHigh)) 90 3 [.int .i64 3, .int .i64 20] ⟨twoRows gateLow gateHigh s t, 2, 2, [], []⟩) = true := by kernel_rfl
theorem gateR3L18 (s t : TypeId) : isTrueL (fCallT Tryd.prog gateR3Orc 100000 (cFnL Tryd.prog) (tabOr (tabE gateR3Es) (knTab 4 gateLow gateHigh)) 90 3 [.int .i64 3, .int .i64 18] ⟨twoRows gateLow gateHigh s t, 2, 2, [], []⟩) = true := by kernel_rfl
theorem gateR3L16 (s t : TypeId) : isTrueL (fCallT Tryd.prog gateR3Orc 100000 (cFnL Tryd.prog) (tabOr (tabE gateR3Es) (knTab 4 gateLow gateHigh)) 90 3 [.int .i64 3, .int .i64 16] ⟨twoRows gateLow gateHigh s t, 2, 2, [], []⟩) = true := by kernel_rfl
theorem gateR3L14 (s t : TypeId) : isTrueL (fCallT Tryd.prog gateR3Orc 100000 (cFnL Tryd.prog) (tabOr (tabE gateR3Es) (knTab 4 gateLow gateHigh)) 90 3 [.int .i64 3, .int .i64 14] ⟨twoRows gateLow gateHigh s t, 2, 2, [], []⟩) = true := by kernel_rfl
theorem gateR3L12 (s t : TypeId) : isTrueL (fCallT Tryd.prog gateR3Orc 100000 (cFnL Tryd.prog) (tabOr (tabE gateR3Es) (knTab 4 gateLow gateHigh)) 90 3 [.int .i64 3, .int .i64 12] ⟨twoRows gateLow gateHigh s t, 2, 2, [], []⟩) = true := by kernel_rfl
theorem gateR3L10 (s t : TypeId) : isTrueL (fCallT Tryd.prog gateR3Orc 100000 (cFnL Tryd.prog) (tabOr (tabE gateR3Es) (knTab 4 gateLow gateHigh)) 90 3 [.int .i64 3, .int .i64 10] ⟨twoRows gateLow gateHigh s t, 2, 2, [], []⟩) = true := by kernel_rfl
theorem gateR3L8 (s t : TypeId) : isTrueL (fCallT Tryd.prog gateR3Orc 100000 (cFnL Tryd.prog) (tabOr (tabE gateR3Es) (knTab 4 gateLow gateHigh)) 90 3 [.int .i64 3, .int .i64 8] ⟨twoRows gateLow gateHigh s t, 2, 2, [], []⟩) = true := by kernel_rfl
theorem gateR3L6 (s t : TypeId) : isTrueL (fCallT Tryd.prog gateR3Orc 100000 (cFnL Tryd.prog) (tabOr (tabE gateR3Es) (knTab 4 gateLow gateHigh)) 90 3 [.int .i64 3, .int .i64 6] ⟨twoRows gateLow gateHigh s t, 2, 2, [], []⟩) = true := by kernel_rfl
theorem gateR3L4 (s t : TypeId) : isTrueL (fCallT Tryd.prog gateR3Orc 100000 (cFnL Tryd.prog) (tabOr (tabE gateR3Es) (knTab 4 gateLow gateHigh)) 90 3 [.int .i64 3, .int .i64 4] ⟨twoRows gateLow gateHigh s t, 2, 2, [], []⟩) = true := by kernel_rfl
theorem gateR3L2 (s t : TypeId) : isTrueL (fCallT Tryd.prog gateR3Orc 100000 (cFnL Tryd.prog) (tabOr (tabE gateR3Es) (knTab 4 gateLow gateHigh)) 90 3 [.int .i64 3, .int .i64 2] ⟨twoRows gateLow gateHigh s t, 2, 2, [], []⟩) = true := by kernel_rfl
end Go.Proofs.YteibnmohoclocaaDoor
