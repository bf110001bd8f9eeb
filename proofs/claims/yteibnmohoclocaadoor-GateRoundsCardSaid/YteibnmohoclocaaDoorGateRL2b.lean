/- GateRounds: 2 hosts: the leaves (1). -/
import Derived.Test.YteibnmohoclocaaDoorEwM9
import Derived.Test.YteibnmohoclocaaDoorGateR2D
import Derived.ProofKit
namespace Go.Proofs.YteibnmohoclocaaDoor
open Go.RowKit
set_option linter.unusedVariables false
set_option linter.unusedSimpArgs false
set_option maxRecDepth 100000

theorem gateR2L29 (s t : TypeId) : isTrueL (fCallT Tryd.prog gateR2Orc 100000 (cFnL Tryd.prog) (tabOr (tabE gateR2Es) (knTab 4 gateLow gateHigh)) 90 3 [.int .i64 2, .int .i64 29] ⟨twoRows gateLow gateHigh s t, 2, 2, [], []⟩) = true := by kernel_rfl
theorem gateR2L27 (s t : TypeId) : isTrueL (fCallT Tryd.prog gateR2Orc 100000 (cFnL Tryd.prog) (tabOr (tabE gateR2Es) (knTab 4 gateLow gateHigh)) 90 3 [.int .i64 2, .int .i64 27] ⟨twoRows gateLow gateHigh s t, 2, 2, [], []⟩) = true := by kernel_rfl
theorem gateR2L25 (s t : TypeId) : isTrueL (fCallT Tryd.prog gateR2Orc 100000 (cFnL Tryd.prog) (tabOr (tabE gateR2Es) (knTab 4 gateLow gateHigh)) 90 3 [.int .i64 2, .int .i64 25] ⟨twoRows gateLow gateHigh s t, 2, 2, [], []⟩) = true := by kernel_rfl
theorem gateR2L23 (s t : TypeId) : isTrueL (fCallT Tryd.prog gateR2Orc 100000 (cFnL Tryd.prog) (tabOr (tabE gateR2Es) (knTab 4 gateLow gateHigh)) 90 3 [.int .i64 2, .int .i64 23] ⟨twoRows gateLow gateHigh s t, 2, 2, [], []⟩) = true := by kernel_rfl
theorem gateR2L21 (s t : TypeId) : isTrueL (fCallT Tryd.prog gateR2Orc 100000 (cFnL Tryd.prog) (tabOr (tabE gateR2Es) (knTab 4 gateLow gateHigh)) 90 3 [.int .i64 2, .int .i64 21] ⟨twoRows gateLow gateHigh s t, 2, 2, [], []⟩) = true := by kernel_rfl
theorem gateR2L19 (s t : TypeId) : isTrueL (fCallT Tryd.prog gateR2Orc 100000 (cFnL Tryd.prog) (tabOr (tabE gateR2Es) (knTab 4 gateLow gateHigh)) 90 3 [.int .i64 2, .int .i64 19] ⟨twoRows gateLow gateHigh s t, 2, 2, [], []⟩) = true := by kernel_rfl
theorem gateR2L17 (s t : TypeId) : isTrueL (fCallT Tryd.prog gateR2Orc 100000 (cFnL Tryd.prog) (tabOr (tabE gateR2Es) (knTab 4 gateLow gateHigh)) 90 3 [.int .i64 2, .int .i64 17] ⟨twoRows gateLow gateHigh s t, 2, 2, [], []⟩) = true := by kernel_rfl
theorem gateR2L15 (s t : TypeId) : isTrueL (fCallT Tryd.prog gateR2Orc 100000 (cFnL Tryd.prog) (tabOr (tabE gateR2Es) (knTab 4 gateLow gateHigh)) 90 3 [.int .i64 2, .int .i64 15] ⟨twoRows gateLow gateHigh s t, 2, 2, [], []⟩) = true := by kernel_rfl
theorem gateR2L13 (s t : TypeId) : isTrueL (fCallT Tryd.prog gateR2Orc 100000 (cFnL Tryd.prog) (tabOr (tabE gateR2Es) (knTab 4 gateLow gateHigh)) 90 3 [.int .i64 2, .int .i64 13] ⟨twoRows gateLow gateHigh s t, 2, 2, [], []⟩) = true := by kernel_rfl
theorem gateR2L11 (s t : TypeId) : isTrueL (fCallT Tryd.prog gateR2Orc 100000 (cFnL Tryd.prog) (tabOr (tabE gateR2Es) (knTab 4 gateLow gateHigh)) 90 3 [.int .i64 2, .int .i64 11] ⟨twoRows gateLow gateHigh s t, 2, 2, [], []⟩) = true := by kernel_rfl
theorem gateR2L9 (s t : TypeId) : isTrueL (fCallT Tryd.prog gateR2Orc 100000 (cFnL Tryd.prog) (tabOr (tabE gateR2Es) (knTab 4 gateLow gateHigh)) 90 3 [.int .i64 2, .int .i64 9] ⟨twoRows gateLow gateHigh s t, 2, 2, [], []⟩) = true := by kernel_rfl
theorem gateR2L7 (s t : TypeId) : isTrueL (fCallT Tryd.prog gateR2Orc 100000 (cFnL Tryd.prog) (tabOr (tabE gateR2Es) (knTab 4 gateLow gateHigh)) 90 3 [.int .i64 2, .int .i64 7] ⟨twoRows gateLow gateHigh s t, 2, 2, [], []⟩) = true := by kernel_rfl
theorem gateR2L5 (s t : TypeId) : isTrueL (fCallT Tryd.prog gateR2Orc 100000 (cFnL Tryd.prog) (tabOr (tabE gateR2Es) (knTab 4 gateLow gateHigh)) 90 3 [.int .i64 2, .int .i64 5] ⟨twoRows gateLow gateHigh s t, 2, 2, [], []⟩) = true := by kernel_rfl
theorem gateR2L3 (s t : TypeId) : isTrueL (fCallT Tryd.prog gateR2Orc 100000 (cFnL Tryd.prog) (tabOr (tabE gateR2Es) (knTab 4 gateLow gateHigh)) 90 3 [.int .i64 2, .int .i64 3] ⟨twoRows gateLow gateHigh s t, 2, 2, [], []⟩) = true := by kernel_rfl
theorem gateR2L1 (s t : TypeId) : isTrueL (fCallT Tryd.prog gateR2Orc 100000 (cFnL Tryd.prog) (tabOr (tabE gateR2Es) (knTab 4 gateLow gateHigh)) 90 3 [.int .i64 2, .int .i64 1] ⟨twoRows gateLow gateHigh s t, 2, 2, [], []⟩) = true := by kernel_rfl
end Go.Proofs.YteibnmohoclocaaDoor
