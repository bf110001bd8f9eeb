/- GateRounds: 3 hosts: the leaves (1). -/
import Derived.Test.YteibnmohoclocaaDoorEwM9
import Derived.Test.YteibnmohoclocaaDoorGateR3D
import Derived.ProofKit
namespace Go.Proofs.YteibnmohoclocaaDoor
open Go.RowKit
set_option linter.unusedVariables false
set_option linter.unusedSimpArgs false
set_option maxRecDepth 100000

theorem gateR3L29 (s t : TypeId) : isTrueL (fCallT Tryd.prog gateR3Orc 100000 (cFnL Tryd.prog) (tabOr (tabE gateR3Es) (knTab 4 gateLow gateHigh)) 90 3 [.int .i64 3, .int .i64 29] ⟨twoRows gateLow gateHigh s t, 2, 2, [], []⟩) = true := by kernel_rfl
theorem gateR3L27 (s t : TypeId) : isTrueL (fCallT Tryd.prog gateR3Orc 100000 (cFnL Tryd.prog) (tabOr (tabE gateR3Es) (knTab 4 gateLow gateHigh)) 90 3 [.int .i64 3, .int .i64 27] ⟨twoRows gateLow gateHigh s t, 2, 2, [], []⟩) = true := by kernel_rfl
theorem gateR3L25 (s t : TypeId) : isTrueL (fCallT Tryd.prog gateR3Orc 100000 (cFnL Tryd.prog) (tabOr (tabE gateR3Es) (knTab 4 gateLow gateHigh)) 90 3 [.int .i64 3, .int .i64 25] ⟨twoRows gateLow gateHigh s t, 2, 2, [], []⟩) = true := by kernel_rfl
theorem gateR3L23 (s t : TypeId) : isTrueL (fCallT Tryd.prog gateR3Orc 100000 (cFnL Tryd.prog) (tabOr (tabE gateR3Es) (knTab 4 gateLow gateHigh)) 90 3 [.int .i64 3, .int .i64 23] ⟨twoRows gateLow gateHigh s t, 2, 2, [], []⟩) = true := by kernel_rfl
theorem gateR3L21 (s t : TypeId) : isTrueL (fCallT Tryd.prog gateR3Orc 100000 (cFnL Tryd.prog) (tabOr (tabE gateR3Es) (knTab 4 gateLow gateHigh)) 90 3 [.int .i64 3, .int .i64 21] ⟨twoRows gateLow gateHigh s t, 2, 2, [], []⟩) = true := by kernel_rfl
theorem gateR3L19 (s t : TypeId) : isTrueL (fCallT Tryd.prog gateR3Orc 100000 (cFnL Tryd.prog) (tabOr (tabE gateR3Es) (knTab 4 gateLow gateHigh)) 90 3 [.int .i64 3, .int .i64 19] ⟨twoRows gateLow gateHigh s t, 2, 2, [], []⟩) = true := by kernel_rfl
theorem gateR3L17 (s t : TypeId) : isTrueL (fCallT Tryd.prog gateR3Orc 100000 (cFnL Tryd.prog) (tabOr (tabE gateR3Es) (knTab 4 gateLow gateHigh)) 90 3 [.int .i64 3, .int .i64 17] ⟨twoRows gateLow gateHigh s t, 2, 2, [], []⟩) = true := by kernel_rfl
theorem gateR3L15 (s t : TypeId) : isTrueL (fCallT Tryd.prog gateR3Orc 100000 (cFnL Tryd.prog) (tabOr (tabE gateR3Es) (knTab 4 gateLow gateHigh)) 90 3 [.int .i64 3, .int .i64 15] ⟨twoRows gateLow gateHigh s t, 2, 2, [], []⟩) = true := by kernel_rfl
theorem gateR3L13 (s t : TypeId) : isTrueL (fCallT Tryd.prog gateR3Orc 100000 (cFnL Tryd.prog) (tabOr (tabE gateR3Es) (knTab 4 gateLow gateHigh)) 90 3 [.int .i64 3, .int .i64 13] ⟨twoRows gateLow gateHigh s t, 2, 2, [], []⟩) = true := by kernel_rfl
theorem gateR3L11 (s t : TypeId) : isTrueL (fCallT Tryd.prog gateR3Orc 100000 (cFnL Tryd.prog) (tabOr (tabE gateR3Es) (knTab 4 gateLow gateHigh)) 90 3 [.int .i64 3, .int .i64 11] ⟨twoRows gateLow gateHigh s t, 2, 2, [], []⟩) = true := by kernel_rfl
theorem gateR3L9 (s t : TypeId) : isTrueL (fCallT Tryd.prog gateR3Orc 100000 (cFnL Tryd.prog) (tabOr (tabE gateR3Es) (knTab 4 gateLow gateHigh)) 90 3 [.int .i64 3, .int .i64 9] ⟨twoRows gateLow gateHigh s t, 2, 2, [], []⟩) = true := by kernel_rfl
theorem gateR3L7 (s t : TypeId) : isTrueL (fCallT Tryd.prog gateR3Orc 100000 (cFnL Tryd.prog) (tabOr (tabE gateR3Es) (knTab 4 gateLow gateHigh)) 90 3 [.int .i64 3, .int .i64 7] ⟨twoRows gateLow gateHigh s t, 2, 2, [], []⟩) = true := by kernel_rfl
theorem gateR3L5 (s t : TypeId) : isTrueL (fCallT Tryd.prog gateR3Orc 100000 (cFnL Tryd.prog) (tabOr (tabE gateR3Es) (knTab 4 gateLow gateHigh)) 90 3 [.int .i64 3, .int .i64 5] ⟨twoRows gateLow gateHigh s t, 2, 2, [], []⟩) = true := by kernel_rfl
theorem gateR3L3 (s t : TypeId) : isTrueL (fCallT Tryd.prog gateR3Orc 100000 (cFnL Tryd.prog) (tabOr (tabE gateR3Es) (knTab 4 gateLow gateHigh)) 90 3 [.int .i64 3, .int .i64 3] ⟨twoRows gateLow gateHigh s t, 2, 2, [], []⟩) = true := by kernel_rfl
theorem gateR3L1 (s t : TypeId) : isTrueL (fCallT Tryd.prog gateR3Orc 100000 (cFnL Tryd.prog) (tabOr (tabE gateR3Es) (knTab 4 gateLow gateHigh)) 90 3 [.int .i64 3, .int .i64 1] ⟨twoRows gateLow gateHigh s t, 2, 2, [], []⟩) = true := by kernel_rfl
end Go.Proofs.YteibnmohoclocaaDoor
