/- GateRounds: the walk of the statement. -/
import Derived.Test.YteibnmohoclocaaDoorEwM9
import Derived.Test.YteibnmohoclocaaDoorGateRO
import Derived.Test.YteibnmohoclocaaDoorGateLeaf
import Derived.Test.YteibnmohoclocaaDoorGateR1
import Derived.Test.YteibnmohoclocaaDoorGateRL1a
import Derived.Test.YteibnmohoclocaaDoorGateRL1b
import Derived.Test.YteibnmohoclocaaDoorGateR2
import Derived.Test.YteibnmohoclocaaDoorGateRL2a
import Derived.Test.YteibnmohoclocaaDoorGateRL2b
import Derived.Test.YteibnmohoclocaaDoorGateR3
import Derived.Test.YteibnmohoclocaaDoorGateRL3a
import Derived.Test.YteibnmohoclocaaDoorGateRL3b
import Derived.Test.YteibnmohoclocaaDoorGateR4
import Derived.Test.YteibnmohoclocaaDoorGateRL4a
import Derived.Test.YteibnmohoclocaaDoorGateRL4b
import Derived.Test.YteibnmohoclocaaDoorGateR5
import Derived.Test.YteibnmohoclocaaDoorGateRL5a
import Derived.Test.YteibnmohoclocaaDoorGateRL5b
import Derived.Test.YteibnmohoclocaaDoorGateR6
import Derived.Test.YteibnmohoclocaaDoorGateRL6a
import Derived.Test.YteibnmohoclocaaDoorGateRL6b
import Derived.ProofKit
namespace Go.Proofs.YteibnmohoclocaaDoor
open Go.RowKit
set_option linter.unusedVariables false
set_option linter.unusedSimpArgs false
set_option maxRecDepth 100000

theorem twoInts (h r : Int) (ρ : Ren) : (#[.int .i64 h, .int .i64 r] : Array Value).map (ren ρ) = #[.int .i64 h, .int .i64 r] := by simp [ren]
theorem gateR1All : ∀ e ∈ gateR1Es, EnFOK Tryd.prog SQG e := (allCons gateR1E3_is (allCons gateR1E16_is (allCons gateR1E89_is (allCons gateR1E162_is (allCons gateR1E235_is (allCons gateR1E308_is (allCons gateR1E381_is (allCons gateR1E454_is (allCons gateR1E527_is (allCons gateR1E600_is (allCons gateR1E673_is (allCons gateR1E746_is (allCons gateR1E819_is (allCons gateR1E892_is (allCons gateR1E965_is (allCons gateR1E1038_is (allCons gateR1E1111_is (allCons gateR1E1184_is (allCons gateR1E1257_is (allCons gateR1E1330_is (allCons gateR1E1403_is (allCons gateR1E1476_is (allCons gateR1E1549_is (allCons gateR1E1622_is (allCons gateR1E1695_is (allCons gateR1E1768_is (allCons gateR1E1841_is (allCons gateR1E1914_is (allCons gateR1E1987_is (allCons gateR1E2060_is (allCons gateR1E2133_is allNil)))))))))))))))))))))))))))))))
theorem gateR1Walk (a1 : Int) (h1 : 1 ≤ a1) (h2 : a1 ≤ 30) (s t : TypeId) (w : World) (g0 : w.heap[0]? = some (.cells gateLow.toArray s (0, 0))) (g1 : w.heap[1]? = some (.cells gateHigh.toArray t (0, 0))) :
    Calls Tryd.prog 3 #[.int .i64 1, .int .i64 a1] w fun e w' => e = .returned (.bool true) ∧ Below w.heap.size w w' := by
  by_cases e1 : a1 = 1
  · subst e1; exact gateLeaf gateR1All gateR1Orc_ok (args := #[.int .i64 1, .int .i64 1]) (twoInts _ _) s t w g0 g1 (gateR1L1 s t)
  by_cases e2 : a1 = 2
  · subst e2; exact gateLeaf gateR1All gateR1Orc_ok (args := #[.int .i64 1, .int .i64 2]) (twoInts _ _) s t w g0 g1 (gateR1L2 s t)
  by_cases e3 : a1 = 3
  · subst e3; exact gateLeaf gateR1All gateR1Orc_ok (args := #[.int .i64 1, .int .i64 3]) (twoInts _ _) s t w g0 g1 (gateR1L3 s t)
  by_cases e4 : a1 = 4
  · subst e4; exact gateLeaf gateR1All gateR1Orc_ok (args := #[.int .i64 1, .int .i64 4]) (twoInts _ _) s t w g0 g1 (gateR1L4 s t)
  by_cases e5 : a1 = 5
  · subst e5; exact gateLeaf gateR1All gateR1Orc_ok (args := #[.int .i64 1, .int .i64 5]) (twoInts _ _) s t w g0 g1 (gateR1L5 s t)
  by_cases e6 : a1 = 6
  · subst e6; exact gateLeaf gateR1All gateR1Orc_ok (args := #[.int .i64 1, .int .i64 6]) (twoInts _ _) s t w g0 g1 (gateR1L6 s t)
  by_cases e7 : a1 = 7
  · subst e7; exact gateLeaf gateR1All gateR1Orc_ok (args := #[.int .i64 1, .int .i64 7]) (twoInts _ _) s t w g0 g1 (gateR1L7 s t)
  by_cases e8 : a1 = 8
  · subst e8; exact gateLeaf gateR1All gateR1Orc_ok (args := #[.int .i64 1, .int .i64 8]) (twoInts _ _) s t w g0 g1 (gateR1L8 s t)
  by_cases e9 : a1 = 9
  · subst e9; exact gateLeaf gateR1All gateR1Orc_ok (args := #[.int .i64 1, .int .i64 9]) (twoInts _ _) s t w g0 g1 (gateR1L9 s t)
  by_cases e10 : a1 = 10
  · subst e10; exact gateLeaf gateR1All gateR1Orc_ok (args := #[.int .i64 1, .int .i64 10]) (twoInts _ _) s t w g0 g1 (gateR1L10 s t)
  by_cases e11 : a1 = 11
  · subst e11; exact gateLeaf gateR1All gateR1Orc_ok (args := #[.int .i64 1, .int .i64 11]) (twoInts _ _) s t w g0 g1 (gateR1L11 s t)
  by_cases e12 : a1 = 12
  · subst e12; exact gateLeaf gateR1All gateR1Orc_ok (args := #[.int .i64 1, .int .i64 12]) (twoInts _ _) s t w g0 g1 (gateR1L12 s t)
  by_cases e13 : a1 = 13
  · subst e13; exact gateLeaf gateR1All gateR1Orc_ok (args := #[.int .i64 1, .int .i64 13]) (twoInts _ _) s t w g0 g1 (gateR1L13 s t)
  by_cases e14 : a1 = 14
  · subst e14; exact gateLeaf gateR1All gateR1Orc_ok (args := #[.int .i64 1, .int .i64 14]) (twoInts _ _) s t w g0 g1 (gateR1L14 s t)
  by_cases e15 : a1 = 15
  · subst e15; exact gateLeaf gateR1All gateR1Orc_ok (args := #[.int .i64 1, .int .i64 15]) (twoInts _ _) s t w g0 g1 (gateR1L15 s t)
  by_cases e16 : a1 = 16
  · subst e16; exact gateLeaf gateR1All gateR1Orc_ok (args := #[.int .i64 1, .int .i64 16]) (twoInts _ _) s t w g0 g1 (gateR1L16 s t)
  by_cases e17 : a1 = 17
  · subst e17; exact gateLeaf gateR1All gateR1Orc_ok (args := #[.int .i64 1, .int .i64 17]) (twoInts _ _) s t w g0 g1 (gateR1L17 s t)
  by_cases e18 : a1 = 18
  · subst e18; exact gateLeaf gateR1All gateR1Orc_ok (args := #[.int .i64 1, .int .i64 18]) (twoInts _ _) s t w g0 g1 (gateR1L18 s t)
  by_cases e19 : a1 = 19
  · subst e19; exact gateLeaf gateR1All gateR1Orc_ok (args := #[.int .i64 1, .int .i64 19]) (twoInts _ _) s t w g0 g1 (gateR1L19 s t)
  by_cases e20 : a1 = 20
  · subst e20; exact gateLeaf gateR1All gateR1Orc_ok (args := #[.int .i64 1, .int .i64 20]) (twoInts _ _) s t w g0 g1 (gateR1L20 s t)
  by_cases e21 : a1 = 21
  · subst e21; exact gateLeaf gateR1All gateR1Orc_ok (args := #[.int .i64 1, .int .i64 21]) (twoInts _ _) s t w g0 g1 (gateR1L21 s t)
  by_cases e22 : a1 = 22
  · subst e22; exact gateLeaf gateR1All gateR1Orc_ok (args := #[.int .i64 1, .int .i64 22]) (twoInts _ _) s t w g0 g1 (gateR1L22 s t)
  by_cases e23 : a1 = 23
  · subst e23; exact gateLeaf gateR1All gateR1Orc_ok (args := #[.int .i64 1, .int .i64 23]) (twoInts _ _) s t w g0 g1 (gateR1L23 s t)
  by_cases e24 : a1 = 24
  · subst e24; exact gateLeaf gateR1All gateR1Orc_ok (args := #[.int .i64 1, .int .i64 24]) (twoInts _ _) s t w g0 g1 (gateR1L24 s t)
  by_cases e25 : a1 = 25
  · subst e25; exact gateLeaf gateR1All gateR1Orc_ok (args := #[.int .i64 1, .int .i64 25]) (twoInts _ _) s t w g0 g1 (gateR1L25 s t)
  by_cases e26 : a1 = 26
  · subst e26; exact gateLeaf gateR1All gateR1Orc_ok (args := #[.int .i64 1, .int .i64 26]) (twoInts _ _) s t w g0 g1 (gateR1L26 s t)
  by_cases e27 : a1 = 27
  · subst e27; exact gateLeaf gateR1All gateR1Orc_ok (args := #[.int .i64 1, .int .i64 27]) (twoInts _ _) s t w g0 g1 (gateR1L27 s t)
  by_cases e28 : a1 = 28
  · subst e28; exact gateLeaf gateR1All gateR1Orc_ok (args := #[.int .i64 1, .int .i64 28]) (twoInts _ _) s t w g0 g1 (gateR1L28 s t)
  by_cases e29 : a1 = 29
  · subst e29; exact gateLeaf gateR1All gateR1Orc_ok (args := #[.int .i64 1, .int .i64 29]) (twoInts _ _) s t w g0 g1 (gateR1L29 s t)
  by_cases e30 : a1 = 30
  · subst e30; exact gateLeaf gateR1All gateR1Orc_ok (args := #[.int .i64 1, .int .i64 30]) (twoInts _ _) s t w g0 g1 (gateR1L30 s t)
  exfalso; omega
theorem gateR2All : ∀ e ∈ gateR2Es, EnFOK Tryd.prog SQG e := (allCons gateR2E3_is (allCons gateR2E16_is (allCons gateR2E89_is (allCons gateR2E162_is (allCons gateR2E235_is (allCons gateR2E308_is (allCons gateR2E381_is (allCons gateR2E454_is (allCons gateR2E527_is (allCons gateR2E600_is (allCons gateR2E673_is (allCons gateR2E746_is (allCons gateR2E819_is (allCons gateR2E892_is (allCons gateR2E965_is (allCons gateR2E1038_is (allCons gateR2E1111_is (allCons gateR2E1184_is (allCons gateR2E1257_is (allCons gateR2E1330_is (allCons gateR2E1403_is (allCons gateR2E1476_is (allCons gateR2E1549_is (allCons gateR2E1622_is (allCons gateR2E1695_is (allCons gateR2E1768_is (allCons gateR2E1841_is (allCons gateR2E1914_is (allCons gateR2E1987_is (allCons gateR2E2060_is (allCons gateR2E2133_is allNil)))))))))))))))))))))))))))))))
theorem gateR2Walk (a1 : Int) (h1 : 1 ≤ a1) (h2 : a1 ≤ 30) (s t : TypeId) (w : World) (g0 : w.heap[0]? = some (.cells gateLow.toArray s (0, 0))) (g1 : w.heap[1]? = some (.cells gateHigh.toArray t (0, 0))) :
    Calls Tryd.prog 3 #[.int .i64 2, .int .i64 a1] w fun e w' => e = .returned (.bool true) ∧ Below w.heap.size w w' := by
  by_cases e1 : a1 = 1
  · subst e1; exact gateLeaf gateR2All gateR2Orc_ok (args := #[.int .i64 2, .int .i64 1]) (twoInts _ _) s t w g0 g1 (gateR2L1 s t)
  by_cases e2 : a1 = 2
  · subst e2; exact gateLeaf gateR2All gateR2Orc_ok (args := #[.int .i64 2, .int .i64 2]) (twoInts _ _) s t w g0 g1 (gateR2L2 s t)
  by_cases e3 : a1 = 3
  · subst e3; exact gateLeaf gateR2All gateR2Orc_ok (args := #[.int .i64 2, .int .i64 3]) (twoInts _ _) s t w g0 g1 (gateR2L3 s t)
  by_cases e4 : a1 = 4
  · subst e4; exact gateLeaf gateR2All gateR2Orc_ok (args := #[.int .i64 2, .int .i64 4]) (twoInts _ _) s t w g0 g1 (gateR2L4 s t)
  by_cases e5 : a1 = 5
  · subst e5; exact gateLeaf gateR2All gateR2Orc_ok (args := #[.int .i64 2, .int .i64 5]) (twoInts _ _) s t w g0 g1 (gateR2L5 s t)
  by_cases e6 : a1 = 6
  · subst e6; exact gateLeaf gateR2All gateR2Orc_ok (args := #[.int .i64 2, .int .i64 6]) (twoInts _ _) s t w g0 g1 (gateR2L6 s t)
  by_cases e7 : a1 = 7
  · subst e7; exact gateLeaf gateR2All gateR2Orc_ok (args := #[.int .i64 2, .int .i64 7]) (twoInts _ _) s t w g0 g1 (gateR2L7 s t)
  by_cases e8 : a1 = 8
  · subst e8; exact gateLeaf gateR2All gateR2Orc_ok (args := #[.int .i64 2, .int .i64 8]) (twoInts _ _) s t w g0 g1 (gateR2L8 s t)
  by_cases e9 : a1 = 9
  · subst e9; exact gateLeaf gateR2All gateR2Orc_ok (args := #[.int .i64 2, .int .i64 9]) (twoInts _ _) s t w g0 g1 (gateR2L9 s t)
  by_cases e10 : a1 = 10
  · subst e10; exact gateLeaf gateR2All gateR2Orc_ok (args := #[.int .i64 2, .int .i64 10]) (twoInts _ _) s t w g0 g1 (gateR2L10 s t)
  by_cases e11 : a1 = 11
  · subst e11; exact gateLeaf gateR2All gateR2Orc_ok (args := #[.int .i64 2, .int .i64 11]) (twoInts _ _) s t w g0 g1 (gateR2L11 s t)
  by_cases e12 : a1 = 12
  · subst e12; exact gateLeaf gateR2All gateR2Orc_ok (args := #[.int .i64 2, .int .i64 12]) (twoInts _ _) s t w g0 g1 (gateR2L12 s t)
  by_cases e13 : a1 = 13
  · subst e13; exact gateLeaf gateR2All gateR2Orc_ok (args := #[.int .i64 2, .int .i64 13]) (twoInts _ _) s t w g0 g1 (gateR2L13 s t)
  by_cases e14 : a1 = 14
  · subst e14; exact gateLeaf gateR2All gateR2Orc_ok (args := #[.int .i64 2, .int .i64 14]) (twoInts _ _) s t w g0 g1 (gateR2L14 s t)
  by_cases e15 : a1 = 15
  · subst e15; exact gateLeaf gateR2All gateR2Orc_ok (args := #[.int .i64 2, .int .i64 15]) (twoInts _ _) s t w g0 g1 (gateR2L15 s t)
  by_cases e16 : a1 = 16
  · subst e16; exact gateLeaf gateR2All gateR2Orc_ok (args := #[.int .i64 2, .int .i64 16]) (twoInts _ _) s t w g0 g1 (gateR2L16 s t)
  by_cases e17 : a1 = 17
  · subst e17; exact gateLeaf gateR2All gateR2Orc_ok (args := #[.int .i64 2, .int .i64 17]) (twoInts _ _) s t w g0 g1 (gateR2L17 s t)
  by_cases e18 : a1 = 18
  · subst e18; exact gateLeaf gateR2All gateR2Orc_ok (args := #[.int .i64 2, .int .i64 18]) (twoInts _ _) s t w g0 g1 (gateR2L18 s t)
  by_cases e19 : a1 = 19
  · subst e19; exact gateLeaf gateR2All gateR2Orc_ok (args := #[.int .i64 2, .int .i64 19]) (twoInts _ _) s t w g0 g1 (gateR2L19 s t)
  by_cases e20 : a1 = 20
  · subst e20; exact gateLeaf gateR2All gateR2Orc_ok (args := #[.int .i64 2, .int .i64 20]) (twoInts _ _) s t w g0 g1 (gateR2L20 s t)
  by_cases e21 : a1 = 21
  · subst e21; exact gateLeaf gateR2All gateR2Orc_ok (args := #[.int .i64 2, .int .i64 21]) (twoInts _ _) s t w g0 g1 (gateR2L21 s t)
  by_cases e22 : a1 = 22
  · subst e22; exact gateLeaf gateR2All gateR2Orc_ok (args := #[.int .i64 2, .int .i64 22]) (twoInts _ _) s t w g0 g1 (gateR2L22 s t)
  by_cases e23 : a1 = 23
  · subst e23; exact gateLeaf gateR2All gateR2Orc_ok (args := #[.int .i64 2, .int .i64 23]) (twoInts _ _) s t w g0 g1 (gateR2L23 s t)
  by_cases e24 : a1 = 24
  · subst e24; exact gateLeaf gateR2All gateR2Orc_ok (args := #[.int .i64 2, .int .i64 24]) (twoInts _ _) s t w g0 g1 (gateR2L24 s t)
  by_cases e25 : a1 = 25
  · subst e25; exact gateLeaf gateR2All gateR2Orc_ok (args := #[.int .i64 2, .int .i64 25]) (twoInts _ _) s t w g0 g1 (gateR2L25 s t)
  by_cases e26 : a1 = 26
  · subst e26; exact gateLeaf gateR2All gateR2Orc_ok (args := #[.int .i64 2, .int .i64 26]) (twoInts _ _) s t w g0 g1 (gateR2L26 s t)
  by_cases e27 : a1 = 27
  · subst e27; exact gateLeaf gateR2All gateR2Orc_ok (args := #[.int .i64 2, .int .i64 27]) (twoInts _ _) s t w g0 g1 (gateR2L27 s t)
  by_cases e28 : a1 = 28
  · subst e28; exact gateLeaf gateR2All gateR2Orc_ok (args := #[.int .i64 2, .int .i64 28]) (twoInts _ _) s t w g0 g1 (gateR2L28 s t)
  by_cases e29 : a1 = 29
  · subst e29; exact gateLeaf gateR2All gateR2Orc_ok (args := #[.int .i64 2, .int .i64 29]) (twoInts _ _) s t w g0 g1 (gateR2L29 s t)
  by_cases e30 : a1 = 30
  · subst e30; exact gateLeaf gateR2All gateR2Orc_ok (args := #[.int .i64 2, .int .i64 30]) (twoInts _ _) s t w g0 g1 (gateR2L30 s t)
  exfalso; omega
theorem gateR3All : ∀ e ∈ gateR3Es, EnFOK Tryd.prog SQG e := (allCons gateR3E3_is (allCons gateR3E16_is (allCons gateR3E89_is (allCons gateR3E162_is (allCons gateR3E235_is (allCons gateR3E308_is (allCons gateR3E381_is (allCons gateR3E454_is (allCons gateR3E527_is (allCons gateR3E600_is (allCons gateR3E673_is (allCons gateR3E746_is (allCons gateR3E819_is (allCons gateR3E892_is (allCons gateR3E965_is (allCons gateR3E1038_is (allCons gateR3E1111_is (allCons gateR3E1184_is (allCons gateR3E1257_is (allCons gateR3E1330_is (allCons gateR3E1403_is (allCons gateR3E1476_is (allCons gateR3E1549_is (allCons gateR3E1622_is (allCons gateR3E1695_is (allCons gateR3E1768_is (allCons gateR3E1841_is (allCons gateR3E1914_is (allCons gateR3E1987_is (allCons gateR3E2060_is (allCons gateR3E2133_is allNil)))))))))))))))))))))))))))))))
theorem gateR3Walk (a1 : Int) (h1 : 1 ≤ a1) (h2 : a1 ≤ 30) (s t : TypeId) (w : World) (g0 : w.heap[0]? = some (.cells gateLow.toArray s (0, 0))) (g1 : w.heap[1]? = some (.cells gateHigh.toArray t (0, 0))) :
    Calls Tryd.prog 3 #[.int .i64 3, .int .i64 a1] w fun e w' => e = .returned (.bool true) ∧ Below w.heap.size w w' := by
  by_cases e1 : a1 = 1
  · subst e1; exact gateLeaf gateR3All gateR3Orc_ok (args := #[.int .i64 3, .int .i64 1]) (twoInts _ _) s t w g0 g1 (gateR3L1 s t)
  by_cases e2 : a1 = 2
  · subst e2; exact gateLeaf gateR3All gateR3Orc_ok (args := #[.int .i64 3, .int .i64 2]) (twoInts _ _) s t w g0 g1 (gateR3L2 s t)
  by_cases e3 : a1 = 3
  · subst e3; exact gateLeaf gateR3All gateR3Orc_ok (args := #[.int .i64 3, .int .i64 3]) (twoInts _ _) s t w g0 g1 (gateR3L3 s t)
  by_cases e4 : a1 = 4
  · subst e4; exact gateLeaf gateR3All gateR3Orc_ok (args := #[.int .i64 3, .int .i64 4]) (twoInts _ _) s t w g0 g1 (gateR3L4 s t)
  by_cases e5 : a1 = 5
  · subst e5; exact gateLeaf gateR3All gateR3Orc_ok (args := #[.int .i64 3, .int .i64 5]) (twoInts _ _) s t w g0 g1 (gateR3L5 s t)
  by_cases e6 : a1 = 6
  · subst e6; exact gateLeaf gateR3All gateR3Orc_ok (args := #[.int .i64 3, .int .i64 6]) (twoInts _ _) s t w g0 g1 (gateR3L6 s t)
  by_cases e7 : a1 = 7
  · subst e7; exact gateLeaf gateR3All gateR3Orc_ok (args := #[.int .i64 3, .int .i64 7]) (twoInts _ _) s t w g0 g1 (gateR3L7 s t)
  by_cases e8 : a1 = 8
  · subst e8; exact gateLeaf gateR3All gateR3Orc_ok (args := #[.int .i64 3, .int .i64 8]) (twoInts _ _) s t w g0 g1 (gateR3L8 s t)
  by_cases e9 : a1 = 9
  · subst e9; exact gateLeaf gateR3All gateR3Orc_ok (args := #[.int .i64 3, .int .i64 9]) (twoInts _ _) s t w g0 g1 (gateR3L9 s t)
  by_cases e10 : a1 = 10
  · subst e10; exact gateLeaf gateR3All gateR3Orc_ok (args := #[.int .i64 3, .int .i64 10]) (twoInts _ _) s t w g0 g1 (gateR3L10 s t)
  by_cases e11 : a1 = 11
  · subst e11; exact gateLeaf gateR3All gateR3Orc_ok (args := #[.int .i64 3, .int .i64 11]) (twoInts _ _) s t w g0 g1 (gateR3L11 s t)
  by_cases e12 : a1 = 12
  · subst e12; exact gateLeaf gateR3All gateR3Orc_ok (args := #[.int .i64 3, .int .i64 12]) (twoInts _ _) s t w g0 g1 (gateR3L12 s t)
  by_cases e13 : a1 = 13
  · subst e13; exact gateLeaf gateR3All gateR3Orc_ok (args := #[.int .i64 3, .int .i64 13]) (twoInts _ _) s t w g0 g1 (gateR3L13 s t)
  by_cases e14 : a1 = 14
  · subst e14; exact gateLeaf gateR3All gateR3Orc_ok (args := #[.int .i64 3, .int .i64 14]) (twoInts _ _) s t w g0 g1 (gateR3L14 s t)
  by_cases e15 : a1 = 15
  · subst e15; exact gateLeaf gateR3All gateR3Orc_ok (args := #[.int .i64 3, .int .i64 15]) (twoInts _ _) s t w g0 g1 (gateR3L15 s t)
  by_cases e16 : a1 = 16
  · subst e16; exact gateLeaf gateR3All gateR3Orc_ok (args := #[.int .i64 3, .int .i64 16]) (twoInts _ _) s t w g0 g1 (gateR3L16 s t)
  by_cases e17 : a1 = 17
  · subst e17; exact gateLeaf gateR3All gateR3Orc_ok (args := #[.int .i64 3, .int .i64 17]) (twoInts _ _) s t w g0 g1 (gateR3L17 s t)
  by_cases e18 : a1 = 18
  · subst e18; exact gateLeaf gateR3All gateR3Orc_ok (args := #[.int .i64 3, .int .i64 18]) (twoInts _ _) s t w g0 g1 (gateR3L18 s t)
  by_cases e19 : a1 = 19
  · subst e19; exact gateLeaf gateR3All gateR3Orc_ok (args := #[.int .i64 3, .int .i64 19]) (twoInts _ _) s t w g0 g1 (gateR3L19 s t)
  by_cases e20 : a1 = 20
  · subst e20; exact gateLeaf gateR3All gateR3Orc_ok (args := #[.int .i64 3, .int .i64 20]) (twoInts _ _) s t w g0 g1 (gateR3L20 s t)
  by_cases e21 : a1 = 21
  · subst e21; exact gateLeaf gateR3All gateR3Orc_ok (args := #[.int .i64 3, .int .i64 21]) (twoInts _ _) s t w g0 g1 (gateR3L21 s t)
  by_cases e22 : a1 = 22
  · subst e22; exact gateLeaf gateR3All gateR3Orc_ok (args := #[.int .i64 3, .int .i64 22]) (twoInts _ _) s t w g0 g1 (gateR3L22 s t)
  by_cases e23 : a1 = 23
  · subst e23; exact gateLeaf gateR3All gateR3Orc_ok (args := #[.int .i64 3, .int .i64 23]) (twoInts _ _) s t w g0 g1 (gateR3L23 s t)
  by_cases e24 : a1 = 24
  · subst e24; exact gateLeaf gateR3All gateR3Orc_ok (args := #[.int .i64 3, .int .i64 24]) (twoInts _ _) s t w g0 g1 (gateR3L24 s t)
  by_cases e25 : a1 = 25
  · subst e25; exact gateLeaf gateR3All gateR3Orc_ok (args := #[.int .i64 3, .int .i64 25]) (twoInts _ _) s t w g0 g1 (gateR3L25 s t)
  by_cases e26 : a1 = 26
  · subst e26; exact gateLeaf gateR3All gateR3Orc_ok (args := #[.int .i64 3, .int .i64 26]) (twoInts _ _) s t w g0 g1 (gateR3L26 s t)
  by_cases e27 : a1 = 27
  · subst e27; exact gateLeaf gateR3All gateR3Orc_ok (args := #[.int .i64 3, .int .i64 27]) (twoInts _ _) s t w g0 g1 (gateR3L27 s t)
  by_cases e28 : a1 = 28
  · subst e28; exact gateLeaf gateR3All gateR3Orc_ok (args := #[.int .i64 3, .int .i64 28]) (twoInts _ _) s t w g0 g1 (gateR3L28 s t)
  by_cases e29 : a1 = 29
  · subst e29; exact gateLeaf gateR3All gateR3Orc_ok (args := #[.int .i64 3, .int .i64 29]) (twoInts _ _) s t w g0 g1 (gateR3L29 s t)
  by_cases e30 : a1 = 30
  · subst e30; exact gateLeaf gateR3All gateR3Orc_ok (args := #[.int .i64 3, .int .i64 30]) (twoInts _ _) s t w g0 g1 (gateR3L30 s t)
  exfalso; omega
theorem gateR4All : ∀ e ∈ gateR4Es, EnFOK Tryd.prog SQG e := (allCons gateR4E3_is (allCons gateR4E16_is (allCons gateR4E89_is (allCons gateR4E162_is (allCons gateR4E235_is (allCons gateR4E308_is (allCons gateR4E381_is (allCons gateR4E454_is (allCons gateR4E527_is (allCons gateR4E600_is (allCons gateR4E673_is (allCons gateR4E746_is (allCons gateR4E819_is (allCons gateR4E892_is (allCons gateR4E965_is (allCons gateR4E1038_is (allCons gateR4E1111_is (allCons gateR4E1184_is (allCons gateR4E1257_is (allCons gateR4E1330_is (allCons gateR4E1403_is (allCons gateR4E1476_is (allCons gateR4E1549_is (allCons gateR4E1622_is (allCons gateR4E1695_is (allCons gateR4E1768_is (allCons gateR4E1841_is (allCons gateR4E1914_is (allCons gateR4E1987_is (allCons gateR4E2060_is (allCons gateR4E2133_is allNil)))))))))))))))))))))))))))))))
theorem gateR4Walk (a1 : Int) (h1 : 1 ≤ a1) (h2 : a1 ≤ 30) (s t : TypeId) (w : World) (g0 : w.heap[0]? = some (.cells gateLow.toArray s (0, 0))) (g1 : w.heap[1]? = some (.cells gateHigh.toArray t (0, 0))) :
    Calls Tryd.prog 3 #[.int .i64 4, .int .i64 a1] w fun e w' => e = .returned (.bool true) ∧ Below w.heap.size w w' := by
  by_cases e1 : a1 = 1
  · subst e1; exact gateLeaf gateR4All gateR4Orc_ok (args := #[.int .i64 4, .int .i64 1]) (twoInts _ _) s t w g0 g1 (gateR4L1 s t)
  by_cases e2 : a1 = 2
  · subst e2; exact gateLeaf gateR4All gateR4Orc_ok (args := #[.int .i64 4, .int .i64 2]) (twoInts _ _) s t w g0 g1 (gateR4L2 s t)
  by_cases e3 : a1 = 3
  · subst e3; exact gateLeaf gateR4All gateR4Orc_ok (args := #[.int .i64 4, .int .i64 3]) (twoInts _ _) s t w g0 g1 (gateR4L3 s t)
  by_cases e4 : a1 = 4
  · subst e4; exact gateLeaf gateR4All gateR4Orc_ok (args := #[.int .i64 4, .int .i64 4]) (twoInts _ _) s t w g0 g1 (gateR4L4 s t)
  by_cases e5 : a1 = 5
  · subst e5; exact gateLeaf gateR4All gateR4Orc_ok (args := #[.int .i64 4, .int .i64 5]) (twoInts _ _) s t w g0 g1 (gateR4L5 s t)
  by_cases e6 : a1 = 6
  · subst e6; exact gateLeaf gateR4All gateR4Orc_ok (args := #[.int .i64 4, .int .i64 6]) (twoInts _ _) s t w g0 g1 (gateR4L6 s t)
  by_cases e7 : a1 = 7
  · subst e7; exact gateLeaf gateR4All gateR4Orc_ok (args := #[.int .i64 4, .int .i64 7]) (twoInts _ _) s t w g0 g1 (gateR4L7 s t)
  by_cases e8 : a1 = 8
  · subst e8; exact gateLeaf gateR4All gateR4Orc_ok (args := #[.int .i64 4, .int .i64 8]) (twoInts _ _) s t w g0 g1 (gateR4L8 s t)
  by_cases e9 : a1 = 9
  · subst e9; exact gateLeaf gateR4All gateR4Orc_ok (args := #[.int .i64 4, .int .i64 9]) (twoInts _ _) s t w g0 g1 (gateR4L9 s t)
  by_cases e10 : a1 = 10
  · subst e10; exact gateLeaf gateR4All gateR4Orc_ok (args := #[.int .i64 4, .int .i64 10]) (twoInts _ _) s t w g0 g1 (gateR4L10 s t)
  by_cases e11 : a1 = 11
  · subst e11; exact gateLeaf gateR4All gateR4Orc_ok (args := #[.int .i64 4, .int .i64 11]) (twoInts _ _) s t w g0 g1 (gateR4L11 s t)
  by_cases e12 : a1 = 12
  · subst e12; exact gateLeaf gateR4All gateR4Orc_ok (args := #[.int .i64 4, .int .i64 12]) (twoInts _ _) s t w g0 g1 (gateR4L12 s t)
  by_cases e13 : a1 = 13
  · subst e13; exact gateLeaf gateR4All gateR4Orc_ok (args := #[.int .i64 4, .int .i64 13]) (twoInts _ _) s t w g0 g1 (gateR4L13 s t)
  by_cases e14 : a1 = 14
  · subst e14; exact gateLeaf gateR4All gateR4Orc_ok (args := #[.int .i64 4, .int .i64 14]) (twoInts _ _) s t w g0 g1 (gateR4L14 s t)
  by_cases e15 : a1 = 15
  · subst e15; exact gateLeaf gateR4All gateR4Orc_ok (args := #[.int .i64 4, .int .i64 15]) (twoInts _ _) s t w g0 g1 (gateR4L15 s t)
  by_cases e16 : a1 = 16
  · subst e16; exact gateLeaf gateR4All gateR4Orc_ok (args := #[.int .i64 4, .int .i64 16]) (twoInts _ _) s t w g0 g1 (gateR4L16 s t)
  by_cases e17 : a1 = 17
  · subst e17; exact gateLeaf gateR4All gateR4Orc_ok (args := #[.int .i64 4, .int .i64 17]) (twoInts _ _) s t w g0 g1 (gateR4L17 s t)
  by_cases e18 : a1 = 18
  · subst e18; exact gateLeaf gateR4All gateR4Orc_ok (args := #[.int .i64 4, .int .i64 18]) (twoInts _ _) s t w g0 g1 (gateR4L18 s t)
  by_cases e19 : a1 = 19
  · subst e19; exact gateLeaf gateR4All gateR4Orc_ok (args := #[.int .i64 4, .int .i64 19]) (twoInts _ _) s t w g0 g1 (gateR4L19 s t)
  by_cases e20 : a1 = 20
  · subst e20; exact gateLeaf gateR4All gateR4Orc_ok (args := #[.int .i64 4, .int .i64 20]) (twoInts _ _) s t w g0 g1 (gateR4L20 s t)
  by_cases e21 : a1 = 21
  · subst e21; exact gateLeaf gateR4All gateR4Orc_ok (args := #[.int .i64 4, .int .i64 21]) (twoInts _ _) s t w g0 g1 (gateR4L21 s t)
  by_cases e22 : a1 = 22
  · subst e22; exact gateLeaf gateR4All gateR4Orc_ok (args := #[.int .i64 4, .int .i64 22]) (twoInts _ _) s t w g0 g1 (gateR4L22 s t)
  by_cases e23 : a1 = 23
  · subst e23; exact gateLeaf gateR4All gateR4Orc_ok (args := #[.int .i64 4, .int .i64 23]) (twoInts _ _) s t w g0 g1 (gateR4L23 s t)
  by_cases e24 : a1 = 24
  · subst e24; exact gateLeaf gateR4All gateR4Orc_ok (args := #[.int .i64 4, .int .i64 24]) (twoInts _ _) s t w g0 g1 (gateR4L24 s t)
  by_cases e25 : a1 = 25
  · subst e25; exact gateLeaf gateR4All gateR4Orc_ok (args := #[.int .i64 4, .int .i64 25]) (twoInts _ _) s t w g0 g1 (gateR4L25 s t)
  by_cases e26 : a1 = 26
  · subst e26; exact gateLeaf gateR4All gateR4Orc_ok (args := #[.int .i64 4, .int .i64 26]) (twoInts _ _) s t w g0 g1 (gateR4L26 s t)
  by_cases e27 : a1 = 27
  · subst e27; exact gateLeaf gateR4All gateR4Orc_ok (args := #[.int .i64 4, .int .i64 27]) (twoInts _ _) s t w g0 g1 (gateR4L27 s t)
  by_cases e28 : a1 = 28
  · subst e28; exact gateLeaf gateR4All gateR4Orc_ok (args := #[.int .i64 4, .int .i64 28]) (twoInts _ _) s t w g0 g1 (gateR4L28 s t)
  by_cases e29 : a1 = 29
  · subst e29; exact gateLeaf gateR4All gateR4Orc_ok (args := #[.int .i64 4, .int .i64 29]) (twoInts _ _) s t w g0 g1 (gateR4L29 s t)
  by_cases e30 : a1 = 30
  · subst e30; exact gateLeaf gateR4All gateR4Orc_ok (args := #[.int .i64 4, .int .i64 30]) (twoInts _ _) s t w g0 g1 (gateR4L30 s t)
  exfalso; omega
theorem gateR5All : ∀ e ∈ gateR5Es, EnFOK Tryd.prog SQG e := (allCons gateR5E3_is (allCons gateR5E16_is (allCons gateR5E89_is (allCons gateR5E162_is (allCons gateR5E235_is (allCons gateR5E308_is (allCons gateR5E381_is (allCons gateR5E454_is (allCons gateR5E527_is (allCons gateR5E600_is (allCons gateR5E673_is (allCons gateR5E746_is (allCons gateR5E819_is (allCons gateR5E892_is (allCons gateR5E965_is (allCons gateR5E1038_is (allCons gateR5E1111_is (allCons gateR5E1184_is (allCons gateR5E1257_is (allCons gateR5E1330_is (allCons gateR5E1403_is (allCons gateR5E1476_is (allCons gateR5E1549_is (allCons gateR5E1622_is (allCons gateR5E1695_is (allCons gateR5E1768_is (allCons gateR5E1841_is (allCons gateR5E1914_is (allCons gateR5E1987_is (allCons gateR5E2060_is (allCons gateR5E2133_is allNil)))))))))))))))))))))))))))))))
theorem gateR5Walk (a1 : Int) (h1 : 1 ≤ a1) (h2 : a1 ≤ 30) (s t : TypeId) (w : World) (g0 : w.heap[0]? = some (.cells gateLow.toArray s (0, 0))) (g1 : w.heap[1]? = some (.cells gateHigh.toArray t (0, 0))) :
    Calls Tryd.prog 3 #[.int .i64 5, .int .i64 a1] w fun e w' => e = .returned (.bool true) ∧ Below w.heap.size w w' := by
  by_cases e1 : a1 = 1
  · subst e1; exact gateLeaf gateR5All gateR5Orc_ok (args := #[.int .i64 5, .int .i64 1]) (twoInts _ _) s t w g0 g1 (gateR5L1 s t)
  by_cases e2 : a1 = 2
  · subst e2; exact gateLeaf gateR5All gateR5Orc_ok (args := #[.int .i64 5, .int .i64 2]) (twoInts _ _) s t w g0 g1 (gateR5L2 s t)
  by_cases e3 : a1 = 3
  · subst e3; exact gateLeaf gateR5All gateR5Orc_ok (args := #[.int .i64 5, .int .i64 3]) (twoInts _ _) s t w g0 g1 (gateR5L3 s t)
  by_cases e4 : a1 = 4
  · subst e4; exact gateLeaf gateR5All gateR5Orc_ok (args := #[.int .i64 5, .int .i64 4]) (twoInts _ _) s t w g0 g1 (gateR5L4 s t)
  by_cases e5 : a1 = 5
  · subst e5; exact gateLeaf gateR5All gateR5Orc_ok (args := #[.int .i64 5, .int .i64 5]) (twoInts _ _) s t w g0 g1 (gateR5L5 s t)
  by_cases e6 : a1 = 6
  · subst e6; exact gateLeaf gateR5All gateR5Orc_ok (args := #[.int .i64 5, .int .i64 6]) (twoInts _ _) s t w g0 g1 (gateR5L6 s t)
  by_cases e7 : a1 = 7
  · subst e7; exact gateLeaf gateR5All gateR5Orc_ok (args := #[.int .i64 5, .int .i64 7]) (twoInts _ _) s t w g0 g1 (gateR5L7 s t)
  by_cases e8 : a1 = 8
  · subst e8; exact gateLeaf gateR5All gateR5Orc_ok (args := #[.int .i64 5, .int .i64 8]) (twoInts _ _) s t w g0 g1 (gateR5L8 s t)
  by_cases e9 : a1 = 9
  · subst e9; exact gateLeaf gateR5All gateR5Orc_ok (args := #[.int .i64 5, .int .i64 9]) (twoInts _ _) s t w g0 g1 (gateR5L9 s t)
  by_cases e10 : a1 = 10
  · subst e10; exact gateLeaf gateR5All gateR5Orc_ok (args := #[.int .i64 5, .int .i64 10]) (twoInts _ _) s t w g0 g1 (gateR5L10 s t)
  by_cases e11 : a1 = 11
  · subst e11; exact gateLeaf gateR5All gateR5Orc_ok (args := #[.int .i64 5, .int .i64 11]) (twoInts _ _) s t w g0 g1 (gateR5L11 s t)
  by_cases e12 : a1 = 12
  · subst e12; exact gateLeaf gateR5All gateR5Orc_ok (args := #[.int .i64 5, .int .i64 12]) (twoInts _ _) s t w g0 g1 (gateR5L12 s t)
  by_cases e13 : a1 = 13
  · subst e13; exact gateLeaf gateR5All gateR5Orc_ok (args := #[.int .i64 5, .int .i64 13]) (twoInts _ _) s t w g0 g1 (gateR5L13 s t)
  by_cases e14 : a1 = 14
  · subst e14; exact gateLeaf gateR5All gateR5Orc_ok (args := #[.int .i64 5, .int .i64 14]) (twoInts _ _) s t w g0 g1 (gateR5L14 s t)
  by_cases e15 : a1 = 15
  · subst e15; exact gateLeaf gateR5All gateR5Orc_ok (args := #[.int .i64 5, .int .i64 15]) (twoInts _ _) s t w g0 g1 (gateR5L15 s t)
  by_cases e16 : a1 = 16
  · subst e16; exact gateLeaf gateR5All gateR5Orc_ok (args := #[.int .i64 5, .int .i64 16]) (twoInts _ _) s t w g0 g1 (gateR5L16 s t)
  by_cases e17 : a1 = 17
  · subst e17; exact gateLeaf gateR5All gateR5Orc_ok (args := #[.int .i64 5, .int .i64 17]) (twoInts _ _) s t w g0 g1 (gateR5L17 s t)
  by_cases e18 : a1 = 18
  · subst e18; exact gateLeaf gateR5All gateR5Orc_ok (args := #[.int .i64 5, .int .i64 18]) (twoInts _ _) s t w g0 g1 (gateR5L18 s t)
  by_cases e19 : a1 = 19
  · subst e19; exact gateLeaf gateR5All gateR5Orc_ok (args := #[.int .i64 5, .int .i64 19]) (twoInts _ _) s t w g0 g1 (gateR5L19 s t)
  by_cases e20 : a1 = 20
  · subst e20; exact gateLeaf gateR5All gateR5Orc_ok (args := #[.int .i64 5, .int .i64 20]) (twoInts _ _) s t w g0 g1 (gateR5L20 s t)
  by_cases e21 : a1 = 21
  · subst e21; exact gateLeaf gateR5All gateR5Orc_ok (args := #[.int .i64 5, .int .i64 21]) (twoInts _ _) s t w g0 g1 (gateR5L21 s t)
  by_cases e22 : a1 = 22
  · subst e22; exact gateLeaf gateR5All gateR5Orc_ok (args := #[.int .i64 5, .int .i64 22]) (twoInts _ _) s t w g0 g1 (gateR5L22 s t)
  by_cases e23 : a1 = 23
  · subst e23; exact gateLeaf gateR5All gateR5Orc_ok (args := #[.int .i64 5, .int .i64 23]) (twoInts _ _) s t w g0 g1 (gateR5L23 s t)
  by_cases e24 : a1 = 24
  · subst e24; exact gateLeaf gateR5All gateR5Orc_ok (args := #[.int .i64 5, .int .i64 24]) (twoInts _ _) s t w g0 g1 (gateR5L24 s t)
  by_cases e25 : a1 = 25
  · subst e25; exact gateLeaf gateR5All gateR5Orc_ok (args := #[.int .i64 5, .int .i64 25]) (twoInts _ _) s t w g0 g1 (gateR5L25 s t)
  by_cases e26 : a1 = 26
  · subst e26; exact gateLeaf gateR5All gateR5Orc_ok (args := #[.int .i64 5, .int .i64 26]) (twoInts _ _) s t w g0 g1 (gateR5L26 s t)
  by_cases e27 : a1 = 27
  · subst e27; exact gateLeaf gateR5All gateR5Orc_ok (args := #[.int .i64 5, .int .i64 27]) (twoInts _ _) s t w g0 g1 (gateR5L27 s t)
  by_cases e28 : a1 = 28
  · subst e28; exact gateLeaf gateR5All gateR5Orc_ok (args := #[.int .i64 5, .int .i64 28]) (twoInts _ _) s t w g0 g1 (gateR5L28 s t)
  by_cases e29 : a1 = 29
  · subst e29; exact gateLeaf gateR5All gateR5Orc_ok (args := #[.int .i64 5, .int .i64 29]) (twoInts _ _) s t w g0 g1 (gateR5L29 s t)
  by_cases e30 : a1 = 30
  · subst e30; exact gateLeaf gateR5All gateR5Orc_ok (args := #[.int .i64 5, .int .i64 30]) (twoInts _ _) s t w g0 g1 (gateR5L30 s t)
  exfalso; omega
theorem gateR6All : ∀ e ∈ gateR6Es, EnFOK Tryd.prog SQG e := (allCons gateR6E3_is (allCons gateR6E16_is (allCons gateR6E89_is (allCons gateR6E162_is (allCons gateR6E235_is (allCons gateR6E308_is (allCons gateR6E381_is (allCons gateR6E454_is (allCons gateR6E527_is (allCons gateR6E600_is (allCons gateR6E673_is (allCons gateR6E746_is (allCons gateR6E819_is (allCons gateR6E892_is (allCons gateR6E965_is (allCons gateR6E1038_is (allCons gateR6E1111_is (allCons gateR6E1184_is (allCons gateR6E1257_is (allCons gateR6E1330_is (allCons gateR6E1403_is (allCons gateR6E1476_is (allCons gateR6E1549_is (allCons gateR6E1622_is (allCons gateR6E1695_is (allCons gateR6E1768_is (allCons gateR6E1841_is (allCons gateR6E1914_is (allCons gateR6E1987_is (allCons gateR6E2060_is (allCons gateR6E2133_is allNil)))))))))))))))))))))))))))))))
theorem gateR6Walk (a1 : Int) (h1 : 1 ≤ a1) (h2 : a1 ≤ 30) (s t : TypeId) (w : World) (g0 : w.heap[0]? = some (.cells gateLow.toArray s (0, 0))) (g1 : w.heap[1]? = some (.cells gateHigh.toArray t (0, 0))) :
    Calls Tryd.prog 3 #[.int .i64 6, .int .i64 a1] w fun e w' => e = .returned (.bool true) ∧ Below w.heap.size w w' := by
  by_cases e1 : a1 = 1
  · subst e1; exact gateLeaf gateR6All gateR6Orc_ok (args := #[.int .i64 6, .int .i64 1]) (twoInts _ _) s t w g0 g1 (gateR6L1 s t)
  by_cases e2 : a1 = 2
  · subst e2; exact gateLeaf gateR6All gateR6Orc_ok (args := #[.int .i64 6, .int .i64 2]) (twoInts _ _) s t w g0 g1 (gateR6L2 s t)
  by_cases e3 : a1 = 3
  · subst e3; exact gateLeaf gateR6All gateR6Orc_ok (args := #[.int .i64 6, .int .i64 3]) (twoInts _ _) s t w g0 g1 (gateR6L3 s t)
  by_cases e4 : a1 = 4
  · subst e4; exact gateLeaf gateR6All gateR6Orc_ok (args := #[.int .i64 6, .int .i64 4]) (twoInts _ _) s t w g0 g1 (gateR6L4 s t)
  by_cases e5 : a1 = 5
  · subst e5; exact gateLeaf gateR6All gateR6Orc_ok (args := #[.int .i64 6, .int .i64 5]) (twoInts _ _) s t w g0 g1 (gateR6L5 s t)
  by_cases e6 : a1 = 6
  · subst e6; exact gateLeaf gateR6All gateR6Orc_ok (args := #[.int .i64 6, .int .i64 6]) (twoInts _ _) s t w g0 g1 (gateR6L6 s t)
  by_cases e7 : a1 = 7
  · subst e7; exact gateLeaf gateR6All gateR6Orc_ok (args := #[.int .i64 6, .int .i64 7]) (twoInts _ _) s t w g0 g1 (gateR6L7 s t)
  by_cases e8 : a1 = 8
  · subst e8; exact gateLeaf gateR6All gateR6Orc_ok (args := #[.int .i64 6, .int .i64 8]) (twoInts _ _) s t w g0 g1 (gateR6L8 s t)
  by_cases e9 : a1 = 9
  · subst e9; exact gateLeaf gateR6All gateR6Orc_ok (args := #[.int .i64 6, .int .i64 9]) (twoInts _ _) s t w g0 g1 (gateR6L9 s t)
  by_cases e10 : a1 = 10
  · subst e10; exact gateLeaf gateR6All gateR6Orc_ok (args := #[.int .i64 6, .int .i64 10]) (twoInts _ _) s t w g0 g1 (gateR6L10 s t)
  by_cases e11 : a1 = 11
  · subst e11; exact gateLeaf gateR6All gateR6Orc_ok (args := #[.int .i64 6, .int .i64 11]) (twoInts _ _) s t w g0 g1 (gateR6L11 s t)
  by_cases e12 : a1 = 12
  · subst e12; exact gateLeaf gateR6All gateR6Orc_ok (args := #[.int .i64 6, .int .i64 12]) (twoInts _ _) s t w g0 g1 (gateR6L12 s t)
  by_cases e13 : a1 = 13
  · subst e13; exact gateLeaf gateR6All gateR6Orc_ok (args := #[.int .i64 6, .int .i64 13]) (twoInts _ _) s t w g0 g1 (gateR6L13 s t)
  by_cases e14 : a1 = 14
  · subst e14; exact gateLeaf gateR6All gateR6Orc_ok (args := #[.int .i64 6, .int .i64 14]) (twoInts _ _) s t w g0 g1 (gateR6L14 s t)
  by_cases e15 : a1 = 15
  · subst e15; exact gateLeaf gateR6All gateR6Orc_ok (args := #[.int .i64 6, .int .i64 15]) (twoInts _ _) s t w g0 g1 (gateR6L15 s t)
  by_cases e16 : a1 = 16
  · subst e16; exact gateLeaf gateR6All gateR6Orc_ok (args := #[.int .i64 6, .int .i64 16]) (twoInts _ _) s t w g0 g1 (gateR6L16 s t)
  by_cases e17 : a1 = 17
  · subst e17; exact gateLeaf gateR6All gateR6Orc_ok (args := #[.int .i64 6, .int .i64 17]) (twoInts _ _) s t w g0 g1 (gateR6L17 s t)
  by_cases e18 : a1 = 18
  · subst e18; exact gateLeaf gateR6All gateR6Orc_ok (args := #[.int .i64 6, .int .i64 18]) (twoInts _ _) s t w g0 g1 (gateR6L18 s t)
  by_cases e19 : a1 = 19
  · subst e19; exact gateLeaf gateR6All gateR6Orc_ok (args := #[.int .i64 6, .int .i64 19]) (twoInts _ _) s t w g0 g1 (gateR6L19 s t)
  by_cases e20 : a1 = 20
  · subst e20; exact gateLeaf gateR6All gateR6Orc_ok (args := #[.int .i64 6, .int .i64 20]) (twoInts _ _) s t w g0 g1 (gateR6L20 s t)
  by_cases e21 : a1 = 21
  · subst e21; exact gateLeaf gateR6All gateR6Orc_ok (args := #[.int .i64 6, .int .i64 21]) (twoInts _ _) s t w g0 g1 (gateR6L21 s t)
  by_cases e22 : a1 = 22
  · subst e22; exact gateLeaf gateR6All gateR6Orc_ok (args := #[.int .i64 6, .int .i64 22]) (twoInts _ _) s t w g0 g1 (gateR6L22 s t)
  by_cases e23 : a1 = 23
  · subst e23; exact gateLeaf gateR6All gateR6Orc_ok (args := #[.int .i64 6, .int .i64 23]) (twoInts _ _) s t w g0 g1 (gateR6L23 s t)
  by_cases e24 : a1 = 24
  · subst e24; exact gateLeaf gateR6All gateR6Orc_ok (args := #[.int .i64 6, .int .i64 24]) (twoInts _ _) s t w g0 g1 (gateR6L24 s t)
  by_cases e25 : a1 = 25
  · subst e25; exact gateLeaf gateR6All gateR6Orc_ok (args := #[.int .i64 6, .int .i64 25]) (twoInts _ _) s t w g0 g1 (gateR6L25 s t)
  by_cases e26 : a1 = 26
  · subst e26; exact gateLeaf gateR6All gateR6Orc_ok (args := #[.int .i64 6, .int .i64 26]) (twoInts _ _) s t w g0 g1 (gateR6L26 s t)
  by_cases e27 : a1 = 27
  · subst e27; exact gateLeaf gateR6All gateR6Orc_ok (args := #[.int .i64 6, .int .i64 27]) (twoInts _ _) s t w g0 g1 (gateR6L27 s t)
  by_cases e28 : a1 = 28
  · subst e28; exact gateLeaf gateR6All gateR6Orc_ok (args := #[.int .i64 6, .int .i64 28]) (twoInts _ _) s t w g0 g1 (gateR6L28 s t)
  by_cases e29 : a1 = 29
  · subst e29; exact gateLeaf gateR6All gateR6Orc_ok (args := #[.int .i64 6, .int .i64 29]) (twoInts _ _) s t w g0 g1 (gateR6L29 s t)
  by_cases e30 : a1 = 30
  · subst e30; exact gateLeaf gateR6All gateR6Orc_ok (args := #[.int .i64 6, .int .i64 30]) (twoInts _ _) s t w g0 g1 (gateR6L30 s t)
  exfalso; omega
theorem walkGateRounds (a0 : Int) (a1 : Int) (w0 : (Lit.int .i64 a0).wf = true) (w1 : (Lit.int .i64 a1).wf = true) (s t : TypeId) (w : World) (g0 : w.heap[0]? = some (.cells gateLow.toArray s (0, 0))) (g1 : w.heap[1]? = some (.cells gateHigh.toArray t (0, 0))) :
    Calls Tryd.prog 3 #[.int .i64 a0, .int .i64 a1] w fun e w' => e = .returned (.bool true) ∧ Below w.heap.size w w' := by
  by_cases hp : a0 < 1 ∨ 6 < a0 ∨ a1 < 1 ∨ 30 < a1
  · exact walkGateRoundsO a0 a1 w0 w1 hp s t w g0 g1
  by_cases e1 : a0 = 1
  · subst e1; exact gateR1Walk a1 (by omega) (by omega) s t w g0 g1
  by_cases e2 : a0 = 2
  · subst e2; exact gateR2Walk a1 (by omega) (by omega) s t w g0 g1
  by_cases e3 : a0 = 3
  · subst e3; exact gateR3Walk a1 (by omega) (by omega) s t w g0 g1
  by_cases e4 : a0 = 4
  · subst e4; exact gateR4Walk a1 (by omega) (by omega) s t w g0 g1
  by_cases e5 : a0 = 5
  · subst e5; exact gateR5Walk a1 (by omega) (by omega) s t w g0 g1
  by_cases e6 : a0 = 6
  · subst e6; exact gateR6Walk a1 (by omega) (by omega) s t w g0 g1
  exfalso; omega
end Go.Proofs.YteibnmohoclocaaDoor
