/- GateRoundsO: the walk of the statement, by the evaluator with forks, trees of questions, facts. -/
import Derived.Test.YteibnmohoclocaaDoorEwM8
import Derived.Test.YteibnmohoclocaaDoorGateK
import Derived.ProofKit
namespace Go.Proofs.YteibnmohoclocaaDoor
open Go.RowKit
set_option linter.unusedVariables false
set_option linter.unusedSimpArgs false
set_option maxRecDepth 100000

def gateRoundsOSym (a0 : Int) (a1 : Int) : List (Nat × Value) := [(0, .int .i64 a0), (1, .int .i64 a1), (5000000, .nilFunc), (5000001, .nilFunc)]
def gateRoundsOET : ET := []
def gateRoundsOArgs : Array Value := #[.chan (some 0), .chan (some 1)]
def gateRoundsOHook (f : FuncId) : Option (Array Value → LM Value) := none
def gateRoundsOCut (f : FuncId) : Bool := hasN [55] f
theorem gateRoundsOHook_ok : ∀ f m, gateRoundsOHook f = some m → FunOKL Tryd.prog f m := by
  intro f m h
  unfold gateRoundsOHook at h
  cases h
def gateRoundsOKB0 : KB := [(0, ⟨-9223372036854775808, 0, []⟩), (1, ⟨-9223372036854775808, 9223372036854775807, []⟩)]
def gateRoundsOF0 : Fct := []
def gateRoundsOA0 : Arc := []
def gateRoundsOM0 : Mnc := []
theorem gateRoundsO0h0 (s t : TypeId) : DT.leaf.check (okT Tryd.prog (orcOr (fctOrc gateRoundsOF0) (orcOr (arcOrc gateRoundsOA0) (orcOr (mncOrc gateRoundsOM0) (globOrc [0, 1])))) gateRoundsOHook gateRoundsOCut [] gateRoundsOET 100000 (cFnL Tryd.prog) (knTab 4 gateLow gateHigh) 90 3 gateRoundsOArgs ⟨twoRows gateLow gateHigh s t, 2, 2, [], []⟩) gateRoundsOKB0 = true := check_leaf (by kernel_rfl)
theorem gateRoundsOCheck0 (s t : TypeId) : DT.leaf.check (okT Tryd.prog (orcOr (fctOrc gateRoundsOF0) (orcOr (arcOrc gateRoundsOA0) (orcOr (mncOrc gateRoundsOM0) (globOrc [0, 1])))) gateRoundsOHook gateRoundsOCut [] gateRoundsOET 100000 (cFnL Tryd.prog) (knTab 4 gateLow gateHigh) 90 3 gateRoundsOArgs ⟨twoRows gateLow gateHigh s t, 2, 2, [], []⟩) gateRoundsOKB0 = true := gateRoundsO0h0 s t
theorem gateRoundsOF0_ok (a0 : Int) (a1 : Int) (hc : a0 < 1) : FctOK Tryd.prog gateRoundsOF0 (symF (gateRoundsOSym a0 a1)) := by
  intro p hp
  exact absurd hp (by simp [gateRoundsOF0])
theorem gateRoundsOA0_ok (a0 : Int) (a1 : Int) (w0 : (Lit.int .i64 a0).wf = true) (w1 : (Lit.int .i64 a1).wf = true) (hc : a0 < 1) : ArcOK Tryd.prog gateRoundsOA0 (symF (gateRoundsOSym a0 a1)) := by
  intro p hp t x y w
  exact absurd hp (by simp [gateRoundsOA0])
theorem gateRoundsOM0_ok (a0 : Int) (a1 : Int) (w0 : (Lit.int .i64 a0).wf = true) (w1 : (Lit.int .i64 a1).wf = true) (hc : a0 < 1) : MncOK gateRoundsOM0 (symF (gateRoundsOSym a0 a1)) := by
  intro p hp
  exact absurd hp (by simp [gateRoundsOM0])
theorem gateRoundsOKB0_ok (a0 : Int) (a1 : Int) (w0 : (Lit.int .i64 a0).wf = true) (w1 : (Lit.int .i64 a1).wf = true) (hc : a0 < 1) : KOK gateRoundsOKB0 (symF (gateRoundsOSym a0 a1)) := by
  have r0 : IntKind.i64.min ≤ a0 ∧ a0 ≤ IntKind.i64.max := by simpa [Lit.wf] using w0
  have r1 : IntKind.i64.min ≤ a1 ∧ a1 ≤ IntKind.i64.max := by simpa [Lit.wf] using w1
  simp only [show IntKind.i64.min = -9223372036854775808 from rfl, show IntKind.i64.max = 9223372036854775807 from rfl] at r0 r1
  intro k j h
  unfold gateRoundsOKB0 at h
  unfold KB.find at h
  split at h
  · rename_i he
    injection h with h; subst h; dsimp only at he; subst he
    exact ⟨a0, by simp [symF, gateRoundsOSym], by show (-9223372036854775808 : Int) ≤ a0; omega, by show a0 ≤ (0 : Int); omega, by simp⟩
  unfold KB.find at h
  split at h
  · rename_i he
    injection h with h; subst h; dsimp only at he; subst he
    exact ⟨a1, by simp [symF, gateRoundsOSym], by show (-9223372036854775808 : Int) ≤ a1; omega, by show a1 ≤ (9223372036854775807 : Int); omega, by simp⟩
  cases h
def gateRoundsOKB1 : KB := [(0, ⟨7, 9223372036854775807, []⟩), (1, ⟨-9223372036854775808, 9223372036854775807, []⟩)]
def gateRoundsOF1 : Fct := []
def gateRoundsOA1 : Arc := []
def gateRoundsOM1 : Mnc := []
theorem gateRoundsO1h0 (s t : TypeId) : DT.leaf.check (okT Tryd.prog (orcOr (fctOrc gateRoundsOF1) (orcOr (arcOrc gateRoundsOA1) (orcOr (mncOrc gateRoundsOM1) (globOrc [0, 1])))) gateRoundsOHook gateRoundsOCut [] gateRoundsOET 100000 (cFnL Tryd.prog) (knTab 4 gateLow gateHigh) 90 3 gateRoundsOArgs ⟨twoRows gateLow gateHigh s t, 2, 2, [], []⟩) gateRoundsOKB1 = true := check_leaf (by kernel_rfl)
theorem gateRoundsOCheck1 (s t : TypeId) : DT.leaf.check (okT Tryd.prog (orcOr (fctOrc gateRoundsOF1) (orcOr (arcOrc gateRoundsOA1) (orcOr (mncOrc gateRoundsOM1) (globOrc [0, 1])))) gateRoundsOHook gateRoundsOCut [] gateRoundsOET 100000 (cFnL Tryd.prog) (knTab 4 gateLow gateHigh) 90 3 gateRoundsOArgs ⟨twoRows gateLow gateHigh s t, 2, 2, [], []⟩) gateRoundsOKB1 = true := gateRoundsO1h0 s t
theorem gateRoundsOF1_ok (a0 : Int) (a1 : Int) (hc : 6 < a0) : FctOK Tryd.prog gateRoundsOF1 (symF (gateRoundsOSym a0 a1)) := by
  intro p hp
  exact absurd hp (by simp [gateRoundsOF1])
theorem gateRoundsOA1_ok (a0 : Int) (a1 : Int) (w0 : (Lit.int .i64 a0).wf = true) (w1 : (Lit.int .i64 a1).wf = true) (hc : 6 < a0) : ArcOK Tryd.prog gateRoundsOA1 (symF (gateRoundsOSym a0 a1)) := by
  intro p hp t x y w
  exact absurd hp (by simp [gateRoundsOA1])
theorem gateRoundsOM1_ok (a0 : Int) (a1 : Int) (w0 : (Lit.int .i64 a0).wf = true) (w1 : (Lit.int .i64 a1).wf = true) (hc : 6 < a0) : MncOK gateRoundsOM1 (symF (gateRoundsOSym a0 a1)) := by
  intro p hp
  exact absurd hp (by simp [gateRoundsOM1])
theorem gateRoundsOKB1_ok (a0 : Int) (a1 : Int) (w0 : (Lit.int .i64 a0).wf = true) (w1 : (Lit.int .i64 a1).wf = true) (hc : 6 < a0) : KOK gateRoundsOKB1 (symF (gateRoundsOSym a0 a1)) := by
  have r0 : IntKind.i64.min ≤ a0 ∧ a0 ≤ IntKind.i64.max := by simpa [Lit.wf] using w0
  have r1 : IntKind.i64.min ≤ a1 ∧ a1 ≤ IntKind.i64.max := by simpa [Lit.wf] using w1
  simp only [show IntKind.i64.min = -9223372036854775808 from rfl, show IntKind.i64.max = 9223372036854775807 from rfl] at r0 r1
  intro k j h
  unfold gateRoundsOKB1 at h
  unfold KB.find at h
  split at h
  · rename_i he
    injection h with h; subst h; dsimp only at he; subst he
    exact ⟨a0, by simp [symF, gateRoundsOSym], by show (7 : Int) ≤ a0; omega, by show a0 ≤ (9223372036854775807 : Int); omega, by simp⟩
  unfold KB.find at h
  split at h
  · rename_i he
    injection h with h; subst h; dsimp only at he; subst he
    exact ⟨a1, by simp [symF, gateRoundsOSym], by show (-9223372036854775808 : Int) ≤ a1; omega, by show a1 ≤ (9223372036854775807 : Int); omega, by simp⟩
  cases h
def gateRoundsOKB2 : KB := [(0, ⟨1, 6, []⟩), (1, ⟨-9223372036854775808, 0, []⟩)]
def gateRoundsOF2 : Fct := []
def gateRoundsOA2 : Arc := []
def gateRoundsOM2 : Mnc := []
theorem gateRoundsO2h0 (s t : TypeId) : DT.leaf.check (okT Tryd.prog (orcOr (fctOrc gateRoundsOF2) (orcOr (arcOrc gateRoundsOA2) (orcOr (mncOrc gateRoundsOM2) (globOrc [0, 1])))) gateRoundsOHook gateRoundsOCut [] gateRoundsOET 100000 (cFnL Tryd.prog) (knTab 4 gateLow gateHigh) 90 3 gateRoundsOArgs ⟨twoRows gateLow gateHigh s t, 2, 2, [], []⟩) gateRoundsOKB2 = true := check_leaf (by kernel_rfl)
theorem gateRoundsOCheck2 (s t : TypeId) : DT.leaf.check (okT Tryd.prog (orcOr (fctOrc gateRoundsOF2) (orcOr (arcOrc gateRoundsOA2) (orcOr (mncOrc gateRoundsOM2) (globOrc [0, 1])))) gateRoundsOHook gateRoundsOCut [] gateRoundsOET 100000 (cFnL Tryd.prog) (knTab 4 gateLow gateHigh) 90 3 gateRoundsOArgs ⟨twoRows gateLow gateHigh s t, 2, 2, [], []⟩) gateRoundsOKB2 = true := gateRoundsO2h0 s t
theorem gateRoundsOF2_ok (a0 : Int) (a1 : Int) (hc : 1 ≤ a0 ∧ a0 ≤ 6 ∧ a1 < 1) : FctOK Tryd.prog gateRoundsOF2 (symF (gateRoundsOSym a0 a1)) := by
  intro p hp
  exact absurd hp (by simp [gateRoundsOF2])
theorem gateRoundsOA2_ok (a0 : Int) (a1 : Int) (w0 : (Lit.int .i64 a0).wf = true) (w1 : (Lit.int .i64 a1).wf = true) (hc : 1 ≤ a0 ∧ a0 ≤ 6 ∧ a1 < 1) : ArcOK Tryd.prog gateRoundsOA2 (symF (gateRoundsOSym a0 a1)) := by
  intro p hp t x y w
  exact absurd hp (by simp [gateRoundsOA2])
theorem gateRoundsOM2_ok (a0 : Int) (a1 : Int) (w0 : (Lit.int .i64 a0).wf = true) (w1 : (Lit.int .i64 a1).wf = true) (hc : 1 ≤ a0 ∧ a0 ≤ 6 ∧ a1 < 1) : MncOK gateRoundsOM2 (symF (gateRoundsOSym a0 a1)) := by
  intro p hp
  exact absurd hp (by simp [gateRoundsOM2])
theorem gateRoundsOKB2_ok (a0 : Int) (a1 : Int) (w0 : (Lit.int .i64 a0).wf = true) (w1 : (Lit.int .i64 a1).wf = true) (hc : 1 ≤ a0 ∧ a0 ≤ 6 ∧ a1 < 1) : KOK gateRoundsOKB2 (symF (gateRoundsOSym a0 a1)) := by
  have r0 : IntKind.i64.min ≤ a0 ∧ a0 ≤ IntKind.i64.max := by simpa [Lit.wf] using w0
  have r1 : IntKind.i64.min ≤ a1 ∧ a1 ≤ IntKind.i64.max := by simpa [Lit.wf] using w1
  simp only [show IntKind.i64.min = -9223372036854775808 from rfl, show IntKind.i64.max = 9223372036854775807 from rfl] at r0 r1
  intro k j h
  unfold gateRoundsOKB2 at h
  unfold KB.find at h
  split at h
  · rename_i he
    injection h with h; subst h; dsimp only at he; subst he
    exact ⟨a0, by simp [symF, gateRoundsOSym], by show (1 : Int) ≤ a0; omega, by show a0 ≤ (6 : Int); omega, by simp⟩
  unfold KB.find at h
  split at h
  · rename_i he
    injection h with h; subst h; dsimp only at he; subst he
    exact ⟨a1, by simp [symF, gateRoundsOSym], by show (-9223372036854775808 : Int) ≤ a1; omega, by show a1 ≤ (0 : Int); omega, by simp⟩
  cases h
def gateRoundsOKB3 : KB := [(0, ⟨1, 6, []⟩), (1, ⟨31, 9223372036854775807, []⟩)]
def gateRoundsOF3 : Fct := []
def gateRoundsOA3 : Arc := []
def gateRoundsOM3 : Mnc := []
theorem gateRoundsO3h0 (s t : TypeId) : DT.leaf.check (okT Tryd.prog (orcOr (fctOrc gateRoundsOF3) (orcOr (arcOrc gateRoundsOA3) (orcOr (mncOrc gateRoundsOM3) (globOrc [0, 1])))) gateRoundsOHook gateRoundsOCut [] gateRoundsOET 100000 (cFnL Tryd.prog) (knTab 4 gateLow gateHigh) 90 3 gateRoundsOArgs ⟨twoRows gateLow gateHigh s t, 2, 2, [], []⟩) gateRoundsOKB3 = true := check_leaf (by kernel_rfl)
theorem gateRoundsOCheck3 (s t : TypeId) : DT.leaf.check (okT Tryd.prog (orcOr (fctOrc gateRoundsOF3) (orcOr (arcOrc gateRoundsOA3) (orcOr (mncOrc gateRoundsOM3) (globOrc [0, 1])))) gateRoundsOHook gateRoundsOCut [] gateRoundsOET 100000 (cFnL Tryd.prog) (knTab 4 gateLow gateHigh) 90 3 gateRoundsOArgs ⟨twoRows gateLow gateHigh s t, 2, 2, [], []⟩) gateRoundsOKB3 = true := gateRoundsO3h0 s t
theorem gateRoundsOF3_ok (a0 : Int) (a1 : Int) (hc : 1 ≤ a0 ∧ a0 ≤ 6 ∧ 30 < a1) : FctOK Tryd.prog gateRoundsOF3 (symF (gateRoundsOSym a0 a1)) := by
  intro p hp
  exact absurd hp (by simp [gateRoundsOF3])
theorem gateRoundsOA3_ok (a0 : Int) (a1 : Int) (w0 : (Lit.int .i64 a0).wf = true) (w1 : (Lit.int .i64 a1).wf = true) (hc : 1 ≤ a0 ∧ a0 ≤ 6 ∧ 30 < a1) : ArcOK Tryd.prog gateRoundsOA3 (symF (gateRoundsOSym a0 a1)) := by
  intro p hp t x y w
  exact absurd hp (by simp [gateRoundsOA3])
theorem gateRoundsOM3_ok (a0 : Int) (a1 : Int) (w0 : (Lit.int .i64 a0).wf = true) (w1 : (Lit.int .i64 a1).wf = true) (hc : 1 ≤ a0 ∧ a0 ≤ 6 ∧ 30 < a1) : MncOK gateRoundsOM3 (symF (gateRoundsOSym a0 a1)) := by
  intro p hp
  exact absurd hp (by simp [gateRoundsOM3])
theorem gateRoundsOKB3_ok (a0 : Int) (a1 : Int) (w0 : (Lit.int .i64 a0).wf = true) (w1 : (Lit.int .i64 a1).wf = true) (hc : 1 ≤ a0 ∧ a0 ≤ 6 ∧ 30 < a1) : KOK gateRoundsOKB3 (symF (gateRoundsOSym a0 a1)) := by
  have r0 : IntKind.i64.min ≤ a0 ∧ a0 ≤ IntKind.i64.max := by simpa [Lit.wf] using w0
  have r1 : IntKind.i64.min ≤ a1 ∧ a1 ≤ IntKind.i64.max := by simpa [Lit.wf] using w1
  simp only [show IntKind.i64.min = -9223372036854775808 from rfl, show IntKind.i64.max = 9223372036854775807 from rfl] at r0 r1
  intro k j h
  unfold gateRoundsOKB3 at h
  unfold KB.find at h
  split at h
  · rename_i he
    injection h with h; subst h; dsimp only at he; subst he
    exact ⟨a0, by simp [symF, gateRoundsOSym], by show (1 : Int) ≤ a0; omega, by show a0 ≤ (6 : Int); omega, by simp⟩
  unfold KB.find at h
  split at h
  · rename_i he
    injection h with h; subst h; dsimp only at he; subst he
    exact ⟨a1, by simp [symF, gateRoundsOSym], by show (31 : Int) ≤ a1; omega, by show a1 ≤ (9223372036854775807 : Int); omega, by simp⟩
  cases h
set_option maxHeartbeats 400000 in
theorem walkGateRoundsO (a0 : Int) (a1 : Int) (w0 : (Lit.int .i64 a0).wf = true) (w1 : (Lit.int .i64 a1).wf = true) (hp : a0 < 1 ∨ 6 < a0 ∨ a1 < 1 ∨ 30 < a1) (s t : TypeId) (w : World) (g0 : w.heap[0]? = some (.cells gateLow.toArray s (0, 0))) (g1 : w.heap[1]? = some (.cells gateHigh.toArray t (0, 0))) :
    Calls Tryd.prog 3 #[.int .i64 a0, .int .i64 a1] w fun e' w' => e' = .returned (.bool true) ∧ Below w.heap.size w w' := by
  have hone : ∀ q, (symF (gateRoundsOSym a0 a1) q).oneCell' = true := symF_one (by intro p hp; simp [gateRoundsOSym] at hp; rcases hp with rfl | rfl | rfl | rfl <;> rfl)
  have hS : SOK [] (symF (gateRoundsOSym a0 a1)) := by
    intro k hk
    cases hk
  have h0 : symF (gateRoundsOSym a0 a1) (gsym 0) = .nilFunc := by simp [gsym, symF, gateRoundsOSym]
  have h1 : symF (gateRoundsOSym a0 a1) (gsym 1) = .nilFunc := by simp [gsym, symF, gateRoundsOSym]
  have hsq : ∀ x, x = symF (gateRoundsOSym a0 a1) → SQG x := fun x hx => by rw [hx]; exact ⟨h0, h1⟩
  have hgo : OrcOK Tryd.prog (· = symF (gateRoundsOSym a0 a1)) (globOrc [0, 1]) := OrcOK.weak hsq (globG _)
  have hgl : ∀ g, symF (gateRoundsOSym a0 a1) (gsym g) = .nilFunc → g < 2 := fun g hg => by
    rcases Nat.lt_or_ge g 2 with h | h
    · exact h
    · exfalso
      have n : ∀ k : Nat, k < 5000002 → ¬ k = 5000000 + g := fun k hk => by omega
      simp only [gsym, symF, gateRoundsOSym] at hg
      simp only [n _ (show 0 < 5000002 by decide), n 1 (by decide), n 5000000 (by decide), n 5000001 (by decide), if_false] at hg
      cases hg
  have hh := twoRows_holds (σ := symF (gateRoundsOSym a0 a1)) (a := gateLow) (b := gateHigh) rfl rfl g0 g1
  have htab : TabOK Tryd.prog (· = symF (gateRoundsOSym a0 a1)) (knTab 4 gateLow gateHigh) := (knTab_ok (fun s hs => (hsq s hs).1) (fun s hs => (hsq s hs).2) rfl rfl gateKKnown)
  have hcase : (a0 < 1) ∨ (6 < a0) ∨ (1 ≤ a0 ∧ a0 ≤ 6 ∧ a1 < 1) ∨ (1 ≤ a0 ∧ a0 ≤ 6 ∧ 30 < a1) := by omega
  rcases hcase with hc | hc | hc | hc
  · exact Calls.of_treeT evMixed evNames hone (orcOr_ok (fctOrc_ok (gateRoundsOF0_ok a0 a1 hc)) (orcOr_ok (arcOrc_ok (gateRoundsOA0_ok a0 a1 w0 w1 hc)) (orcOr_ok (mncOrc_ok (gateRoundsOM0_ok a0 a1 w0 w1 hc)) hgo))) gateRoundsOHook_ok (EqOK.nil _) (gateRoundsOKB0_ok a0 a1 w0 w1 hc) hS (tableL_self _) htab (args := gateRoundsOArgs) (fun r hr => by simp [gateRoundsOArgs, ren, hr, symF, gateRoundsOSym]) (gateRoundsOCheck0 s t) w hgl twoRows_none hh
  · exact Calls.of_treeT evMixed evNames hone (orcOr_ok (fctOrc_ok (gateRoundsOF1_ok a0 a1 hc)) (orcOr_ok (arcOrc_ok (gateRoundsOA1_ok a0 a1 w0 w1 hc)) (orcOr_ok (mncOrc_ok (gateRoundsOM1_ok a0 a1 w0 w1 hc)) hgo))) gateRoundsOHook_ok (EqOK.nil _) (gateRoundsOKB1_ok a0 a1 w0 w1 hc) hS (tableL_self _) htab (args := gateRoundsOArgs) (fun r hr => by simp [gateRoundsOArgs, ren, hr, symF, gateRoundsOSym]) (gateRoundsOCheck1 s t) w hgl twoRows_none hh
  · exact Calls.of_treeT evMixed evNames hone (orcOr_ok (fctOrc_ok (gateRoundsOF2_ok a0 a1 hc)) (orcOr_ok (arcOrc_ok (gateRoundsOA2_ok a0 a1 w0 w1 hc)) (orcOr_ok (mncOrc_ok (gateRoundsOM2_ok a0 a1 w0 w1 hc)) hgo))) gateRoundsOHook_ok (EqOK.nil _) (gateRoundsOKB2_ok a0 a1 w0 w1 hc) hS (tableL_self _) htab (args := gateRoundsOArgs) (fun r hr => by simp [gateRoundsOArgs, ren, hr, symF, gateRoundsOSym]) (gateRoundsOCheck2 s t) w hgl twoRows_none hh
  · exact Calls.of_treeT evMixed evNames hone (orcOr_ok (fctOrc_ok (gateRoundsOF3_ok a0 a1 hc)) (orcOr_ok (arcOrc_ok (gateRoundsOA3_ok a0 a1 w0 w1 hc)) (orcOr_ok (mncOrc_ok (gateRoundsOM3_ok a0 a1 w0 w1 hc)) hgo))) gateRoundsOHook_ok (EqOK.nil _) (gateRoundsOKB3_ok a0 a1 w0 w1 hc) hS (tableL_self _) htab (args := gateRoundsOArgs) (fun r hr => by simp [gateRoundsOArgs, ren, hr, symF, gateRoundsOSym]) (gateRoundsOCheck3 s t) w hgl twoRows_none hh
end Go.Proofs.YteibnmohoclocaaDoor
