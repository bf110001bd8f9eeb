/- SeatDoneO: the walk of the statement, by the evaluator with forks, trees of questions, facts. -/
import Derived.Test.YtllppcehncckfaaGreatDoorEwM8
import Derived.Test.YtllppcehncckfaaGreatDoorSeatK
import Derived.ProofKit
namespace Go.Proofs.YtllppcehncckfaaGreatDoor
open Go.RowKit
set_option linter.unusedVariables false
set_option linter.unusedSimpArgs false
set_option maxRecDepth 100000

def seatDoneOSym (a0 : Int) (a1 : Int) : List (Nat × Value) := [(0, .int .i64 a0), (1, .int .i64 a1), (5000000, .nilFunc), (5000001, .nilFunc)]
def seatDoneOET : ET := []
def seatDoneOArgs : Array Value := #[.chan (some 0), .chan (some 1)]
def seatDoneOHook (f : FuncId) : Option (Array Value → LM Value) := (match Nat.beq f 141 with | true => some (fun args => .ofA (aSortedKeys 9 [247] args)) | false => none)
def seatDoneOCut (f : FuncId) : Bool := hasN [26, 141, 247, 251] f
theorem seatDoneOHook_ok : ∀ f m, seatDoneOHook f = some m → FunOKL Tryz.prog f m := by
  intro f m h
  unfold seatDoneOHook at h
  split at h
  · rename_i hb; injection h with h; subst h; rw [Nat.eq_of_beq_eq_true hb]
    refine (aSortedKeys_sound (fun g hg => ?_)).toL
    simp at hg
    subst hg
    · exact sortedAt247
  · skip
    cases h
def seatDoneOKB0 : KB := [(0, ⟨-9223372036854775808, 9223372036854775807, []⟩), (1, ⟨-9223372036854775808, 8, []⟩)]
def seatDoneOF0 : Fct := []
def seatDoneOA0 : Arc := []
def seatDoneOM0 : Mnc := []
theorem seatDoneO0h0 (s t : TypeId) : DT.leaf.check (okT Tryz.prog (orcOr (fctOrc seatDoneOF0) (orcOr (arcOrc seatDoneOA0) (orcOr (mncOrc seatDoneOM0) (globOrc [0, 1])))) seatDoneOHook seatDoneOCut [] seatDoneOET 100000 (cFnL Tryz.prog) (knTab 6 gateLow gateHigh) 90 3 seatDoneOArgs ⟨twoRows gateLow gateHigh s t, 2, 2, [], []⟩) seatDoneOKB0 = true := check_leaf (by kernel_rfl)
theorem seatDoneOCheck0 (s t : TypeId) : DT.leaf.check (okT Tryz.prog (orcOr (fctOrc seatDoneOF0) (orcOr (arcOrc seatDoneOA0) (orcOr (mncOrc seatDoneOM0) (globOrc [0, 1])))) seatDoneOHook seatDoneOCut [] seatDoneOET 100000 (cFnL Tryz.prog) (knTab 6 gateLow gateHigh) 90 3 seatDoneOArgs ⟨twoRows gateLow gateHigh s t, 2, 2, [], []⟩) seatDoneOKB0 = true := seatDoneO0h0 s t
theorem seatDoneOF0_ok (a0 : Int) (a1 : Int) (hc : a1 < 9) : FctOK Tryz.prog seatDoneOF0 (symF (seatDoneOSym a0 a1)) := by
  intro p hp
  exact absurd hp (by simp [seatDoneOF0])
theorem seatDoneOA0_ok (a0 : Int) (a1 : Int) (w0 : (Lit.int .i64 a0).wf = true) (w1 : (Lit.int .i64 a1).wf = true) (hc : a1 < 9) : ArcOK Tryz.prog seatDoneOA0 (symF (seatDoneOSym a0 a1)) := by
  intro p hp t x y w
  exact absurd hp (by simp [seatDoneOA0])
theorem seatDoneOM0_ok (a0 : Int) (a1 : Int) (w0 : (Lit.int .i64 a0).wf = true) (w1 : (Lit.int .i64 a1).wf = true) (hc : a1 < 9) : MncOK seatDoneOM0 (symF (seatDoneOSym a0 a1)) := by
  intro p hp
  exact absurd hp (by simp [seatDoneOM0])
theorem seatDoneOKB0_ok (a0 : Int) (a1 : Int) (w0 : (Lit.int .i64 a0).wf = true) (w1 : (Lit.int .i64 a1).wf = true) (hc : a1 < 9) : KOK seatDoneOKB0 (symF (seatDoneOSym a0 a1)) := by
  have r0 : IntKind.i64.min ≤ a0 ∧ a0 ≤ IntKind.i64.max := by simpa [Lit.wf] using w0
  have r1 : IntKind.i64.min ≤ a1 ∧ a1 ≤ IntKind.i64.max := by simpa [Lit.wf] using w1
  simp only [show IntKind.i64.min = -9223372036854775808 from rfl, show IntKind.i64.max = 9223372036854775807 from rfl] at r0 r1
  intro k j h
  unfold seatDoneOKB0 at h
  unfold KB.find at h
  split at h
  · rename_i he
    injection h with h; subst h; dsimp only at he; subst he
    exact ⟨a0, by simp [symF, seatDoneOSym], by show (-9223372036854775808 : Int) ≤ a0; omega, by show a0 ≤ (9223372036854775807 : Int); omega, by simp⟩
  unfold KB.find at h
  split at h
  · rename_i he
    injection h with h; subst h; dsimp only at he; subst he
    exact ⟨a1, by simp [symF, seatDoneOSym], by show (-9223372036854775808 : Int) ≤ a1; omega, by show a1 ≤ (8 : Int); omega, by simp⟩
  cases h
def seatDoneOKB1 : KB := [(0, ⟨-9223372036854775808, 9223372036854775807, []⟩), (1, ⟨11, 9223372036854775807, []⟩)]
def seatDoneOF1 : Fct := []
def seatDoneOA1 : Arc := []
def seatDoneOM1 : Mnc := []
theorem seatDoneO1h0 (s t : TypeId) : DT.leaf.check (okT Tryz.prog (orcOr (fctOrc seatDoneOF1) (orcOr (arcOrc seatDoneOA1) (orcOr (mncOrc seatDoneOM1) (globOrc [0, 1])))) seatDoneOHook seatDoneOCut [] seatDoneOET 100000 (cFnL Tryz.prog) (knTab 6 gateLow gateHigh) 90 3 seatDoneOArgs ⟨twoRows gateLow gateHigh s t, 2, 2, [], []⟩) seatDoneOKB1 = true := check_leaf (by kernel_rfl)
theorem seatDoneOCheck1 (s t : TypeId) : DT.leaf.check (okT Tryz.prog (orcOr (fctOrc seatDoneOF1) (orcOr (arcOrc seatDoneOA1) (orcOr (mncOrc seatDoneOM1) (globOrc [0, 1])))) seatDoneOHook seatDoneOCut [] seatDoneOET 100000 (cFnL Tryz.prog) (knTab 6 gateLow gateHigh) 90 3 seatDoneOArgs ⟨twoRows gateLow gateHigh s t, 2, 2, [], []⟩) seatDoneOKB1 = true := seatDoneO1h0 s t
theorem seatDoneOF1_ok (a0 : Int) (a1 : Int) (hc : 10 < a1) : FctOK Tryz.prog seatDoneOF1 (symF (seatDoneOSym a0 a1)) := by
  intro p hp
  exact absurd hp (by simp [seatDoneOF1])
theorem seatDoneOA1_ok (a0 : Int) (a1 : Int) (w0 : (Lit.int .i64 a0).wf = true) (w1 : (Lit.int .i64 a1).wf = true) (hc : 10 < a1) : ArcOK Tryz.prog seatDoneOA1 (symF (seatDoneOSym a0 a1)) := by
  intro p hp t x y w
  exact absurd hp (by simp [seatDoneOA1])
theorem seatDoneOM1_ok (a0 : Int) (a1 : Int) (w0 : (Lit.int .i64 a0).wf = true) (w1 : (Lit.int .i64 a1).wf = true) (hc : 10 < a1) : MncOK seatDoneOM1 (symF (seatDoneOSym a0 a1)) := by
  intro p hp
  exact absurd hp (by simp [seatDoneOM1])
theorem seatDoneOKB1_ok (a0 : Int) (a1 : Int) (w0 : (Lit.int .i64 a0).wf = true) (w1 : (Lit.int .i64 a1).wf = true) (hc : 10 < a1) : KOK seatDoneOKB1 (symF (seatDoneOSym a0 a1)) := by
  have r0 : IntKind.i64.min ≤ a0 ∧ a0 ≤ IntKind.i64.max := by simpa [Lit.wf] using w0
  have r1 : IntKind.i64.min ≤ a1 ∧ a1 ≤ IntKind.i64.max := by simpa [Lit.wf] using w1
  simp only [show IntKind.i64.min = -9223372036854775808 from rfl, show IntKind.i64.max = 9223372036854775807 from rfl] at r0 r1
  intro k j h
  unfold seatDoneOKB1 at h
  unfold KB.find at h
  split at h
  · rename_i he
    injection h with h; subst h; dsimp only at he; subst he
    exact ⟨a0, by simp [symF, seatDoneOSym], by show (-9223372036854775808 : Int) ≤ a0; omega, by show a0 ≤ (9223372036854775807 : Int); omega, by simp⟩
  unfold KB.find at h
  split at h
  · rename_i he
    injection h with h; subst h; dsimp only at he; subst he
    exact ⟨a1, by simp [symF, seatDoneOSym], by show (11 : Int) ≤ a1; omega, by show a1 ≤ (9223372036854775807 : Int); omega, by simp⟩
  cases h
set_option maxHeartbeats 400000 in
theorem walkSeatDoneO (a0 : Int) (a1 : Int) (w0 : (Lit.int .i64 a0).wf = true) (w1 : (Lit.int .i64 a1).wf = true) (hp : a1 < 9 ∨ 10 < a1) (s t : TypeId) (w : World) (g0 : w.heap[0]? = some (.cells gateLow.toArray s (0, 0))) (g1 : w.heap[1]? = some (.cells gateHigh.toArray t (0, 0))) :
    Calls Tryz.prog 3 #[.int .i64 a0, .int .i64 a1] w fun e' w' => e' = .returned (.bool true) ∧ Below w.heap.size w w' := by
  have hone : ∀ q, (symF (seatDoneOSym a0 a1) q).oneCell' = true := symF_one (by intro p hp; simp [seatDoneOSym] at hp; rcases hp with rfl | rfl | rfl | rfl <;> rfl)
  have hS : SOK [] (symF (seatDoneOSym a0 a1)) := by
    intro k hk
    cases hk
  have h0 : symF (seatDoneOSym a0 a1) (gsym 0) = .nilFunc := by simp [gsym, symF, seatDoneOSym]
  have h1 : symF (seatDoneOSym a0 a1) (gsym 1) = .nilFunc := by simp [gsym, symF, seatDoneOSym]
  have hsq : ∀ x, x = symF (seatDoneOSym a0 a1) → SQG x := fun x hx => by rw [hx]; exact ⟨h0, h1⟩
  have hgo : OrcOK Tryz.prog (· = symF (seatDoneOSym a0 a1)) (globOrc [0, 1]) := OrcOK.weak hsq (globG _)
  have hgl : ∀ g, symF (seatDoneOSym a0 a1) (gsym g) = .nilFunc → g < 2 := fun g hg => by
    rcases Nat.lt_or_ge g 2 with h | h
    · exact h
    · exfalso
      have n : ∀ k : Nat, k < 5000002 → ¬ k = 5000000 + g := fun k hk => by omega
      simp only [gsym, symF, seatDoneOSym] at hg
      simp only [n _ (show 0 < 5000002 by decide), n 1 (by decide), n 5000000 (by decide), n 5000001 (by decide), if_false] at hg
      cases hg
  have hh := twoRows_holds (σ := symF (seatDoneOSym a0 a1)) (a := gateLow) (b := gateHigh) rfl rfl g0 g1
  have htab : TabOK Tryz.prog (· = symF (seatDoneOSym a0 a1)) (knTab 6 gateLow gateHigh) := (knTab_ok (fun s hs => (hsq s hs).1) (fun s hs => (hsq s hs).2) rfl rfl seatKKnown)
  have hcase : (a1 < 9) ∨ (10 < a1) := by omega
  rcases hcase with hc | hc
  · exact Calls.of_treeT evMixed evNames hone (orcOr_ok (fctOrc_ok (seatDoneOF0_ok a0 a1 hc)) (orcOr_ok (arcOrc_ok (seatDoneOA0_ok a0 a1 w0 w1 hc)) (orcOr_ok (mncOrc_ok (seatDoneOM0_ok a0 a1 w0 w1 hc)) hgo))) seatDoneOHook_ok (EqOK.nil _) (seatDoneOKB0_ok a0 a1 w0 w1 hc) hS (tableL_self _) htab (args := seatDoneOArgs) (fun r hr => by simp [seatDoneOArgs, ren, hr, symF, seatDoneOSym]) (seatDoneOCheck0 s t) w hgl twoRows_none hh
  · exact Calls.of_treeT evMixed evNames hone (orcOr_ok (fctOrc_ok (seatDoneOF1_ok a0 a1 hc)) (orcOr_ok (arcOrc_ok (seatDoneOA1_ok a0 a1 w0 w1 hc)) (orcOr_ok (mncOrc_ok (seatDoneOM1_ok a0 a1 w0 w1 hc)) hgo))) seatDoneOHook_ok (EqOK.nil _) (seatDoneOKB1_ok a0 a1 w0 w1 hc) hS (tableL_self _) htab (args := seatDoneOArgs) (fun r hr => by simp [seatDoneOArgs, ren, hr, symF, seatDoneOSym]) (seatDoneOCheck1 s t) w hgl twoRows_none hh
end Go.Proofs.YtllppcehncckfaaGreatDoor
