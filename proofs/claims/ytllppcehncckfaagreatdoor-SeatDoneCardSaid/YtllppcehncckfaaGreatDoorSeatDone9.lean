/- SeatDone9: the walk of the statement, by the evaluator with forks, trees of questions, facts. -/
import Derived.Test.YtllppcehncckfaaGreatDoorEwM8
import Derived.Test.YtllppcehncckfaaGreatDoorSeatD9n
import Derived.Test.YtllppcehncckfaaGreatDoorSeatD9y
import Derived.Test.YtllppcehncckfaaGreatDoorSeatK
import Derived.ProofKit
namespace Go.Proofs.YtllppcehncckfaaGreatDoor
open Go.RowKit
set_option linter.unusedVariables false
set_option linter.unusedSimpArgs false
set_option maxRecDepth 100000

def seatDone9Sym (a0 : Int) : List (Nat × Value) := [(0, .int .i64 a0), (5000000, .nilFunc), (5000001, .nilFunc)]
def seatDone9ET : ET := []
def seatDone9Args : Array Value := #[.chan (some 0), .int .i64 (9)]
def seatDone9Hook (f : FuncId) : Option (Array Value → LM Value) := (match Nat.beq f 141 with | true => some (fun args => .ofA (aSortedKeys 9 [247] args)) | false => none)
def seatDone9Cut (f : FuncId) : Bool := hasN [26, 141, 247, 251] f
theorem seatDone9Hook_ok : ∀ f m, seatDone9Hook f = some m → FunOKL Tryz.prog f m := by
  intro f m h
  unfold seatDone9Hook at h
  split at h
  · rename_i hb; injection h with h; subst h; rw [Nat.eq_of_beq_eq_true hb]
    refine (aSortedKeys_sound (fun g hg => ?_)).toL
    simp at hg
    subst hg
    · exact sortedAt247
  · skip
    cases h
def seatDone9KB0 : KB := [(0, ⟨-9223372036854775808, 7, []⟩)]
def seatDone9F0 : Fct := []
def seatDone9A0 : Arc := []
def seatDone9M0 : Mnc := []
theorem seatDone90h0 (s t : TypeId) : DT.leaf.check (okT Tryz.prog (orcOr (fctOrc seatDone9F0) (orcOr (arcOrc seatDone9A0) (orcOr (mncOrc seatDone9M0) (globOrc [0, 1])))) seatDone9Hook seatDone9Cut [] seatDone9ET 100000 (cFnL Tryz.prog) (tabOr (tabE [seatD9nE1, seatD9nE165, seatD9nE189, seatD9nE213, seatD9nE237, seatD9nE261, seatD9nE285, seatD9nE309, seatD9nE333, seatD9nE357, seatD9nE381, seatD9nE650, seatD9nE674, seatD9nE698, seatD9nE739, seatD9nE763, seatD9nE787, seatD9nE828, seatD9nE852, seatD9nE876, seatD9nE917, seatD9nE941, seatD9nE965, seatD9nE1006, seatD9nE1030, seatD9nE1054, seatD9nE1095, seatD9nE1562, seatD9nE1602, seatD9nE1711, seatD9nE1792]) (knTab 6 gateLow gateHigh)) 90 3 seatDone9Args ⟨twoRows gateLow gateHigh s t, 2, 2, [], []⟩) seatDone9KB0 = true := check_leaf (by kernel_rfl)
theorem seatDone9Check0 (s t : TypeId) : DT.leaf.check (okT Tryz.prog (orcOr (fctOrc seatDone9F0) (orcOr (arcOrc seatDone9A0) (orcOr (mncOrc seatDone9M0) (globOrc [0, 1])))) seatDone9Hook seatDone9Cut [] seatDone9ET 100000 (cFnL Tryz.prog) (tabOr (tabE [seatD9nE1, seatD9nE165, seatD9nE189, seatD9nE213, seatD9nE237, seatD9nE261, seatD9nE285, seatD9nE309, seatD9nE333, seatD9nE357, seatD9nE381, seatD9nE650, seatD9nE674, seatD9nE698, seatD9nE739, seatD9nE763, seatD9nE787, seatD9nE828, seatD9nE852, seatD9nE876, seatD9nE917, seatD9nE941, seatD9nE965, seatD9nE1006, seatD9nE1030, seatD9nE1054, seatD9nE1095, seatD9nE1562, seatD9nE1602, seatD9nE1711, seatD9nE1792]) (knTab 6 gateLow gateHigh)) 90 3 seatDone9Args ⟨twoRows gateLow gateHigh s t, 2, 2, [], []⟩) seatDone9KB0 = true := seatDone90h0 s t
theorem seatDone9F0_ok (a0 : Int) (hc : a0 < 8) : FctOK Tryz.prog seatDone9F0 (symF (seatDone9Sym a0)) := by
  intro p hp
  exact absurd hp (by simp [seatDone9F0])
theorem seatDone9A0_ok (a0 : Int) (w0 : (Lit.int .i64 a0).wf = true) (hc : a0 < 8) : ArcOK Tryz.prog seatDone9A0 (symF (seatDone9Sym a0)) := by
  intro p hp t x y w
  exact absurd hp (by simp [seatDone9A0])
theorem seatDone9M0_ok (a0 : Int) (w0 : (Lit.int .i64 a0).wf = true) (hc : a0 < 8) : MncOK seatDone9M0 (symF (seatDone9Sym a0)) := by
  intro p hp
  exact absurd hp (by simp [seatDone9M0])
theorem seatDone9KB0_ok (a0 : Int) (w0 : (Lit.int .i64 a0).wf = true) (hc : a0 < 8) : KOK seatDone9KB0 (symF (seatDone9Sym a0)) := by
  have r0 : IntKind.i64.min ≤ a0 ∧ a0 ≤ IntKind.i64.max := by simpa [Lit.wf] using w0
  simp only [show IntKind.i64.min = -9223372036854775808 from rfl, show IntKind.i64.max = 9223372036854775807 from rfl] at r0
  intro k j h
  unfold seatDone9KB0 at h
  unfold KB.find at h
  split at h
  · rename_i he
    injection h with h; subst h; dsimp only at he; subst he
    exact ⟨a0, by simp [symF, seatDone9Sym], by show (-9223372036854775808 : Int) ≤ a0; omega, by show a0 ≤ (7 : Int); omega, by simp⟩
  cases h
def seatDone9KB1 : KB := [(0, ⟨9, 9223372036854775807, []⟩)]
def seatDone9F1 : Fct := []
def seatDone9A1 : Arc := []
def seatDone9M1 : Mnc := []
theorem seatDone91h0 (s t : TypeId) : DT.leaf.check (okT Tryz.prog (orcOr (fctOrc seatDone9F1) (orcOr (arcOrc seatDone9A1) (orcOr (mncOrc seatDone9M1) (globOrc [0, 1])))) seatDone9Hook seatDone9Cut [] seatDone9ET 100000 (cFnL Tryz.prog) (tabOr (tabE [seatD9nE1, seatD9nE165, seatD9nE189, seatD9nE213, seatD9nE237, seatD9nE261, seatD9nE285, seatD9nE309, seatD9nE333, seatD9nE357, seatD9nE381, seatD9nE650, seatD9nE674, seatD9nE698, seatD9nE739, seatD9nE763, seatD9nE787, seatD9nE828, seatD9nE852, seatD9nE876, seatD9nE917, seatD9nE941, seatD9nE965, seatD9nE1006, seatD9nE1030, seatD9nE1054, seatD9nE1095, seatD9nE1562, seatD9nE1602, seatD9nE1711, seatD9nE1792]) (knTab 6 gateLow gateHigh)) 90 3 seatDone9Args ⟨twoRows gateLow gateHigh s t, 2, 2, [], []⟩) seatDone9KB1 = true := check_leaf (by kernel_rfl)
theorem seatDone9Check1 (s t : TypeId) : DT.leaf.check (okT Tryz.prog (orcOr (fctOrc seatDone9F1) (orcOr (arcOrc seatDone9A1) (orcOr (mncOrc seatDone9M1) (globOrc [0, 1])))) seatDone9Hook seatDone9Cut [] seatDone9ET 100000 (cFnL Tryz.prog) (tabOr (tabE [seatD9nE1, seatD9nE165, seatD9nE189, seatD9nE213, seatD9nE237, seatD9nE261, seatD9nE285, seatD9nE309, seatD9nE333, seatD9nE357, seatD9nE381, seatD9nE650, seatD9nE674, seatD9nE698, seatD9nE739, seatD9nE763, seatD9nE787, seatD9nE828, seatD9nE852, seatD9nE876, seatD9nE917, seatD9nE941, seatD9nE965, seatD9nE1006, seatD9nE1030, seatD9nE1054, seatD9nE1095, seatD9nE1562, seatD9nE1602, seatD9nE1711, seatD9nE1792]) (knTab 6 gateLow gateHigh)) 90 3 seatDone9Args ⟨twoRows gateLow gateHigh s t, 2, 2, [], []⟩) seatDone9KB1 = true := seatDone91h0 s t
theorem seatDone9F1_ok (a0 : Int) (hc : 8 < a0) : FctOK Tryz.prog seatDone9F1 (symF (seatDone9Sym a0)) := by
  intro p hp
  exact absurd hp (by simp [seatDone9F1])
theorem seatDone9A1_ok (a0 : Int) (w0 : (Lit.int .i64 a0).wf = true) (hc : 8 < a0) : ArcOK Tryz.prog seatDone9A1 (symF (seatDone9Sym a0)) := by
  intro p hp t x y w
  exact absurd hp (by simp [seatDone9A1])
theorem seatDone9M1_ok (a0 : Int) (w0 : (Lit.int .i64 a0).wf = true) (hc : 8 < a0) : MncOK seatDone9M1 (symF (seatDone9Sym a0)) := by
  intro p hp
  exact absurd hp (by simp [seatDone9M1])
theorem seatDone9KB1_ok (a0 : Int) (w0 : (Lit.int .i64 a0).wf = true) (hc : 8 < a0) : KOK seatDone9KB1 (symF (seatDone9Sym a0)) := by
  have r0 : IntKind.i64.min ≤ a0 ∧ a0 ≤ IntKind.i64.max := by simpa [Lit.wf] using w0
  simp only [show IntKind.i64.min = -9223372036854775808 from rfl, show IntKind.i64.max = 9223372036854775807 from rfl] at r0
  intro k j h
  unfold seatDone9KB1 at h
  unfold KB.find at h
  split at h
  · rename_i he
    injection h with h; subst h; dsimp only at he; subst he
    exact ⟨a0, by simp [symF, seatDone9Sym], by show (9 : Int) ≤ a0; omega, by show a0 ≤ (9223372036854775807 : Int); omega, by simp⟩
  cases h
def seatDone9KB2 : KB := [(0, ⟨8, 8, []⟩)]
def seatDone9F2 : Fct := []
def seatDone9A2 : Arc := []
def seatDone9M2 : Mnc := []
theorem seatDone92h0 (s t : TypeId) : DT.leaf.check (okT Tryz.prog (orcOr (fctOrc seatDone9F2) (orcOr (arcOrc seatDone9A2) (orcOr (mncOrc seatDone9M2) (globOrc [0, 1])))) seatDone9Hook seatDone9Cut [] seatDone9ET 100000 (cFnL Tryz.prog) (tabOr (tabE [seatD9yE1, seatD9yE165, seatD9yE189, seatD9yE213, seatD9yE237, seatD9yE261, seatD9yE285, seatD9yE309, seatD9yE333, seatD9yE357, seatD9yE381, seatD9yE650, seatD9yE674, seatD9yE698, seatD9yE739, seatD9yE763, seatD9yE787, seatD9yE828, seatD9yE852, seatD9yE876, seatD9yE917, seatD9yE941, seatD9yE965, seatD9yE1006, seatD9yE1030, seatD9yE1054, seatD9yE1095, seatD9yE1562, seatD9yE1602, seatD9yE1714, seatD9yE1855, seatD9yE1938, seatD9yE1992, seatD9yE2023, seatD9yE2029]) (knTab 6 gateLow gateHigh)) 90 3 seatDone9Args ⟨twoRows gateLow gateHigh s t, 2, 2, [], []⟩) seatDone9KB2 = true := check_leaf (by kernel_rfl)
theorem seatDone9Check2 (s t : TypeId) : DT.leaf.check (okT Tryz.prog (orcOr (fctOrc seatDone9F2) (orcOr (arcOrc seatDone9A2) (orcOr (mncOrc seatDone9M2) (globOrc [0, 1])))) seatDone9Hook seatDone9Cut [] seatDone9ET 100000 (cFnL Tryz.prog) (tabOr (tabE [seatD9yE1, seatD9yE165, seatD9yE189, seatD9yE213, seatD9yE237, seatD9yE261, seatD9yE285, seatD9yE309, seatD9yE333, seatD9yE357, seatD9yE381, seatD9yE650, seatD9yE674, seatD9yE698, seatD9yE739, seatD9yE763, seatD9yE787, seatD9yE828, seatD9yE852, seatD9yE876, seatD9yE917, seatD9yE941, seatD9yE965, seatD9yE1006, seatD9yE1030, seatD9yE1054, seatD9yE1095, seatD9yE1562, seatD9yE1602, seatD9yE1714, seatD9yE1855, seatD9yE1938, seatD9yE1992, seatD9yE2023, seatD9yE2029]) (knTab 6 gateLow gateHigh)) 90 3 seatDone9Args ⟨twoRows gateLow gateHigh s t, 2, 2, [], []⟩) seatDone9KB2 = true := seatDone92h0 s t
theorem seatDone9F2_ok (a0 : Int) (hc : a0 = 8) : FctOK Tryz.prog seatDone9F2 (symF (seatDone9Sym a0)) := by
  intro p hp
  exact absurd hp (by simp [seatDone9F2])
theorem seatDone9A2_ok (a0 : Int) (w0 : (Lit.int .i64 a0).wf = true) (hc : a0 = 8) : ArcOK Tryz.prog seatDone9A2 (symF (seatDone9Sym a0)) := by
  intro p hp t x y w
  exact absurd hp (by simp [seatDone9A2])
theorem seatDone9M2_ok (a0 : Int) (w0 : (Lit.int .i64 a0).wf = true) (hc : a0 = 8) : MncOK seatDone9M2 (symF (seatDone9Sym a0)) := by
  intro p hp
  exact absurd hp (by simp [seatDone9M2])
theorem seatDone9KB2_ok (a0 : Int) (w0 : (Lit.int .i64 a0).wf = true) (hc : a0 = 8) : KOK seatDone9KB2 (symF (seatDone9Sym a0)) := by
  have r0 : IntKind.i64.min ≤ a0 ∧ a0 ≤ IntKind.i64.max := by simpa [Lit.wf] using w0
  simp only [show IntKind.i64.min = -9223372036854775808 from rfl, show IntKind.i64.max = 9223372036854775807 from rfl] at r0
  intro k j h
  unfold seatDone9KB2 at h
  unfold KB.find at h
  split at h
  · rename_i he
    injection h with h; subst h; dsimp only at he; subst he
    exact ⟨a0, by simp [symF, seatDone9Sym], by show (8 : Int) ≤ a0; omega, by show a0 ≤ (8 : Int); omega, by simp⟩
  cases h
set_option maxHeartbeats 400000 in
theorem walkSeatDone9 (a0 : Int) (w0 : (Lit.int .i64 a0).wf = true) (s t : TypeId) (w : World) (g0 : w.heap[0]? = some (.cells gateLow.toArray s (0, 0))) (g1 : w.heap[1]? = some (.cells gateHigh.toArray t (0, 0))) :
    Calls Tryz.prog 3 #[.int .i64 a0, .int .i64 (9)] w fun e' w' => e' = .returned (.bool true) ∧ Below w.heap.size w w' := by
  have hone : ∀ q, (symF (seatDone9Sym a0) q).oneCell' = true := symF_one (by intro p hp; simp [seatDone9Sym] at hp; rcases hp with rfl | rfl | rfl <;> rfl)
  have hS : SOK [] (symF (seatDone9Sym a0)) := by
    intro k hk
    cases hk
  have h0 : symF (seatDone9Sym a0) (gsym 0) = .nilFunc := by simp [gsym, symF, seatDone9Sym]
  have h1 : symF (seatDone9Sym a0) (gsym 1) = .nilFunc := by simp [gsym, symF, seatDone9Sym]
  have hsq : ∀ x, x = symF (seatDone9Sym a0) → SQG x := fun x hx => by rw [hx]; exact ⟨h0, h1⟩
  have hgo : OrcOK Tryz.prog (· = symF (seatDone9Sym a0)) (globOrc [0, 1]) := OrcOK.weak hsq (globG _)
  have hgl : ∀ g, symF (seatDone9Sym a0) (gsym g) = .nilFunc → g < 2 := fun g hg => by
    rcases Nat.lt_or_ge g 2 with h | h
    · exact h
    · exfalso
      have n : ∀ k : Nat, k < 5000002 → ¬ k = 5000000 + g := fun k hk => by omega
      simp only [gsym, symF, seatDone9Sym] at hg
      simp only [n _ (show 0 < 5000002 by decide), n 5000000 (by decide), n 5000001 (by decide), if_false] at hg
      cases hg
  have hh := twoRows_holds (σ := symF (seatDone9Sym a0)) (a := gateLow) (b := gateHigh) rfl rfl g0 g1
  have htab : TabOK Tryz.prog (· = symF (seatDone9Sym a0)) (knTab 6 gateLow gateHigh) := (knTab_ok (fun s hs => (hsq s hs).1) (fun s hs => (hsq s hs).2) rfl rfl seatKKnown)
  have hcase : (a0 < 8) ∨ (8 < a0) ∨ (a0 = 8) := by omega
  rcases hcase with hc | hc | hc
  · exact Calls.of_treeT evMixed evNames hone (orcOr_ok (fctOrc_ok (seatDone9F0_ok a0 hc)) (orcOr_ok (arcOrc_ok (seatDone9A0_ok a0 w0 hc)) (orcOr_ok (mncOrc_ok (seatDone9M0_ok a0 w0 hc)) hgo))) seatDone9Hook_ok (EqOK.nil _) (seatDone9KB0_ok a0 w0 hc) hS (tableL_self _) (TabOK.or ((tabE_ok (es := [seatD9nE1, seatD9nE165, seatD9nE189, seatD9nE213, seatD9nE237, seatD9nE261, seatD9nE285, seatD9nE309, seatD9nE333, seatD9nE357, seatD9nE381, seatD9nE650, seatD9nE674, seatD9nE698, seatD9nE739, seatD9nE763, seatD9nE787, seatD9nE828, seatD9nE852, seatD9nE876, seatD9nE917, seatD9nE941, seatD9nE965, seatD9nE1006, seatD9nE1030, seatD9nE1054, seatD9nE1095, seatD9nE1562, seatD9nE1602, seatD9nE1711, seatD9nE1792]) (allCons seatD9nE1_is (allCons seatD9nE165_is (allCons seatD9nE189_is (allCons seatD9nE213_is (allCons seatD9nE237_is (allCons seatD9nE261_is (allCons seatD9nE285_is (allCons seatD9nE309_is (allCons seatD9nE333_is (allCons seatD9nE357_is (allCons seatD9nE381_is (allCons seatD9nE650_is (allCons seatD9nE674_is (allCons seatD9nE698_is (allCons seatD9nE739_is (allCons seatD9nE763_is (allCons seatD9nE787_is (allCons seatD9nE828_is (allCons seatD9nE852_is (allCons seatD9nE876_is (allCons seatD9nE917_is (allCons seatD9nE941_is (allCons seatD9nE965_is (allCons seatD9nE1006_is (allCons seatD9nE1030_is (allCons seatD9nE1054_is (allCons seatD9nE1095_is (allCons seatD9nE1562_is (allCons seatD9nE1602_is (allCons seatD9nE1711_is (allCons seatD9nE1792_is allNil)))))))))))))))))))))))))))))))).mono hsq) htab) (args := seatDone9Args) (fun r hr => by simp [seatDone9Args, ren, hr, symF, seatDone9Sym]) (seatDone9Check0 s t) w hgl twoRows_none hh
  · exact Calls.of_treeT evMixed evNames hone (orcOr_ok (fctOrc_ok (seatDone9F1_ok a0 hc)) (orcOr_ok (arcOrc_ok (seatDone9A1_ok a0 w0 hc)) (orcOr_ok (mncOrc_ok (seatDone9M1_ok a0 w0 hc)) hgo))) seatDone9Hook_ok (EqOK.nil _) (seatDone9KB1_ok a0 w0 hc) hS (tableL_self _) (TabOK.or ((tabE_ok (es := [seatD9nE1, seatD9nE165, seatD9nE189, seatD9nE213, seatD9nE237, seatD9nE261, seatD9nE285, seatD9nE309, seatD9nE333, seatD9nE357, seatD9nE381, seatD9nE650, seatD9nE674, seatD9nE698, seatD9nE739, seatD9nE763, seatD9nE787, seatD9nE828, seatD9nE852, seatD9nE876, seatD9nE917, seatD9nE941, seatD9nE965, seatD9nE1006, seatD9nE1030, seatD9nE1054, seatD9nE1095, seatD9nE1562, seatD9nE1602, seatD9nE1711, seatD9nE1792]) (allCons seatD9nE1_is (allCons seatD9nE165_is (allCons seatD9nE189_is (allCons seatD9nE213_is (allCons seatD9nE237_is (allCons seatD9nE261_is (allCons seatD9nE285_is (allCons seatD9nE309_is (allCons seatD9nE333_is (allCons seatD9nE357_is (allCons seatD9nE381_is (allCons seatD9nE650_is (allCons seatD9nE674_is (allCons seatD9nE698_is (allCons seatD9nE739_is (allCons seatD9nE763_is (allCons seatD9nE787_is (allCons seatD9nE828_is (allCons seatD9nE852_is (allCons seatD9nE876_is (allCons seatD9nE917_is (allCons seatD9nE941_is (allCons seatD9nE965_is (allCons seatD9nE1006_is (allCons seatD9nE1030_is (allCons seatD9nE1054_is (allCons seatD9nE1095_is (allCons seatD9nE1562_is (allCons seatD9nE1602_is (allCons seatD9nE1711_is (allCons seatD9nE1792_is allNil)))))))))))))))))))))))))))))))).mono hsq) htab) (args := seatDone9Args) (fun r hr => by simp [seatDone9Args, ren, hr, symF, seatDone9Sym]) (seatDone9Check1 s t) w hgl twoRows_none hh
  · exact Calls.of_treeT evMixed evNames hone (orcOr_ok (fctOrc_ok (seatDone9F2_ok a0 hc)) (orcOr_ok (arcOrc_ok (seatDone9A2_ok a0 w0 hc)) (orcOr_ok (mncOrc_ok (seatDone9M2_ok a0 w0 hc)) hgo))) seatDone9Hook_ok (EqOK.nil _) (seatDone9KB2_ok a0 w0 hc) hS (tableL_self _) (TabOK.or ((tabE_ok (es := [seatD9yE1, seatD9yE165, seatD9yE189, seatD9yE213, seatD9yE237, seatD9yE261, seatD9yE285, seatD9yE309, seatD9yE333, seatD9yE357, seatD9yE381, seatD9yE650, seatD9yE674, seatD9yE698, seatD9yE739, seatD9yE763, seatD9yE787, seatD9yE828, seatD9yE852, seatD9yE876, seatD9yE917, seatD9yE941, seatD9yE965, seatD9yE1006, seatD9yE1030, seatD9yE1054, seatD9yE1095, seatD9yE1562, seatD9yE1602, seatD9yE1714, seatD9yE1855, seatD9yE1938, seatD9yE1992, seatD9yE2023, seatD9yE2029]) (allCons seatD9yE1_is (allCons seatD9yE165_is (allCons seatD9yE189_is (allCons seatD9yE213_is (allCons seatD9yE237_is (allCons seatD9yE261_is (allCons seatD9yE285_is (allCons seatD9yE309_is (allCons seatD9yE333_is (allCons seatD9yE357_is (allCons seatD9yE381_is (allCons seatD9yE650_is (allCons seatD9yE674_is (allCons seatD9yE698_is (allCons seatD9yE739_is (allCons seatD9yE763_is (allCons seatD9yE787_is (allCons seatD9yE828_is (allCons seatD9yE852_is (allCons seatD9yE876_is (allCons seatD9yE917_is (allCons seatD9yE941_is (allCons seatD9yE965_is (allCons seatD9yE1006_is (allCons seatD9yE1030_is (allCons seatD9yE1054_is (allCons seatD9yE1095_is (allCons seatD9yE1562_is (allCons seatD9yE1602_is (allCons seatD9yE1714_is (allCons seatD9yE1855_is (allCons seatD9yE1938_is (allCons seatD9yE1992_is (allCons seatD9yE2023_is (allCons seatD9yE2029_is allNil)))))))))))))))))))))))))))))))))))).mono hsq) htab) (args := seatDone9Args) (fun r hr => by simp [seatDone9Args, ren, hr, symF, seatDone9Sym]) (seatDone9Check2 s t) w hgl twoRows_none hh
end Go.Proofs.YtllppcehncckfaaGreatDoor
