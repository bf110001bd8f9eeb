/- SeatDone10: the walk of the statement, by the evaluator with forks, trees of questions, facts. -/
import Derived.Test.YtllppcehncckfaaGreatDoorEwM8
import Derived.Test.YtllppcehncckfaaGreatDoorSeatD10n
import Derived.Test.YtllppcehncckfaaGreatDoorSeatD10y
import Derived.Test.YtllppcehncckfaaGreatDoorSeatK
import Derived.ProofKit
namespace Go.Proofs.YtllppcehncckfaaGreatDoor
open Go.RowKit
set_option linter.unusedVariables false
set_option linter.unusedSimpArgs false
set_option maxRecDepth 100000

def seatDone10Sym (a0 : Int) : List (Nat × Value) := [(0, .int .i64 a0), (5000000, .nilFunc), (5000001, .nilFunc)]
def seatDone10ET : ET := []
def seatDone10Args : Array Value := #[.chan (some 0), .int .i64 (10)]
def seatDone10Hook (f : FuncId) : Option (Array Value → LM Value) := (match Nat.beq f 141 with | true => some (fun args => .ofA (aSortedKeys 9 [247] args)) | false => none)
def seatDone10Cut (f : FuncId) : Bool := hasN [26, 141, 247, 251] f
theorem seatDone10Hook_ok : ∀ f m, seatDone10Hook f = some m → FunOKL Tryz.prog f m := by
  intro f m h
  unfold seatDone10Hook at h
  split at h
  · rename_i hb; injection h with h; subst h; rw [Nat.eq_of_beq_eq_true hb]
    refine (aSortedKeys_sound (fun g hg => ?_)).toL
    simp at hg
    subst hg
    · exact sortedAt247
  · skip
    cases h
def seatDone10KB0 : KB := [(0, ⟨-9223372036854775808, 7, []⟩)]
def seatDone10F0 : Fct := []
def seatDone10A0 : Arc := []
def seatDone10M0 : Mnc := []
theorem seatDone100h0 (s t : TypeId) : DT.leaf.check (okT Tryz.prog (orcOr (fctOrc seatDone10F0) (orcOr (arcOrc seatDone10A0) (orcOr (mncOrc seatDone10M0) (globOrc [0, 1])))) seatDone10Hook seatDone10Cut [] seatDone10ET 100000 (cFnL Tryz.prog) (tabOr (tabE [seatD10nE1, seatD10nE165, seatD10nE189, seatD10nE213, seatD10nE237, seatD10nE261, seatD10nE285, seatD10nE309, seatD10nE333, seatD10nE357, seatD10nE381, seatD10nE650, seatD10nE674, seatD10nE698, seatD10nE739, seatD10nE763, seatD10nE787, seatD10nE828, seatD10nE852, seatD10nE876, seatD10nE917, seatD10nE941, seatD10nE965, seatD10nE1006, seatD10nE1030, seatD10nE1054, seatD10nE1095, seatD10nE1562, seatD10nE1602, seatD10nE1711, seatD10nE1792]) (knTab 6 gateLow gateHigh)) 90 3 seatDone10Args ⟨twoRows gateLow gateHigh s t, 2, 2, [], []⟩) seatDone10KB0 = true := check_leaf (by kernel_rfl)
theorem seatDone10Check0 (s t : TypeId) : DT.leaf.check (okT Tryz.prog (orcOr (fctOrc seatDone10F0) (orcOr (arcOrc seatDone10A0) (orcOr (mncOrc seatDone10M0) (globOrc [0, 1])))) seatDone10Hook seatDone10Cut [] seatDone10ET 100000 (cFnL Tryz.prog) (tabOr (tabE [seatD10nE1, seatD10nE165, seatD10nE189, seatD10nE213, seatD10nE237, seatD10nE261, seatD10nE285, seatD10nE309, seatD10nE333, seatD10nE357, seatD10nE381, seatD10nE650, seatD10nE674, seatD10nE698, seatD10nE739, seatD10nE763, seatD10nE787, seatD10nE828, seatD10nE852, seatD10nE876, seatD10nE917, seatD10nE941, seatD10nE965, seatD10nE1006, seatD10nE1030, seatD10nE1054, seatD10nE1095, seatD10nE1562, seatD10nE1602, seatD10nE1711, seatD10nE1792]) (knTab 6 gateLow gateHigh)) 90 3 seatDone10Args ⟨twoRows gateLow gateHigh s t, 2, 2, [], []⟩) seatDone10KB0 = true := seatDone100h0 s t
theorem seatDone10F0_ok (a0 : Int) (hc : a0 < 8) : FctOK Tryz.prog seatDone10F0 (symF (seatDone10Sym a0)) := by
  intro p hp
  exact absurd hp (by simp [seatDone10F0])
theorem seatDone10A0_ok (a0 : Int) (w0 : (Lit.int .i64 a0).wf = true) (hc : a0 < 8) : ArcOK Tryz.prog seatDone10A0 (symF (seatDone10Sym a0)) := by
  intro p hp t x y w
  exact absurd hp (by simp [seatDone10A0])
theorem seatDone10M0_ok (a0 : Int) (w0 : (Lit.int .i64 a0).wf = true) (hc : a0 < 8) : MncOK seatDone10M0 (symF (seatDone10Sym a0)) := by
  intro p hp
  exact absurd hp (by simp [seatDone10M0])
theorem seatDone10KB0_ok (a0 : Int) (w0 : (Lit.int .i64 a0).wf = true) (hc : a0 < 8) : KOK seatDone10KB0 (symF (seatDone10Sym a0)) := by
  have r0 : IntKind.i64.min ≤ a0 ∧ a0 ≤ IntKind.i64.max := by simpa [Lit.wf] using w0
  simp only [show IntKind.i64.min = -9223372036854775808 from rfl, show IntKind.i64.max = 9223372036854775807 from rfl] at r0
  intro k j h
  unfold seatDone10KB0 at h
  unfold KB.find at h
  split at h
  · rename_i he
    injection h with h; subst h; dsimp only at he; subst he
    exact ⟨a0, by simp [symF, seatDone10Sym], by show (-9223372036854775808 : Int) ≤ a0; omega, by show a0 ≤ (7 : Int); omega, by simp⟩
  cases h
def seatDone10KB1 : KB := [(0, ⟨9, 9223372036854775807, []⟩)]
def seatDone10F1 : Fct := []
def seatDone10A1 : Arc := []
def seatDone10M1 : Mnc := []
theorem seatDone101h0 (s t : TypeId) : DT.leaf.check (okT Tryz.prog (orcOr (fctOrc seatDone10F1) (orcOr (arcOrc seatDone10A1) (orcOr (mncOrc seatDone10M1) (globOrc [0, 1])))) seatDone10Hook seatDone10Cut [] seatDone10ET 100000 (cFnL Tryz.prog) (tabOr (tabE [seatD10nE1, seatD10nE165, seatD10nE189, seatD10nE213, seatD10nE237, seatD10nE261, seatD10nE285, seatD10nE309, seatD10nE333, seatD10nE357, seatD10nE381, seatD10nE650, seatD10nE674, seatD10nE698, seatD10nE739, seatD10nE763, seatD10nE787, seatD10nE828, seatD10nE852, seatD10nE876, seatD10nE917, seatD10nE941, seatD10nE965, seatD10nE1006, seatD10nE1030, seatD10nE1054, seatD10nE1095, seatD10nE1562, seatD10nE1602, seatD10nE1711, seatD10nE1792]) (knTab 6 gateLow gateHigh)) 90 3 seatDone10Args ⟨twoRows gateLow gateHigh s t, 2, 2, [], []⟩) seatDone10KB1 = true := check_leaf (by kernel_rfl)
theorem seatDone10Check1 (s t : TypeId) : DT.leaf.check (okT Tryz.prog (orcOr (fctOrc seatDone10F1) (orcOr (arcOrc seatDone10A1) (orcOr (mncOrc seatDone10M1) (globOrc [0, 1])))) seatDone10Hook seatDone10Cut [] seatDone10ET 100000 (cFnL Tryz.prog) (tabOr (tabE [seatD10nE1, seatD10nE165, seatD10nE189, seatD10nE213, seatD10nE237, seatD10nE261, seatD10nE285, seatD10nE309, seatD10nE333, seatD10nE357, seatD10nE381, seatD10nE650, seatD10nE674, seatD10nE698, seatD10nE739, seatD10nE763, seatD10nE787, seatD10nE828, seatD10nE852, seatD10nE876, seatD10nE917, seatD10nE941, seatD10nE965, seatD10nE1006, seatD10nE1030, seatD10nE1054, seatD10nE1095, seatD10nE1562, seatD10nE1602, seatD10nE1711, seatD10nE1792]) (knTab 6 gateLow gateHigh)) 90 3 seatDone10Args ⟨twoRows gateLow gateHigh s t, 2, 2, [], []⟩) seatDone10KB1 = true := seatDone101h0 s t
theorem seatDone10F1_ok (a0 : Int) (hc : 8 < a0) : FctOK Tryz.prog seatDone10F1 (symF (seatDone10Sym a0)) := by
  intro p hp
  exact absurd hp (by simp [seatDone10F1])
theorem seatDone10A1_ok (a0 : Int) (w0 : (Lit.int .i64 a0).wf = true) (hc : 8 < a0) : ArcOK Tryz.prog seatDone10A1 (symF (seatDone10Sym a0)) := by
  intro p hp t x y w
  exact absurd hp (by simp [seatDone10A1])
theorem seatDone10M1_ok (a0 : Int) (w0 : (Lit.int .i64 a0).wf = true) (hc : 8 < a0) : MncOK seatDone10M1 (symF (seatDone10Sym a0)) := by
  intro p hp
  exact absurd hp (by simp [seatDone10M1])
theorem seatDone10KB1_ok (a0 : Int) (w0 : (Lit.int .i64 a0).wf = true) (hc : 8 < a0) : KOK seatDone10KB1 (symF (seatDone10Sym a0)) := by
  have r0 : IntKind.i64.min ≤ a0 ∧ a0 ≤ IntKind.i64.max := by simpa [Lit.wf] using w0
  simp only [show IntKind.i64.min = -9223372036854775808 from rfl, show IntKind.i64.max = 9223372036854775807 from rfl] at r0
  intro k j h
  unfold seatDone10KB1 at h
  unfold KB.find at h
  split at h
  · rename_i he
    injection h with h; subst h; dsimp only at he; subst he
    exact ⟨a0, by simp [symF, seatDone10Sym], by show (9 : Int) ≤ a0; omega, by show a0 ≤ (9223372036854775807 : Int); omega, by simp⟩
  cases h
def seatDone10KB2 : KB := [(0, ⟨8, 8, []⟩)]
def seatDone10F2 : Fct := []
def seatDone10A2 : Arc := []
def seatDone10M2 : Mnc := []
theorem seatDone102h0 (s t : TypeId) : DT.leaf.check (okT Tryz.prog (orcOr (fctOrc seatDone10F2) (orcOr (arcOrc seatDone10A2) (orcOr (mncOrc seatDone10M2) (globOrc [0, 1])))) seatDone10Hook seatDone10Cut [] seatDone10ET 100000 (cFnL Tryz.prog) (tabOr (tabE [seatD10yE1, seatD10yE165, seatD10yE189, seatD10yE213, seatD10yE237, seatD10yE261, seatD10yE285, seatD10yE309, seatD10yE333, seatD10yE357, seatD10yE381, seatD10yE650, seatD10yE674, seatD10yE698, seatD10yE739, seatD10yE763, seatD10yE787, seatD10yE828, seatD10yE852, seatD10yE876, seatD10yE917, seatD10yE941, seatD10yE965, seatD10yE1006, seatD10yE1030, seatD10yE1054, seatD10yE1095, seatD10yE1562, seatD10yE1602, seatD10yE1714, seatD10yE1855, seatD10yE1938, seatD10yE1992, seatD10yE2023, seatD10yE2029]) (knTab 6 gateLow gateHigh)) 90 3 seatDone10Args ⟨twoRows gateLow gateHigh s t, 2, 2, [], []⟩) seatDone10KB2 = true := check_leaf (by kernel_rfl)
theorem seatDone10Check2 (s t : TypeId) : DT.leaf.check (okT Tryz.prog (orcOr (fctOrc seatDone10F2) (orcOr (arcOrc seatDone10A2) (orcOr (mncOrc seatDone10M2) (globOrc [0, 1])))) seatDone10Hook seatDone10Cut [] seatDone10ET 100000 (cFnL Tryz.prog) (tabOr (tabE [seatD10yE1, seatD10yE165, seatD10yE189, seatD10yE213, seatD10yE237, seatD10yE261, seatD10yE285, seatD10yE309, seatD10yE333, seatD10yE357, seatD10yE381, seatD10yE650, seatD10yE674, seatD10yE698, seatD10yE739, seatD10yE763, seatD10yE787, seatD10yE828, seatD10yE852, seatD10yE876, seatD10yE917, seatD10yE941, seatD10yE965, seatD10yE1006, seatD10yE1030, seatD10yE1054, seatD10yE1095, seatD10yE1562, seatD10yE1602, seatD10yE1714, seatD10yE1855, seatD10yE1938, seatD10yE1992, seatD10yE2023, seatD10yE2029]) (knTab 6 gateLow gateHigh)) 90 3 seatDone10Args ⟨twoRows gateLow gateHigh s t, 2, 2, [], []⟩) seatDone10KB2 = true := seatDone102h0 s t
theorem seatDone10F2_ok (a0 : Int) (hc : a0 = 8) : FctOK Tryz.prog seatDone10F2 (symF (seatDone10Sym a0)) := by
  intro p hp
  exact absurd hp (by simp [seatDone10F2])
theorem seatDone10A2_ok (a0 : Int) (w0 : (Lit.int .i64 a0).wf = true) (hc : a0 = 8) : ArcOK Tryz.prog seatDone10A2 (symF (seatDone10Sym a0)) := by
  intro p hp t x y w
  exact absurd hp (by simp [seatDone10A2])
theorem seatDone10M2_ok (a0 : Int) (w0 : (Lit.int .i64 a0).wf = true) (hc : a0 = 8) : MncOK seatDone10M2 (symF (seatDone10Sym a0)) := by
  intro p hp
  exact absurd hp (by simp [seatDone10M2])
theorem seatDone10KB2_ok (a0 : Int) (w0 : (Lit.int .i64 a0).wf = true) (hc : a0 = 8) : KOK seatDone10KB2 (symF (seatDone10Sym a0)) := by
  have r0 : IntKind.i64.min ≤ a0 ∧ a0 ≤ IntKind.i64.max := by simpa [Lit.wf] using w0
  simp only [show IntKind.i64.min = -9223372036854775808 from rfl, show IntKind.i64.max = 9223372036854775807 from rfl] at r0
  intro k j h
  unfold seatDone10KB2 at h
  unfold KB.find at h
  split at h
  · rename_i he
    injection h with h; subst h; dsimp only at he; subst he
    exact ⟨a0, by simp [symF, seatDone10Sym], by show (8 : Int) ≤ a0; omega, by show a0 ≤ (8 : Int); omega, by simp⟩
  cases h
set_option maxHeartbeats 400000 in
theorem walkSeatDone10 (a0 : Int) (w0 : (Lit.int .i64 a0).wf = true) (s t : TypeId) (w : World) (g0 : w.heap[0]? = some (.cells gateLow.toArray s (0, 0))) (g1 : w.heap[1]? = some (.cells gateHigh.toArray t (0, 0))) :
    Calls Tryz.prog 3 #[.int .i64 a0, .int .i64 (10)] w fun e' w' => e' = .returned (.bool true) ∧ Below w.heap.size w w' := by
  have hone : ∀ q, (symF (seatDone10Sym a0) q).oneCell' = true := symF_one (by intro p hp; simp [seatDone10Sym] at hp; rcases hp with rfl | rfl | rfl <;> rfl)
  have hS : SOK [] (symF (seatDone10Sym a0)) := by
    intro k hk
    cases hk
  have h0 : symF (seatDone10Sym a0) (gsym 0) = .nilFunc := by simp [gsym, symF, seatDone10Sym]
  have h1 : symF (seatDone10Sym a0) (gsym 1) = .nilFunc := by simp [gsym, symF, seatDone10Sym]
  have hsq : ∀ x, x = symF (seatDone10Sym a0) → SQG x := fun x hx => by rw [hx]; exact ⟨h0, h1⟩
  have hgo : OrcOK Tryz.prog (· = symF (seatDone10Sym a0)) (globOrc [0, 1]) := OrcOK.weak hsq (globG _)
  have hgl : ∀ g, symF (seatDone10Sym a0) (gsym g) = .nilFunc → g < 2 := fun g hg => by
    rcases Nat.lt_or_ge g 2 with h | h
    · exact h
    · exfalso
      have n : ∀ k : Nat, k < 5000002 → ¬ k = 5000000 + g := fun k hk => by omega
      simp only [gsym, symF, seatDone10Sym] at hg
      simp only [n _ (show 0 < 5000002 by decide), n 5000000 (by decide), n 5000001 (by decide), if_false] at hg
      cases hg
  have hh := twoRows_holds (σ := symF (seatDone10Sym a0)) (a := gateLow) (b := gateHigh) rfl rfl g0 g1
  have htab : TabOK Tryz.prog (· = symF (seatDone10Sym a0)) (knTab 6 gateLow gateHigh) := (knTab_ok (fun s hs => (hsq s hs).1) (fun s hs => (hsq s hs).2) rfl rfl seatKKnown)
  have hcase : (a0 < 8) ∨ (8 < a0) ∨ (a0 = 8) := by omega
  rcases hcase with hc | hc | hc
  · exact Calls.of_treeT evMixed evNames hone (orcOr_ok (fctOrc_ok (seatDone10F0_ok a0 hc)) (orcOr_ok (arcOrc_ok (seatDone10A0_ok a0 w0 hc)) (orcOr_ok (mncOrc_ok (seatDone10M0_ok a0 w0 hc)) hgo))) seatDone10Hook_ok (EqOK.nil _) (seatDone10KB0_ok a0 w0 hc) hS (tableL_self _) (TabOK.or ((tabE_ok (es := [seatD10nE1, seatD10nE165, seatD10nE189, seatD10nE213, seatD10nE237, seatD10nE261, seatD10nE285, seatD10nE309, seatD10nE333, seatD10nE357, seatD10nE381, seatD10nE650, seatD10nE674, seatD10nE698, seatD10nE739, seatD10nE763, seatD10nE787, seatD10nE828, seatD10nE852, seatD10nE876, seatD10nE917, seatD10nE941, seatD10nE965, seatD10nE1006, seatD10nE1030, seatD10nE1054, seatD10nE1095, seatD10nE1562, seatD10nE1602, seatD10nE1711, seatD10nE1792]) (allCons seatD10nE1_is (allCons seatD10nE165_is (allCons seatD10nE189_is (allCons seatD10nE213_is (allCons seatD10nE237_is (allCons seatD10nE261_is (allCons seatD10nE285_is (allCons seatD10nE309_is (allCons seatD10nE333_is (allCons seatD10nE357_is (allCons seatD10nE381_is (allCons seatD10nE650_is (allCons seatD10nE674_is (allCons seatD10nE698_is (allCons seatD10nE739_is (allCons seatD10nE763_is (allCons seatD10nE787_is (allCons seatD10nE828_is (allCons seatD10nE852_is (allCons seatD10nE876_is (allCons seatD10nE917_is (allCons seatD10nE941_is (allCons seatD10nE965_is (allCons seatD10nE1006_is (allCons seatD10nE1030_is (allCons seatD10nE1054_is (allCons seatD10nE1095_is (allCons seatD10nE1562_is (allCons seatD10nE1602_is (allCons seatD10nE1711_is (allCons seatD10nE1792_is allNil)))))))))))))))))))))))))))))))).mono hsq) htab) (args := seatDone10Args) (fun r hr => by simp [seatDone10Args, ren, hr, symF, seatDone10Sym]) (seatDone10Check0 s t) w hgl twoRows_none hh
  · exact Calls.of_treeT evMixed evNames hone (orcOr_ok (fctOrc_ok (seatDone10F1_ok a0 hc)) (orcOr_ok (arcOrc_ok (seatDone10A1_ok a0 w0 hc)) (orcOr_ok (mncOrc_ok (seatDone10M1_ok a0 w0 hc)) hgo))) seatDone10Hook_ok (EqOK.nil _) (seatDone10KB1_ok a0 w0 hc) hS (tableL_self _) (TabOK.or ((tabE_ok (es := [seatD10nE1, seatD10nE165, seatD10nE189, seatD10nE213, seatD10nE237, seatD10nE261, seatD10nE285, seatD10nE309, seatD10nE333, seatD10nE357, seatD10nE381, seatD10nE650, seatD10nE674, seatD10nE698, seatD10nE739, seatD10nE763, seatD10nE787, seatD10nE828, seatD10nE852, seatD10nE876, seatD10nE917, seatD10nE941, seatD10nE965, seatD10nE1006, seatD10nE1030, seatD10nE1054, seatD10nE1095, seatD10nE1562, seatD10nE1602, seatD10nE1711, seatD10nE1792]) (allCons seatD10nE1_is (allCons seatD10nE165_is (allCons seatD10nE189_is (allCons seatD10nE213_is (allCons seatD10nE237_is (allCons seatD10nE261_is (allCons seatD10nE285_is (allCons seatD10nE309_is (allCons seatD10nE333_is (allCons seatD10nE357_is (allCons seatD10nE381_is (allCons seatD10nE650_is (allCons seatD10nE674_is (allCons seatD10nE698_is (allCons seatD10nE739_is (allCons seatD10nE763_is (allCons seatD10nE787_is (allCons seatD10nE828_is (allCons seatD10nE852_is (allCons seatD10nE876_is (allCons seatD10nE917_is (allCons seatD10nE941_is (allCons seatD10nE965_is (allCons seatD10nE1006_is (allCons seatD10nE1030_is (allCons seatD10nE1054_is (allCons seatD10nE1095_is (allCons seatD10nE1562_is (allCons seatD10nE1602_is (allCons seatD10nE1711_is (allCons seatD10nE1792_is allNil)))))))))))))))))))))))))))))))).mono hsq) htab) (args := seatDone10Args) (fun r hr => by simp [seatDone10Args, ren, hr, symF, seatDone10Sym]) (seatDone10Check1 s t) w hgl twoRows_none hh
  · exact Calls.of_treeT evMixed evNames hone (orcOr_ok (fctOrc_ok (seatDone10F2_ok a0 hc)) (orcOr_ok (arcOrc_ok (seatDone10A2_ok a0 w0 hc)) (orcOr_ok (mncOrc_ok (seatDone10M2_ok a0 w0 hc)) hgo))) seatDone10Hook_ok (EqOK.nil _) (seatDone10KB2_ok a0 w0 hc) hS (tableL_self _) (TabOK.or ((tabE_ok (es := [seatD10yE1, seatD10yE165, seatD10yE189, seatD10yE213, seatD10yE237, seatD10yE261, seatD10yE285, seatD10yE309, seatD10yE333, seatD10yE357, seatD10yE381, seatD10yE650, seatD10yE674, seatD10yE698, seatD10yE739, seatD10yE763, seatD10yE787, seatD10yE828, seatD10yE852, seatD10yE876, seatD10yE917, seatD10yE941, seatD10yE965, seatD10yE1006, seatD10yE1030, seatD10yE1054, seatD10yE1095, seatD10yE1562, seatD10yE1602, seatD10yE1714, seatD10yE1855, seatD10yE1938, seatD10yE1992, seatD10yE2023, seatD10yE2029]) (allCons seatD10yE1_is (allCons seatD10yE165_is (allCons seatD10yE189_is (allCons seatD10yE213_is (allCons seatD10yE237_is (allCons seatD10yE261_is (allCons seatD10yE285_is (allCons seatD10yE309_is (allCons seatD10yE333_is (allCons seatD10yE357_is (allCons seatD10yE381_is (allCons seatD10yE650_is (allCons seatD10yE674_is (allCons seatD10yE698_is (allCons seatD10yE739_is (allCons seatD10yE763_is (allCons seatD10yE787_is (allCons seatD10yE828_is (allCons seatD10yE852_is (allCons seatD10yE876_is (allCons seatD10yE917_is (allCons seatD10yE941_is (allCons seatD10yE965_is (allCons seatD10yE1006_is (allCons seatD10yE1030_is (allCons seatD10yE1054_is (allCons seatD10yE1095_is (allCons seatD10yE1562_is (allCons seatD10yE1602_is (allCons seatD10yE1714_is (allCons seatD10yE1855_is (allCons seatD10yE1938_is (allCons seatD10yE1992_is (allCons seatD10yE2023_is (allCons seatD10yE2029_is allNil)))))))))))))))))))))))))))))))))))).mono hsq) htab) (args := seatDone10Args) (fun r hr => by simp [seatDone10Args, ren, hr, symF, seatDone10Sym]) (seatDone10Check2 s t) w hgl twoRows_none hh
end Go.Proofs.YtllppcehncckfaaGreatDoor
