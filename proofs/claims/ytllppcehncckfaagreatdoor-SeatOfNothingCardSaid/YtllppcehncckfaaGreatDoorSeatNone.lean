/- SeatOfNothing: the walk of the statement, by the evaluator with forks, trees of questions, facts. -/
import Derived.Test.YtllppcehncckfaaGreatDoorEwM8
import Derived.Test.YtllppcehncckfaaGreatDoorSeatK
import Derived.ProofKit
namespace Go.Proofs.YtllppcehncckfaaGreatDoor
open Go.RowKit
set_option linter.unusedVariables false
set_option linter.unusedSimpArgs false
set_option maxRecDepth 100000

def seatOfNothingSym (a0 : Int) (a1 : Int) (d2 : Option Addr) (n2 m2 : Nat) (a3 : Int) (a4 : Int) : List (Nat × Value) := [(0, .int .i64 a0), (1, .int .i64 a1), (2, .slice d2 n2 m2), (3, .int .i64 a3), (4, .int .i64 a4), (1002, .int .i64 n2), (5000000, .nilFunc), (5000001, .nilFunc)]
def seatOfNothingET : ET := []
def seatOfNothingArgs : Array Value := #[.agg #[.chan (some 0), .chan (some 1), .chan (some 2)], .chan (some 3), .chan (some 4)]
def seatOfNothingHook (f : FuncId) : Option (Array Value → LM Value) := (match Nat.beq f 141 with | true => some (fun args => .ofA (aSortedKeys 9 [247] args)) | false => none)
def seatOfNothingCut (f : FuncId) : Bool := hasN [26, 141, 247, 251] f
theorem seatOfNothingHook_ok : ∀ f m, seatOfNothingHook f = some m → FunOKL Tryz.prog f m := by
  intro f m h
  unfold seatOfNothingHook at h
  split at h
  · rename_i hb; injection h with h; subst h; rw [Nat.eq_of_beq_eq_true hb]
    refine (aSortedKeys_sound (fun g hg => ?_)).toL
    simp at hg
    subst hg
    · exact sortedAt247
  · skip
    cases h
def seatOfNothingKB0 : KB := [(3, ⟨-9223372036854775808, 9223372036854775807, []⟩), (4, ⟨-9223372036854775808, 9223372036854775807, []⟩)]
def seatOfNothingF0 : Fct := []
def seatOfNothingA0 : Arc := []
def seatOfNothingM0 : Mnc := []
theorem seatOfNothing0h0 (s t : TypeId) : DT.leaf.check (okT Tryz.prog (orcOr (fctOrc seatOfNothingF0) (orcOr (arcOrc seatOfNothingA0) (orcOr (mncOrc seatOfNothingM0) (orcOr (lenOrc Tryz.prog [(2, false, 300, true)]) (globOrc [0, 1]))))) seatOfNothingHook seatOfNothingCut [] seatOfNothingET 100000 (cFnL Tryz.prog) (knTab 6 gateLow gateHigh) 90 5 seatOfNothingArgs ⟨twoRows gateLow gateHigh s t, 2, 2, [], []⟩) seatOfNothingKB0 = true := check_leaf (by kernel_rfl)
theorem seatOfNothingCheck0 (s t : TypeId) : DT.leaf.check (okT Tryz.prog (orcOr (fctOrc seatOfNothingF0) (orcOr (arcOrc seatOfNothingA0) (orcOr (mncOrc seatOfNothingM0) (orcOr (lenOrc Tryz.prog [(2, false, 300, true)]) (globOrc [0, 1]))))) seatOfNothingHook seatOfNothingCut [] seatOfNothingET 100000 (cFnL Tryz.prog) (knTab 6 gateLow gateHigh) 90 5 seatOfNothingArgs ⟨twoRows gateLow gateHigh s t, 2, 2, [], []⟩) seatOfNothingKB0 = true := seatOfNothing0h0 s t
theorem seatOfNothingF0_ok (a0 : Int) (a1 : Int) (d2 : Option Addr) (n2 m2 : Nat) (a3 : Int) (a4 : Int) (hc : 300 < n2) : FctOK Tryz.prog seatOfNothingF0 (symF (seatOfNothingSym a0 a1 d2 n2 m2 a3 a4)) := by
  intro p hp
  exact absurd hp (by simp [seatOfNothingF0])
theorem seatOfNothingA0_ok (a0 : Int) (a1 : Int) (d2 : Option Addr) (n2 m2 : Nat) (a3 : Int) (a4 : Int) (w3 : (Lit.int .i64 a3).wf = true) (w4 : (Lit.int .i64 a4).wf = true) (hc : 300 < n2) : ArcOK Tryz.prog seatOfNothingA0 (symF (seatOfNothingSym a0 a1 d2 n2 m2 a3 a4)) := by
  intro p hp t x y w
  exact absurd hp (by simp [seatOfNothingA0])
theorem seatOfNothingM0_ok (a0 : Int) (a1 : Int) (d2 : Option Addr) (n2 m2 : Nat) (a3 : Int) (a4 : Int) (w3 : (Lit.int .i64 a3).wf = true) (w4 : (Lit.int .i64 a4).wf = true) (hc : 300 < n2) : MncOK seatOfNothingM0 (symF (seatOfNothingSym a0 a1 d2 n2 m2 a3 a4)) := by
  intro p hp
  exact absurd hp (by simp [seatOfNothingM0])
theorem seatOfNothingKB0_ok (a0 : Int) (a1 : Int) (d2 : Option Addr) (n2 m2 : Nat) (a3 : Int) (a4 : Int) (w3 : (Lit.int .i64 a3).wf = true) (w4 : (Lit.int .i64 a4).wf = true) (hc : 300 < n2) : KOK seatOfNothingKB0 (symF (seatOfNothingSym a0 a1 d2 n2 m2 a3 a4)) := by
  have r3 : IntKind.i64.min ≤ a3 ∧ a3 ≤ IntKind.i64.max := by simpa [Lit.wf] using w3
  have r4 : IntKind.i64.min ≤ a4 ∧ a4 ≤ IntKind.i64.max := by simpa [Lit.wf] using w4
  simp only [show IntKind.i64.min = -9223372036854775808 from rfl, show IntKind.i64.max = 9223372036854775807 from rfl] at r3 r4
  intro k j h
  unfold seatOfNothingKB0 at h
  unfold KB.find at h
  split at h
  · rename_i he
    injection h with h; subst h; dsimp only at he; subst he
    exact ⟨a3, by simp [symF, seatOfNothingSym], by show (-9223372036854775808 : Int) ≤ a3; omega, by show a3 ≤ (9223372036854775807 : Int); omega, by simp⟩
  unfold KB.find at h
  split at h
  · rename_i he
    injection h with h; subst h; dsimp only at he; subst he
    exact ⟨a4, by simp [symF, seatOfNothingSym], by show (-9223372036854775808 : Int) ≤ a4; omega, by show a4 ≤ (9223372036854775807 : Int); omega, by simp⟩
  cases h
def seatOfNothingKB1 : KB := [(3, ⟨-9223372036854775808, 9223372036854775807, []⟩), (4, ⟨-9223372036854775808, 0, []⟩)]
def seatOfNothingF1 : Fct := []
def seatOfNothingA1 : Arc := []
def seatOfNothingM1 : Mnc := []
theorem seatOfNothing1h0 (s t : TypeId) : DT.leaf.check (okT Tryz.prog (orcOr (fctOrc seatOfNothingF1) (orcOr (arcOrc seatOfNothingA1) (orcOr (mncOrc seatOfNothingM1) (orcOr (lenOrc Tryz.prog [(2, false, 300, false)]) (globOrc [0, 1]))))) seatOfNothingHook seatOfNothingCut [] seatOfNothingET 100000 (cFnL Tryz.prog) (knTab 6 gateLow gateHigh) 90 5 seatOfNothingArgs ⟨twoRows gateLow gateHigh s t, 2, 2, [], []⟩) seatOfNothingKB1 = true := check_leaf (by kernel_rfl)
theorem seatOfNothingCheck1 (s t : TypeId) : DT.leaf.check (okT Tryz.prog (orcOr (fctOrc seatOfNothingF1) (orcOr (arcOrc seatOfNothingA1) (orcOr (mncOrc seatOfNothingM1) (orcOr (lenOrc Tryz.prog [(2, false, 300, false)]) (globOrc [0, 1]))))) seatOfNothingHook seatOfNothingCut [] seatOfNothingET 100000 (cFnL Tryz.prog) (knTab 6 gateLow gateHigh) 90 5 seatOfNothingArgs ⟨twoRows gateLow gateHigh s t, 2, 2, [], []⟩) seatOfNothingKB1 = true := seatOfNothing1h0 s t
theorem seatOfNothingF1_ok (a0 : Int) (a1 : Int) (d2 : Option Addr) (n2 m2 : Nat) (a3 : Int) (a4 : Int) (hc : n2 ≤ 300 ∧ a4 < 1) : FctOK Tryz.prog seatOfNothingF1 (symF (seatOfNothingSym a0 a1 d2 n2 m2 a3 a4)) := by
  intro p hp
  exact absurd hp (by simp [seatOfNothingF1])
theorem seatOfNothingA1_ok (a0 : Int) (a1 : Int) (d2 : Option Addr) (n2 m2 : Nat) (a3 : Int) (a4 : Int) (w3 : (Lit.int .i64 a3).wf = true) (w4 : (Lit.int .i64 a4).wf = true) (hc : n2 ≤ 300 ∧ a4 < 1) : ArcOK Tryz.prog seatOfNothingA1 (symF (seatOfNothingSym a0 a1 d2 n2 m2 a3 a4)) := by
  intro p hp t x y w
  exact absurd hp (by simp [seatOfNothingA1])
theorem seatOfNothingM1_ok (a0 : Int) (a1 : Int) (d2 : Option Addr) (n2 m2 : Nat) (a3 : Int) (a4 : Int) (w3 : (Lit.int .i64 a3).wf = true) (w4 : (Lit.int .i64 a4).wf = true) (hc : n2 ≤ 300 ∧ a4 < 1) : MncOK seatOfNothingM1 (symF (seatOfNothingSym a0 a1 d2 n2 m2 a3 a4)) := by
  intro p hp
  exact absurd hp (by simp [seatOfNothingM1])
theorem seatOfNothingKB1_ok (a0 : Int) (a1 : Int) (d2 : Option Addr) (n2 m2 : Nat) (a3 : Int) (a4 : Int) (w3 : (Lit.int .i64 a3).wf = true) (w4 : (Lit.int .i64 a4).wf = true) (hc : n2 ≤ 300 ∧ a4 < 1) : KOK seatOfNothingKB1 (symF (seatOfNothingSym a0 a1 d2 n2 m2 a3 a4)) := by
  have r3 : IntKind.i64.min ≤ a3 ∧ a3 ≤ IntKind.i64.max := by simpa [Lit.wf] using w3
  have r4 : IntKind.i64.min ≤ a4 ∧ a4 ≤ IntKind.i64.max := by simpa [Lit.wf] using w4
  simp only [show IntKind.i64.min = -9223372036854775808 from rfl, show IntKind.i64.max = 9223372036854775807 from rfl] at r3 r4
  intro k j h
  unfold seatOfNothingKB1 at h
  unfold KB.find at h
  split at h
  · rename_i he
    injection h with h; subst h; dsimp only at he; subst he
    exact ⟨a3, by simp [symF, seatOfNothingSym], by show (-9223372036854775808 : Int) ≤ a3; omega, by show a3 ≤ (9223372036854775807 : Int); omega, by simp⟩
  unfold KB.find at h
  split at h
  · rename_i he
    injection h with h; subst h; dsimp only at he; subst he
    exact ⟨a4, by simp [symF, seatOfNothingSym], by show (-9223372036854775808 : Int) ≤ a4; omega, by show a4 ≤ (0 : Int); omega, by simp⟩
  cases h
def seatOfNothingKB2 : KB := [(3, ⟨-9223372036854775808, 9223372036854775807, []⟩), (4, ⟨4, 9223372036854775807, []⟩)]
def seatOfNothingF2 : Fct := []
def seatOfNothingA2 : Arc := []
def seatOfNothingM2 : Mnc := []
theorem seatOfNothing2h0 (s t : TypeId) : DT.leaf.check (okT Tryz.prog (orcOr (fctOrc seatOfNothingF2) (orcOr (arcOrc seatOfNothingA2) (orcOr (mncOrc seatOfNothingM2) (orcOr (lenOrc Tryz.prog [(2, false, 300, false)]) (globOrc [0, 1]))))) seatOfNothingHook seatOfNothingCut [] seatOfNothingET 100000 (cFnL Tryz.prog) (knTab 6 gateLow gateHigh) 90 5 seatOfNothingArgs ⟨twoRows gateLow gateHigh s t, 2, 2, [], []⟩) seatOfNothingKB2 = true := check_leaf (by kernel_rfl)
theorem seatOfNothingCheck2 (s t : TypeId) : DT.leaf.check (okT Tryz.prog (orcOr (fctOrc seatOfNothingF2) (orcOr (arcOrc seatOfNothingA2) (orcOr (mncOrc seatOfNothingM2) (orcOr (lenOrc Tryz.prog [(2, false, 300, false)]) (globOrc [0, 1]))))) seatOfNothingHook seatOfNothingCut [] seatOfNothingET 100000 (cFnL Tryz.prog) (knTab 6 gateLow gateHigh) 90 5 seatOfNothingArgs ⟨twoRows gateLow gateHigh s t, 2, 2, [], []⟩) seatOfNothingKB2 = true := seatOfNothing2h0 s t
theorem seatOfNothingF2_ok (a0 : Int) (a1 : Int) (d2 : Option Addr) (n2 m2 : Nat) (a3 : Int) (a4 : Int) (hc : n2 ≤ 300 ∧ 3 < a4) : FctOK Tryz.prog seatOfNothingF2 (symF (seatOfNothingSym a0 a1 d2 n2 m2 a3 a4)) := by
  intro p hp
  exact absurd hp (by simp [seatOfNothingF2])
theorem seatOfNothingA2_ok (a0 : Int) (a1 : Int) (d2 : Option Addr) (n2 m2 : Nat) (a3 : Int) (a4 : Int) (w3 : (Lit.int .i64 a3).wf = true) (w4 : (Lit.int .i64 a4).wf = true) (hc : n2 ≤ 300 ∧ 3 < a4) : ArcOK Tryz.prog seatOfNothingA2 (symF (seatOfNothingSym a0 a1 d2 n2 m2 a3 a4)) := by
  intro p hp t x y w
  exact absurd hp (by simp [seatOfNothingA2])
theorem seatOfNothingM2_ok (a0 : Int) (a1 : Int) (d2 : Option Addr) (n2 m2 : Nat) (a3 : Int) (a4 : Int) (w3 : (Lit.int .i64 a3).wf = true) (w4 : (Lit.int .i64 a4).wf = true) (hc : n2 ≤ 300 ∧ 3 < a4) : MncOK seatOfNothingM2 (symF (seatOfNothingSym a0 a1 d2 n2 m2 a3 a4)) := by
  intro p hp
  exact absurd hp (by simp [seatOfNothingM2])
theorem seatOfNothingKB2_ok (a0 : Int) (a1 : Int) (d2 : Option Addr) (n2 m2 : Nat) (a3 : Int) (a4 : Int) (w3 : (Lit.int .i64 a3).wf = true) (w4 : (Lit.int .i64 a4).wf = true) (hc : n2 ≤ 300 ∧ 3 < a4) : KOK seatOfNothingKB2 (symF (seatOfNothingSym a0 a1 d2 n2 m2 a3 a4)) := by
  have r3 : IntKind.i64.min ≤ a3 ∧ a3 ≤ IntKind.i64.max := by simpa [Lit.wf] using w3
  have r4 : IntKind.i64.min ≤ a4 ∧ a4 ≤ IntKind.i64.max := by simpa [Lit.wf] using w4
  simp only [show IntKind.i64.min = -9223372036854775808 from rfl, show IntKind.i64.max = 9223372036854775807 from rfl] at r3 r4
  intro k j h
  unfold seatOfNothingKB2 at h
  unfold KB.find at h
  split at h
  · rename_i he
    injection h with h; subst h; dsimp only at he; subst he
    exact ⟨a3, by simp [symF, seatOfNothingSym], by show (-9223372036854775808 : Int) ≤ a3; omega, by show a3 ≤ (9223372036854775807 : Int); omega, by simp⟩
  unfold KB.find at h
  split at h
  · rename_i he
    injection h with h; subst h; dsimp only at he; subst he
    exact ⟨a4, by simp [symF, seatOfNothingSym], by show (4 : Int) ≤ a4; omega, by show a4 ≤ (9223372036854775807 : Int); omega, by simp⟩
  cases h
def seatOfNothingKB3 : KB := [(3, ⟨-9223372036854775808, -1, []⟩), (4, ⟨1, 1, []⟩)]
def seatOfNothingF3 : Fct := []
def seatOfNothingA3 : Arc := []
def seatOfNothingM3 : Mnc := []
theorem seatOfNothing3h0 (s t : TypeId) : DT.leaf.check (okT Tryz.prog (orcOr (fctOrc seatOfNothingF3) (orcOr (arcOrc seatOfNothingA3) (orcOr (mncOrc seatOfNothingM3) (orcOr (lenOrc Tryz.prog [(2, false, 300, false)]) (globOrc [0, 1]))))) seatOfNothingHook seatOfNothingCut [] seatOfNothingET 100000 (cFnL Tryz.prog) (knTab 6 gateLow gateHigh) 90 5 seatOfNothingArgs ⟨twoRows gateLow gateHigh s t, 2, 2, [], []⟩) seatOfNothingKB3 = true := check_leaf (by kernel_rfl)
theorem seatOfNothingCheck3 (s t : TypeId) : DT.leaf.check (okT Tryz.prog (orcOr (fctOrc seatOfNothingF3) (orcOr (arcOrc seatOfNothingA3) (orcOr (mncOrc seatOfNothingM3) (orcOr (lenOrc Tryz.prog [(2, false, 300, false)]) (globOrc [0, 1]))))) seatOfNothingHook seatOfNothingCut [] seatOfNothingET 100000 (cFnL Tryz.prog) (knTab 6 gateLow gateHigh) 90 5 seatOfNothingArgs ⟨twoRows gateLow gateHigh s t, 2, 2, [], []⟩) seatOfNothingKB3 = true := seatOfNothing3h0 s t
theorem seatOfNothingF3_ok (a0 : Int) (a1 : Int) (d2 : Option Addr) (n2 m2 : Nat) (a3 : Int) (a4 : Int) (hc : n2 ≤ 300 ∧ a4 = 1 ∧ a3 < 0) : FctOK Tryz.prog seatOfNothingF3 (symF (seatOfNothingSym a0 a1 d2 n2 m2 a3 a4)) := by
  intro p hp
  exact absurd hp (by simp [seatOfNothingF3])
theorem seatOfNothingA3_ok (a0 : Int) (a1 : Int) (d2 : Option Addr) (n2 m2 : Nat) (a3 : Int) (a4 : Int) (w3 : (Lit.int .i64 a3).wf = true) (w4 : (Lit.int .i64 a4).wf = true) (hc : n2 ≤ 300 ∧ a4 = 1 ∧ a3 < 0) : ArcOK Tryz.prog seatOfNothingA3 (symF (seatOfNothingSym a0 a1 d2 n2 m2 a3 a4)) := by
  intro p hp t x y w
  exact absurd hp (by simp [seatOfNothingA3])
theorem seatOfNothingM3_ok (a0 : Int) (a1 : Int) (d2 : Option Addr) (n2 m2 : Nat) (a3 : Int) (a4 : Int) (w3 : (Lit.int .i64 a3).wf = true) (w4 : (Lit.int .i64 a4).wf = true) (hc : n2 ≤ 300 ∧ a4 = 1 ∧ a3 < 0) : MncOK seatOfNothingM3 (symF (seatOfNothingSym a0 a1 d2 n2 m2 a3 a4)) := by
  intro p hp
  exact absurd hp (by simp [seatOfNothingM3])
theorem seatOfNothingKB3_ok (a0 : Int) (a1 : Int) (d2 : Option Addr) (n2 m2 : Nat) (a3 : Int) (a4 : Int) (w3 : (Lit.int .i64 a3).wf = true) (w4 : (Lit.int .i64 a4).wf = true) (hc : n2 ≤ 300 ∧ a4 = 1 ∧ a3 < 0) : KOK seatOfNothingKB3 (symF (seatOfNothingSym a0 a1 d2 n2 m2 a3 a4)) := by
  have r3 : IntKind.i64.min ≤ a3 ∧ a3 ≤ IntKind.i64.max := by simpa [Lit.wf] using w3
  have r4 : IntKind.i64.min ≤ a4 ∧ a4 ≤ IntKind.i64.max := by simpa [Lit.wf] using w4
  simp only [show IntKind.i64.min = -9223372036854775808 from rfl, show IntKind.i64.max = 9223372036854775807 from rfl] at r3 r4
  intro k j h
  unfold seatOfNothingKB3 at h
  unfold KB.find at h
  split at h
  · rename_i he
    injection h with h; subst h; dsimp only at he; subst he
    exact ⟨a3, by simp [symF, seatOfNothingSym], by show (-9223372036854775808 : Int) ≤ a3; omega, by show a3 ≤ (-1 : Int); omega, by simp⟩
  unfold KB.find at h
  split at h
  · rename_i he
    injection h with h; subst h; dsimp only at he; subst he
    exact ⟨a4, by simp [symF, seatOfNothingSym], by show (1 : Int) ≤ a4; omega, by show a4 ≤ (1 : Int); omega, by simp⟩
  cases h
def seatOfNothingKB4 : KB := [(3, ⟨1, 9223372036854775807, []⟩), (4, ⟨1, 1, []⟩)]
def seatOfNothingF4 : Fct := [(.geq, .chan (some 3), .chan (some 4), true)]
def seatOfNothingA4 : Arc := []
def seatOfNothingM4 : Mnc := []
theorem seatOfNothing4h0 (s t : TypeId) : DT.leaf.check (okT Tryz.prog (orcOr (fctOrc seatOfNothingF4) (orcOr (arcOrc seatOfNothingA4) (orcOr (mncOrc seatOfNothingM4) (orcOr (lenOrc Tryz.prog [(2, false, 300, false)]) (globOrc [0, 1]))))) seatOfNothingHook seatOfNothingCut [] seatOfNothingET 100000 (cFnL Tryz.prog) (knTab 6 gateLow gateHigh) 90 5 seatOfNothingArgs ⟨twoRows gateLow gateHigh s t, 2, 2, [], []⟩) seatOfNothingKB4 = true := check_leaf (by kernel_rfl)
theorem seatOfNothingCheck4 (s t : TypeId) : DT.leaf.check (okT Tryz.prog (orcOr (fctOrc seatOfNothingF4) (orcOr (arcOrc seatOfNothingA4) (orcOr (mncOrc seatOfNothingM4) (orcOr (lenOrc Tryz.prog [(2, false, 300, false)]) (globOrc [0, 1]))))) seatOfNothingHook seatOfNothingCut [] seatOfNothingET 100000 (cFnL Tryz.prog) (knTab 6 gateLow gateHigh) 90 5 seatOfNothingArgs ⟨twoRows gateLow gateHigh s t, 2, 2, [], []⟩) seatOfNothingKB4 = true := seatOfNothing4h0 s t
theorem seatOfNothingF4_ok (a0 : Int) (a1 : Int) (d2 : Option Addr) (n2 m2 : Nat) (a3 : Int) (a4 : Int) (hc : n2 ≤ 300 ∧ a4 = 1 ∧ 1 ≤ a3) : FctOK Tryz.prog seatOfNothingF4 (symF (seatOfNothingSym a0 a1 d2 n2 m2 a3 a4)) := by
  intro p hp t x y w
  simp only [seatOfNothingF4, List.mem_cons, List.not_mem_nil, or_false] at hp
  rcases hp with rfl
  all_goals (simp [atomOf, symF, seatOfNothingSym, eqGuard, binOp, Op.intCmp]; try omega)
theorem seatOfNothingA4_ok (a0 : Int) (a1 : Int) (d2 : Option Addr) (n2 m2 : Nat) (a3 : Int) (a4 : Int) (w3 : (Lit.int .i64 a3).wf = true) (w4 : (Lit.int .i64 a4).wf = true) (hc : n2 ≤ 300 ∧ a4 = 1 ∧ 1 ≤ a3) : ArcOK Tryz.prog seatOfNothingA4 (symF (seatOfNothingSym a0 a1 d2 n2 m2 a3 a4)) := by
  intro p hp t x y w
  exact absurd hp (by simp [seatOfNothingA4])
theorem seatOfNothingM4_ok (a0 : Int) (a1 : Int) (d2 : Option Addr) (n2 m2 : Nat) (a3 : Int) (a4 : Int) (w3 : (Lit.int .i64 a3).wf = true) (w4 : (Lit.int .i64 a4).wf = true) (hc : n2 ≤ 300 ∧ a4 = 1 ∧ 1 ≤ a3) : MncOK seatOfNothingM4 (symF (seatOfNothingSym a0 a1 d2 n2 m2 a3 a4)) := by
  intro p hp
  exact absurd hp (by simp [seatOfNothingM4])
theorem seatOfNothingKB4_ok (a0 : Int) (a1 : Int) (d2 : Option Addr) (n2 m2 : Nat) (a3 : Int) (a4 : Int) (w3 : (Lit.int .i64 a3).wf = true) (w4 : (Lit.int .i64 a4).wf = true) (hc : n2 ≤ 300 ∧ a4 = 1 ∧ 1 ≤ a3) : KOK seatOfNothingKB4 (symF (seatOfNothingSym a0 a1 d2 n2 m2 a3 a4)) := by
  have r3 : IntKind.i64.min ≤ a3 ∧ a3 ≤ IntKind.i64.max := by simpa [Lit.wf] using w3
  have r4 : IntKind.i64.min ≤ a4 ∧ a4 ≤ IntKind.i64.max := by simpa [Lit.wf] using w4
  simp only [show IntKind.i64.min = -9223372036854775808 from rfl, show IntKind.i64.max = 9223372036854775807 from rfl] at r3 r4
  intro k j h
  unfold seatOfNothingKB4 at h
  unfold KB.find at h
  split at h
  · rename_i he
    injection h with h; subst h; dsimp only at he; subst he
    exact ⟨a3, by simp [symF, seatOfNothingSym], by show (1 : Int) ≤ a3; omega, by show a3 ≤ (9223372036854775807 : Int); omega, by simp⟩
  unfold KB.find at h
  split at h
  · rename_i he
    injection h with h; subst h; dsimp only at he; subst he
    exact ⟨a4, by simp [symF, seatOfNothingSym], by show (1 : Int) ≤ a4; omega, by show a4 ≤ (1 : Int); omega, by simp⟩
  cases h
def seatOfNothingKB5 : KB := [(3, ⟨0, 0, []⟩), (4, ⟨1, 1, []⟩)]
def seatOfNothingF5 : Fct := [(.geq, .chan (some 3), .chan (some 4), false)]
def seatOfNothingA5 : Arc := []
def seatOfNothingM5 : Mnc := []
theorem seatOfNothing5h0 (s t : TypeId) : DT.leaf.check (okT Tryz.prog (orcOr (fctOrc seatOfNothingF5) (orcOr (arcOrc seatOfNothingA5) (orcOr (mncOrc seatOfNothingM5) (orcOr (lenOrc Tryz.prog [(2, false, 300, false)]) (globOrc [0, 1]))))) seatOfNothingHook seatOfNothingCut [] seatOfNothingET 100000 (cFnL Tryz.prog) (knTab 6 gateLow gateHigh) 90 5 seatOfNothingArgs ⟨twoRows gateLow gateHigh s t, 2, 2, [], []⟩) seatOfNothingKB5 = true := check_leaf (by kernel_rfl)
theorem seatOfNothingCheck5 (s t : TypeId) : DT.leaf.check (okT Tryz.prog (orcOr (fctOrc seatOfNothingF5) (orcOr (arcOrc seatOfNothingA5) (orcOr (mncOrc seatOfNothingM5) (orcOr (lenOrc Tryz.prog [(2, false, 300, false)]) (globOrc [0, 1]))))) seatOfNothingHook seatOfNothingCut [] seatOfNothingET 100000 (cFnL Tryz.prog) (knTab 6 gateLow gateHigh) 90 5 seatOfNothingArgs ⟨twoRows gateLow gateHigh s t, 2, 2, [], []⟩) seatOfNothingKB5 = true := seatOfNothing5h0 s t
theorem seatOfNothingF5_ok (a0 : Int) (a1 : Int) (d2 : Option Addr) (n2 m2 : Nat) (a3 : Int) (a4 : Int) (hc : n2 ≤ 300 ∧ a4 = 1 ∧ a3 = 0) : FctOK Tryz.prog seatOfNothingF5 (symF (seatOfNothingSym a0 a1 d2 n2 m2 a3 a4)) := by
  intro p hp t x y w
  simp only [seatOfNothingF5, List.mem_cons, List.not_mem_nil, or_false] at hp
  rcases hp with rfl
  all_goals (simp [atomOf, symF, seatOfNothingSym, eqGuard, binOp, Op.intCmp]; try omega)
theorem seatOfNothingA5_ok (a0 : Int) (a1 : Int) (d2 : Option Addr) (n2 m2 : Nat) (a3 : Int) (a4 : Int) (w3 : (Lit.int .i64 a3).wf = true) (w4 : (Lit.int .i64 a4).wf = true) (hc : n2 ≤ 300 ∧ a4 = 1 ∧ a3 = 0) : ArcOK Tryz.prog seatOfNothingA5 (symF (seatOfNothingSym a0 a1 d2 n2 m2 a3 a4)) := by
  intro p hp t x y w
  exact absurd hp (by simp [seatOfNothingA5])
theorem seatOfNothingM5_ok (a0 : Int) (a1 : Int) (d2 : Option Addr) (n2 m2 : Nat) (a3 : Int) (a4 : Int) (w3 : (Lit.int .i64 a3).wf = true) (w4 : (Lit.int .i64 a4).wf = true) (hc : n2 ≤ 300 ∧ a4 = 1 ∧ a3 = 0) : MncOK seatOfNothingM5 (symF (seatOfNothingSym a0 a1 d2 n2 m2 a3 a4)) := by
  intro p hp
  exact absurd hp (by simp [seatOfNothingM5])
theorem seatOfNothingKB5_ok (a0 : Int) (a1 : Int) (d2 : Option Addr) (n2 m2 : Nat) (a3 : Int) (a4 : Int) (w3 : (Lit.int .i64 a3).wf = true) (w4 : (Lit.int .i64 a4).wf = true) (hc : n2 ≤ 300 ∧ a4 = 1 ∧ a3 = 0) : KOK seatOfNothingKB5 (symF (seatOfNothingSym a0 a1 d2 n2 m2 a3 a4)) := by
  have r3 : IntKind.i64.min ≤ a3 ∧ a3 ≤ IntKind.i64.max := by simpa [Lit.wf] using w3
  have r4 : IntKind.i64.min ≤ a4 ∧ a4 ≤ IntKind.i64.max := by simpa [Lit.wf] using w4
  simp only [show IntKind.i64.min = -9223372036854775808 from rfl, show IntKind.i64.max = 9223372036854775807 from rfl] at r3 r4
  intro k j h
  unfold seatOfNothingKB5 at h
  unfold KB.find at h
  split at h
  · rename_i he
    injection h with h; subst h; dsimp only at he; subst he
    exact ⟨a3, by simp [symF, seatOfNothingSym], by show (0 : Int) ≤ a3; omega, by show a3 ≤ (0 : Int); omega, by simp⟩
  unfold KB.find at h
  split at h
  · rename_i he
    injection h with h; subst h; dsimp only at he; subst he
    exact ⟨a4, by simp [symF, seatOfNothingSym], by show (1 : Int) ≤ a4; omega, by show a4 ≤ (1 : Int); omega, by simp⟩
  cases h
def seatOfNothingKB6 : KB := [(3, ⟨-9223372036854775808, -1, []⟩), (4, ⟨2, 2, []⟩)]
def seatOfNothingF6 : Fct := []
def seatOfNothingA6 : Arc := []
def seatOfNothingM6 : Mnc := []
theorem seatOfNothing6h0 (s t : TypeId) : DT.leaf.check (okT Tryz.prog (orcOr (fctOrc seatOfNothingF6) (orcOr (arcOrc seatOfNothingA6) (orcOr (mncOrc seatOfNothingM6) (orcOr (lenOrc Tryz.prog [(2, false, 300, false)]) (globOrc [0, 1]))))) seatOfNothingHook seatOfNothingCut [] seatOfNothingET 100000 (cFnL Tryz.prog) (knTab 6 gateLow gateHigh) 90 5 seatOfNothingArgs ⟨twoRows gateLow gateHigh s t, 2, 2, [], []⟩) seatOfNothingKB6 = true := check_leaf (by kernel_rfl)
theorem seatOfNothingCheck6 (s t : TypeId) : DT.leaf.check (okT Tryz.prog (orcOr (fctOrc seatOfNothingF6) (orcOr (arcOrc seatOfNothingA6) (orcOr (mncOrc seatOfNothingM6) (orcOr (lenOrc Tryz.prog [(2, false, 300, false)]) (globOrc [0, 1]))))) seatOfNothingHook seatOfNothingCut [] seatOfNothingET 100000 (cFnL Tryz.prog) (knTab 6 gateLow gateHigh) 90 5 seatOfNothingArgs ⟨twoRows gateLow gateHigh s t, 2, 2, [], []⟩) seatOfNothingKB6 = true := seatOfNothing6h0 s t
theorem seatOfNothingF6_ok (a0 : Int) (a1 : Int) (d2 : Option Addr) (n2 m2 : Nat) (a3 : Int) (a4 : Int) (hc : n2 ≤ 300 ∧ a4 = 2 ∧ a3 < 0) : FctOK Tryz.prog seatOfNothingF6 (symF (seatOfNothingSym a0 a1 d2 n2 m2 a3 a4)) := by
  intro p hp
  exact absurd hp (by simp [seatOfNothingF6])
theorem seatOfNothingA6_ok (a0 : Int) (a1 : Int) (d2 : Option Addr) (n2 m2 : Nat) (a3 : Int) (a4 : Int) (w3 : (Lit.int .i64 a3).wf = true) (w4 : (Lit.int .i64 a4).wf = true) (hc : n2 ≤ 300 ∧ a4 = 2 ∧ a3 < 0) : ArcOK Tryz.prog seatOfNothingA6 (symF (seatOfNothingSym a0 a1 d2 n2 m2 a3 a4)) := by
  intro p hp t x y w
  exact absurd hp (by simp [seatOfNothingA6])
theorem seatOfNothingM6_ok (a0 : Int) (a1 : Int) (d2 : Option Addr) (n2 m2 : Nat) (a3 : Int) (a4 : Int) (w3 : (Lit.int .i64 a3).wf = true) (w4 : (Lit.int .i64 a4).wf = true) (hc : n2 ≤ 300 ∧ a4 = 2 ∧ a3 < 0) : MncOK seatOfNothingM6 (symF (seatOfNothingSym a0 a1 d2 n2 m2 a3 a4)) := by
  intro p hp
  exact absurd hp (by simp [seatOfNothingM6])
theorem seatOfNothingKB6_ok (a0 : Int) (a1 : Int) (d2 : Option Addr) (n2 m2 : Nat) (a3 : Int) (a4 : Int) (w3 : (Lit.int .i64 a3).wf = true) (w4 : (Lit.int .i64 a4).wf = true) (hc : n2 ≤ 300 ∧ a4 = 2 ∧ a3 < 0) : KOK seatOfNothingKB6 (symF (seatOfNothingSym a0 a1 d2 n2 m2 a3 a4)) := by
  have r3 : IntKind.i64.min ≤ a3 ∧ a3 ≤ IntKind.i64.max := by simpa [Lit.wf] using w3
  have r4 : IntKind.i64.min ≤ a4 ∧ a4 ≤ IntKind.i64.max := by simpa [Lit.wf] using w4
  simp only [show IntKind.i64.min = -9223372036854775808 from rfl, show IntKind.i64.max = 9223372036854775807 from rfl] at r3 r4
  intro k j h
  unfold seatOfNothingKB6 at h
  unfold KB.find at h
  split at h
  · rename_i he
    injection h with h; subst h; dsimp only at he; subst he
    exact ⟨a3, by simp [symF, seatOfNothingSym], by show (-9223372036854775808 : Int) ≤ a3; omega, by show a3 ≤ (-1 : Int); omega, by simp⟩
  unfold KB.find at h
  split at h
  · rename_i he
    injection h with h; subst h; dsimp only at he; subst he
    exact ⟨a4, by simp [symF, seatOfNothingSym], by show (2 : Int) ≤ a4; omega, by show a4 ≤ (2 : Int); omega, by simp⟩
  cases h
def seatOfNothingKB7 : KB := [(3, ⟨2, 9223372036854775807, []⟩), (4, ⟨2, 2, []⟩)]
def seatOfNothingF7 : Fct := [(.geq, .chan (some 3), .chan (some 4), true)]
def seatOfNothingA7 : Arc := []
def seatOfNothingM7 : Mnc := []
theorem seatOfNothing7h0 (s t : TypeId) : DT.leaf.check (okT Tryz.prog (orcOr (fctOrc seatOfNothingF7) (orcOr (arcOrc seatOfNothingA7) (orcOr (mncOrc seatOfNothingM7) (orcOr (lenOrc Tryz.prog [(2, false, 300, false)]) (globOrc [0, 1]))))) seatOfNothingHook seatOfNothingCut [] seatOfNothingET 100000 (cFnL Tryz.prog) (knTab 6 gateLow gateHigh) 90 5 seatOfNothingArgs ⟨twoRows gateLow gateHigh s t, 2, 2, [], []⟩) seatOfNothingKB7 = true := check_leaf (by kernel_rfl)
theorem seatOfNothingCheck7 (s t : TypeId) : DT.leaf.check (okT Tryz.prog (orcOr (fctOrc seatOfNothingF7) (orcOr (arcOrc seatOfNothingA7) (orcOr (mncOrc seatOfNothingM7) (orcOr (lenOrc Tryz.prog [(2, false, 300, false)]) (globOrc [0, 1]))))) seatOfNothingHook seatOfNothingCut [] seatOfNothingET 100000 (cFnL Tryz.prog) (knTab 6 gateLow gateHigh) 90 5 seatOfNothingArgs ⟨twoRows gateLow gateHigh s t, 2, 2, [], []⟩) seatOfNothingKB7 = true := seatOfNothing7h0 s t
theorem seatOfNothingF7_ok (a0 : Int) (a1 : Int) (d2 : Option Addr) (n2 m2 : Nat) (a3 : Int) (a4 : Int) (hc : n2 ≤ 300 ∧ a4 = 2 ∧ 2 ≤ a3) : FctOK Tryz.prog seatOfNothingF7 (symF (seatOfNothingSym a0 a1 d2 n2 m2 a3 a4)) := by
  intro p hp t x y w
  simp only [seatOfNothingF7, List.mem_cons, List.not_mem_nil, or_false] at hp
  rcases hp with rfl
  all_goals (simp [atomOf, symF, seatOfNothingSym, eqGuard, binOp, Op.intCmp]; try omega)
theorem seatOfNothingA7_ok (a0 : Int) (a1 : Int) (d2 : Option Addr) (n2 m2 : Nat) (a3 : Int) (a4 : Int) (w3 : (Lit.int .i64 a3).wf = true) (w4 : (Lit.int .i64 a4).wf = true) (hc : n2 ≤ 300 ∧ a4 = 2 ∧ 2 ≤ a3) : ArcOK Tryz.prog seatOfNothingA7 (symF (seatOfNothingSym a0 a1 d2 n2 m2 a3 a4)) := by
  intro p hp t x y w
  exact absurd hp (by simp [seatOfNothingA7])
theorem seatOfNothingM7_ok (a0 : Int) (a1 : Int) (d2 : Option Addr) (n2 m2 : Nat) (a3 : Int) (a4 : Int) (w3 : (Lit.int .i64 a3).wf = true) (w4 : (Lit.int .i64 a4).wf = true) (hc : n2 ≤ 300 ∧ a4 = 2 ∧ 2 ≤ a3) : MncOK seatOfNothingM7 (symF (seatOfNothingSym a0 a1 d2 n2 m2 a3 a4)) := by
  intro p hp
  exact absurd hp (by simp [seatOfNothingM7])
theorem seatOfNothingKB7_ok (a0 : Int) (a1 : Int) (d2 : Option Addr) (n2 m2 : Nat) (a3 : Int) (a4 : Int) (w3 : (Lit.int .i64 a3).wf = true) (w4 : (Lit.int .i64 a4).wf = true) (hc : n2 ≤ 300 ∧ a4 = 2 ∧ 2 ≤ a3) : KOK seatOfNothingKB7 (symF (seatOfNothingSym a0 a1 d2 n2 m2 a3 a4)) := by
  have r3 : IntKind.i64.min ≤ a3 ∧ a3 ≤ IntKind.i64.max := by simpa [Lit.wf] using w3
  have r4 : IntKind.i64.min ≤ a4 ∧ a4 ≤ IntKind.i64.max := by simpa [Lit.wf] using w4
  simp only [show IntKind.i64.min = -9223372036854775808 from rfl, show IntKind.i64.max = 9223372036854775807 from rfl] at r3 r4
  intro k j h
  unfold seatOfNothingKB7 at h
  unfold KB.find at h
  split at h
  · rename_i he
    injection h with h; subst h; dsimp only at he; subst he
    exact ⟨a3, by simp [symF, seatOfNothingSym], by show (2 : Int) ≤ a3; omega, by show a3 ≤ (9223372036854775807 : Int); omega, by simp⟩
  unfold KB.find at h
  split at h
  · rename_i he
    injection h with h; subst h; dsimp only at he; subst he
    exact ⟨a4, by simp [symF, seatOfNothingSym], by show (2 : Int) ≤ a4; omega, by show a4 ≤ (2 : Int); omega, by simp⟩
  cases h
def seatOfNothingKB8 : KB := [(3, ⟨0, 0, []⟩), (4, ⟨2, 2, []⟩)]
def seatOfNothingF8 : Fct := [(.geq, .chan (some 3), .chan (some 4), false)]
def seatOfNothingA8 : Arc := []
def seatOfNothingM8 : Mnc := []
theorem seatOfNothing8h0 (s t : TypeId) : DT.leaf.check (okT Tryz.prog (orcOr (fctOrc seatOfNothingF8) (orcOr (arcOrc seatOfNothingA8) (orcOr (mncOrc seatOfNothingM8) (orcOr (lenOrc Tryz.prog [(2, false, 300, false)]) (globOrc [0, 1]))))) seatOfNothingHook seatOfNothingCut [] seatOfNothingET 100000 (cFnL Tryz.prog) (knTab 6 gateLow gateHigh) 90 5 seatOfNothingArgs ⟨twoRows gateLow gateHigh s t, 2, 2, [], []⟩) seatOfNothingKB8 = true := check_leaf (by kernel_rfl)
theorem seatOfNothingCheck8 (s t : TypeId) : DT.leaf.check (okT Tryz.prog (orcOr (fctOrc seatOfNothingF8) (orcOr (arcOrc seatOfNothingA8) (orcOr (mncOrc seatOfNothingM8) (orcOr (lenOrc Tryz.prog [(2, false, 300, false)]) (globOrc [0, 1]))))) seatOfNothingHook seatOfNothingCut [] seatOfNothingET 100000 (cFnL Tryz.prog) (knTab 6 gateLow gateHigh) 90 5 seatOfNothingArgs ⟨twoRows gateLow gateHigh s t, 2, 2, [], []⟩) seatOfNothingKB8 = true := seatOfNothing8h0 s t
theorem seatOfNothingF8_ok (a0 : Int) (a1 : Int) (d2 : Option Addr) (n2 m2 : Nat) (a3 : Int) (a4 : Int) (hc : n2 ≤ 300 ∧ a4 = 2 ∧ a3 = 0) : FctOK Tryz.prog seatOfNothingF8 (symF (seatOfNothingSym a0 a1 d2 n2 m2 a3 a4)) := by
  intro p hp t x y w
  simp only [seatOfNothingF8, List.mem_cons, List.not_mem_nil, or_false] at hp
  rcases hp with rfl
  all_goals (simp [atomOf, symF, seatOfNothingSym, eqGuard, binOp, Op.intCmp]; try omega)
theorem seatOfNothingA8_ok (a0 : Int) (a1 : Int) (d2 : Option Addr) (n2 m2 : Nat) (a3 : Int) (a4 : Int) (w3 : (Lit.int .i64 a3).wf = true) (w4 : (Lit.int .i64 a4).wf = true) (hc : n2 ≤ 300 ∧ a4 = 2 ∧ a3 = 0) : ArcOK Tryz.prog seatOfNothingA8 (symF (seatOfNothingSym a0 a1 d2 n2 m2 a3 a4)) := by
  intro p hp t x y w
  exact absurd hp (by simp [seatOfNothingA8])
theorem seatOfNothingM8_ok (a0 : Int) (a1 : Int) (d2 : Option Addr) (n2 m2 : Nat) (a3 : Int) (a4 : Int) (w3 : (Lit.int .i64 a3).wf = true) (w4 : (Lit.int .i64 a4).wf = true) (hc : n2 ≤ 300 ∧ a4 = 2 ∧ a3 = 0) : MncOK seatOfNothingM8 (symF (seatOfNothingSym a0 a1 d2 n2 m2 a3 a4)) := by
  intro p hp
  exact absurd hp (by simp [seatOfNothingM8])
theorem seatOfNothingKB8_ok (a0 : Int) (a1 : Int) (d2 : Option Addr) (n2 m2 : Nat) (a3 : Int) (a4 : Int) (w3 : (Lit.int .i64 a3).wf = true) (w4 : (Lit.int .i64 a4).wf = true) (hc : n2 ≤ 300 ∧ a4 = 2 ∧ a3 = 0) : KOK seatOfNothingKB8 (symF (seatOfNothingSym a0 a1 d2 n2 m2 a3 a4)) := by
  have r3 : IntKind.i64.min ≤ a3 ∧ a3 ≤ IntKind.i64.max := by simpa [Lit.wf] using w3
  have r4 : IntKind.i64.min ≤ a4 ∧ a4 ≤ IntKind.i64.max := by simpa [Lit.wf] using w4
  simp only [show IntKind.i64.min = -9223372036854775808 from rfl, show IntKind.i64.max = 9223372036854775807 from rfl] at r3 r4
  intro k j h
  unfold seatOfNothingKB8 at h
  unfold KB.find at h
  split at h
  · rename_i he
    injection h with h; subst h; dsimp only at he; subst he
    exact ⟨a3, by simp [symF, seatOfNothingSym], by show (0 : Int) ≤ a3; omega, by show a3 ≤ (0 : Int); omega, by simp⟩
  unfold KB.find at h
  split at h
  · rename_i he
    injection h with h; subst h; dsimp only at he; subst he
    exact ⟨a4, by simp [symF, seatOfNothingSym], by show (2 : Int) ≤ a4; omega, by show a4 ≤ (2 : Int); omega, by simp⟩
  cases h
def seatOfNothingKB9 : KB := [(3, ⟨1, 1, []⟩), (4, ⟨2, 2, []⟩)]
def seatOfNothingF9 : Fct := [(.geq, .chan (some 3), .chan (some 4), false)]
def seatOfNothingA9 : Arc := []
def seatOfNothingM9 : Mnc := []
theorem seatOfNothing9h0 (s t : TypeId) : DT.leaf.check (okT Tryz.prog (orcOr (fctOrc seatOfNothingF9) (orcOr (arcOrc seatOfNothingA9) (orcOr (mncOrc seatOfNothingM9) (orcOr (lenOrc Tryz.prog [(2, false, 300, false)]) (globOrc [0, 1]))))) seatOfNothingHook seatOfNothingCut [] seatOfNothingET 100000 (cFnL Tryz.prog) (knTab 6 gateLow gateHigh) 90 5 seatOfNothingArgs ⟨twoRows gateLow gateHigh s t, 2, 2, [], []⟩) seatOfNothingKB9 = true := check_leaf (by kernel_rfl)
theorem seatOfNothingCheck9 (s t : TypeId) : DT.leaf.check (okT Tryz.prog (orcOr (fctOrc seatOfNothingF9) (orcOr (arcOrc seatOfNothingA9) (orcOr (mncOrc seatOfNothingM9) (orcOr (lenOrc Tryz.prog [(2, false, 300, false)]) (globOrc [0, 1]))))) seatOfNothingHook seatOfNothingCut [] seatOfNothingET 100000 (cFnL Tryz.prog) (knTab 6 gateLow gateHigh) 90 5 seatOfNothingArgs ⟨twoRows gateLow gateHigh s t, 2, 2, [], []⟩) seatOfNothingKB9 = true := seatOfNothing9h0 s t
theorem seatOfNothingF9_ok (a0 : Int) (a1 : Int) (d2 : Option Addr) (n2 m2 : Nat) (a3 : Int) (a4 : Int) (hc : n2 ≤ 300 ∧ a4 = 2 ∧ a3 = 1) : FctOK Tryz.prog seatOfNothingF9 (symF (seatOfNothingSym a0 a1 d2 n2 m2 a3 a4)) := by
  intro p hp t x y w
  simp only [seatOfNothingF9, List.mem_cons, List.not_mem_nil, or_false] at hp
  rcases hp with rfl
  all_goals (simp [atomOf, symF, seatOfNothingSym, eqGuard, binOp, Op.intCmp]; try omega)
theorem seatOfNothingA9_ok (a0 : Int) (a1 : Int) (d2 : Option Addr) (n2 m2 : Nat) (a3 : Int) (a4 : Int) (w3 : (Lit.int .i64 a3).wf = true) (w4 : (Lit.int .i64 a4).wf = true) (hc : n2 ≤ 300 ∧ a4 = 2 ∧ a3 = 1) : ArcOK Tryz.prog seatOfNothingA9 (symF (seatOfNothingSym a0 a1 d2 n2 m2 a3 a4)) := by
  intro p hp t x y w
  exact absurd hp (by simp [seatOfNothingA9])
theorem seatOfNothingM9_ok (a0 : Int) (a1 : Int) (d2 : Option Addr) (n2 m2 : Nat) (a3 : Int) (a4 : Int) (w3 : (Lit.int .i64 a3).wf = true) (w4 : (Lit.int .i64 a4).wf = true) (hc : n2 ≤ 300 ∧ a4 = 2 ∧ a3 = 1) : MncOK seatOfNothingM9 (symF (seatOfNothingSym a0 a1 d2 n2 m2 a3 a4)) := by
  intro p hp
  exact absurd hp (by simp [seatOfNothingM9])
theorem seatOfNothingKB9_ok (a0 : Int) (a1 : Int) (d2 : Option Addr) (n2 m2 : Nat) (a3 : Int) (a4 : Int) (w3 : (Lit.int .i64 a3).wf = true) (w4 : (Lit.int .i64 a4).wf = true) (hc : n2 ≤ 300 ∧ a4 = 2 ∧ a3 = 1) : KOK seatOfNothingKB9 (symF (seatOfNothingSym a0 a1 d2 n2 m2 a3 a4)) := by
  have r3 : IntKind.i64.min ≤ a3 ∧ a3 ≤ IntKind.i64.max := by simpa [Lit.wf] using w3
  have r4 : IntKind.i64.min ≤ a4 ∧ a4 ≤ IntKind.i64.max := by simpa [Lit.wf] using w4
  simp only [show IntKind.i64.min = -9223372036854775808 from rfl, show IntKind.i64.max = 9223372036854775807 from rfl] at r3 r4
  intro k j h
  unfold seatOfNothingKB9 at h
  unfold KB.find at h
  split at h
  · rename_i he
    injection h with h; subst h; dsimp only at he; subst he
    exact ⟨a3, by simp [symF, seatOfNothingSym], by show (1 : Int) ≤ a3; omega, by show a3 ≤ (1 : Int); omega, by simp⟩
  unfold KB.find at h
  split at h
  · rename_i he
    injection h with h; subst h; dsimp only at he; subst he
    exact ⟨a4, by simp [symF, seatOfNothingSym], by show (2 : Int) ≤ a4; omega, by show a4 ≤ (2 : Int); omega, by simp⟩
  cases h
def seatOfNothingKB10 : KB := [(3, ⟨-9223372036854775808, -1, []⟩), (4, ⟨3, 3, []⟩)]
def seatOfNothingF10 : Fct := []
def seatOfNothingA10 : Arc := []
def seatOfNothingM10 : Mnc := []
theorem seatOfNothing10h0 (s t : TypeId) : DT.leaf.check (okT Tryz.prog (orcOr (fctOrc seatOfNothingF10) (orcOr (arcOrc seatOfNothingA10) (orcOr (mncOrc seatOfNothingM10) (orcOr (lenOrc Tryz.prog [(2, false, 300, false)]) (globOrc [0, 1]))))) seatOfNothingHook seatOfNothingCut [] seatOfNothingET 100000 (cFnL Tryz.prog) (knTab 6 gateLow gateHigh) 90 5 seatOfNothingArgs ⟨twoRows gateLow gateHigh s t, 2, 2, [], []⟩) seatOfNothingKB10 = true := check_leaf (by kernel_rfl)
theorem seatOfNothingCheck10 (s t : TypeId) : DT.leaf.check (okT Tryz.prog (orcOr (fctOrc seatOfNothingF10) (orcOr (arcOrc seatOfNothingA10) (orcOr (mncOrc seatOfNothingM10) (orcOr (lenOrc Tryz.prog [(2, false, 300, false)]) (globOrc [0, 1]))))) seatOfNothingHook seatOfNothingCut [] seatOfNothingET 100000 (cFnL Tryz.prog) (knTab 6 gateLow gateHigh) 90 5 seatOfNothingArgs ⟨twoRows gateLow gateHigh s t, 2, 2, [], []⟩) seatOfNothingKB10 = true := seatOfNothing10h0 s t
theorem seatOfNothingF10_ok (a0 : Int) (a1 : Int) (d2 : Option Addr) (n2 m2 : Nat) (a3 : Int) (a4 : Int) (hc : n2 ≤ 300 ∧ a4 = 3 ∧ a3 < 0) : FctOK Tryz.prog seatOfNothingF10 (symF (seatOfNothingSym a0 a1 d2 n2 m2 a3 a4)) := by
  intro p hp
  exact absurd hp (by simp [seatOfNothingF10])
theorem seatOfNothingA10_ok (a0 : Int) (a1 : Int) (d2 : Option Addr) (n2 m2 : Nat) (a3 : Int) (a4 : Int) (w3 : (Lit.int .i64 a3).wf = true) (w4 : (Lit.int .i64 a4).wf = true) (hc : n2 ≤ 300 ∧ a4 = 3 ∧ a3 < 0) : ArcOK Tryz.prog seatOfNothingA10 (symF (seatOfNothingSym a0 a1 d2 n2 m2 a3 a4)) := by
  intro p hp t x y w
  exact absurd hp (by simp [seatOfNothingA10])
theorem seatOfNothingM10_ok (a0 : Int) (a1 : Int) (d2 : Option Addr) (n2 m2 : Nat) (a3 : Int) (a4 : Int) (w3 : (Lit.int .i64 a3).wf = true) (w4 : (Lit.int .i64 a4).wf = true) (hc : n2 ≤ 300 ∧ a4 = 3 ∧ a3 < 0) : MncOK seatOfNothingM10 (symF (seatOfNothingSym a0 a1 d2 n2 m2 a3 a4)) := by
  intro p hp
  exact absurd hp (by simp [seatOfNothingM10])
theorem seatOfNothingKB10_ok (a0 : Int) (a1 : Int) (d2 : Option Addr) (n2 m2 : Nat) (a3 : Int) (a4 : Int) (w3 : (Lit.int .i64 a3).wf = true) (w4 : (Lit.int .i64 a4).wf = true) (hc : n2 ≤ 300 ∧ a4 = 3 ∧ a3 < 0) : KOK seatOfNothingKB10 (symF (seatOfNothingSym a0 a1 d2 n2 m2 a3 a4)) := by
  have r3 : IntKind.i64.min ≤ a3 ∧ a3 ≤ IntKind.i64.max := by simpa [Lit.wf] using w3
  have r4 : IntKind.i64.min ≤ a4 ∧ a4 ≤ IntKind.i64.max := by simpa [Lit.wf] using w4
  simp only [show IntKind.i64.min = -9223372036854775808 from rfl, show IntKind.i64.max = 9223372036854775807 from rfl] at r3 r4
  intro k j h
  unfold seatOfNothingKB10 at h
  unfold KB.find at h
  split at h
  · rename_i he
    injection h with h; subst h; dsimp only at he; subst he
    exact ⟨a3, by simp [symF, seatOfNothingSym], by show (-9223372036854775808 : Int) ≤ a3; omega, by show a3 ≤ (-1 : Int); omega, by simp⟩
  unfold KB.find at h
  split at h
  · rename_i he
    injection h with h; subst h; dsimp only at he; subst he
    exact ⟨a4, by simp [symF, seatOfNothingSym], by show (3 : Int) ≤ a4; omega, by show a4 ≤ (3 : Int); omega, by simp⟩
  cases h
def seatOfNothingKB11 : KB := [(3, ⟨3, 9223372036854775807, []⟩), (4, ⟨3, 3, []⟩)]
def seatOfNothingF11 : Fct := [(.geq, .chan (some 3), .chan (some 4), true)]
def seatOfNothingA11 : Arc := []
def seatOfNothingM11 : Mnc := []
theorem seatOfNothing11h0 (s t : TypeId) : DT.leaf.check (okT Tryz.prog (orcOr (fctOrc seatOfNothingF11) (orcOr (arcOrc seatOfNothingA11) (orcOr (mncOrc seatOfNothingM11) (orcOr (lenOrc Tryz.prog [(2, false, 300, false)]) (globOrc [0, 1]))))) seatOfNothingHook seatOfNothingCut [] seatOfNothingET 100000 (cFnL Tryz.prog) (knTab 6 gateLow gateHigh) 90 5 seatOfNothingArgs ⟨twoRows gateLow gateHigh s t, 2, 2, [], []⟩) seatOfNothingKB11 = true := check_leaf (by kernel_rfl)
theorem seatOfNothingCheck11 (s t : TypeId) : DT.leaf.check (okT Tryz.prog (orcOr (fctOrc seatOfNothingF11) (orcOr (arcOrc seatOfNothingA11) (orcOr (mncOrc seatOfNothingM11) (orcOr (lenOrc Tryz.prog [(2, false, 300, false)]) (globOrc [0, 1]))))) seatOfNothingHook seatOfNothingCut [] seatOfNothingET 100000 (cFnL Tryz.prog) (knTab 6 gateLow gateHigh) 90 5 seatOfNothingArgs ⟨twoRows gateLow gateHigh s t, 2, 2, [], []⟩) seatOfNothingKB11 = true := seatOfNothing11h0 s t
theorem seatOfNothingF11_ok (a0 : Int) (a1 : Int) (d2 : Option Addr) (n2 m2 : Nat) (a3 : Int) (a4 : Int) (hc : n2 ≤ 300 ∧ a4 = 3 ∧ 3 ≤ a3) : FctOK Tryz.prog seatOfNothingF11 (symF (seatOfNothingSym a0 a1 d2 n2 m2 a3 a4)) := by
  intro p hp t x y w
  simp only [seatOfNothingF11, List.mem_cons, List.not_mem_nil, or_false] at hp
  rcases hp with rfl
  all_goals (simp [atomOf, symF, seatOfNothingSym, eqGuard, binOp, Op.intCmp]; try omega)
theorem seatOfNothingA11_ok (a0 : Int) (a1 : Int) (d2 : Option Addr) (n2 m2 : Nat) (a3 : Int) (a4 : Int) (w3 : (Lit.int .i64 a3).wf = true) (w4 : (Lit.int .i64 a4).wf = true) (hc : n2 ≤ 300 ∧ a4 = 3 ∧ 3 ≤ a3) : ArcOK Tryz.prog seatOfNothingA11 (symF (seatOfNothingSym a0 a1 d2 n2 m2 a3 a4)) := by
  intro p hp t x y w
  exact absurd hp (by simp [seatOfNothingA11])
theorem seatOfNothingM11_ok (a0 : Int) (a1 : Int) (d2 : Option Addr) (n2 m2 : Nat) (a3 : Int) (a4 : Int) (w3 : (Lit.int .i64 a3).wf = true) (w4 : (Lit.int .i64 a4).wf = true) (hc : n2 ≤ 300 ∧ a4 = 3 ∧ 3 ≤ a3) : MncOK seatOfNothingM11 (symF (seatOfNothingSym a0 a1 d2 n2 m2 a3 a4)) := by
  intro p hp
  exact absurd hp (by simp [seatOfNothingM11])
theorem seatOfNothingKB11_ok (a0 : Int) (a1 : Int) (d2 : Option Addr) (n2 m2 : Nat) (a3 : Int) (a4 : Int) (w3 : (Lit.int .i64 a3).wf = true) (w4 : (Lit.int .i64 a4).wf = true) (hc : n2 ≤ 300 ∧ a4 = 3 ∧ 3 ≤ a3) : KOK seatOfNothingKB11 (symF (seatOfNothingSym a0 a1 d2 n2 m2 a3 a4)) := by
  have r3 : IntKind.i64.min ≤ a3 ∧ a3 ≤ IntKind.i64.max := by simpa [Lit.wf] using w3
  have r4 : IntKind.i64.min ≤ a4 ∧ a4 ≤ IntKind.i64.max := by simpa [Lit.wf] using w4
  simp only [show IntKind.i64.min = -9223372036854775808 from rfl, show IntKind.i64.max = 9223372036854775807 from rfl] at r3 r4
  intro k j h
  unfold seatOfNothingKB11 at h
  unfold KB.find at h
  split at h
  · rename_i he
    injection h with h; subst h; dsimp only at he; subst he
    exact ⟨a3, by simp [symF, seatOfNothingSym], by show (3 : Int) ≤ a3; omega, by show a3 ≤ (9223372036854775807 : Int); omega, by simp⟩
  unfold KB.find at h
  split at h
  · rename_i he
    injection h with h; subst h; dsimp only at he; subst he
    exact ⟨a4, by simp [symF, seatOfNothingSym], by show (3 : Int) ≤ a4; omega, by show a4 ≤ (3 : Int); omega, by simp⟩
  cases h
def seatOfNothingKB12 : KB := [(3, ⟨0, 0, []⟩), (4, ⟨3, 3, []⟩)]
def seatOfNothingF12 : Fct := [(.geq, .chan (some 3), .chan (some 4), false)]
def seatOfNothingA12 : Arc := []
def seatOfNothingM12 : Mnc := []
theorem seatOfNothing12h0 (s t : TypeId) : DT.leaf.check (okT Tryz.prog (orcOr (fctOrc seatOfNothingF12) (orcOr (arcOrc seatOfNothingA12) (orcOr (mncOrc seatOfNothingM12) (orcOr (lenOrc Tryz.prog [(2, false, 300, false)]) (globOrc [0, 1]))))) seatOfNothingHook seatOfNothingCut [] seatOfNothingET 100000 (cFnL Tryz.prog) (knTab 6 gateLow gateHigh) 90 5 seatOfNothingArgs ⟨twoRows gateLow gateHigh s t, 2, 2, [], []⟩) seatOfNothingKB12 = true := check_leaf (by kernel_rfl)
theorem seatOfNothingCheck12 (s t : TypeId) : DT.leaf.check (okT Tryz.prog (orcOr (fctOrc seatOfNothingF12) (orcOr (arcOrc seatOfNothingA12) (orcOr (mncOrc seatOfNothingM12) (orcOr (lenOrc Tryz.prog [(2, false, 300, false)]) (globOrc [0, 1]))))) seatOfNothingHook seatOfNothingCut [] seatOfNothingET 100000 (cFnL Tryz.prog) (knTab 6 gateLow gateHigh) 90 5 seatOfNothingArgs ⟨twoRows gateLow gateHigh s t, 2, 2, [], []⟩) seatOfNothingKB12 = true := seatOfNothing12h0 s t
theorem seatOfNothingF12_ok (a0 : Int) (a1 : Int) (d2 : Option Addr) (n2 m2 : Nat) (a3 : Int) (a4 : Int) (hc : n2 ≤ 300 ∧ a4 = 3 ∧ a3 = 0) : FctOK Tryz.prog seatOfNothingF12 (symF (seatOfNothingSym a0 a1 d2 n2 m2 a3 a4)) := by
  intro p hp t x y w
  simp only [seatOfNothingF12, List.mem_cons, List.not_mem_nil, or_false] at hp
  rcases hp with rfl
  all_goals (simp [atomOf, symF, seatOfNothingSym, eqGuard, binOp, Op.intCmp]; try omega)
theorem seatOfNothingA12_ok (a0 : Int) (a1 : Int) (d2 : Option Addr) (n2 m2 : Nat) (a3 : Int) (a4 : Int) (w3 : (Lit.int .i64 a3).wf = true) (w4 : (Lit.int .i64 a4).wf = true) (hc : n2 ≤ 300 ∧ a4 = 3 ∧ a3 = 0) : ArcOK Tryz.prog seatOfNothingA12 (symF (seatOfNothingSym a0 a1 d2 n2 m2 a3 a4)) := by
  intro p hp t x y w
  exact absurd hp (by simp [seatOfNothingA12])
theorem seatOfNothingM12_ok (a0 : Int) (a1 : Int) (d2 : Option Addr) (n2 m2 : Nat) (a3 : Int) (a4 : Int) (w3 : (Lit.int .i64 a3).wf = true) (w4 : (Lit.int .i64 a4).wf = true) (hc : n2 ≤ 300 ∧ a4 = 3 ∧ a3 = 0) : MncOK seatOfNothingM12 (symF (seatOfNothingSym a0 a1 d2 n2 m2 a3 a4)) := by
  intro p hp
  exact absurd hp (by simp [seatOfNothingM12])
theorem seatOfNothingKB12_ok (a0 : Int) (a1 : Int) (d2 : Option Addr) (n2 m2 : Nat) (a3 : Int) (a4 : Int) (w3 : (Lit.int .i64 a3).wf = true) (w4 : (Lit.int .i64 a4).wf = true) (hc : n2 ≤ 300 ∧ a4 = 3 ∧ a3 = 0) : KOK seatOfNothingKB12 (symF (seatOfNothingSym a0 a1 d2 n2 m2 a3 a4)) := by
  have r3 : IntKind.i64.min ≤ a3 ∧ a3 ≤ IntKind.i64.max := by simpa [Lit.wf] using w3
  have r4 : IntKind.i64.min ≤ a4 ∧ a4 ≤ IntKind.i64.max := by simpa [Lit.wf] using w4
  simp only [show IntKind.i64.min = -9223372036854775808 from rfl, show IntKind.i64.max = 9223372036854775807 from rfl] at r3 r4
  intro k j h
  unfold seatOfNothingKB12 at h
  unfold KB.find at h
  split at h
  · rename_i he
    injection h with h; subst h; dsimp only at he; subst he
    exact ⟨a3, by simp [symF, seatOfNothingSym], by show (0 : Int) ≤ a3; omega, by show a3 ≤ (0 : Int); omega, by simp⟩
  unfold KB.find at h
  split at h
  · rename_i he
    injection h with h; subst h; dsimp only at he; subst he
    exact ⟨a4, by simp [symF, seatOfNothingSym], by show (3 : Int) ≤ a4; omega, by show a4 ≤ (3 : Int); omega, by simp⟩
  cases h
def seatOfNothingKB13 : KB := [(3, ⟨1, 1, []⟩), (4, ⟨3, 3, []⟩)]
def seatOfNothingF13 : Fct := [(.geq, .chan (some 3), .chan (some 4), false)]
def seatOfNothingA13 : Arc := []
def seatOfNothingM13 : Mnc := []
theorem seatOfNothing13h0 (s t : TypeId) : DT.leaf.check (okT Tryz.prog (orcOr (fctOrc seatOfNothingF13) (orcOr (arcOrc seatOfNothingA13) (orcOr (mncOrc seatOfNothingM13) (orcOr (lenOrc Tryz.prog [(2, false, 300, false)]) (globOrc [0, 1]))))) seatOfNothingHook seatOfNothingCut [] seatOfNothingET 100000 (cFnL Tryz.prog) (knTab 6 gateLow gateHigh) 90 5 seatOfNothingArgs ⟨twoRows gateLow gateHigh s t, 2, 2, [], []⟩) seatOfNothingKB13 = true := check_leaf (by kernel_rfl)
theorem seatOfNothingCheck13 (s t : TypeId) : DT.leaf.check (okT Tryz.prog (orcOr (fctOrc seatOfNothingF13) (orcOr (arcOrc seatOfNothingA13) (orcOr (mncOrc seatOfNothingM13) (orcOr (lenOrc Tryz.prog [(2, false, 300, false)]) (globOrc [0, 1]))))) seatOfNothingHook seatOfNothingCut [] seatOfNothingET 100000 (cFnL Tryz.prog) (knTab 6 gateLow gateHigh) 90 5 seatOfNothingArgs ⟨twoRows gateLow gateHigh s t, 2, 2, [], []⟩) seatOfNothingKB13 = true := seatOfNothing13h0 s t
theorem seatOfNothingF13_ok (a0 : Int) (a1 : Int) (d2 : Option Addr) (n2 m2 : Nat) (a3 : Int) (a4 : Int) (hc : n2 ≤ 300 ∧ a4 = 3 ∧ a3 = 1) : FctOK Tryz.prog seatOfNothingF13 (symF (seatOfNothingSym a0 a1 d2 n2 m2 a3 a4)) := by
  intro p hp t x y w
  simp only [seatOfNothingF13, List.mem_cons, List.not_mem_nil, or_false] at hp
  rcases hp with rfl
  all_goals (simp [atomOf, symF, seatOfNothingSym, eqGuard, binOp, Op.intCmp]; try omega)
theorem seatOfNothingA13_ok (a0 : Int) (a1 : Int) (d2 : Option Addr) (n2 m2 : Nat) (a3 : Int) (a4 : Int) (w3 : (Lit.int .i64 a3).wf = true) (w4 : (Lit.int .i64 a4).wf = true) (hc : n2 ≤ 300 ∧ a4 = 3 ∧ a3 = 1) : ArcOK Tryz.prog seatOfNothingA13 (symF (seatOfNothingSym a0 a1 d2 n2 m2 a3 a4)) := by
  intro p hp t x y w
  exact absurd hp (by simp [seatOfNothingA13])
theorem seatOfNothingM13_ok (a0 : Int) (a1 : Int) (d2 : Option Addr) (n2 m2 : Nat) (a3 : Int) (a4 : Int) (w3 : (Lit.int .i64 a3).wf = true) (w4 : (Lit.int .i64 a4).wf = true) (hc : n2 ≤ 300 ∧ a4 = 3 ∧ a3 = 1) : MncOK seatOfNothingM13 (symF (seatOfNothingSym a0 a1 d2 n2 m2 a3 a4)) := by
  intro p hp
  exact absurd hp (by simp [seatOfNothingM13])
theorem seatOfNothingKB13_ok (a0 : Int) (a1 : Int) (d2 : Option Addr) (n2 m2 : Nat) (a3 : Int) (a4 : Int) (w3 : (Lit.int .i64 a3).wf = true) (w4 : (Lit.int .i64 a4).wf = true) (hc : n2 ≤ 300 ∧ a4 = 3 ∧ a3 = 1) : KOK seatOfNothingKB13 (symF (seatOfNothingSym a0 a1 d2 n2 m2 a3 a4)) := by
  have r3 : IntKind.i64.min ≤ a3 ∧ a3 ≤ IntKind.i64.max := by simpa [Lit.wf] using w3
  have r4 : IntKind.i64.min ≤ a4 ∧ a4 ≤ IntKind.i64.max := by simpa [Lit.wf] using w4
  simp only [show IntKind.i64.min = -9223372036854775808 from rfl, show IntKind.i64.max = 9223372036854775807 from rfl] at r3 r4
  intro k j h
  unfold seatOfNothingKB13 at h
  unfold KB.find at h
  split at h
  · rename_i he
    injection h with h; subst h; dsimp only at he; subst he
    exact ⟨a3, by simp [symF, seatOfNothingSym], by show (1 : Int) ≤ a3; omega, by show a3 ≤ (1 : Int); omega, by simp⟩
  unfold KB.find at h
  split at h
  · rename_i he
    injection h with h; subst h; dsimp only at he; subst he
    exact ⟨a4, by simp [symF, seatOfNothingSym], by show (3 : Int) ≤ a4; omega, by show a4 ≤ (3 : Int); omega, by simp⟩
  cases h
def seatOfNothingKB14 : KB := [(3, ⟨2, 2, []⟩), (4, ⟨3, 3, []⟩)]
def seatOfNothingF14 : Fct := [(.geq, .chan (some 3), .chan (some 4), false)]
def seatOfNothingA14 : Arc := []
def seatOfNothingM14 : Mnc := []
theorem seatOfNothing14h0 (s t : TypeId) : DT.leaf.check (okT Tryz.prog (orcOr (fctOrc seatOfNothingF14) (orcOr (arcOrc seatOfNothingA14) (orcOr (mncOrc seatOfNothingM14) (orcOr (lenOrc Tryz.prog [(2, false, 300, false)]) (globOrc [0, 1]))))) seatOfNothingHook seatOfNothingCut [] seatOfNothingET 100000 (cFnL Tryz.prog) (knTab 6 gateLow gateHigh) 90 5 seatOfNothingArgs ⟨twoRows gateLow gateHigh s t, 2, 2, [], []⟩) seatOfNothingKB14 = true := check_leaf (by kernel_rfl)
theorem seatOfNothingCheck14 (s t : TypeId) : DT.leaf.check (okT Tryz.prog (orcOr (fctOrc seatOfNothingF14) (orcOr (arcOrc seatOfNothingA14) (orcOr (mncOrc seatOfNothingM14) (orcOr (lenOrc Tryz.prog [(2, false, 300, false)]) (globOrc [0, 1]))))) seatOfNothingHook seatOfNothingCut [] seatOfNothingET 100000 (cFnL Tryz.prog) (knTab 6 gateLow gateHigh) 90 5 seatOfNothingArgs ⟨twoRows gateLow gateHigh s t, 2, 2, [], []⟩) seatOfNothingKB14 = true := seatOfNothing14h0 s t
theorem seatOfNothingF14_ok (a0 : Int) (a1 : Int) (d2 : Option Addr) (n2 m2 : Nat) (a3 : Int) (a4 : Int) (hc : n2 ≤ 300 ∧ a4 = 3 ∧ a3 = 2) : FctOK Tryz.prog seatOfNothingF14 (symF (seatOfNothingSym a0 a1 d2 n2 m2 a3 a4)) := by
  intro p hp t x y w
  simp only [seatOfNothingF14, List.mem_cons, List.not_mem_nil, or_false] at hp
  rcases hp with rfl
  all_goals (simp [atomOf, symF, seatOfNothingSym, eqGuard, binOp, Op.intCmp]; try omega)
theorem seatOfNothingA14_ok (a0 : Int) (a1 : Int) (d2 : Option Addr) (n2 m2 : Nat) (a3 : Int) (a4 : Int) (w3 : (Lit.int .i64 a3).wf = true) (w4 : (Lit.int .i64 a4).wf = true) (hc : n2 ≤ 300 ∧ a4 = 3 ∧ a3 = 2) : ArcOK Tryz.prog seatOfNothingA14 (symF (seatOfNothingSym a0 a1 d2 n2 m2 a3 a4)) := by
  intro p hp t x y w
  exact absurd hp (by simp [seatOfNothingA14])
theorem seatOfNothingM14_ok (a0 : Int) (a1 : Int) (d2 : Option Addr) (n2 m2 : Nat) (a3 : Int) (a4 : Int) (w3 : (Lit.int .i64 a3).wf = true) (w4 : (Lit.int .i64 a4).wf = true) (hc : n2 ≤ 300 ∧ a4 = 3 ∧ a3 = 2) : MncOK seatOfNothingM14 (symF (seatOfNothingSym a0 a1 d2 n2 m2 a3 a4)) := by
  intro p hp
  exact absurd hp (by simp [seatOfNothingM14])
theorem seatOfNothingKB14_ok (a0 : Int) (a1 : Int) (d2 : Option Addr) (n2 m2 : Nat) (a3 : Int) (a4 : Int) (w3 : (Lit.int .i64 a3).wf = true) (w4 : (Lit.int .i64 a4).wf = true) (hc : n2 ≤ 300 ∧ a4 = 3 ∧ a3 = 2) : KOK seatOfNothingKB14 (symF (seatOfNothingSym a0 a1 d2 n2 m2 a3 a4)) := by
  have r3 : IntKind.i64.min ≤ a3 ∧ a3 ≤ IntKind.i64.max := by simpa [Lit.wf] using w3
  have r4 : IntKind.i64.min ≤ a4 ∧ a4 ≤ IntKind.i64.max := by simpa [Lit.wf] using w4
  simp only [show IntKind.i64.min = -9223372036854775808 from rfl, show IntKind.i64.max = 9223372036854775807 from rfl] at r3 r4
  intro k j h
  unfold seatOfNothingKB14 at h
  unfold KB.find at h
  split at h
  · rename_i he
    injection h with h; subst h; dsimp only at he; subst he
    exact ⟨a3, by simp [symF, seatOfNothingSym], by show (2 : Int) ≤ a3; omega, by show a3 ≤ (2 : Int); omega, by simp⟩
  unfold KB.find at h
  split at h
  · rename_i he
    injection h with h; subst h; dsimp only at he; subst he
    exact ⟨a4, by simp [symF, seatOfNothingSym], by show (3 : Int) ≤ a4; omega, by show a4 ≤ (3 : Int); omega, by simp⟩
  cases h
set_option maxHeartbeats 400000 in
theorem walkSeatOfNothing (a0 : Int) (a1 : Int) (d2 : Option Addr) (n2 m2 : Nat) (a3 : Int) (a4 : Int) (w3 : (Lit.int .i64 a3).wf = true) (w4 : (Lit.int .i64 a4).wf = true) (s t : TypeId) (w : World) (g0 : w.heap[0]? = some (.cells gateLow.toArray s (0, 0))) (g1 : w.heap[1]? = some (.cells gateHigh.toArray t (0, 0))) :
    Calls Tryz.prog 5 #[.agg #[.int .i64 a0, .int .i64 a1, .slice d2 n2 m2], .int .i64 a3, .int .i64 a4] w fun e' w' => e' = .returned (.bool true) ∧ Below w.heap.size w w' := by
  have hone : ∀ q, (symF (seatOfNothingSym a0 a1 d2 n2 m2 a3 a4) q).oneCell' = true := symF_one (by intro p hp; simp [seatOfNothingSym] at hp; rcases hp with rfl | rfl | rfl | rfl | rfl | rfl | rfl | rfl <;> rfl)
  have hS : SOK [] (symF (seatOfNothingSym a0 a1 d2 n2 m2 a3 a4)) := by
    intro k hk
    cases hk
  have h0 : symF (seatOfNothingSym a0 a1 d2 n2 m2 a3 a4) (gsym 0) = .nilFunc := by simp [gsym, symF, seatOfNothingSym]
  have h1 : symF (seatOfNothingSym a0 a1 d2 n2 m2 a3 a4) (gsym 1) = .nilFunc := by simp [gsym, symF, seatOfNothingSym]
  have hsq : ∀ x, x = symF (seatOfNothingSym a0 a1 d2 n2 m2 a3 a4) → SQG x := fun x hx => by rw [hx]; exact ⟨h0, h1⟩
  have hgo : OrcOK Tryz.prog (· = symF (seatOfNothingSym a0 a1 d2 n2 m2 a3 a4)) (globOrc [0, 1]) := OrcOK.weak hsq (globG _)
  have hgl : ∀ g, symF (seatOfNothingSym a0 a1 d2 n2 m2 a3 a4) (gsym g) = .nilFunc → g < 2 := fun g hg => by
    rcases Nat.lt_or_ge g 2 with h | h
    · exact h
    · exfalso
      have n : ∀ k : Nat, k < 5000002 → ¬ k = 5000000 + g := fun k hk => by omega
      simp only [gsym, symF, seatOfNothingSym] at hg
      simp only [n _ (show 0 < 5000002 by decide), n 1 (by decide), n 2 (by decide), n 3 (by decide), n 4 (by decide), n 1002 (by decide), n 5000000 (by decide), n 5000001 (by decide), if_false] at hg
      cases hg
  have hh := twoRows_holds (σ := symF (seatOfNothingSym a0 a1 d2 n2 m2 a3 a4)) (a := gateLow) (b := gateHigh) rfl rfl g0 g1
  have htab : TabOK Tryz.prog (· = symF (seatOfNothingSym a0 a1 d2 n2 m2 a3 a4)) (knTab 6 gateLow gateHigh) := (knTab_ok (fun s hs => (hsq s hs).1) (fun s hs => (hsq s hs).2) rfl rfl seatKKnown)
  have hcase : (300 < n2) ∨ (n2 ≤ 300 ∧ a4 < 1) ∨ (n2 ≤ 300 ∧ 3 < a4) ∨ (n2 ≤ 300 ∧ a4 = 1 ∧ a3 < 0) ∨ (n2 ≤ 300 ∧ a4 = 1 ∧ 1 ≤ a3) ∨ (n2 ≤ 300 ∧ a4 = 1 ∧ a3 = 0) ∨ (n2 ≤ 300 ∧ a4 = 2 ∧ a3 < 0) ∨ (n2 ≤ 300 ∧ a4 = 2 ∧ 2 ≤ a3) ∨ (n2 ≤ 300 ∧ a4 = 2 ∧ a3 = 0) ∨ (n2 ≤ 300 ∧ a4 = 2 ∧ a3 = 1) ∨ (n2 ≤ 300 ∧ a4 = 3 ∧ a3 < 0) ∨ (n2 ≤ 300 ∧ a4 = 3 ∧ 3 ≤ a3) ∨ (n2 ≤ 300 ∧ a4 = 3 ∧ a3 = 0) ∨ (n2 ≤ 300 ∧ a4 = 3 ∧ a3 = 1) ∨ (n2 ≤ 300 ∧ a4 = 3 ∧ a3 = 2) := by
    by_cases t0 : 300 < n2
    · have q : 300 < n2 := by omega
      exact (.inl q)
    by_cases t1 : a4 < 1
    · have q : n2 ≤ 300 ∧ a4 < 1 := by omega
      exact (.inr (.inl q))
    by_cases t2 : 3 < a4
    · have q : n2 ≤ 300 ∧ 3 < a4 := by omega
      exact (.inr (.inr (.inl q)))
    by_cases t3 : a4 = 1
    · by_cases t4 : a3 < 0
      · have q : n2 ≤ 300 ∧ a4 = 1 ∧ a3 < 0 := by omega
        exact (.inr (.inr (.inr (.inl q))))
      by_cases t5 : 1 ≤ a3
      · have q : n2 ≤ 300 ∧ a4 = 1 ∧ 1 ≤ a3 := by omega
        exact (.inr (.inr (.inr (.inr (.inl q)))))
      have q : n2 ≤ 300 ∧ a4 = 1 ∧ a3 = 0 := by omega
      exact (.inr (.inr (.inr (.inr (.inr (.inl q))))))
    by_cases t4 : a4 = 2
    · by_cases t5 : a3 < 0
      · have q : n2 ≤ 300 ∧ a4 = 2 ∧ a3 < 0 := by omega
        exact (.inr (.inr (.inr (.inr (.inr (.inr (.inl q)))))))
      by_cases t6 : 2 ≤ a3
      · have q : n2 ≤ 300 ∧ a4 = 2 ∧ 2 ≤ a3 := by omega
        exact (.inr (.inr (.inr (.inr (.inr (.inr (.inr (.inl q))))))))
      by_cases t7 : a3 = 0
      · have q : n2 ≤ 300 ∧ a4 = 2 ∧ a3 = 0 := by omega
        exact (.inr (.inr (.inr (.inr (.inr (.inr (.inr (.inr (.inl q)))))))))
      have q : n2 ≤ 300 ∧ a4 = 2 ∧ a3 = 1 := by omega
      exact (.inr (.inr (.inr (.inr (.inr (.inr (.inr (.inr (.inr (.inl q))))))))))
    by_cases t5 : a3 < 0
    · have q : n2 ≤ 300 ∧ a4 = 3 ∧ a3 < 0 := by omega
      exact (.inr (.inr (.inr (.inr (.inr (.inr (.inr (.inr (.inr (.inr (.inl q)))))))))))
    by_cases t6 : 3 ≤ a3
    · have q : n2 ≤ 300 ∧ a4 = 3 ∧ 3 ≤ a3 := by omega
      exact (.inr (.inr (.inr (.inr (.inr (.inr (.inr (.inr (.inr (.inr (.inr (.inl q))))))))))))
    by_cases t7 : a3 = 0
    · have q : n2 ≤ 300 ∧ a4 = 3 ∧ a3 = 0 := by omega
      exact (.inr (.inr (.inr (.inr (.inr (.inr (.inr (.inr (.inr (.inr (.inr (.inr (.inl q)))))))))))))
    by_cases t8 : a3 = 1
    · have q : n2 ≤ 300 ∧ a4 = 3 ∧ a3 = 1 := by omega
      exact (.inr (.inr (.inr (.inr (.inr (.inr (.inr (.inr (.inr (.inr (.inr (.inr (.inr (.inl q))))))))))))))
    have q : n2 ≤ 300 ∧ a4 = 3 ∧ a3 = 2 := by omega
    exact (.inr (.inr (.inr (.inr (.inr (.inr (.inr (.inr (.inr (.inr (.inr (.inr (.inr (.inr q))))))))))))))
  rcases hcase with hc | hc | hc | hc | hc | hc | hc | hc | hc | hc | hc | hc | hc | hc | hc
  · exact Calls.of_treeT evMixed evNames hone (orcOr_ok (fctOrc_ok (seatOfNothingF0_ok a0 a1 d2 n2 m2 a3 a4 hc)) (orcOr_ok (arcOrc_ok (seatOfNothingA0_ok a0 a1 d2 n2 m2 a3 a4 w3 w4 hc)) (orcOr_ok (mncOrc_ok (seatOfNothingM0_ok a0 a1 d2 n2 m2 a3 a4 w3 w4 hc)) (orcOr_ok (lenOrc_ok Tryz.prog [(2, false, 300, true)] _ (by intro p hp; simp at hp; subst hp; exact ⟨n2, by simp [symF, seatOfNothingSym], decide_eq_true (show 300 < n2 by omega), by rw [if_neg (by simp)]; exact ⟨d2, m2, by simp [symF, seatOfNothingSym]⟩⟩)) hgo)))) seatOfNothingHook_ok (EqOK.nil _) (seatOfNothingKB0_ok a0 a1 d2 n2 m2 a3 a4 w3 w4 hc) hS (tableL_self _) htab (args := seatOfNothingArgs) (fun r hr => by simp [seatOfNothingArgs, ren, hr, symF, seatOfNothingSym]) (seatOfNothingCheck0 s t) w hgl twoRows_none hh
  · exact Calls.of_treeT evMixed evNames hone (orcOr_ok (fctOrc_ok (seatOfNothingF1_ok a0 a1 d2 n2 m2 a3 a4 hc)) (orcOr_ok (arcOrc_ok (seatOfNothingA1_ok a0 a1 d2 n2 m2 a3 a4 w3 w4 hc)) (orcOr_ok (mncOrc_ok (seatOfNothingM1_ok a0 a1 d2 n2 m2 a3 a4 w3 w4 hc)) (orcOr_ok (lenOrc_ok Tryz.prog [(2, false, 300, false)] _ (by intro p hp; simp at hp; subst hp; exact ⟨n2, by simp [symF, seatOfNothingSym], decide_eq_false (show ¬ 300 < n2 by omega), by rw [if_neg (by simp)]; exact ⟨d2, m2, by simp [symF, seatOfNothingSym]⟩⟩)) hgo)))) seatOfNothingHook_ok (EqOK.nil _) (seatOfNothingKB1_ok a0 a1 d2 n2 m2 a3 a4 w3 w4 hc) hS (tableL_self _) htab (args := seatOfNothingArgs) (fun r hr => by simp [seatOfNothingArgs, ren, hr, symF, seatOfNothingSym]) (seatOfNothingCheck1 s t) w hgl twoRows_none hh
  · exact Calls.of_treeT evMixed evNames hone (orcOr_ok (fctOrc_ok (seatOfNothingF2_ok a0 a1 d2 n2 m2 a3 a4 hc)) (orcOr_ok (arcOrc_ok (seatOfNothingA2_ok a0 a1 d2 n2 m2 a3 a4 w3 w4 hc)) (orcOr_ok (mncOrc_ok (seatOfNothingM2_ok a0 a1 d2 n2 m2 a3 a4 w3 w4 hc)) (orcOr_ok (lenOrc_ok Tryz.prog [(2, false, 300, false)] _ (by intro p hp; simp at hp; subst hp; exact ⟨n2, by simp [symF, seatOfNothingSym], decide_eq_false (show ¬ 300 < n2 by omega), by rw [if_neg (by simp)]; exact ⟨d2, m2, by simp [symF, seatOfNothingSym]⟩⟩)) hgo)))) seatOfNothingHook_ok (EqOK.nil _) (seatOfNothingKB2_ok a0 a1 d2 n2 m2 a3 a4 w3 w4 hc) hS (tableL_self _) htab (args := seatOfNothingArgs) (fun r hr => by simp [seatOfNothingArgs, ren, hr, symF, seatOfNothingSym]) (seatOfNothingCheck2 s t) w hgl twoRows_none hh
  · exact Calls.of_treeT evMixed evNames hone (orcOr_ok (fctOrc_ok (seatOfNothingF3_ok a0 a1 d2 n2 m2 a3 a4 hc)) (orcOr_ok (arcOrc_ok (seatOfNothingA3_ok a0 a1 d2 n2 m2 a3 a4 w3 w4 hc)) (orcOr_ok (mncOrc_ok (seatOfNothingM3_ok a0 a1 d2 n2 m2 a3 a4 w3 w4 hc)) (orcOr_ok (lenOrc_ok Tryz.prog [(2, false, 300, false)] _ (by intro p hp; simp at hp; subst hp; exact ⟨n2, by simp [symF, seatOfNothingSym], decide_eq_false (show ¬ 300 < n2 by omega), by rw [if_neg (by simp)]; exact ⟨d2, m2, by simp [symF, seatOfNothingSym]⟩⟩)) hgo)))) seatOfNothingHook_ok (EqOK.nil _) (seatOfNothingKB3_ok a0 a1 d2 n2 m2 a3 a4 w3 w4 hc) hS (tableL_self _) htab (args := seatOfNothingArgs) (fun r hr => by simp [seatOfNothingArgs, ren, hr, symF, seatOfNothingSym]) (seatOfNothingCheck3 s t) w hgl twoRows_none hh
  · exact Calls.of_treeT evMixed evNames hone (orcOr_ok (fctOrc_ok (seatOfNothingF4_ok a0 a1 d2 n2 m2 a3 a4 hc)) (orcOr_ok (arcOrc_ok (seatOfNothingA4_ok a0 a1 d2 n2 m2 a3 a4 w3 w4 hc)) (orcOr_ok (mncOrc_ok (seatOfNothingM4_ok a0 a1 d2 n2 m2 a3 a4 w3 w4 hc)) (orcOr_ok (lenOrc_ok Tryz.prog [(2, false, 300, false)] _ (by intro p hp; simp at hp; subst hp; exact ⟨n2, by simp [symF, seatOfNothingSym], decide_eq_false (show ¬ 300 < n2 by omega), by rw [if_neg (by simp)]; exact ⟨d2, m2, by simp [symF, seatOfNothingSym]⟩⟩)) hgo)))) seatOfNothingHook_ok (EqOK.nil _) (seatOfNothingKB4_ok a0 a1 d2 n2 m2 a3 a4 w3 w4 hc) hS (tableL_self _) htab (args := seatOfNothingArgs) (fun r hr => by simp [seatOfNothingArgs, ren, hr, symF, seatOfNothingSym]) (seatOfNothingCheck4 s t) w hgl twoRows_none hh
  · exact Calls.of_treeT evMixed evNames hone (orcOr_ok (fctOrc_ok (seatOfNothingF5_ok a0 a1 d2 n2 m2 a3 a4 hc)) (orcOr_ok (arcOrc_ok (seatOfNothingA5_ok a0 a1 d2 n2 m2 a3 a4 w3 w4 hc)) (orcOr_ok (mncOrc_ok (seatOfNothingM5_ok a0 a1 d2 n2 m2 a3 a4 w3 w4 hc)) (orcOr_ok (lenOrc_ok Tryz.prog [(2, false, 300, false)] _ (by intro p hp; simp at hp; subst hp; exact ⟨n2, by simp [symF, seatOfNothingSym], decide_eq_false (show ¬ 300 < n2 by omega), by rw [if_neg (by simp)]; exact ⟨d2, m2, by simp [symF, seatOfNothingSym]⟩⟩)) hgo)))) seatOfNothingHook_ok (EqOK.nil _) (seatOfNothingKB5_ok a0 a1 d2 n2 m2 a3 a4 w3 w4 hc) hS (tableL_self _) htab (args := seatOfNothingArgs) (fun r hr => by simp [seatOfNothingArgs, ren, hr, symF, seatOfNothingSym]) (seatOfNothingCheck5 s t) w hgl twoRows_none hh
  · exact Calls.of_treeT evMixed evNames hone (orcOr_ok (fctOrc_ok (seatOfNothingF6_ok a0 a1 d2 n2 m2 a3 a4 hc)) (orcOr_ok (arcOrc_ok (seatOfNothingA6_ok a0 a1 d2 n2 m2 a3 a4 w3 w4 hc)) (orcOr_ok (mncOrc_ok (seatOfNothingM6_ok a0 a1 d2 n2 m2 a3 a4 w3 w4 hc)) (orcOr_ok (lenOrc_ok Tryz.prog [(2, false, 300, false)] _ (by intro p hp; simp at hp; subst hp; exact ⟨n2, by simp [symF, seatOfNothingSym], decide_eq_false (show ¬ 300 < n2 by omega), by rw [if_neg (by simp)]; exact ⟨d2, m2, by simp [symF, seatOfNothingSym]⟩⟩)) hgo)))) seatOfNothingHook_ok (EqOK.nil _) (seatOfNothingKB6_ok a0 a1 d2 n2 m2 a3 a4 w3 w4 hc) hS (tableL_self _) htab (args := seatOfNothingArgs) (fun r hr => by simp [seatOfNothingArgs, ren, hr, symF, seatOfNothingSym]) (seatOfNothingCheck6 s t) w hgl twoRows_none hh
  · exact Calls.of_treeT evMixed evNames hone (orcOr_ok (fctOrc_ok (seatOfNothingF7_ok a0 a1 d2 n2 m2 a3 a4 hc)) (orcOr_ok (arcOrc_ok (seatOfNothingA7_ok a0 a1 d2 n2 m2 a3 a4 w3 w4 hc)) (orcOr_ok (mncOrc_ok (seatOfNothingM7_ok a0 a1 d2 n2 m2 a3 a4 w3 w4 hc)) (orcOr_ok (lenOrc_ok Tryz.prog [(2, false, 300, false)] _ (by intro p hp; simp at hp; subst hp; exact ⟨n2, by simp [symF, seatOfNothingSym], decide_eq_false (show ¬ 300 < n2 by omega), by rw [if_neg (by simp)]; exact ⟨d2, m2, by simp [symF, seatOfNothingSym]⟩⟩)) hgo)))) seatOfNothingHook_ok (EqOK.nil _) (seatOfNothingKB7_ok a0 a1 d2 n2 m2 a3 a4 w3 w4 hc) hS (tableL_self _) htab (args := seatOfNothingArgs) (fun r hr => by simp [seatOfNothingArgs, ren, hr, symF, seatOfNothingSym]) (seatOfNothingCheck7 s t) w hgl twoRows_none hh
  · exact Calls.of_treeT evMixed evNames hone (orcOr_ok (fctOrc_ok (seatOfNothingF8_ok a0 a1 d2 n2 m2 a3 a4 hc)) (orcOr_ok (arcOrc_ok (seatOfNothingA8_ok a0 a1 d2 n2 m2 a3 a4 w3 w4 hc)) (orcOr_ok (mncOrc_ok (seatOfNothingM8_ok a0 a1 d2 n2 m2 a3 a4 w3 w4 hc)) (orcOr_ok (lenOrc_ok Tryz.prog [(2, false, 300, false)] _ (by intro p hp; simp at hp; subst hp; exact ⟨n2, by simp [symF, seatOfNothingSym], decide_eq_false (show ¬ 300 < n2 by omega), by rw [if_neg (by simp)]; exact ⟨d2, m2, by simp [symF, seatOfNothingSym]⟩⟩)) hgo)))) seatOfNothingHook_ok (EqOK.nil _) (seatOfNothingKB8_ok a0 a1 d2 n2 m2 a3 a4 w3 w4 hc) hS (tableL_self _) htab (args := seatOfNothingArgs) (fun r hr => by simp [seatOfNothingArgs, ren, hr, symF, seatOfNothingSym]) (seatOfNothingCheck8 s t) w hgl twoRows_none hh
  · exact Calls.of_treeT evMixed evNames hone (orcOr_ok (fctOrc_ok (seatOfNothingF9_ok a0 a1 d2 n2 m2 a3 a4 hc)) (orcOr_ok (arcOrc_ok (seatOfNothingA9_ok a0 a1 d2 n2 m2 a3 a4 w3 w4 hc)) (orcOr_ok (mncOrc_ok (seatOfNothingM9_ok a0 a1 d2 n2 m2 a3 a4 w3 w4 hc)) (orcOr_ok (lenOrc_ok Tryz.prog [(2, false, 300, false)] _ (by intro p hp; simp at hp; subst hp; exact ⟨n2, by simp [symF, seatOfNothingSym], decide_eq_false (show ¬ 300 < n2 by omega), by rw [if_neg (by simp)]; exact ⟨d2, m2, by simp [symF, seatOfNothingSym]⟩⟩)) hgo)))) seatOfNothingHook_ok (EqOK.nil _) (seatOfNothingKB9_ok a0 a1 d2 n2 m2 a3 a4 w3 w4 hc) hS (tableL_self _) htab (args := seatOfNothingArgs) (fun r hr => by simp [seatOfNothingArgs, ren, hr, symF, seatOfNothingSym]) (seatOfNothingCheck9 s t) w hgl twoRows_none hh
  · exact Calls.of_treeT evMixed evNames hone (orcOr_ok (fctOrc_ok (seatOfNothingF10_ok a0 a1 d2 n2 m2 a3 a4 hc)) (orcOr_ok (arcOrc_ok (seatOfNothingA10_ok a0 a1 d2 n2 m2 a3 a4 w3 w4 hc)) (orcOr_ok (mncOrc_ok (seatOfNothingM10_ok a0 a1 d2 n2 m2 a3 a4 w3 w4 hc)) (orcOr_ok (lenOrc_ok Tryz.prog [(2, false, 300, false)] _ (by intro p hp; simp at hp; subst hp; exact ⟨n2, by simp [symF, seatOfNothingSym], decide_eq_false (show ¬ 300 < n2 by omega), by rw [if_neg (by simp)]; exact ⟨d2, m2, by simp [symF, seatOfNothingSym]⟩⟩)) hgo)))) seatOfNothingHook_ok (EqOK.nil _) (seatOfNothingKB10_ok a0 a1 d2 n2 m2 a3 a4 w3 w4 hc) hS (tableL_self _) htab (args := seatOfNothingArgs) (fun r hr => by simp [seatOfNothingArgs, ren, hr, symF, seatOfNothingSym]) (seatOfNothingCheck10 s t) w hgl twoRows_none hh
  · exact Calls.of_treeT evMixed evNames hone (orcOr_ok (fctOrc_ok (seatOfNothingF11_ok a0 a1 d2 n2 m2 a3 a4 hc)) (orcOr_ok (arcOrc_ok (seatOfNothingA11_ok a0 a1 d2 n2 m2 a3 a4 w3 w4 hc)) (orcOr_ok (mncOrc_ok (seatOfNothingM11_ok a0 a1 d2 n2 m2 a3 a4 w3 w4 hc)) (orcOr_ok (lenOrc_ok Tryz.prog [(2, false, 300, false)] _ (by intro p hp; simp at hp; subst hp; exact ⟨n2, by simp [symF, seatOfNothingSym], decide_eq_false (show ¬ 300 < n2 by omega), by rw [if_neg (by simp)]; exact ⟨d2, m2, by simp [symF, seatOfNothingSym]⟩⟩)) hgo)))) seatOfNothingHook_ok (EqOK.nil _) (seatOfNothingKB11_ok a0 a1 d2 n2 m2 a3 a4 w3 w4 hc) hS (tableL_self _) htab (args := seatOfNothingArgs) (fun r hr => by simp [seatOfNothingArgs, ren, hr, symF, seatOfNothingSym]) (seatOfNothingCheck11 s t) w hgl twoRows_none hh
  · exact Calls.of_treeT evMixed evNames hone (orcOr_ok (fctOrc_ok (seatOfNothingF12_ok a0 a1 d2 n2 m2 a3 a4 hc)) (orcOr_ok (arcOrc_ok (seatOfNothingA12_ok a0 a1 d2 n2 m2 a3 a4 w3 w4 hc)) (orcOr_ok (mncOrc_ok (seatOfNothingM12_ok a0 a1 d2 n2 m2 a3 a4 w3 w4 hc)) (orcOr_ok (lenOrc_ok Tryz.prog [(2, false, 300, false)] _ (by intro p hp; simp at hp; subst hp; exact ⟨n2, by simp [symF, seatOfNothingSym], decide_eq_false (show ¬ 300 < n2 by omega), by rw [if_neg (by simp)]; exact ⟨d2, m2, by simp [symF, seatOfNothingSym]⟩⟩)) hgo)))) seatOfNothingHook_ok (EqOK.nil _) (seatOfNothingKB12_ok a0 a1 d2 n2 m2 a3 a4 w3 w4 hc) hS (tableL_self _) htab (args := seatOfNothingArgs) (fun r hr => by simp [seatOfNothingArgs, ren, hr, symF, seatOfNothingSym]) (seatOfNothingCheck12 s t) w hgl twoRows_none hh
  · exact Calls.of_treeT evMixed evNames hone (orcOr_ok (fctOrc_ok (seatOfNothingF13_ok a0 a1 d2 n2 m2 a3 a4 hc)) (orcOr_ok (arcOrc_ok (seatOfNothingA13_ok a0 a1 d2 n2 m2 a3 a4 w3 w4 hc)) (orcOr_ok (mncOrc_ok (seatOfNothingM13_ok a0 a1 d2 n2 m2 a3 a4 w3 w4 hc)) (orcOr_ok (lenOrc_ok Tryz.prog [(2, false, 300, false)] _ (by intro p hp; simp at hp; subst hp; exact ⟨n2, by simp [symF, seatOfNothingSym], decide_eq_false (show ¬ 300 < n2 by omega), by rw [if_neg (by simp)]; exact ⟨d2, m2, by simp [symF, seatOfNothingSym]⟩⟩)) hgo)))) seatOfNothingHook_ok (EqOK.nil _) (seatOfNothingKB13_ok a0 a1 d2 n2 m2 a3 a4 w3 w4 hc) hS (tableL_self _) htab (args := seatOfNothingArgs) (fun r hr => by simp [seatOfNothingArgs, ren, hr, symF, seatOfNothingSym]) (seatOfNothingCheck13 s t) w hgl twoRows_none hh
  · exact Calls.of_treeT evMixed evNames hone (orcOr_ok (fctOrc_ok (seatOfNothingF14_ok a0 a1 d2 n2 m2 a3 a4 hc)) (orcOr_ok (arcOrc_ok (seatOfNothingA14_ok a0 a1 d2 n2 m2 a3 a4 w3 w4 hc)) (orcOr_ok (mncOrc_ok (seatOfNothingM14_ok a0 a1 d2 n2 m2 a3 a4 w3 w4 hc)) (orcOr_ok (lenOrc_ok Tryz.prog [(2, false, 300, false)] _ (by intro p hp; simp at hp; subst hp; exact ⟨n2, by simp [symF, seatOfNothingSym], decide_eq_false (show ¬ 300 < n2 by omega), by rw [if_neg (by simp)]; exact ⟨d2, m2, by simp [symF, seatOfNothingSym]⟩⟩)) hgo)))) seatOfNothingHook_ok (EqOK.nil _) (seatOfNothingKB14_ok a0 a1 d2 n2 m2 a3 a4 w3 w4 hc) hS (tableL_self _) htab (args := seatOfNothingArgs) (fun r hr => by simp [seatOfNothingArgs, ren, hr, symF, seatOfNothingSym]) (seatOfNothingCheck14 s t) w hgl twoRows_none hh
end Go.Proofs.YtllppcehncckfaaGreatDoor
