/- LoadOfNothing: the walk of the statement, by the evaluator with forks, trees of questions, facts. -/
import Derived.Test.YtljhlnpbomehkaaEwM8
import Derived.Test.YtljhlnpbomehkaaLoadK
import Derived.Test.YtljhlnpbomehkaaSortedAt2
import Derived.ProofKit
namespace Go.Proofs.Ytljhlnpbomehkaa
open Go.RowKit
set_option linter.unusedVariables false
set_option linter.unusedSimpArgs false
set_option maxRecDepth 100000

def loadOfNothingSym (a0 : Int) (a1 : ByteArray) : List (Nat × Value) := [(0, .int .i64 a0), (1, .string a1), (1001, .int .i64 a1.size)]
def loadOfNothingET : ET := []
def loadOfNothingArgs : Array Value := #[.chan (some 0), .chan (some 1)]
def loadOfNothingHook (f : FuncId) : Option (Array Value → LM Value) := (match Nat.beq f 60 with | true => some (fun args => .ofA (aAppend0 [40] args)) | false => (match Nat.beq f 19 with | true => some (fun args => .ofA (aSortedInts 3 [35] args)) | false => (match Nat.beq f 36 with | true => some (fun args => .ofA (aSortedKeys 9 [59] args)) | false => none)))
def loadOfNothingCut (f : FuncId) : Bool := hasN [8, 17, 19, 21, 22, 35, 36, 40, 59, 66] f
theorem loadOfNothingHook_ok : ∀ f m, loadOfNothingHook f = some m → FunOKL Try.prog f m := by
  intro f m h
  unfold loadOfNothingHook at h
  split at h
  · rename_i hb; injection h with h; subst h; rw [Nat.eq_of_beq_eq_true hb]
    exact (aAppend0_sound appendNoneAt60).toL
  · skip
    split at h
    · rename_i hb; injection h with h; subst h; rw [Nat.eq_of_beq_eq_true hb]
      refine (aSortedInts_sound (fun g hg => ?_)).toL
      simp at hg
      subst hg
      · exact sortedAt35
    · skip
      split at h
      · rename_i hb; injection h with h; subst h; rw [Nat.eq_of_beq_eq_true hb]
        refine (aSortedKeys_sound (fun g hg => ?_)).toL
        simp at hg
        subst hg
        · exact sortedAt59
      · skip
        cases h
def loadOfNothingKB0 : KB := [(0, ⟨-9223372036854775808, 9223372036854775807, []⟩), (1001, ⟨0, 9223372036854775807, []⟩)]
def loadOfNothingF0 : Fct := []
def loadOfNothingA0 : Arc := []
def loadOfNothingM0 : Mnc := []
def loadOfNothing0k0y : KB := loadOfNothingKB0.put 1001 ⟨0, 60, []⟩
def loadOfNothing0k0n : KB := loadOfNothingKB0.put 1001 ⟨61, 9223372036854775807, []⟩
theorem loadOfNothing0h1 : DT.leaf.check (okT Try.prog (orcOr (fctOrc loadOfNothingF0) (orcOr (arcOrc loadOfNothingA0) (orcOr (mncOrc loadOfNothingM0) (noOrc)))) loadOfNothingHook loadOfNothingCut [1] loadOfNothingET 100000 (cFnL Try.prog) (knTabW 12) 90 3 loadOfNothingArgs ⟨.lf, 0, 0, [], []⟩) loadOfNothing0k0y = true := check_leaf (by kernel_rfl)
theorem loadOfNothing0h2 : DT.leaf.check (okT Try.prog (orcOr (fctOrc loadOfNothingF0) (orcOr (arcOrc loadOfNothingA0) (orcOr (mncOrc loadOfNothingM0) (noOrc)))) loadOfNothingHook loadOfNothingCut [1] loadOfNothingET 100000 (cFnL Try.prog) (knTabW 12) 90 3 loadOfNothingArgs ⟨.lf, 0, 0, [], []⟩) loadOfNothing0k0n = true := check_leaf (by kernel_rfl)
def loadOfNothing0t0 : DT := .less 1001 (61) .leaf .leaf
theorem loadOfNothing0h0 : loadOfNothing0t0.check (okT Try.prog (orcOr (fctOrc loadOfNothingF0) (orcOr (arcOrc loadOfNothingA0) (orcOr (mncOrc loadOfNothingM0) (noOrc)))) loadOfNothingHook loadOfNothingCut [1] loadOfNothingET 100000 (cFnL Try.prog) (knTabW 12) 90 3 loadOfNothingArgs ⟨.lf, 0, 0, [], []⟩) loadOfNothingKB0 = true := check_less (Ky := loadOfNothing0k0y) (Kn := loadOfNothing0k0n) (i := ⟨0, 9223372036854775807, []⟩) (by kernel_rfl) (by kernel_rfl) (by kernel_rfl) (.inr loadOfNothing0h1) (.inr loadOfNothing0h2)
theorem loadOfNothingCheck0 : loadOfNothing0t0.check (okT Try.prog (orcOr (fctOrc loadOfNothingF0) (orcOr (arcOrc loadOfNothingA0) (orcOr (mncOrc loadOfNothingM0) (noOrc)))) loadOfNothingHook loadOfNothingCut [1] loadOfNothingET 100000 (cFnL Try.prog) (knTabW 12) 90 3 loadOfNothingArgs ⟨.lf, 0, 0, [], []⟩) loadOfNothingKB0 = true := loadOfNothing0h0
theorem loadOfNothingF0_ok (a0 : Int) (a1 : ByteArray) (hc : True) : FctOK Try.prog loadOfNothingF0 (symF (loadOfNothingSym a0 a1)) := by
  intro p hp
  exact absurd hp (by simp [loadOfNothingF0])
theorem loadOfNothingA0_ok (a0 : Int) (a1 : ByteArray) (w0 : (Lit.int .i64 a0).wf = true) (w1 : a1.size ≤ maxLen) (hc : True) : ArcOK Try.prog loadOfNothingA0 (symF (loadOfNothingSym a0 a1)) := by
  intro p hp t x y w
  exact absurd hp (by simp [loadOfNothingA0])
theorem loadOfNothingM0_ok (a0 : Int) (a1 : ByteArray) (w0 : (Lit.int .i64 a0).wf = true) (w1 : a1.size ≤ maxLen) (hc : True) : MncOK loadOfNothingM0 (symF (loadOfNothingSym a0 a1)) := by
  intro p hp
  exact absurd hp (by simp [loadOfNothingM0])
theorem loadOfNothingKB0_ok (a0 : Int) (a1 : ByteArray) (w0 : (Lit.int .i64 a0).wf = true) (w1 : a1.size ≤ maxLen) (hc : True) : KOK loadOfNothingKB0 (symF (loadOfNothingSym a0 a1)) := by
  have r0 : IntKind.i64.min ≤ a0 ∧ a0 ≤ IntKind.i64.max := by simpa [Lit.wf] using w0
  simp only [show IntKind.i64.min = -9223372036854775808 from rfl, show IntKind.i64.max = 9223372036854775807 from rfl] at r0
  unfold maxLen at w1
  intro k j h
  unfold loadOfNothingKB0 at h
  unfold KB.find at h
  split at h
  · rename_i he
    injection h with h; subst h; dsimp only at he; subst he
    exact ⟨a0, by simp [symF, loadOfNothingSym], by show (-9223372036854775808 : Int) ≤ a0; omega, by show a0 ≤ (9223372036854775807 : Int); omega, by simp⟩
  unfold KB.find at h
  split at h
  · rename_i he
    injection h with h; subst h; dsimp only at he; subst he
    exact ⟨a1.size, by simp [symF, loadOfNothingSym], by show (0 : Int) ≤ (a1.size : Int); omega, by show (a1.size : Int) ≤ (9223372036854775807 : Int); omega, by simp⟩
  cases h
set_option maxHeartbeats 400000 in
theorem walkLoadOfNothing (a0 : Int) (a1 : ByteArray) (w0 : (Lit.int .i64 a0).wf = true) (w1 : a1.size ≤ maxLen) (w : World) :
    Calls Try.prog 3 #[.int .i64 a0, .string a1] w fun e' w' => e' = .returned (.bool true) ∧ Below w.heap.size w w' := by
  have hone : ∀ q, (symF (loadOfNothingSym a0 a1) q).oneCell' = true := symF_one (by intro p hp; simp [loadOfNothingSym] at hp; rcases hp with rfl | rfl | rfl <;> rfl)
  have hS : SOK [1] (symF (loadOfNothingSym a0 a1)) := by
    intro k hk
    simp only [List.mem_cons, List.not_mem_nil, or_false] at hk
    rcases hk with rfl
    · exact ⟨a1, by simp [symF, loadOfNothingSym], by simp [symF, loadOfNothingSym]⟩
  have hgo : OrcOK Try.prog (· = symF (loadOfNothingSym a0 a1)) noOrc := noOrc_ok _ _
  have hgl : ∀ g, symF (loadOfNothingSym a0 a1) (gsym g) ≠ .nilFunc := fun g => symF_glob rfl g
  have htab : TabOK Try.prog (· = symF (loadOfNothingSym a0 a1)) (knTabW 12) := (knTabW_ok loadKKnown)
  have hcase : True := by first | trivial | omega
  have hc := hcase
  · exact Calls.of_treeN evMixed evNames hone (orcOr_ok (fctOrc_ok (loadOfNothingF0_ok a0 a1 hc)) (orcOr_ok (arcOrc_ok (loadOfNothingA0_ok a0 a1 w0 w1 hc)) (orcOr_ok (mncOrc_ok (loadOfNothingM0_ok a0 a1 w0 w1 hc)) hgo))) loadOfNothingHook_ok (EqOK.nil _) (loadOfNothingKB0_ok a0 a1 w0 w1 hc) hS (tableL_self _) htab (args := loadOfNothingArgs) (fun r hr => by simp [loadOfNothingArgs, ren, hr, symF, loadOfNothingSym]) loadOfNothingCheck0 w hgl
end Go.Proofs.Ytljhlnpbomehkaa
