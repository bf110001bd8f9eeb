/- What span.Within returns. -/
import Derived.Test.YtbeebcocedmjkaaSpanA
namespace Go.Proofs.Ytbeebcocedmjkaa
open Go.RowKit
set_option linter.unusedVariables false
set_option linter.unusedSimpArgs false

def joinB (f t g u : ByteArray) : Bool := isB f t && isB g u && !t.toList.isEmpty && t.toList == g.toList
def withinB (f t g u : ByteArray) : Bool := isB f t && isB g u && !(Op.bytesLess f.toList g.toList) && (u.toList.isEmpty || (!t.toList.isEmpty && (Op.bytesLess t.toList u.toList || t.toList == u.toList)))

theorem spanWithin (f t g u : ByteArray) (w : World) :
    Calls Try.prog 41 #[.agg #[.string f, .string t], .agg #[.string g, .string u]] w fun e w' => e = .returned (.bool (withinB f t g u)) ∧ Below w.heap.size w w' := by
  go_enter Try.func41, Try.ntmps41
  go_wp2_with fail
  refine (spanIs _ _ _).mono ?_
  rintro e w1 ⟨rfl, hb⟩
  obtain ⟨hc, hf⟩ := bcell hb
  cases h1 : isB f t
  · go_wp2_with fail
    all_goals go_ret
    all_goals clear hc hf
    all_goals refine ⟨ret_bool ?_, ?_⟩
    all_goals first | ((repeat (first | (with_reducible exact Below.refl _ _) | (with_reducible assumption) | ((with_reducible refine b_set ?_ ?_); · (first | omega | (simp; done) | (simp; omega))) | ((with_reducible refine b_alloc ?_ ?_); · (first | omega | (simp; done) | (simp; omega))) | (with_reducible refine Below.drew ?_) | ((with_reducible refine b_call (by assumption) ?_ ?_); · (first | omega | (simp; done) | (simp; omega))))); done) | (simp [withinB, *]; done)
  · go_wp2_with fail
    refine (spanIs _ _ _).mono ?_
    rintro e w2 ⟨rfl, hb2⟩
    replace hb2 := hb.trans (hb2.mono hb.size); clear hc hf; obtain ⟨hc, hf⟩ := bcell hb2
    cases h2 : isB g u
    all_goals go_wp2_with fail
    all_goals go_ret
    all_goals clear hc hf hb
    all_goals refine ⟨ret_bool ?_, ?_⟩
    all_goals first | ((repeat (first | (with_reducible exact Below.refl _ _) | (with_reducible assumption) | ((with_reducible refine b_set ?_ ?_); · (first | omega | (simp; done) | (simp; omega))) | ((with_reducible refine b_alloc ?_ ?_); · (first | omega | (simp; done) | (simp; omega))) | (with_reducible refine Below.drew ?_) | ((with_reducible refine b_call (by assumption) ?_ ?_); · (first | omega | (simp; done) | (simp; omega))))); done) | (clear hb2; simp [withinB, *]; done)

end Go.Proofs.Ytbeebcocedmjkaa
