/- Words for all walks of this seat: cells and marks behind new blocks and behind a call, in a form that linear arithmetic decides. -/
import Derived.Test.YtbeebcocedmjkabProg
import Derived.WalkKit
import Derived.WalkSpells
import Derived.WalkLawsBesides
import Derived.Deep.QuietTactic
import Derived.BigQuiet
import Derived.RegionTactic
import Derived.BigRegion
import Derived.Outline
import Derived.LoopTactic
import Derived.Lib.Hide
import Derived.Deep.RegionHeld3
namespace Go.Proofs.Ytbeebcocedmjkab
open Go.RowKit
set_option linter.unusedVariables false
set_option linter.unusedSimpArgs false

theorem ret_bool {a b : Bool} (h : a = b) : Ending.returned (.bool a) = .returned (.bool b) := by rw [h]
theorem ret_int {k : IntKind} {a b : Int} (h : a = b) : Ending.returned (.int k a) = .returned (.int k b) := by rw [h]

/-- a cell of a world with one new block: 'if' on numbers, which the walk decides -/
@[go_sem] theorem cell_alloc_ite (w : World) (c : Array Value) (t : TypeId) (n i : Nat) : (w.alloc (.cells c t)).cell? ⟨n, i, none⟩ = if n < w.heap.size then w.cell? ⟨n, i, none⟩ else if n = w.heap.size then c[i]? else none := by
  by_cases h : n < w.heap.size
  · rw [if_pos h]; exact World.cell?_alloc_past _ n i h
  · rw [if_neg h]
    by_cases h2 : n = w.heap.size
    · rw [if_pos h2]; exact World.cell?_alloc_at c t n i h2
    · rw [if_neg h2]
      simp only [World.cell?, World.alloc]
      rw [Array.getElem?_eq_none (by simp; omega)]
@[go_sem] theorem frozen_alloc_ite (w : World) (c : Array Value) (t : TypeId) (n i : Nat) : (w.alloc (.cells c t)).frozen? ⟨n, i, none⟩ = if n < w.heap.size then w.frozen? ⟨n, i, none⟩ else false := by
  by_cases h : n < w.heap.size
  · rw [if_pos h]; exact World.frozen?_alloc_past _ n i h
  · rw [if_neg h]
    by_cases h2 : n = w.heap.size
    · exact World.frozen?_alloc_at c t n i h2
    · simp only [World.frozen?, World.alloc]
      rw [Array.getElem?_eq_none (by simp; omega)]

def cellElse (w : World) (b o : Nat) : Option Value := w.cell? ⟨b, o, none⟩
def frozenElse (w : World) (b o : Nat) : Bool := w.frozen? ⟨b, o, none⟩
theorem bcell {B : Nat} {W w1 : World} (hb : Below B W w1) : (∀ b o, w1.cell? ⟨b, o, none⟩ = if b < B then W.cell? ⟨b, o, none⟩ else cellElse w1 b o) ∧ (∀ b o, w1.frozen? ⟨b, o, none⟩ = if b < B then W.frozen? ⟨b, o, none⟩ else frozenElse w1 b o) := by
  refine ⟨fun b o => ?_, fun b o => ?_⟩
  · by_cases h : b < B
    · rw [if_pos h]; exact hb.cell (p := ⟨b, o, none⟩) h
    · rw [if_neg h]; rfl
  · by_cases h : b < B
    · rw [if_pos h]; exact hb.frozen (p := ⟨b, o, none⟩) h
    · rw [if_neg h]; rfl
/-- a cell that is known stays known behind a call -/
theorem bkeep {B : Nat} {W w1 : World} (hb : Below B W w1) {b o : Nat} {v : Value} (hv : W.cell? ⟨b, o, none⟩ = some v) (h : b < B) : w1.cell? ⟨b, o, none⟩ = some v := (hb.cell (p := ⟨b, o, none⟩) h).trans hv
theorem bfree {B : Nat} {W w1 : World} (hb : Below B W w1) {b o : Nat} {v : Bool} (hv : W.frozen? ⟨b, o, none⟩ = v) (h : b < B) : w1.frozen? ⟨b, o, none⟩ = v := (hb.frozen (p := ⟨b, o, none⟩) h).trans hv

end Go.Proofs.Ytbeebcocedmjkab
