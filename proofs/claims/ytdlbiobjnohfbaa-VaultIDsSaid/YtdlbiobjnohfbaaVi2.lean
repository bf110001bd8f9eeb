/- Words for all walks of this seat: cells and marks behind new blocks and behind a call, in a form that linear arithmetic decides. -/
import Derived.Test.YtdlbiobjnohfbaaProg
import Derived.WalkKit
import Derived.WalkSpells
import Derived.WalkLawsBesides
import Derived.Deep.QuietTactic
import Derived.BigQuiet
import Derived.RegionTactic
import Derived.BigRegion
import Derived.Outline
import Derived.LoopTactic
import Derived.Lib.Hide
import Derived.Deep.RegionHeld3
namespace Go.Proofs.Ytdlbiobjnohfbaa
open Go.RowKit
set_option linter.unusedVariables false
set_option linter.unusedSimpArgs false
theorem ret_bool {a b : Bool} (h : a = b) : Ending.returned (.bool a) = .returned (.bool b) := by rw [h]
/-- a cell of a world with one new block: 'if' on numbers, which the walk decides -/
@[go_sem] theorem cell_alloc_ite (w : World) (c : Array Value) (t : TypeId) (n i : Nat) : (w.alloc (.cells c t)).cell? ⟨n, i, none⟩ = if n < w.heap.size then w.cell? ⟨n, i, none⟩ else if n = w.heap.size then c[i]? else none := by
  by_cases h : n < w.heap.size
  · rw [if_pos h]; exact World.cell?_alloc_past _ n i h
  · rw [if_neg h]
    by_cases h2 : n = w.heap.size
    · rw [if_pos h2]; exact World.cell?_alloc_at c t n i h2
    · rw [if_neg h2]
      simp only [World.cell?, World.alloc]
      rw [Array.getElem?_eq_none (by simp; omega)]
@[go_sem] theorem frozen_alloc_ite (w : World) (c : Array Value) (t : TypeId) (n i : Nat) : (w.alloc (.cells c t)).frozen? ⟨n, i, none⟩ = if n < w.heap.size then w.frozen? ⟨n, i, none⟩ else false := by
  by_cases h : n < w.heap.size
  · rw [if_pos h]; exact World.frozen?_alloc_past _ n i h
  · rw [if_neg h]
    by_cases h2 : n = w.heap.size
    · exact World.frozen?_alloc_at c t n i h2
    · simp only [World.frozen?, World.alloc]
      rw [Array.getElem?_eq_none (by simp; omega)]
def cellElse (w : World) (b o : Nat) : Option Value := w.cell? ⟨b, o, none⟩
def frozenElse (w : World) (b o : Nat) : Bool := w.frozen? ⟨b, o, none⟩
theorem bcell {B : Nat} {W w1 : World} (hb : Below B W w1) : (∀ b o, w1.cell? ⟨b, o, none⟩ = if b < B then W.cell? ⟨b, o, none⟩ else cellElse w1 b o) ∧ (∀ b o, w1.frozen? ⟨b, o, none⟩ = if b < B then W.frozen? ⟨b, o, none⟩ else frozenElse w1 b o) := by
  refine ⟨fun b o => ?_, fun b o => ?_⟩
  · by_cases h : b < B
    · rw [if_pos h]; exact hb.cell (p := ⟨b, o, none⟩) h
    · rw [if_neg h]; rfl
  · by_cases h : b < B
    · rw [if_pos h]; exact hb.frozen (p := ⟨b, o, none⟩) h
    · rw [if_neg h]; rfl
/-- a cell that is known stays known behind a call -/
theorem bkeep {B : Nat} {W w1 : World} (hb : Below B W w1) {b o : Nat} {v : Value} (hv : W.cell? ⟨b, o, none⟩ = some v) (h : b < B) : w1.cell? ⟨b, o, none⟩ = some v := (hb.cell (p := ⟨b, o, none⟩) h).trans hv
theorem bfree {B : Nat} {W w1 : World} (hb : Below B W w1) {b o : Nat} {v : Bool} (hv : W.frozen? ⟨b, o, none⟩ = v) (h : b < B) : w1.frozen? ⟨b, o, none⟩ = v := (hb.frozen (p := ⟨b, o, none⟩) h).trans hv
def has (w : World) (b o : Nat) : Prop := ∃ v, w.cell? ⟨b, o, none⟩ = some v
theorem h_of {w : World} {b o : Nat} {v : Value} (h : w.cell? ⟨b, o, none⟩ = some v) : has w b o := ⟨v, h⟩
theorem h_set {w : World} {b o : Nat} {a : Addr} {v : Value} (h : has w b o) : has (w.setCell a v) b o := by
  obtain ⟨x, hx⟩ := h
  by_cases e : a = ⟨b, o, none⟩
  · subst e; exact ⟨v, World.cell?_setCell_same _ _ _ hx⟩
  · exact ⟨x, by rw [World.cell?_setCell_other _ _ _ _ e]; exact hx⟩
theorem h_alloc {w : World} {ob : Obj} {b o : Nat} (hlt : b < w.heap.size) (h : has w b o) : has (w.alloc ob) b o := by
  obtain ⟨x, hx⟩ := h
  exact ⟨x, by rw [World.cell?_alloc_lt w ob ⟨b, o, none⟩ hlt]; exact hx⟩
theorem h_new {w : World} {c : Array Value} {t : TypeId} {b o : Nat} (hb : b = w.heap.size) (h : o < c.size) : has (w.alloc (.cells c t)) b o :=
  ⟨c[o], by rw [World.cell?_alloc_at c t b o hb]; exact Array.getElem?_eq_getElem h⟩
theorem h_drew {w : World} {b o : Nat} (h : has w b o) : has w.drew b o := h
theorem h_keep {B : Nat} {W w1 : World} (hb : Below B W w1) {b o : Nat} (h : b < B) (hv : has W b o) : has w1 b o := hv.imp fun _ hv => bkeep hb hv h
theorem c_set_same {w : World} {b o : Nat} {v : Value} (h : has w b o) : (w.setCell ⟨b, o, none⟩ v).cell? ⟨b, o, none⟩ = some v := by
  obtain ⟨x, hx⟩ := h; exact World.cell?_setCell_same _ _ _ hx
theorem c_set_other {w : World} {b o b' o' : Nat} {v x : Value} (hne : b' ≠ b ∨ o' ≠ o) (h : w.cell? ⟨b, o, none⟩ = some x) : (w.setCell ⟨b', o', none⟩ v).cell? ⟨b, o, none⟩ = some x := by
  rw [World.cell?_setCell_other _ _ _ _ (by intro e; injection e; omega)]; exact h
theorem c_alloc {w : World} {ob : Obj} {b o : Nat} {x : Value} (hlt : b < w.heap.size) (h : w.cell? ⟨b, o, none⟩ = some x) : (w.alloc ob).cell? ⟨b, o, none⟩ = some x := by
  rw [World.cell?_alloc_lt w ob ⟨b, o, none⟩ hlt]; exact h
theorem c_new {w : World} {c : Array Value} {t : TypeId} {b o : Nat} {x : Value} (hb : b = w.heap.size) (h : c[o]? = some x) : (w.alloc (.cells c t)).cell? ⟨b, o, none⟩ = some x := by
  rw [World.cell?_alloc_at c t b o hb]; exact h
theorem c_drew {w : World} {a : Addr} {x : Value} (h : w.cell? a = some x) : w.drew.cell? a = some x := h
theorem f_set {w : World} {a : Addr} {b o : Nat} {v : Value} {x : Bool} (h : w.frozen? ⟨b, o, none⟩ = x) : (w.setCell a v).frozen? ⟨b, o, none⟩ = x := by rw [World.frozen?_setCell]; exact h
theorem f_alloc {w : World} {ob : Obj} {b o : Nat} {x : Bool} (hlt : b < w.heap.size) (h : w.frozen? ⟨b, o, none⟩ = x) : (w.alloc ob).frozen? ⟨b, o, none⟩ = x := by
  rw [World.frozen?_alloc_past ob b o hlt]; exact h
theorem f_new {w : World} {c : Array Value} {t : TypeId} {b o : Nat} (hb : b = w.heap.size) : (w.alloc (.cells c t)).frozen? ⟨b, o, none⟩ = false := World.frozen?_alloc_at c t b o hb
theorem f_drew {w : World} {a : Addr} {x : Bool} (h : w.frozen? a = x) : w.drew.frozen? a = x := h
theorem c_keep {B : Nat} {W w1 : World} (hb : Below B W w1) {b o : Nat} {v : Value} (h : b < B) (hv : W.cell? ⟨b, o, none⟩ = some v) : w1.cell? ⟨b, o, none⟩ = some v := bkeep hb hv h
theorem f_keep {B : Nat} {W w1 : World} (hb : Below B W w1) {b o : Nat} {v : Bool} (h : b < B) (hv : W.frozen? ⟨b, o, none⟩ = v) : w1.frozen? ⟨b, o, none⟩ = v := bfree hb hv h
theorem b_set {B : Nat} {a w : World} {p : Addr} {u : Value} (hp : B ≤ p.block) (h : Below B a w) : Below B a (w.setCell p u) := h.setCell hp u
theorem b_alloc {B : Nat} {a w : World} {o : Obj} (hB : B ≤ w.heap.size) (h : Below B a w) : Below B a (w.alloc o) := h.alloc hB o
theorem b_call {B B' : Nat} {a b c : World} (k : Below B' b c) (hB : B ≤ B') (h : Below B a b) : Below B a c := h.trans (k.mono hB)
theorem b_drewN {B n : Nat} {a w : World} (h : Below B a w) : Below B a (w.drewN n) := ⟨h.os, h.tape, h.output, h.size, h.block⟩
theorem c_drewN {w : World} {a : Addr} {n : Nat} {x : Value} (h : w.cell? a = some x) : (w.drewN n).cell? a = some x := h
theorem f_drewN {w : World} {a : Addr} {n : Nat} {x : Bool} (h : w.frozen? a = x) : (w.drewN n).frozen? a = x := h
theorem h_drewN {w : World} {b o n : Nat} (h : has w b o) : has (w.drewN n) b o := h
end Go.Proofs.Ytdlbiobjnohfbaa
