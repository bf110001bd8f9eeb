/- The document's directory: what a change does; done: a move. The document's directory: done: a split. -/
import Derived.Test.YtepjehcmiofehaaPq4
namespace Go.Proofs.Ytepjehcmiofehaa
open Go.RowKit
set_option linter.unusedVariables false
set_option linter.unusedSimpArgs false
theorem RdH.len {w : World} {B d : Nat} {hv zv : Value} {hosts : List Int} {m : Mp} (h : RdH w B d hv zv hosts m) {A : Option Addr} {n c : Nat} (e : zv = .slice A n c) : n = m.zs.length := by
  obtain ⟨A2, c2, e2, _, _, _⟩ := own_slice h.row
  rw [e] at e2
  injection e2 with _ e3 _
/-- what a change does, of the document's -/
def RdQ (B d : Nat) (hv zv : Value) (hosts : List Int) (m : Mp) (c : Ch) (i : Nat) (h : i < m.zs.length) (w : World) (e : Ending) (w' : World) : Prop :=
  (∃ (m1 : Mp) (zv' : Value), Deed hosts m c i h m1 ∧ e = .returned (.bool true) ∧ RdH w' B d hv zv' hosts m1 ∧ Touch (Fz d zv) w w' ∧ (∀ k, zv'.ownBlock = some k → zv.ownBlock = some k ∨ w.heap.size ≤ k)) ∨
  ((∀ m1, ¬ Deed hosts m c i h m1) ∧ e = .returned (.bool false) ∧ Below w.heap.size w w')
end Go.Proofs.Ytepjehcmiofehaa
namespace Go.Proofs.Ytepjehcmiofehaa
open Go.RowKit
set_option linter.unusedVariables false
set_option linter.unusedSimpArgs false
theorem RdH.stored {w : World} {B d : Nat} {hv zv : Value} {hosts : List Int} {m : Mp} (h : RdH w B d hv zv hosts m) {b0 : Nat} {zv' : Value} {l : List Zn} (hr : w.ownsRow b0 37 9 zv' l.length (flatZ l)) (hb : B ≤ b0) (hd : d < b0) (hh : ∀ g, hv.ownBlock = some g → g < b0) :
    RdH (w.setCell ⟨d, 2, none⟩ zv') B d hv zv' hosts ⟨m.ver, m.nxt, l⟩ := by
  have hge : ∀ g, zv'.ownBlock = some g → b0 ≤ g := fun g hg => (hr.lt g hg).1
  refine ⟨?_, own_set_ne h.hrow h.ha, own_set_ne (own_mono hr hb) (fun g hg => by have := hge g hg; show g ≠ d; omega), h.ha, fun g hg => by have := hge g hg; omega, fun g hg e => by have := hge g e; have := hh g hg; omega, h.low⟩
  have := h.blk.set 2 zv'
  simpa using this
theorem Whl.tou' {x n : Nat} {w w' : World} {t : TypeId} {cs : Array Value} (h : Whl w x t cs) (ht : Touch (fun k => k = n) w w') (hne : x ≠ n) : Whl w' x t cs := (ht.block x h.low hne).trans h
end Go.Proofs.Ytepjehcmiofehaa
