/- A block that is known whole; a Reader beside it. -/
import Derived.Test.YtblknjclkecglaaOctetS
import Derived.Laws.Rows
namespace Go.Proofs.Ytblknjclkecglaa
open Go.RowKit
set_option linter.unusedVariables false
set_option linter.unusedSimpArgs false

/-- block g is just these cells -/
def Whl (w : World) (g : Nat) (t : TypeId) (cs : Array Value) : Prop := w.heap[g]? = some (.cells cs t (0, 0))
theorem Whl.low {w : World} {g : Nat} {t : TypeId} {cs : Array Value} (h : Whl w g t cs) : g < w.heap.size := (Array.getElem?_eq_some_iff.1 h).1
theorem Whl.cell {w : World} {g : Nat} {t : TypeId} {cs : Array Value} (h : Whl w g t cs) (i : Nat) : w.cell? ⟨g, i, none⟩ = cs[i]? := cell_of_row w g i cs t (0, 0) h
theorem Whl.free {w : World} {g : Nat} {t : TypeId} {cs : Array Value} (h : Whl w g t cs) (i : Nat) : w.frozen? ⟨g, i, none⟩ = false := by
  unfold Whl at h
  simp [World.frozen?, h]
theorem Whl.below {w w' : World} {g B : Nat} {t : TypeId} {cs : Array Value} (h : Whl w g t cs) (hb : Below B w w') (hB : g < B) : Whl w' g t cs := (hb.block g hB).trans h
theorem Whl.set {w : World} {g : Nat} {t : TypeId} {cs : Array Value} (h : Whl w g t cs) (i : Nat) (v : Value) : Whl (w.setCell ⟨g, i, none⟩ v) g t (cs.setIfInBounds i v) := by
  unfold Whl at *
  simp [World.setCell, Array.getElem?_modify, h]
theorem Whl.far {w : World} {g : Nat} {t : TypeId} {cs : Array Value} (h : Whl w g t cs) {a : Addr} {v : Value} (ha : g ≠ a.block) : Whl (w.setCell a v) g t cs := (Below.heap_setCell w a v g ha).trans h
theorem Whl.new {w : World} {t : TypeId} {cs : Array Value} {n : Nat} (hn : n = w.heap.size) : Whl (w.alloc (.cells cs t)) n t cs := by subst hn; exact heap_alloc_new w _
theorem Whl.alloc {w : World} {g : Nat} {t : TypeId} {cs : Array Value} (h : Whl w g t cs) (o : Obj) : Whl (w.alloc o) g t cs := (Below.heap_alloc w o g h.low).trans h
theorem Whl.drew {w : World} {g : Nat} {t : TypeId} {cs : Array Value} (h : Whl w g t cs) : Whl w.drew g t cs := h

/-- none of the cells is a byte -/
def noU8 (cs : Array Value) : Prop := ∀ (i : Nat) (x : Int), cs[i]? ≠ some (.int .u8 x)
theorem flatU_is {xs : List Nat} {j : Nat} {u : Value} (h : (flatU xs)[j]? = some u) : ∃ x : Int, u = .int .u8 x := by
  simp only [flatU, List.getElem?_map, Option.map_eq_some_iff] at h
  obtain ⟨x, _, rfl⟩ := h
  exact ⟨_, rfl⟩
theorem RS.setBlk {w : World} {b g i : Nat} {t : TypeId} {cs : Array Value} {st : Option (List Nat)} (h : RS w b st) (hg : Whl w g t cs) (hn : noU8 cs) (hne : g ≠ b) (v : Value) : RS (w.setCell ⟨g, i, none⟩ v) b st := by
  obtain ⟨A, c, h0, h1, h2, h3⟩ := h.rd.row
  refine ⟨⟨⟨A, c, c_set_other (Or.inl hne) h0, h1, h2, h3.1, h3.2.1, fun j u hu => ?_⟩, c_set_other (Or.inl hne) h.rd.flag, fun j => f_set (h.rd.free j), by have := h.low; simpa [World.setCell] using this⟩, h.len, h.byt⟩
  obtain ⟨q, o, e, hq, hc⟩ := h3.2.2 j u hu
  refine ⟨q, o, e, hq, c_set_other (Or.inl ?_) hc⟩
  rintro rfl
  obtain ⟨x, rfl⟩ := flatU_is hu
  rw [hg.cell] at hc
  exact hn _ _ hc
theorem RS.alloc {w : World} {b : Nat} {st : Option (List Nat)} (h : RS w b st) (o : Obj) : RS (w.alloc o) b st := h.below (B := w.heap.size) ((Below.refl _ _).alloc (Nat.le_refl _) _) h.low

end Go.Proofs.Ytblknjclkecglaa
