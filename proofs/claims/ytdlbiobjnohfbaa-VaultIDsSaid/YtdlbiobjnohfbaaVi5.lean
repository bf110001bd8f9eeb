/- A block that is known whole (XBlk's first half: never beside XBlk). -/
import Derived.Test.YtdlbiobjnohfbaaProg
import Derived.WalkKit
import Derived.WalkSpells
import Derived.WalkLawsBesides
import Derived.Deep.QuietTactic
import Derived.BigQuiet
import Derived.RegionTactic
import Derived.BigRegion
import Derived.Outline
import Derived.LoopTactic
import Derived.Lib.Hide
import Derived.Deep.RegionHeld3
import Derived.Laws.AppendOwnNone
import Derived.Deep.AppendLies
import Derived.Maps.AppendAt
import Derived.Laws.Rows
import Derived.Test.YtdlbiobjnohfbaaVi2
import Derived.Test.YtdlbiobjnohfbaaVi3
import Derived.Test.YtdlbiobjnohfbaaVi4
namespace Go.Proofs.Ytdlbiobjnohfbaa
open Go.RowKit
set_option linter.unusedVariables false
set_option linter.unusedSimpArgs false
/-- block g is just these cells -/
def Whl (w : World) (g : Nat) (t : TypeId) (cs : Array Value) : Prop := w.heap[g]? = some (.cells cs t (0, 0))
theorem Whl.low {w : World} {g : Nat} {t : TypeId} {cs : Array Value} (h : Whl w g t cs) : g < w.heap.size := (Array.getElem?_eq_some_iff.1 h).1
theorem Whl.cell {w : World} {g : Nat} {t : TypeId} {cs : Array Value} (h : Whl w g t cs) (i : Nat) : w.cell? ⟨g, i, none⟩ = cs[i]? := cell_of_row w g i cs t (0, 0) h
theorem Whl.free {w : World} {g : Nat} {t : TypeId} {cs : Array Value} (h : Whl w g t cs) (i : Nat) : w.frozen? ⟨g, i, none⟩ = false := by
  unfold Whl at h
  simp [World.frozen?, h]
theorem Whl.below {w w' : World} {g B : Nat} {t : TypeId} {cs : Array Value} (h : Whl w g t cs) (hb : Below B w w') (hB : g < B) : Whl w' g t cs := (hb.block g hB).trans h
theorem Whl.set {w : World} {g : Nat} {t : TypeId} {cs : Array Value} (h : Whl w g t cs) (i : Nat) (v : Value) : Whl (w.setCell ⟨g, i, none⟩ v) g t (cs.setIfInBounds i v) := by
  unfold Whl at *
  simp [World.setCell, Array.getElem?_modify, h]
theorem Whl.far {w : World} {g : Nat} {t : TypeId} {cs : Array Value} (h : Whl w g t cs) {a : Addr} {v : Value} (ha : g ≠ a.block) : Whl (w.setCell a v) g t cs := (Below.heap_setCell w a v g ha).trans h
theorem Whl.new {w : World} {t : TypeId} {cs : Array Value} {n : Nat} (hn : n = w.heap.size) : Whl (w.alloc (.cells cs t)) n t cs := by subst hn; exact heap_alloc_new w _
theorem Whl.alloc {w : World} {g : Nat} {t : TypeId} {cs : Array Value} (h : Whl w g t cs) (o : Obj) : Whl (w.alloc o) g t cs := (Below.heap_alloc w o g h.low).trans h
theorem Whl.drew {w : World} {g : Nat} {t : TypeId} {cs : Array Value} (h : Whl w g t cs) : Whl w.drew g t cs := h
end Go.Proofs.Ytdlbiobjnohfbaa
