/- book: what a call leaves, in one word; known. -/
import Derived.ProofKit
import Derived.Test.YtdlbiobjnohfbaaProg
import Derived.WalkKit
import Derived.WalkSpells
import Derived.WalkLawsBesides
import Derived.Deep.QuietTactic
import Derived.BigQuiet
import Derived.RegionTactic
import Derived.BigRegion
import Derived.Outline
import Derived.LoopTactic
import Derived.Lib.Hide
import Derived.Deep.RegionHeld3
import Derived.Laws.AppendOwnNone
import Derived.Deep.AppendLies
import Derived.Maps.AppendAt
import Derived.Laws.Rows
import Derived.Laws.OwnMore
import Derived.Deep.RegionLaw
import Derived.Deep.Onto
import Derived.Test.YtdlbiobjnohfbaaLay
import Derived.Shelf.SlSortCmp.NoneTotal
import Derived.Test.YtdlbiobjnohfbaaVi0
import Derived.Test.YtdlbiobjnohfbaaVi1
import Derived.Test.YtdlbiobjnohfbaaVi2
import Derived.Test.YtdlbiobjnohfbaaVi3
import Derived.Test.YtdlbiobjnohfbaaVi4
import Derived.Test.YtdlbiobjnohfbaaVi5
import Derived.Test.YtdlbiobjnohfbaaVi6
import Derived.Test.YtdlbiobjnohfbaaVi7
import Derived.Test.YtdlbiobjnohfbaaVi8
import Derived.Test.YtdlbiobjnohfbaaVi9
import Derived.Test.YtdlbiobjnohfbaaVi10
import Derived.Test.YtdlbiobjnohfbaaVi11
import Derived.Test.YtdlbiobjnohfbaaVi12
import Derived.Test.YtdlbiobjnohfbaaVi13
import Derived.Test.YtdlbiobjnohfbaaVi14
import Derived.Test.YtdlbiobjnohfbaaVi15
import Derived.Test.YtdlbiobjnohfbaaVi29
import Derived.Test.YtdlbiobjnohfbaaVi30
import Derived.Test.YtdlbiobjnohfbaaVi31
import Derived.Test.YtdlbiobjnohfbaaVi32
import Derived.Test.YtdlbiobjnohfbaaVi33
import Derived.Test.YtdlbiobjnohfbaaVi34
import Derived.Test.YtdlbiobjnohfbaaVi35
namespace Go.Proofs.Ytdlbiobjnohfbaa
open Go.RowKit
set_option linter.unusedVariables false
set_option linter.unusedSimpArgs false
/-- block b is the book of these orders -/
def BookAt (Y : Lay) (w : World) (b : Nat) (v : Nat → Value) (L : List Od) (last : Int) : Prop := ∃ S, BkH Y w b v S last ∧ RelS S L ∧ Bk L last ∧ L.length ≤ 32
theorem BookAt.keep {Y : Lay} {D : Nat → Prop} {w w' : World} {b : Nat} {v : Nat → Value} {L : List Od} {last : Int} (h : BookAt Y w b v L last) (ht : Touch D w w') (hD : ∀ x, Ft b v x → ¬ D x) : BookAt Y w' b v L last := by
  obtain ⟨S, h1, h2⟩ := h
  exact ⟨S, h1.keep ht hD, h2⟩
theorem BookAt.below {Y : Lay} {w w' : World} {b : Nat} {v : Nat → Value} {L : List Od} {last : Int} (h : BookAt Y w b v L last) (hb : Below w.heap.size w w') : BookAt Y w' b v L last := by
  obtain ⟨S, h1, h2⟩ := h
  exact ⟨S, h1.below hb, h2⟩
theorem BookAt.drew {Y : Lay} {w : World} {b : Nat} {v : Nat → Value} {L : List Od} {last : Int} (h : BookAt Y w b v L last) : BookAt Y w.drew b v L last := h.keep (D := fun _ => False) (Touch.refl _ _).drew' (fun _ _ h => h)
theorem BookAt.lows {Y : Lay} {w : World} {b : Nat} {v : Nat → Value} {L : List Od} {last : Int} (h : BookAt Y w b v L last) : ∀ x, Ft b v x → x < w.heap.size := by
  obtain ⟨S, h1, h2⟩ := h
  exact h1.lows
theorem BookAt.bk {Y : Lay} {w : World} {b : Nat} {v : Nat → Value} {L : List Od} {last : Int} (h : BookAt Y w b v L last) : Bk L last := by
  obtain ⟨S, _, _, h2, _⟩ := h
  exact h2
theorem BookAt.len {Y : Lay} {w : World} {b : Nat} {v : Nat → Value} {L : List Od} {last : Int} (h : BookAt Y w b v L last) : L.length ≤ 32 := by
  obtain ⟨S, _, _, _, h2⟩ := h
  exact h2
/-- what Place answers, and the book behind it -/
inductive Placed (L : List Od) (last : Int) (o : Od) : List Td → Int → Int → List Od → Int → Prop
  | bad (h : ¬ (OkO o ∧ last < o.id)) : Placed L last o [] 0 1 L last
  | full (h1 : OkO o) (h2 : last < o.id) (h : 32 ≤ L.length) : Placed L last o [] 0 6 L last
  | ok (h1 : OkO o) (h2 : last < o.id) (h : L.length < 32) (T : List Td) (o1 : Od) (L1 : List Od) (hp : Places o L T o1 L1) (hl : T.length ≤ 1048576) : Placed L last o T o1.ct 0 (laid o1 L1) o.id
theorem Placed.len {L : List Od} {last : Int} {o : Od} {T : List Td} {n e : Int} {L' : List Od} {last' : Int} (h : Placed L last o T n e L' last') : T.length ≤ 1048576 := by
  cases h with
  | bad => simp
  | full => simp
  | ok _ _ _ _ _ _ _ hl => exact hl
theorem Placed.bk {L : List Od} {last : Int} {o : Od} {T : List Td} {n e : Int} {L' : List Od} {last' : Int} (h : Placed L last o T n e L' last') (hk : Bk L last) (hl : L.length ≤ 32) : Bk L' last' ∧ L'.length ≤ 32 := by
  cases h with
  | bad => exact ⟨hk, hl⟩
  | full => exact ⟨hk, hl⟩
  | ok h1 h2 h _ o1 L1 hp _ =>
    obtain ⟨a1, a2, a3, a4, a5, a6, a7, a8, a9, a10⟩ := hp.bk hk
    refine ⟨a1.laid h1 h2 a2 a3 a5 a6 a7, ?_⟩
    unfold laid
    split
    · rw [List.length_append]; simp; omega
    · omega
theorem newBook (w : World) : Calls Try.prog 33 #[] w fun e w' => e = .returned (.pointer (some ⟨w.heap.size, 0, none⟩)) ∧ BookAt lay0 w' w.heap.size (fun _ => .slice none 0 0) [] 0 ∧ Below w.heap.size w w' := by
  refine (bkNew w).mono ?_
  rintro e w' ⟨rfl, rfl⟩
  exact ⟨rfl, ⟨fun _ => [], ⟨Whl.new rfl, fun i hi => World.ownsRow_nil _ _ _ _, fun i hi e => (by cases e), fun i j hi hj hij x hx => (by cases hx)⟩, RelS.nil, Bk.nil, by simp⟩, (Below.refl _ _).alloc (Nat.le_refl _) _⟩
theorem place (Y : Lay) (b : Nat) (v : Nat → Value) (L : List Od) (last : Int) (o : Od) (w : World) (h : BookAt Y w b v L last) :
    Calls Try.prog 23 #[.pointer (some ⟨b, Y.o, none⟩), odA o] w fun e w' => ∃ (T : List Td) (n c : Int) (L' : List Od) (last' : Int) (v' : Nat → Value) (tv : Value), e = .returned (.tuple #[tv, .int .i64 n, .int .i64 c]) ∧ Placed L last o T n c L' last' ∧ BookAt Y w' b v' L' last' ∧ w'.ownsRow w.heap.size 68 8 tv T.length (flatT T) ∧ (∀ x, tv.ownBlock = some x → ¬ Ft b v' x) ∧ Touch (Ft b v) w w' ∧ (∀ x, Ft b v' x → Ft b v x ∨ w.heap.size ≤ x) := by
  obtain ⟨S, h1, h2, h3, h4⟩ := h
  refine (bkPlace Y b v S last L o w h1 h2 h3 (by omega)).mono ?_
  rintro e w' (⟨h, rfl, hb⟩ | ⟨q1, q2, q3, rfl, hb⟩ | ⟨q1, q2, q3, T, o1, L1, v', S', tv, p1, p2, rfl, p3, p4, p5, p6, p7, p8⟩)
  · exact ⟨[], 0, 1, L, last, v, _, rfl, .bad h, ⟨S, h1.below hb, h2, h3, h4⟩, World.ownsRow_nil _ _ _ _, (fun x hx => (by cases hx)), (Touch.of_below hb).mono' (fun k hk hd => by omega), fun x hx => .inl hx⟩
  · exact ⟨[], 0, 6, L, last, v, _, rfl, .full q1 q2 q3, ⟨S, h1.below hb, h2, h3, h4⟩, World.ownsRow_nil _ _ _ _, (fun x hx => (by cases hx)), (Touch.of_below hb).mono' (fun k hk hd => by omega), fun x hx => .inl hx⟩
  · have hpl : Placed L last o T o1.ct 0 (laid o1 L1) o.id := .ok q1 q2 q3 T o1 L1 p1 p2
    have hbk := hpl.bk h3 h4
    exact ⟨T, o1.ct, 0, laid o1 L1, o.id, v', tv, rfl, hpl, ⟨S', p3, p4, hbk.1, hbk.2⟩, p5, p6, p7, p8⟩
theorem list (Y : Lay) (b : Nat) (v : Nat → Value) (L : List Od) (last : Int) (w : World) (h : BookAt Y w b v L last) :
    Calls Try.prog 27 #[.pointer (some ⟨b, Y.o, none⟩)] w fun e w' => ∃ u, e = .returned u ∧ w'.ownsRow w.heap.size 29 6 u L.length (flatO L) ∧ Below w.heap.size w w' := by
  obtain ⟨S, h1, h2, h3, h4⟩ := h
  exact bkList Y b v S last L w h1 h2 h3 (by omega)
theorem cancel (Y : Lay) (b : Nat) (v : Nat → Value) (L : List Od) (last id : Int) (w : World) (h : BookAt Y w b v L last) :
    Calls Try.prog 28 #[.pointer (some ⟨b, Y.o, none⟩), .int .i64 id] w fun e w' => ∃ (x : Od) (c : Int) (v' : Nat → Value), e = .returned (.tuple #[odA x, .int .i64 c]) ∧ ((x ∈ L ∧ x.id = id ∧ c = 0) ∨ ((∀ y ∈ L, y.id ≠ id) ∧ x = ⟨0, ⟨#[]⟩, false, 0, 0, 0⟩ ∧ c = 7)) ∧ BookAt Y w' b v' (goneO id L) last ∧ Touch (Ft b v) w w' ∧ (∀ x, Ft b v' x → Ft b v x) := by
  obtain ⟨S, h1, h2, h3, h4⟩ := h
  refine (bkCancel Y b v S last L id w h1 h2 h3 (by omega)).mono ?_
  rintro e w' (⟨x, hx, hid, v', S', rfl, q1, q2, q3, q4⟩ | ⟨hn, rfl, hb⟩)
  · exact ⟨x, 0, v', rfl, .inl ⟨hx, hid, rfl⟩, ⟨S', q1, q2, h3.gone id, Nat.le_trans (List.length_filter_le _ _) h4⟩, q3, q4⟩
  · have e : goneO id L = L := List.filter_eq_self.2 (fun y hy => decide_eq_true (hn y hy))
    rw [e]
    exact ⟨⟨0, ⟨#[]⟩, false, 0, 0, 0⟩, 7, v, rfl, .inr ⟨hn, rfl, rfl⟩, ⟨S, h1.below hb, h2, h3, h4⟩, (Touch.of_below hb).mono' (fun k hk hd => by omega), fun x hx => hx⟩
end Go.Proofs.Ytdlbiobjnohfbaa
