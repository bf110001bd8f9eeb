/- vault: what each deed does, as a law's walk takes it. -/
import Derived.Test.YtdlbiobjnohfbaaLayK
import Derived.ProofKit
import Derived.Test.YtdlbiobjnohfbaaProg
import Derived.WalkKit
import Derived.WalkSpells
import Derived.WalkLawsBesides
import Derived.Deep.QuietTactic
import Derived.BigQuiet
import Derived.RegionTactic
import Derived.BigRegion
import Derived.Outline
import Derived.LoopTactic
import Derived.Lib.Hide
import Derived.Deep.RegionHeld3
import Derived.Laws.AppendOwnNone
import Derived.Deep.AppendLies
import Derived.Maps.AppendAt
import Derived.Laws.Rows
import Derived.Laws.OwnMore
import Derived.Deep.RegionLaw
import Derived.Deep.Onto
import Derived.Maps.Own
import Derived.Maps.RangeRun
import Derived.Carry
import Derived.Maps.Range
import Derived.Deep.DeepMust
import Derived.WideShapes
import Derived.Sort.KeysCollected
import Derived.StringKeys
import Derived.Shelf.SlIter.Nil
import Derived.Shelf.SlIter.Sorted
import Derived.Shelf.SortM.Plain
import Derived.Shelf.SortM.SortNone
import Derived.Deep.Cut
import Derived.StillTailTactics
import Derived.Deep.Light
import Derived.Test.YtdlbiobjnohfbaaLay
import Derived.Shelf.SlSortCmp.NoneTotal
import GoSem.Op.String
import Derived.Lib.Strings
import Derived.OpenShut
import Derived.ShutString
import Derived.Deep.SlicePairs
import Derived.Laws.IdiomArrays
import Derived.Test.YtdlbiobjnohfbaaVi0
import Derived.Test.YtdlbiobjnohfbaaVi1
import Derived.Test.YtdlbiobjnohfbaaVi2
import Derived.Test.YtdlbiobjnohfbaaVi3
import Derived.Test.YtdlbiobjnohfbaaVi4
import Derived.Test.YtdlbiobjnohfbaaVi5
import Derived.Test.YtdlbiobjnohfbaaVi6
import Derived.Test.YtdlbiobjnohfbaaVi7
import Derived.Test.YtdlbiobjnohfbaaVi8
import Derived.Test.YtdlbiobjnohfbaaVi9
import Derived.Test.YtdlbiobjnohfbaaVi10
import Derived.Test.YtdlbiobjnohfbaaVi11
import Derived.Test.YtdlbiobjnohfbaaVi12
import Derived.Test.YtdlbiobjnohfbaaVi13
import Derived.Test.YtdlbiobjnohfbaaVi14
import Derived.Test.YtdlbiobjnohfbaaVi15
import Derived.Test.YtdlbiobjnohfbaaVi16
import Derived.Test.YtdlbiobjnohfbaaVi17
import Derived.Test.YtdlbiobjnohfbaaVi18
import Derived.Test.YtdlbiobjnohfbaaVi19
import Derived.Test.YtdlbiobjnohfbaaVi20
import Derived.Test.YtdlbiobjnohfbaaVi21
import Derived.Test.YtdlbiobjnohfbaaVi22
import Derived.Test.YtdlbiobjnohfbaaVi23
import Derived.Test.YtdlbiobjnohfbaaVi24
import Derived.Test.YtdlbiobjnohfbaaVi25
import Derived.Test.YtdlbiobjnohfbaaVi26
import Derived.Test.YtdlbiobjnohfbaaVi27
import Derived.Test.YtdlbiobjnohfbaaVi28
import Derived.Test.YtdlbiobjnohfbaaVi29
import Derived.Test.YtdlbiobjnohfbaaVi30
import Derived.Test.YtdlbiobjnohfbaaVi31
import Derived.Test.YtdlbiobjnohfbaaVi32
import Derived.Test.YtdlbiobjnohfbaaVi33
import Derived.Test.YtdlbiobjnohfbaaVi34
import Derived.Test.YtdlbiobjnohfbaaVi35
import Derived.Test.YtdlbiobjnohfbaaVi36
import Derived.Test.YtdlbiobjnohfbaaVi37
import Derived.Test.YtdlbiobjnohfbaaVi38
import Derived.Test.YtdlbiobjnohfbaaVi39
import Derived.Test.YtdlbiobjnohfbaaVi40
import Derived.Test.YtdlbiobjnohfbaaVi41
import Derived.Test.YtdlbiobjnohfbaaVi42
import Derived.Test.YtdlbiobjnohfbaaVi43
import Derived.Test.YtdlbiobjnohfbaaVi44
import Derived.Test.YtdlbiobjnohfbaaVi45
import Derived.Test.YtdlbiobjnohfbaaVi46
import Derived.Test.YtdlbiobjnohfbaaVi47
import Derived.Test.YtdlbiobjnohfbaaVi48
namespace Go.Proofs.Ytdlbiobjnohfbaa
open Go.RowKit Go.ChangeMaps Go.MapKept
set_option linter.unusedVariables false
set_option linter.unusedSimpArgs false
/-- block b is a vault with these purses and orders; all that was touched since w0 is new; the blocks in D are none of its own -/
def St (w0 w : World) (b : Nat) (l : Pm) (L : List Od) (gone : Int) (D : Nat → Prop) : Prop := ∃ p v last, VtAt w b p v l L last gone ∧ Up w0 w b p v ∧ ∀ q, D q → q < w.heap.size ∧ ¬ Fv b p v q
theorem St.bel {w0 w : World} {b : Nat} {l : Pm} {L : List Od} {gone : Int} {D : Nat → Prop} (h : St w0 w b l L gone D) : Below w0.heap.size w0 w := by
  obtain ⟨p, v, last, _, h, _⟩ := h
  exact h.bel
theorem VtAt.lows {w : World} {b : Nat} {p : Value} {v : Nat → Value} {l : Pm} {L : List Od} {last gone : Int} (h : VtAt w b p v l L last gone) : ∀ x, Fv b p v x → x < w.heap.size := by
  obtain ⟨S, h1, _⟩ := h
  exact h1.lows
theorem St.belowD {w0 w w' : World} {b : Nat} {l : Pm} {L : List Od} {gone : Int} {D D' : Nat → Prop} (h : St w0 w b l L gone D) (hb : Below w.heap.size w w') (hD : ∀ q, D' q → D q ∨ (w.heap.size ≤ q ∧ q < w'.heap.size)) : St w0 w' b l L gone D' := by
  obtain ⟨p, v, last, h1, h2, h3⟩ := h
  refine ⟨p, v, last, h1.below hb, h2.same hb, fun q hq => ?_⟩
  have := hb.size
  rcases hD q hq with h | h
  · exact ⟨by have := (h3 q h).1; omega, (h3 q h).2⟩
  · exact ⟨h.2, fun hf => by have := h1.lows q hf; omega⟩
theorem St.below {w0 w w' : World} {b : Nat} {l : Pm} {L : List Od} {gone : Int} {D : Nat → Prop} (h : St w0 w b l L gone D) (hb : Below w.heap.size w w') : St w0 w' b l L gone D := h.belowD hb (fun q hq => .inl hq)
theorem St.num {w0 w : World} {b : Nat} {l : Pm} {L : List Od} {gone : Int} {D : Nat → Prop} (h : St w0 w b l L gone D) : 0 ≤ gone ∧ gone ≤ 1099511627776 := by
  obtain ⟨p, v, last, ⟨S, _, _, h3, _, h5, h6⟩, _⟩ := h
  have := h3.zero
  omega
theorem St.ok {w0 w : World} {b : Nat} {l : Pm} {L : List Od} {gone : Int} {D : Nat → Prop} (h : St w0 w b l L gone D) : PmOk l ∧ (∃ last, Bk L last) ∧ L.length ≤ 32 := by
  obtain ⟨p, v, last, ⟨S, h1, _, h3, h4, _⟩, _⟩ := h
  exact ⟨h1.ok, ⟨_, h3⟩, h4⟩
theorem stNew (w0 w : World) (hb : Below w0.heap.size w0 w) : Calls Try.prog 7 #[] w fun e w' => e = .returned (.pointer (some ⟨w.heap.size, 0, none⟩)) ∧ St w0 w' w.heap.size [] [] 0 (fun _ => False) ∧ Below w.heap.size w w' := by
  refine (newVault w).mono ?_
  rintro e w1 ⟨rfl, hv1, hb1⟩
  refine ⟨rfl, ⟨_, _, _, hv1, ⟨hb.trans (hb1.mono hb.size), fun x hx => ?_⟩, fun q hq => hq.elim⟩, hb1⟩
  have := hb.size
  rcases hx with (e | ⟨i, _, e⟩) | e
  · omega
  · cases e
  · cases e
/-- what is in the blocks of D is as it was -/
def Same (D : Nat → Prop) (w w' : World) : Prop := ∀ q, D q → w'.heap[q]? = w.heap[q]?
theorem Same.whl {D : Nat → Prop} {w w' : World} (h : Same D w w') {q : Nat} (hq : D q) {t : TypeId} {cs : Array Value} (hw : Whl w q t cs) : Whl w' q t cs := (h q hq).trans hw
theorem St.same {w0 w w' : World} {b : Nat} {l : Pm} {L : List Od} {gone : Int} {D : Nat → Prop} (h : St w0 w b l L gone D) (hb : Below w.heap.size w w') : Same D w w' := by
  obtain ⟨p, v, last, _, _, h3⟩ := h
  exact fun q hq => hb.block q (h3 q hq).1
theorem st_same {w0 w w' : World} {b : Nat} {p : Value} {v : Nat → Value} {l : Pm} {L : List Od} {last gone : Int} {D : Nat → Prop} (h1 : VtAt w b p v l L last gone) (h2 : Up w0 w b p v) (h3 : ∀ q, D q → q < w.heap.size ∧ ¬ Fv b p v q) (hb : Below w.heap.size w w') : St w0 w' b l L gone D ∧ Same D w w' :=
  ⟨St.below ⟨p, v, last, h1, h2, h3⟩ hb, fun q hq => hb.block q (h3 q hq).1⟩
theorem st_step {w0 w w' : World} {b : Nat} {p p' : Value} {v v' : Nat → Value} {l' : Pm} {L' : List Od} {last' gone' : Int} {D : Nat → Prop} (h2 : Up w0 w b p v) (h3 : ∀ q, D q → q < w.heap.size ∧ ¬ Fv b p v q)
    (hv : VtAt w' b p' v' l' L' last' gone') (ht : Touch (Fv b p v) w w') (hf : ∀ x, Fv b p' v' x → Fv b p v x ∨ w.heap.size ≤ x) : St w0 w' b l' L' gone' D ∧ Same D w w' := by
  refine ⟨⟨p', v', last', hv, h2.step ht hf, fun q hq => ⟨by have := (h3 q hq).1; have := ht.size; omega, fun h => ?_⟩⟩, fun q hq => ht.block q (h3 q hq).1 (h3 q hq).2⟩
  rcases hf q h with h | h
  · exact (h3 q hq).2 h
  · have := (h3 q hq).1; omega
def PutR (l : Pm) (s : ByteArray) (i : It4) (c : Int) (l' : Pm) : Prop :=
  (c ≠ 0 ∧ l' = l) ∨ (c = 0 ∧ mayB s i = true ∧ l' = setP l s.data.toList (addI (hasP l s.data.toList) i))
def TakeR (l : Pm) (s : ByteArray) (i : It4) (c : Int) (l' : Pm) : Prop :=
  (c ≠ 0 ∧ l' = l) ∨ (c = 0 ∧ mayB s i = true ∧ l' = setP l s.data.toList (subI (hasP l s.data.toList) i))
def OrdR (l : Pm) (L : List Od) (gone : Int) (o : Od) (n c : Int) (l' : Pm) (L' : List Od) (gone' : Int) : Prop :=
  (c ≠ 0 ∧ n = 0 ∧ l' = l ∧ L' = L ∧ gone' = gone) ∨
  (c = 0 ∧ n = gone + 1 ∧ gone' = gone + 1 ∧ OkO (o.num 1) ∧ lessI (hasP l o.who.data.toList) (heldP o) = false ∧ ∃ T o1 L1, Places (o.num (gone + 1)) L T o1 L1 ∧
    l' = T.foldl settleP (setP l o.who.data.toList (subI (hasP l o.who.data.toList) (heldP o))) ∧ L' = laid o1 L1)
def CanR (l : Pm) (L : List Od) (s : ByteArray) (id : Int) (c : Int) (l' : Pm) (L' : List Od) : Prop :=
  (c ≠ 0 ∧ l' = l ∧ L' = L) ∨ (c = 0 ∧ ∃ x ∈ L, x.id = id ∧ x.who = s ∧ l' = gainsP l s (heldP x) 4 ∧ L' = goneO id L)
theorem stPut (w0 : World) (b : Nat) (l : Pm) (L : List Od) (gone : Int) (s : ByteArray) (i : It4) (D : Nat → Prop) (w : World) (h : St w0 w b l L gone D) :
    Calls Try.prog 9 #[.pointer (some ⟨b, 0, none⟩), .string s, .agg #[.int .i64 i.1, .int .i64 i.2.1, .int .i64 i.2.2.1, .int .i64 i.2.2.2]] w fun e w' => ∃ c l', e = .returned (.int .i64 c) ∧ (St w0 w' b l' L gone D ∧ Same D w w') ∧ PutR l s i c l' := by
  obtain ⟨p, v, last, ⟨S, hv, hr⟩, hu, hD⟩ := h
  refine (vtPut b p v S l last gone s i w hv).mono ?_
  rintro e w2 hq
  rcases hq with ⟨_, rfl, hb⟩ | ⟨_, _, rfl, hb⟩ | ⟨h1, _, rfl, p2, hv2, ht2, hf2⟩
  · exact ⟨1, l, rfl, st_same ⟨S, hv, hr⟩ hu hD hb, .inl ⟨by omega, rfl⟩⟩
  · exact ⟨6, l, rfl, st_same ⟨S, hv, hr⟩ hu hD hb, .inl ⟨by omega, rfl⟩⟩
  · exact ⟨0, _, rfl, st_step hu hD ⟨S, hv2, hr⟩ ht2 hf2, .inr ⟨rfl, h1, rfl⟩⟩
theorem stOrder (w0 : World) (b : Nat) (l : Pm) (L : List Od) (gone : Int) (o : Od) (D : Nat → Prop) (w : World) (h : St w0 w b l L gone D) :
    Calls Try.prog 11 #[.pointer (some ⟨b, 0, none⟩), .agg #[.int .i64 o.id, .string o.who, .bool o.buy, .int .i64 o.item, .int .i64 o.ct, .int .i64 o.pr]] w fun e w' => ∃ n c l' L' gone', e = .returned (.tuple #[.int .i64 n, .int .i64 c]) ∧ (St w0 w' b l' L' gone' D ∧ Same D w w') ∧ OrdR l L gone o n c l' L' gone' := by
  obtain ⟨p, v, last, hv, hu, hD⟩ := h
  refine (vtOrder b p v l L last gone o w hv).mono ?_
  rintro e w2 hq
  rcases hq with ⟨c, hc, _, _, rfl, hb⟩ | ⟨h1, _, h3, rfl, T, o1, L1, p', v', hpl, hv', ht', hf'⟩
  · exact ⟨0, c, l, L, gone, rfl, st_same hv hu hD hb, .inl ⟨by omega, rfl, rfl, rfl, rfl⟩⟩
  · exact ⟨gone + 1, 0, _, _, gone + 1, rfl, st_step hu hD hv' ht' hf', .inr ⟨rfl, rfl, rfl, h1, h3, T, o1, L1, hpl, rfl, rfl⟩⟩
theorem stCancel (w0 : World) (b : Nat) (l : Pm) (L : List Od) (gone : Int) (s : ByteArray) (id : Int) (D : Nat → Prop) (w : World) (h : St w0 w b l L gone D) :
    Calls Try.prog 12 #[.pointer (some ⟨b, 0, none⟩), .string s, .int .i64 id] w fun e w' => ∃ c l' L', e = .returned (.int .i64 c) ∧ (St w0 w' b l' L' gone D ∧ Same D w w') ∧ CanR l L s id c l' L' := by
  obtain ⟨p, v, last, hv, hu, hD⟩ := h
  refine (vtCancel b p v l L last gone s id w hv).mono ?_
  rintro e w2 hq
  rcases hq with ⟨_, rfl, hb⟩ | ⟨x, hx, h1, h2, rfl, p', v', hv', ht', hf'⟩
  · exact ⟨7, l, L, rfl, st_same hv hu hD hb, .inl ⟨by omega, rfl, rfl⟩⟩
  · exact ⟨0, _, _, rfl, st_step hu hD hv' ht' hf', .inr ⟨rfl, x, hx, h1, h2, rfl, rfl⟩⟩
theorem stHas (w0 : World) (b : Nat) (l : Pm) (L : List Od) (gone : Int) (s : ByteArray) {i0 i1 i2 i3 : Int} (hi : hasP l s.data.toList = (i0, i1, i2, i3)) (D : Nat → Prop) (w : World) (h : St w0 w b l L gone D) :
    Calls Try.prog 14 #[.pointer (some ⟨b, 0, none⟩), .string s] w fun e w' => e = .returned (.agg #[.int .i64 i0, .int .i64 i1, .int .i64 i2, .int .i64 i3]) ∧ Below w.heap.size w w' := by
  obtain ⟨p, v, last, ⟨S, h1, _⟩, _⟩ := h
  refine (vtHas b _ _ s w h1.bk.whl.low h1.cell h1.pu).mono ?_
  rintro e w9 ⟨he, hb9⟩
  rw [hi] at he
  exact ⟨he, hb9⟩
theorem stList (w0 : World) (b : Nat) (l : Pm) (L : List Od) (gone : Int) (D : Nat → Prop) (w : World) (h : St w0 w b l L gone D) (hlen : l.length ≤ 1000) :
    Calls Try.prog 15 #[.pointer (some ⟨b, 0, none⟩)] w fun e w' => ∃ A1 c1 v2, e = .returned (.tuple #[.slice A1 l.length c1, v2, .int .i64 (gone + 1)]) ∧
      w'.ownsRow w.heap.size 47 5 (.slice A1 l.length c1) l.length (flatH (rowsP l)) ∧ Below w.heap.size w w' := by
  obtain ⟨p, v, last, hv, _⟩ := h
  refine (vtList b p v l L last gone w hv hlen).mono ?_
  rintro e w2 ⟨v1, v2, rfl, h1, h2, hb⟩
  obtain ⟨A1, c1, rfl, _, _, _⟩ := own_slice h1
  exact ⟨A1, c1, v2, rfl, h1, hb⟩
theorem PutR.nms {N : List By} {l : Pm} {L : List Od} {s : ByteArray} {i : It4} {c : Int} {l' : Pm} (h : PutR l s i c l') (hn : Nms N l L) : Nms (s.data.toList :: N) l' L := by
  rcases h with ⟨_, rfl⟩ | ⟨_, _, rfl⟩
  · exact hn.more _
  · exact hn.set _ _
theorem TakeR.nms {N : List By} {l : Pm} {L : List Od} {s : ByteArray} {i : It4} {c : Int} {l' : Pm} (h : TakeR l s i c l') (hn : Nms N l L) : Nms (s.data.toList :: N) l' L := by
  rcases h with ⟨_, rfl⟩ | ⟨_, _, rfl⟩
  · exact hn.more _
  · exact hn.set _ _
theorem OrdR.nms {N : List By} {l : Pm} {L : List Od} {gone : Int} {o : Od} {n c : Int} {l' : Pm} {L' : List Od} {gone' : Int} (h : OrdR l L gone o n c l' L' gone') (hn : Nms N l L) : Nms (o.who.data.toList :: N) l' L' := by
  rcases h with ⟨_, _, rfl, rfl, _⟩ | ⟨_, _, _, _, _, T, o1, L1, hp, rfl, rfl⟩
  · exact hn.more _
  · exact Nms.order (o := o.num (gone + 1)) hn hp
theorem CanR.nms {N : List By} {l : Pm} {L : List Od} {s : ByteArray} {id c : Int} {l' : Pm} {L' : List Od} (h : CanR l L s id c l' L') (hn : Nms N l L) : Nms (s.data.toList :: N) l' L' := by
  rcases h with ⟨_, rfl, rfl⟩ | ⟨_, x, _, _, _, rfl, rfl⟩
  · exact hn.more _
  · exact hn.cancel _ _ _
end Go.Proofs.Ytdlbiobjnohfbaa
