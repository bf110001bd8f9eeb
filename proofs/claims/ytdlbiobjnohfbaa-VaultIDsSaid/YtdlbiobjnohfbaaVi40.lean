/- vault: pure: what trades are like; the whole state. -/
import Derived.ProofKit
import Derived.Test.YtdlbiobjnohfbaaProg
import Derived.WalkKit
import Derived.WalkSpells
import Derived.WalkLawsBesides
import Derived.Deep.QuietTactic
import Derived.BigQuiet
import Derived.RegionTactic
import Derived.BigRegion
import Derived.Outline
import Derived.LoopTactic
import Derived.Lib.Hide
import Derived.Deep.RegionHeld3
import Derived.Laws.AppendOwnNone
import Derived.Deep.AppendLies
import Derived.Maps.AppendAt
import Derived.Laws.Rows
import Derived.Laws.OwnMore
import Derived.Deep.RegionLaw
import Derived.Deep.Onto
import Derived.Maps.Own
import Derived.Maps.RangeRun
import Derived.Carry
import Derived.Maps.Range
import Derived.Deep.DeepMust
import Derived.Deep.Cut
import Derived.StillTailTactics
import Derived.Deep.Light
import Derived.Test.YtdlbiobjnohfbaaLay
import Derived.Shelf.SlSortCmp.NoneTotal
import Derived.Test.YtdlbiobjnohfbaaVi0
import Derived.Test.YtdlbiobjnohfbaaVi1
import Derived.Test.YtdlbiobjnohfbaaVi2
import Derived.Test.YtdlbiobjnohfbaaVi3
import Derived.Test.YtdlbiobjnohfbaaVi4
import Derived.Test.YtdlbiobjnohfbaaVi5
import Derived.Test.YtdlbiobjnohfbaaVi6
import Derived.Test.YtdlbiobjnohfbaaVi7
import Derived.Test.YtdlbiobjnohfbaaVi8
import Derived.Test.YtdlbiobjnohfbaaVi9
import Derived.Test.YtdlbiobjnohfbaaVi10
import Derived.Test.YtdlbiobjnohfbaaVi11
import Derived.Test.YtdlbiobjnohfbaaVi12
import Derived.Test.YtdlbiobjnohfbaaVi13
import Derived.Test.YtdlbiobjnohfbaaVi14
import Derived.Test.YtdlbiobjnohfbaaVi15
import Derived.Test.YtdlbiobjnohfbaaVi16
import Derived.Test.YtdlbiobjnohfbaaVi17
import Derived.Test.YtdlbiobjnohfbaaVi18
import Derived.Test.YtdlbiobjnohfbaaVi19
import Derived.Test.YtdlbiobjnohfbaaVi21
import Derived.Test.YtdlbiobjnohfbaaVi22
import Derived.Test.YtdlbiobjnohfbaaVi23
import Derived.Test.YtdlbiobjnohfbaaVi24
import Derived.Test.YtdlbiobjnohfbaaVi25
import Derived.Test.YtdlbiobjnohfbaaVi26
import Derived.Test.YtdlbiobjnohfbaaVi27
import Derived.Test.YtdlbiobjnohfbaaVi28
import Derived.Test.YtdlbiobjnohfbaaVi29
import Derived.Test.YtdlbiobjnohfbaaVi30
import Derived.Test.YtdlbiobjnohfbaaVi31
import Derived.Test.YtdlbiobjnohfbaaVi32
import Derived.Test.YtdlbiobjnohfbaaVi33
import Derived.Test.YtdlbiobjnohfbaaVi34
import Derived.Test.YtdlbiobjnohfbaaVi35
import Derived.Test.YtdlbiobjnohfbaaVi36
import Derived.Test.YtdlbiobjnohfbaaVi37
import Derived.Test.YtdlbiobjnohfbaaVi38
import Derived.Test.YtdlbiobjnohfbaaVi39
namespace Go.Proofs.Ytdlbiobjnohfbaa
open Go.RowKit Go.ChangeMaps Go.MapKept
set_option linter.unusedVariables false
set_option linter.unusedSimpArgs false
theorem keyOk_of {s : ByteArray} (h : 1 ≤ s.size ∧ s.size ≤ 16) : KeyOk s.data.toList := by
  have e : s.data.toList.length = s.size := Array.length_toList
  exact ⟨by omega, by omega⟩
/-- an order that may be, all of it but how much is left -/
structure OkR (o : Od) : Prop where
  who : 1 ≤ o.who.size ∧ o.who.size ≤ 16
  item : 1 ≤ o.item ∧ o.item ≤ 3
  ct : o.ct ≤ 1048576
  pr : 1 ≤ o.pr ∧ o.pr ≤ 1024
theorem OkO.r {o : Od} (h : OkO o) : OkR o := ⟨h.who, h.item, h.ct.2, h.pr⟩
theorem tradeP_ok {o x : Od} (ho : OkR o) (hx : OkO x) (hm : meetP o x = true) (h0 : 0 < o.ct) : TdOk (tradeP o x (mn o.ct x.ct)) := by
  have h1 := mn_le (a := o.ct) (b := x.ct)
  have h2 : 1 ≤ mn o.ct x.ct := mn_pos (by omega) hx.ct.1
  have h3 := ho.ct
  have h4 := ho.pr
  have h5 := hx.pr
  unfold tradeP
  unfold meetP at hm
  cases hb : o.buy with
  | true =>
    rw [hb] at hm
    simp at hm
    exact ⟨ho.item, by show 0 ≤ mn o.ct x.ct ∧ mn o.ct x.ct ≤ 1048576; omega, by show 0 ≤ x.pr ∧ x.pr ≤ o.pr; omega, by show o.pr ≤ 1024; omega, keyOk_of ho.who, keyOk_of hx.who⟩
  | false =>
    exact ⟨ho.item, by show 0 ≤ mn o.ct x.ct ∧ mn o.ct x.ct ≤ 1048576; omega, by show 0 ≤ x.pr ∧ x.pr ≤ x.pr; omega, by show x.pr ≤ 1024; omega, keyOk_of hx.who, keyOk_of ho.who⟩
theorem Places.tds {o : Od} {L : List Od} {T : List Td} {o1 : Od} {L1 : List Od} {last : Int} (h : Places o L T o1 L1) : OkR o → Bk L last → ∀ t ∈ T, TdOk t := by
  induction h with
  | done o L h => intro _ _ t ht; cases ht
  | step o x L T o' L' h0 hb h ih =>
    intro ho hk t ht
    have hx := hk.ok x hb.1
    have hm : meetP o x = true := by
      have := hb.2.1
      unfold meets at this
      simp only [Bool.and_eq_true] at this
      exact this.2
    have h2 : 1 ≤ mn o.ct x.ct := mn_pos (by omega) hx.ct.1
    rcases List.mem_cons.1 ht with rfl | ht
    · exact tradeP_ok ho hx hm h0
    · exact ih ⟨ho.who, ho.item, by show o.ct - mn o.ct x.ct ≤ 1048576; have := ho.ct; omega, ho.pr⟩ (hk.takeN hb.1 (by omega) (mn_le).2) t ht
/-- an order under another number -/
def Od.num (o : Od) (g : Int) : Od := ⟨g, o.who, o.buy, o.item, o.ct, o.pr⟩
theorem ofK_one (o : Od) : OfK [o] ↔ OkO o := by
  constructor
  · intro h
    exact (h.2 0 (by simp) (by simp)).1
  · intro h
    refine ⟨by simp, fun j hj hlt => ?_⟩
    simp at hlt
    subst hlt
    exact ⟨h, by show (0 : Int) < o.id; have := h.id; omega, fun y hy => by simp at hy⟩
theorem held_num (o : Od) (g : Int) : heldP (o.num g) = heldP o := rfl
theorem held_is {o : Od} (h : OkO o) : isI (heldP o) = true := by
  have hp := prod_ok (a := o.ct) (c := o.pr) (m := 1048576) (n := 1024) (by have := h.ct; omega) (by have := h.pr; omega)
  have hc := h.ct
  unfold heldP
  split
  · unfold isI; rw [isP_iff]; simp; omega
  · split
    · unfold isI; rw [isP_iff]; simp; omega
    · split
      · unfold isI; rw [isP_iff]; simp; omega
      · split
        · unfold isI; rw [isP_iff]; simp; omega
        · unfold isI; rw [isP_iff]; simp; omega
/-- block b is a vault: its purses, its orders, the last number that was laid, how many were given out -/
def VtAt (w : World) (b : Nat) (p : Value) (v : Nat → Value) (l : Pm) (L : List Od) (last gone : Int) : Prop :=
  ∃ S, VtH w b p v S l last gone ∧ RelS S L ∧ Bk L last ∧ L.length ≤ 32 ∧ last ≤ gone ∧ gone ≤ 1099511627776
theorem VtAt.book {w : World} {b : Nat} {p : Value} {v : Nat → Value} {l : Pm} {L : List Od} {last gone : Int} (h : VtAt w b p v l L last gone) : BookAt (lay1 p (.int .i64 gone)) w b v L last := by
  obtain ⟨S, h1, h2, h3, h4, _⟩ := h
  exact ⟨S, h1.bk, h2, h3, h4⟩
theorem newVault (w : World) : Calls Try.prog 7 #[] w fun e w' => e = .returned (.pointer (some ⟨w.heap.size, 0, none⟩)) ∧ VtAt w' w.heap.size (.map none) (fun _ => .slice none 0 0) [] [] 0 0 ∧ Below w.heap.size w w' := by
  go_enter Try.func7, Try.ntmps7
  go_wp2_with fail
  go_ret
  exact ⟨rfl, ⟨fun _ => [], ⟨⟨Whl.new rfl, fun i hi => World.ownsRow_nil _ _ _ _, fun i hi e => (by cases e), fun i j hi hj hij x hx => (by cases hx)⟩, .inl ⟨rfl, rfl⟩, PmOk.nil, (by intro e; cases e), fun i hi x hx => (by cases hx)⟩, RelS.nil, Bk.nil, by simp, by omega, by omega⟩, (Below.refl _ _).alloc (Nat.le_refl _) _⟩
end Go.Proofs.Ytdlbiobjnohfbaa
