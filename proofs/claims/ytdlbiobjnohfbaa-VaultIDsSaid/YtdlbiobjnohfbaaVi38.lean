/- Book: orders as a book, pure. -/
import Derived.ProofKit
import Derived.Test.YtdlbiobjnohfbaaProg
import Derived.WalkKit
import Derived.WalkSpells
import Derived.WalkLawsBesides
import Derived.Deep.QuietTactic
import Derived.BigQuiet
import Derived.RegionTactic
import Derived.BigRegion
import Derived.Outline
import Derived.LoopTactic
import Derived.Lib.Hide
import Derived.Deep.RegionHeld3
import Derived.Laws.AppendOwnNone
import Derived.Deep.AppendLies
import Derived.Maps.AppendAt
import Derived.Laws.Rows
import Derived.Laws.OwnMore
import Derived.Deep.RegionLaw
import Derived.Deep.Onto
import Derived.Test.YtdlbiobjnohfbaaLay
import Derived.Shelf.SlSortCmp.NoneTotal
import Derived.Test.YtdlbiobjnohfbaaVi0
import Derived.Test.YtdlbiobjnohfbaaVi1
import Derived.Test.YtdlbiobjnohfbaaVi2
import Derived.Test.YtdlbiobjnohfbaaVi3
import Derived.Test.YtdlbiobjnohfbaaVi4
import Derived.Test.YtdlbiobjnohfbaaVi5
import Derived.Test.YtdlbiobjnohfbaaVi6
import Derived.Test.YtdlbiobjnohfbaaVi7
import Derived.Test.YtdlbiobjnohfbaaVi8
import Derived.Test.YtdlbiobjnohfbaaVi9
import Derived.Test.YtdlbiobjnohfbaaVi10
import Derived.Test.YtdlbiobjnohfbaaVi11
import Derived.Test.YtdlbiobjnohfbaaVi12
import Derived.Test.YtdlbiobjnohfbaaVi13
import Derived.Test.YtdlbiobjnohfbaaVi14
import Derived.Test.YtdlbiobjnohfbaaVi15
import Derived.Test.YtdlbiobjnohfbaaVi29
import Derived.Test.YtdlbiobjnohfbaaVi30
import Derived.Test.YtdlbiobjnohfbaaVi31
import Derived.Test.YtdlbiobjnohfbaaVi32
import Derived.Test.YtdlbiobjnohfbaaVi33
import Derived.Test.YtdlbiobjnohfbaaVi34
import Derived.Test.YtdlbiobjnohfbaaVi35
import Derived.Test.YtdlbiobjnohfbaaVi36
namespace Go.Proofs.Ytdlbiobjnohfbaa
open Go.RowKit
set_option linter.unusedVariables false
set_option linter.unusedSimpArgs false
theorem take_succ' {L : List Od} {i : Nat} (h : i < L.length) : L.take (i + 1) = L.take i ++ [L[i]] := by rw [List.take_add_one, List.getElem?_eq_getElem h]; rfl
theorem cells_orderAt {w : World} {B c : Nat} {A : Option Addr} {L : List Od} (h : Cells w B A L.length c 6 (flatO L)) {j : Nat} (hj : j < L.length) :
    ∃ b o, A = some ⟨b, o, none⟩ ∧ b < B ∧ w.cell? ⟨b, o + j * 6, none⟩ = some (.int .i64 L[j].id) ∧ w.cell? ⟨b, o + j * 6 + 1, none⟩ = some (.string L[j].who) ∧ w.cell? ⟨b, o + j * 6 + 2, none⟩ = some (.bool L[j].buy) ∧ w.cell? ⟨b, o + j * 6 + 3, none⟩ = some (.int .i64 L[j].item) ∧ w.cell? ⟨b, o + j * 6 + 4, none⟩ = some (.int .i64 L[j].ct) ∧ w.cell? ⟨b, o + j * 6 + 5, none⟩ = some (.int .i64 L[j].pr) := by
  obtain ⟨r0, r1, r2, r3, r4, r5⟩ := flatO_at L j hj
  obtain ⟨b, o, e, hb, h0⟩ := h.2.2 _ _ r0
  have key : ∀ k v, (flatO L)[j * 6 + k]? = some v → w.cell? ⟨b, o + j * 6 + k, none⟩ = some v := fun k v hv => by
    obtain ⟨b1, o1, e1, _, h1⟩ := h.2.2 _ _ hv
    rw [e] at e1
    injection e1 with e1
    injection e1 with e2 e3
    subst e2 e3
    rw [Nat.add_assoc]; exact h1
  exact ⟨b, o, e, hb, h0, key 1 _ r1, key 2 _ r2, key 3 _ r3, key 4 _ r4, key 5 _ r5⟩
set_option maxHeartbeats 4000000 in
set_option maxRecDepth 10000 in
def lastOf (L : List Od) : Int := ((L.getLast?).map Od.id).getD 0
theorem lastOf_snoc (L : List Od) (o : Od) : lastOf (L ++ [o]) = o.id := by simp [lastOf]
/-- this one may be laid behind those, and meets none -/
def Fits (L : List Od) (o : Od) : Prop := OkO o ∧ lastOf L < o.id ∧ NoneMeets o L
/-- those ahead of i fit, one behind the other -/
def OfAt (xs : List Od) (i : Nat) : Prop := ∀ j (hj : j < xs.length), j < i → Fits (xs.take j) xs[j]
/-- all fit, and there are not too many -/
def OfK (xs : List Od) : Prop := xs.length ≤ 32 ∧ OfAt xs xs.length
theorem OfAt.zero (xs : List Od) : OfAt xs 0 := fun j hj h => by omega
theorem OfAt.step {xs : List Od} {i : Nat} (h : OfAt xs i) (hi : i < xs.length) (hf : Fits (xs.take i) xs[i]) : OfAt xs (i + 1) := fun j hj hlt => by
  by_cases e : j = i
  · subst e; exact hf
  · exact h j hj (by omega)
theorem OfAt.bk {xs : List Od} : ∀ {i : Nat}, OfAt xs i → i ≤ xs.length → Bk (xs.take i) (lastOf (xs.take i))
  | 0, _, _ => by rw [List.take_zero]; exact Bk.nil
  | i + 1, h, hi => by
    have hb := OfAt.bk (fun j hj hlt => h j hj (by omega) : OfAt xs i) (by omega)
    have hf := h i (by omega) (by omega)
    rw [take_succ' (show i < xs.length by omega), lastOf_snoc]
    have := hb.laid hf.1 hf.2.1 (o1 := xs[i]) rfl rfl rfl rfl (Int.le_refl _)
    rwa [show laid xs[i] (xs.take i) = xs.take i ++ [xs[i]] from if_pos (by have := hf.1.ct; omega)] at this
theorem Placed.fits {L : List Od} {o : Od} {T : List Td} {n e : Int} {L' : List Od} {last' : Int} (h : Placed L (lastOf L) o T n e L' last') (hk : Bk L (lastOf L)) :
    (e = 0 ∧ T = [] ∧ L.length < 32 ∧ Fits L o ∧ L' = L ++ [o] ∧ last' = lastOf (L ++ [o]) ∧ n = o.ct) ∨ ((e ≠ 0 ∨ T ≠ []) ∧ ¬ (L.length < 32 ∧ Fits L o)) := by
  cases h with
  | bad h => exact .inr ⟨.inl (by decide), fun hf => h ⟨hf.2.1, hf.2.2.1⟩⟩
  | full h1 h2 h => exact .inr ⟨.inl (by decide), fun hf => by have := hf.1; omega⟩
  | ok h1 h2 h T o1 L1 hp hl =>
    cases hp with
    | done _ _ hd =>
      rcases hd with hd | hd
      · have := h1.ct; omega
      · exact .inl ⟨rfl, rfl, h, ⟨h1, h2, hd⟩, if_pos (by have := h1.ct; omega), (lastOf_snoc _ _).symm, rfl⟩
    | step _ x _ T o' L' h0 hb _ =>
      refine .inr ⟨.inr (by simp), fun hf => ?_⟩
      have := hf.2.2.2 x hb.1
      rw [hb.2.1] at this; cases this
theorem Placed.fit1 {L : List Od} {o : Od} {T : List Td} {n e : Int} {L' : List Od} {last' : Int} (h : Placed L (lastOf L) o T n e L' last') (hk : Bk L (lastOf L)) (hf : L.length < 32 ∧ Fits L o) : e = 0 ∧ T = [] ∧ L' = L ++ [o] ∧ last' = lastOf (L ++ [o]) ∧ n = o.ct := by
  rcases h.fits hk with ⟨h1, h2, _, _, h3, h4, h5⟩ | ⟨_, h⟩
  · exact ⟨h1, h2, h3, h4, h5⟩
  · exact absurd hf h
theorem Placed.fitE {L : List Od} {last : Int} {o : Od} {T : List Td} {n e : Int} {L' : List Od} {last' : Int} (h : Placed L last o T n e L' last') (hf : ¬ (OkO o ∧ last < o.id ∧ L.length < 32)) : e = 1 ∨ e = 6 := by
  cases h with
  | bad h => exact .inl rfl
  | full h1 h2 h => exact .inr rfl
  | ok h1 h2 h T o1 L1 hp hl => exact absurd ⟨h1, h2, h⟩ hf
theorem Placed.fitT {L : List Od} {last : Int} {o : Od} {T : List Td} {n e : Int} {L' : List Od} {last' : Int} (h : Placed L last o T n e L' last') (hf : OkO o ∧ last < o.id ∧ L.length < 32) (hn : ¬ NoneMeets o L) : e = 0 ∧ 0 < T.length := by
  cases h with
  | bad h => exact absurd ⟨hf.1, hf.2.1⟩ h
  | full h1 h2 h => omega
  | ok h1 h2 h T o1 L1 hp hl =>
    refine ⟨rfl, ?_⟩
    cases hp with
    | done _ _ hd =>
      rcases hd with hd | hd
      · have := h1.ct; omega
      · exact absurd hd hn
    | step _ x _ T o' L' h0 hb _ => simp
theorem not_of {xs : List Od} {i : Nat} (hi : i < xs.length) (h : ¬ ((xs.take i).length < 32 ∧ Fits (xs.take i) xs[i])) : ¬ OfK xs := fun hk => h ⟨by rw [List.length_take]; have := hk.1; omega, hk.2 i hi hi⟩
end Go.Proofs.Ytdlbiobjnohfbaa
