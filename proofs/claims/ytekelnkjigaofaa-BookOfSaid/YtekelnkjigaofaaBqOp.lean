/- Book: orders as a book, pure. -/
import Derived.Test.YtekelnkjigaofaaBqX
namespace Go.Proofs.Ytekelnkjigaofaa
open Go.RowKit
set_option linter.unusedVariables false
set_option linter.unusedSimpArgs false

def lastOf (L : List Od) : Int := ((L.getLast?).map Od.id).getD 0
theorem lastOf_snoc (L : List Od) (o : Od) : lastOf (L ++ [o]) = o.id := by simp [lastOf]
theorem lastOf_nil : lastOf [] = 0 := rfl
/-- this one may be laid behind those, and meets none -/
def Fits (L : List Od) (o : Od) : Prop := OkO o ∧ lastOf L < o.id ∧ NoneMeets o L
/-- those ahead of i fit, one behind the other -/
def OfAt (xs : List Od) (i : Nat) : Prop := ∀ j (hj : j < xs.length), j < i → Fits (xs.take j) xs[j]
/-- all fit, and there are not too many -/
def OfK (xs : List Od) : Prop := xs.length ≤ 32 ∧ OfAt xs xs.length
theorem OfAt.zero (xs : List Od) : OfAt xs 0 := fun j hj h => by omega
theorem OfAt.step {xs : List Od} {i : Nat} (h : OfAt xs i) (hi : i < xs.length) (hf : Fits (xs.take i) xs[i]) : OfAt xs (i + 1) := fun j hj hlt => by
  by_cases e : j = i
  · subst e; exact hf
  · exact h j hj (by omega)
theorem OfAt.bk {xs : List Od} : ∀ {i : Nat}, OfAt xs i → i ≤ xs.length → Bk (xs.take i) (lastOf (xs.take i))
  | 0, _, _ => by rw [List.take_zero]; exact Bk.nil
  | i + 1, h, hi => by
    have hb := OfAt.bk (fun j hj hlt => h j hj (by omega) : OfAt xs i) (by omega)
    have hf := h i (by omega) (by omega)
    rw [take_succ' (show i < xs.length by omega), lastOf_snoc]
    have := hb.laid hf.1 hf.2.1 (o1 := xs[i]) rfl rfl rfl rfl (Int.le_refl _)
    rwa [show laid xs[i] (xs.take i) = xs.take i ++ [xs[i]] from if_pos (by have := hf.1.ct; omega)] at this
theorem Placed.fits {L : List Od} {o : Od} {T : List Td} {n e : Int} {L' : List Od} {last' : Int} (h : Placed L (lastOf L) o T n e L' last') (hk : Bk L (lastOf L)) :
    (e = 0 ∧ T = [] ∧ L.length < 32 ∧ Fits L o ∧ L' = L ++ [o] ∧ last' = lastOf (L ++ [o]) ∧ n = o.ct) ∨ ((e ≠ 0 ∨ T ≠ []) ∧ ¬ (L.length < 32 ∧ Fits L o)) := by
  cases h with
  | bad h => exact .inr ⟨.inl (by decide), fun hf => h ⟨hf.2.1, hf.2.2.1⟩⟩
  | full h1 h2 h => exact .inr ⟨.inl (by decide), fun hf => by have := hf.1; omega⟩
  | ok h1 h2 h T o1 L1 hp hl =>
    cases hp with
    | done _ _ hd =>
      rcases hd with hd | hd
      · have := h1.ct; omega
      · exact .inl ⟨rfl, rfl, h, ⟨h1, h2, hd⟩, if_pos (by have := h1.ct; omega), (lastOf_snoc _ _).symm, rfl⟩
    | step _ x _ T o' L' h0 hb _ =>
      refine .inr ⟨.inr (by simp), fun hf => ?_⟩
      have := hf.2.2.2 x hb.1
      rw [hb.2.1] at this; cases this
theorem Placed.fit1 {L : List Od} {o : Od} {T : List Td} {n e : Int} {L' : List Od} {last' : Int} (h : Placed L (lastOf L) o T n e L' last') (hk : Bk L (lastOf L)) (hf : L.length < 32 ∧ Fits L o) : e = 0 ∧ T = [] ∧ L' = L ++ [o] ∧ last' = lastOf (L ++ [o]) ∧ n = o.ct := by
  rcases h.fits hk with ⟨h1, h2, _, _, h3, h4, h5⟩ | ⟨_, h⟩
  · exact ⟨h1, h2, h3, h4, h5⟩
  · exact absurd hf h
theorem Placed.fitE {L : List Od} {last : Int} {o : Od} {T : List Td} {n e : Int} {L' : List Od} {last' : Int} (h : Placed L last o T n e L' last') (hf : ¬ (OkO o ∧ last < o.id ∧ L.length < 32)) : e = 1 ∨ e = 6 := by
  cases h with
  | bad h => exact .inl rfl
  | full h1 h2 h => exact .inr rfl
  | ok h1 h2 h T o1 L1 hp hl => exact absurd ⟨h1, h2, h⟩ hf
theorem Placed.fitT {L : List Od} {last : Int} {o : Od} {T : List Td} {n e : Int} {L' : List Od} {last' : Int} (h : Placed L last o T n e L' last') (hf : OkO o ∧ last < o.id ∧ L.length < 32) (hn : ¬ NoneMeets o L) : e = 0 ∧ 0 < T.length := by
  cases h with
  | bad h => exact absurd ⟨hf.1, hf.2.1⟩ h
  | full h1 h2 h => omega
  | ok h1 h2 h T o1 L1 hp hl =>
    refine ⟨rfl, ?_⟩
    cases hp with
    | done _ _ hd =>
      rcases hd with hd | hd
      · have := h1.ct; omega
      · exact absurd hd hn
    | step _ x _ T o' L' h0 hb _ => simp
theorem not_of {xs : List Od} {i : Nat} (hi : i < xs.length) (h : ¬ ((xs.take i).length < 32 ∧ Fits (xs.take i) xs[i])) : ¬ OfK xs := fun hk => h ⟨by rw [List.length_take]; have := hk.1; omega, hk.2 i hi hi⟩
theorem not_of' {xs : List Od} {i : Nat} (hi : i < xs.length) (h : ¬ Fits (xs.take i) xs[i]) : ¬ OfK xs := fun hk => h (hk.2 i hi hi)
theorem RfB.app {w w' : World} {B x n : Nat} {u v : Value} {L L' : List Od} {last : Int} (h : RfB w B x u L last) (ht : Touch (fun k => u.ownBlock = some k) w w') (ho : w'.ownsRow B 35 6 v n (flatO L')) (hn : n = L'.length) (hv : v.ownBlock = u.ownBlock ∨ ∃ g, v.ownBlock = some g ∧ w.heap.size ≤ g) :
    RfB (w'.setCell ⟨x, 0, none⟩ v) B x v L' last := by
  subst hn
  have hb : Whl w' x 31 #[u, .int .i64 last] := (ht.block x h.blk.low (fun e => h.apart x e rfl)).trans h.blk
  have hx := h.blk.low
  have hap : ∀ g, v.ownBlock = some g → g ≠ x := fun g hg e => by
    rcases hv with e2 | ⟨g2, e2, h2⟩
    · rw [e2] at hg; exact h.apart g hg e
    · rw [e2] at hg; injection hg with hg; omega
  exact ⟨hb.set 0 v, own_set_ne ho (fun g hg => hap g hg), hap, h.low⟩
end Go.Proofs.Ytekelnkjigaofaa
