/- The document's vault: set, whole; keys; Put, Take, pays. -/
import Derived.Test.YtdlbiobjnohfbaaGreatVb33
namespace Go.Proofs.YtdlbiobjnohfbaaGreat
open Go.RowKit Go.ChangeMaps Go.MapKept
set_option linter.unusedVariables false
set_option linter.unusedSimpArgs false
theorem RvH.setd {w W1 w' : World} {B d x : Nat} {u u' u2 : Value} {r r' : Pm} {L : List Od} {last nx : Int} (h : RvH w B d x u u2 r L last nx) (hb : Below w.heap.size w W1) (hs : w.heap.size ≤ W1.heap.size)
  (h1 : Whl w' d 65 #[u', .pointer (some ⟨x, 0, none⟩), .int .i64 nx]) (h2 : w'.ownsRow W1.heap.size 85 5 u' r'.length (flatH r')) (h3 : Touch (fun j => j = d) W1 w') (h4 : ∀ g, u'.ownBlock = some g → W1.heap.size ≤ g) :
  RvH w' B d x u' u2 r' L last nx ∧ Touch (fun j => j = d) w w' ∧ (∀ g, u'.ownBlock = some g → w.heap.size ≤ g) := by
 have hlo := h.lows
 have hB : B ≤ w.heap.size := by have := hlo d (.inl (.inl rfl)); omega
 have hW1 := h.below hb
 have hlo1 := hW1.lows
 refine ⟨⟨h1, Go.World.ownsRow.mono h2 (by omega), hW1.bk.keep h3 (fun k hk e => ?_), h.low, h.dx, fun e => ?_, fun e => ?_, h.vd, fun g hg e => ?_⟩, ?_, fun g hg => by have := h4 g hg; omega⟩
 ·
  subst e
  rcases hk with e | e
  · exact h.dx e
  · exact h.vd e
 ·
  have := h4 d e
  have := (hlo d (.inl (.inl rfl))).2
  omega
 ·
  have := h4 x e
  have := (hlo x (.inr (.inl rfl))).2
  omega
 ·
  have := h4 g hg
  have := (hlo g (.inr (.inr e))).2
  omega
 · exact ((Touch.of_below hb).mono'' (fun k hk hd => by omega)).trans h3 (fun _ _ h => h)
theorem refSet (B d x : Nat) (u u2 : Value) (r : Pm) (L : List Od) (last nx : Int) (s : ByteArray) (x0 x1 x2 x3 : Int) (w : World) (h : RvH w B d x u u2 r L last nx) (hlen : r.length ≤ 1000) :
  Calls Tryz.prog 63 #[.pointer (some ⟨d, 0, none⟩), .string s, .agg #[.int .i64 x0, .int .i64 x1, .int .i64 x2, .int .i64 x3]] w fun e w' => ∃ u', e = .returned (.tuple #[]) ∧ RvH w' B d x u' u2 (setS s.data.toList (x0, x1, x2, x3) r) L last nx ∧ Touch (fun j => j = d) w w' ∧ (∀ g, u'.ownBlock = some g → w.heap.size ≤ g) := by
 obtain ⟨W1, hW1⟩ : ∃ W1, W1 = w.alloc (.cells #[.int .i64 x0, .int .i64 x1, .int .i64 x2, .int .i64 x3] 36) := ⟨_, rfl⟩
 have B1 : Below w.heap.size w W1 := by rw [hW1]; exact (Below.refl _ _).alloc (Nat.le_refl _) _
 have hs1 : w.heap.size ≤ W1.heap.size := B1.size
 have h1 := h.below B1
 have hdw : d < w.heap.size := h.whl.low
 have fin : ∀ (e : Ending) (w' : World), (∃ u', e = .returned (.tuple #[]) ∧ Whl w' d 65 #[u', .pointer (some ⟨x, 0, none⟩), .int .i64 nx] ∧ w'.ownsRow W1.heap.size 85 5 u' (setS s.data.toList (x0, x1, x2, x3) r).length (flatH (setS s.data.toList (x0, x1, x2, x3) r)) ∧ Touch (fun j => j = d) W1 w' ∧ (∀ g, u'.ownBlock = some g → W1.heap.size ≤ g)) →
   ∃ u', e = .returned (.tuple #[]) ∧ RvH w' B d x u' u2 (setS s.data.toList (x0, x1, x2, x3) r) L last nx ∧ Touch (fun j => j = d) w w' ∧ (∀ g, u'.ownBlock = some g → w.heap.size ≤ g) := by
  rintro e w' ⟨u', e1, k1, k2, k3, k4⟩
  exact ⟨u', e1, h.setd B1 hs1 k1 k2 k3 k4⟩
 have hsl := spotS_le s.data.toList r
 have hrow0 : W1.ownsRow 0 85 5 u r.length (flatH r) := Go.World.ownsRow.mono h1.row (Nat.zero_le _)
 obtain ⟨A, c, rfl, hA0, hlc, hcm⟩ := own_slice h1.row
 obtain ⟨i, hi⟩ : ∃ i, i = (spotS s.data.toList r).1 := ⟨_, rfl⟩
 obtain ⟨fd, hfd⟩ : ∃ f, f = (spotS s.data.toList r).2 := ⟨_, rfl⟩
 have hsi : spotS s.data.toList r = (i, fd) := by rw [hi, hfd]
 rw [← hi, ← hfd] at hsl
 have hd := h1.whl
 cases A with
 | none =>
  have hr0 : r.length = 0 := by
   rcases h1.row.2 with ⟨_, h0⟩ | ⟨g0, _, _, e, _⟩
   · exact h0
   · injection e with e; cases e
  obtain rfl : c = 0 := hA0 rfl
  have hfd0 : fd = false := by
   cases fd with
   | false => rfl
   | true => have := hsl.2 rfl; omega
  subst hfd0
  obtain rfl : i = 0 := by omega
  rw [hr0] at hd hrow0
  by_cases hz : x0 = 0 ∧ x1 = 0 ∧ x2 = 0 ∧ x3 = 0
  ·
   obtain ⟨rfl, rfl, rfl, rfl⟩ := hz
   exact (refSetN0 d _ _ r s w W1 hW1 hd (by rw [hr0]; exact hrow0) (by omega) hdw hr0 hsi).mono (fun e w' h => fin e w' h)
  · exact (refSetN1 d _ _ r s x0 x1 x2 x3 (fun a b c e => hz ⟨a, b, c, e⟩) w W1 hW1 hd (by rw [hr0]; exact hrow0) (by omega) hdw hr0 hsi).mono (fun e w' h => fin e w' h)
 | some ad =>
  have hgf : ∃ gu, ad = ⟨gu, 0, none⟩ := by
   rcases h1.row.2 with ⟨e, _⟩ | ⟨g0, _, _, e, _⟩
   · cases e
   · injection e with e; injection e with e; exact ⟨g0, e⟩
  obtain ⟨gu, rfl⟩ := hgf
  cases fd with
  | false =>
   by_cases hic : i = c
   ·
    subst hic
    have hl : r.length = i := by omega
    rw [hl] at hd
    have hrow1 := hrow0
    rw [hl] at hrow1
    by_cases hz : x0 = 0 ∧ x1 = 0 ∧ x2 = 0 ∧ x3 = 0
    ·
     obtain ⟨rfl, rfl, rfl, rfl⟩ := hz
     exact (refSetC0 d gu i _ _ r s w W1 hW1 hd (by rw [hl]; exact hrow1) hlen hdw hl hcm hsi).mono (fun e w' h => fin e w' h)
    · exact (refSetC1 d gu i _ _ r s x0 x1 x2 x3 (fun a b c e => hz ⟨a, b, c, e⟩) w W1 hW1 hd (by rw [hl]; exact hrow1) hlen hdw hl hcm hsi).mono (fun e w' h => fin e w' h)
   ·
    by_cases hz : x0 = 0 ∧ x1 = 0 ∧ x2 = 0 ∧ x3 = 0
    ·
     obtain ⟨rfl, rfl, rfl, rfl⟩ := hz
     exact (refSetD0 d gu i c _ _ r s w W1 hW1 hd hrow0 hlen hdw (by omega) hsl.1 hlc hcm hsi).mono (fun e w' h => fin e w' h)
    · exact (refSetD1 d gu i c _ _ r s x0 x1 x2 x3 (fun a b c e => hz ⟨a, b, c, e⟩) w W1 hW1 hd hrow0 hlen hdw (by omega) hsl.1 hlc hcm hsi).mono (fun e w' h => fin e w' h)
  | true =>
   have hil := hsl.2 rfl
   by_cases hic : i + 1 = c
   ·
    have hl : r.length = c := by omega
    by_cases hz : x0 = 0 ∧ x1 = 0 ∧ x2 = 0 ∧ x3 = 0
    ·
     obtain ⟨rfl, rfl, rfl, rfl⟩ := hz
     exact (refSetE0 d gu i c _ _ r s w W1 hW1 hd hrow0 hlen hdw hic hl hcm hsi).mono (fun e w' h => fin e w' h)
    · exact (refSetE1 d gu i c _ _ r s x0 x1 x2 x3 (fun a b c e => hz ⟨a, b, c, e⟩) w W1 hW1 hd hrow0 hlen hdw hic hl hcm hsi).mono (fun e w' h => fin e w' h)
   ·
    by_cases hz : x0 = 0 ∧ x1 = 0 ∧ x2 = 0 ∧ x3 = 0
    ·
     obtain ⟨rfl, rfl, rfl, rfl⟩ := hz
     exact (refSetG0 d gu i c _ _ r s w W1 hW1 hd hrow0 hlen hdw (by omega) hil hlc hcm hsi).mono (fun e w' h => fin e w' h)
    · exact (refSetG1 d gu i c _ _ r s x0 x1 x2 x3 (fun a b c e => hz ⟨a, b, c, e⟩) w W1 hW1 hd hrow0 hlen hdw (by omega) hil hlc hcm hsi).mono (fun e w' h => fin e w' h)
end Go.Proofs.YtdlbiobjnohfbaaGreat
