/- LoadPlays: the code's load and the document's side by side; their tables are one. -/
import Derived.Test.YtfakfnekcgkelaaLpF
import Derived.Test.YtfakfnekcgkelaaLpH
import Derived.Test.YtfakfnekcgkelaaLpJ
import Derived.Test.YtfakfnekcgkelaaLoadK
import Derived.Deep.DeepCutAuto
namespace Go.Proofs.Ytfakfnekcgkelaa
open Go.RowKit Go.MapKept
set_option linter.unusedVariables false
set_option linter.unusedSimpArgs false

/-- the code's load at pa, the document's at pb, all blocks apart; the blocks G are none of theirs -/
def Duo (G : Nat → Prop) (B pa pb : Nat) (K : Ks) (F : Fc) (w : World) : Prop :=
  ∃ fa fr, LdH w pa fa K ∧ RfS w pb fr F ∧ pa ≠ pb ∧ (∀ x ∈ fa, x ≠ pb ∧ fr ≠ some x ∧ B ≤ x) ∧ (∀ g, fr = some g → g ≠ pa ∧ B ≤ g) ∧ B ≤ pa ∧ B ≤ pb ∧ (∀ x, G x → x < w.heap.size ∧ x ≠ pa ∧ x ≠ pb ∧ x ∉ fa ∧ fr ≠ some x)
def KeepG (G : Nat → Prop) (w w' : World) : Prop := ∀ x, G x → w'.heap[x]? = w.heap[x]?
theorem Duo.keep {D G : Nat → Prop} {B pa pb : Nat} {K : Ks} {F : Fc} {w w' : World} (h : Duo G B pa pb K F w) (ht : Touch D w w') (hD : ∀ x, D x → G x ∨ w.heap.size ≤ x) : Duo G B pa pb K F w' := by
  obtain ⟨fa, fr, h1, h2, h3, h4, h5, h6, h7, h8⟩ := h
  have l1 := h1.low
  have l2 := h1.lows
  have l3 := h2.low
  have l4 := h2.lows
  have nd : ∀ x, x < w.heap.size → ¬ G x → ¬ D x := fun x hx hg hd => by
    rcases hD x hd with h | h
    · exact hg h
    · omega
  exact ⟨fa, fr, h1.keep ht (nd _ l1 fun hg => (h8 _ hg).2.1 rfl) (fun g hg => nd _ (l2 g hg) fun h => (h8 _ h).2.2.2.1 hg),
    h2.keep ht (nd _ l3 fun hg => (h8 _ hg).2.2.1 rfl) (fun g hg => nd _ (l4 g hg) fun h => (h8 _ h).2.2.2.2 hg), h3, h4, h5, h6, h7, fun x hx => ⟨Nat.lt_of_lt_of_le (h8 x hx).1 ht.size, (h8 x hx).2⟩⟩
theorem Duo.fresh {G : Nat → Prop} {B pa pb : Nat} {K : Ks} {F : Fc} {w w' : World} (h : Duo G B pa pb K F w) (ht : Touch (fun x => w.heap.size ≤ x) w w') (hs : w.heap.size < w'.heap.size) : Duo (fun x => x = w.heap.size) B pa pb K F w' := by
  obtain ⟨fa, fr, h1, h2, h3, h4, h5, h6, h7, h8⟩ := h
  have l1 := h1.low
  have l2 := h1.lows
  have l3 := h2.low
  have l4 := h2.lows
  refine ⟨fa, fr, h1.keep ht (by omega) (fun g hg => by have := l2 g hg; omega), h2.keep ht (by omega) (fun g hg => by have := l4 g hg; omega), h3, h4, h5, h6, h7, ?_⟩
  rintro x rfl
  exact ⟨hs, by omega, by omega, fun hx => by have := l2 _ hx; omega, fun hx => by have := l4 _ hx; omega⟩
theorem Duo.weak {G : Nat → Prop} {B pa pb : Nat} {K : Ks} {F : Fc} {w : World} (h : Duo G B pa pb K F w) : Duo (fun _ => False) B pa pb K F w := by
  obtain ⟨fa, fr, h1, h2, h3, h4, h5, h6, h7, h8⟩ := h
  exact ⟨fa, fr, h1, h2, h3, h4, h5, h6, h7, fun x hx => hx.elim⟩
theorem Duo.oks {G : Nat → Prop} {B pa pb : Nat} {K : Ks} {F : Fc} {w : World} (h : Duo G B pa pb K F w) : OKs K := by
  obtain ⟨fa, fr, h1, h2, h3⟩ := h
  exact h1.oks
theorem codeSide {G : Nat → Prop} {B pa pb : Nat} {K' : Ks} {F : Fc} {w w' : World} {fa fa2 : List Nat} {fr : Option Nat}
    (h2 : RfS w pb fr F) (l1 : pa < w.heap.size) (l2 : ∀ g ∈ fa, g < w.heap.size) (h3 : pa ≠ pb) (h4 : ∀ x ∈ fa, x ≠ pb ∧ fr ≠ some x ∧ B ≤ x) (h5 : ∀ g, fr = some g → g ≠ pa ∧ B ≤ g) (h6 : B ≤ pa) (h7 : B ≤ pb) (h8 : ∀ x, G x → x < w.heap.size ∧ x ≠ pa ∧ x ≠ pb ∧ x ∉ fa ∧ fr ≠ some x)
    (k1 : LdH w' pa fa2 K') (k2 : ∀ x ∈ fa2, x ∈ fa ∨ w.heap.size ≤ x) (ht : Touch (fun x => x = pa ∨ x ∈ fa) w w') : Duo G B pa pb K' F w' ∧ Below B w w' ∧ KeepG G w w' := by
  have l3 := h2.low
  have l4 := h2.lows
  refine ⟨⟨fa2, fr, k1, h2.keep ht (by rintro (h | h); exact h3 h.symm; exact (h4 _ h).1 rfl) (by rintro g hg (h | h); exact (h5 g hg).1 h; exact (h4 g h).2.1 hg), h3, fun x hx => ?_, h5, h6, h7, fun x hx => ⟨Nat.lt_of_lt_of_le (h8 x hx).1 ht.size, (h8 x hx).2.1, (h8 x hx).2.2.1, fun hx2 => ?_, (h8 x hx).2.2.2.2⟩⟩, ht.below (by omega) (by rintro k (h | h); omega; exact (h4 k h).2.2), fun x hx => ht.block x (h8 x hx).1 (by rintro (h | h); exact (h8 x hx).2.1 h; exact (h8 x hx).2.2.2.1 h)⟩
  · rcases k2 x hx with h | h
    · exact h4 x h
    · exact ⟨by omega, fun hb => by have := l4 x hb; omega, by omega⟩
  · rcases k2 x hx2 with h | h
    · exact (h8 x hx).2.2.2.1 h
    · have := (h8 x hx).1; omega
theorem refSide {G : Nat → Prop} {B pa pb : Nat} {K : Ks} {F' : Fc} {w w' : World} {fa : List Nat} {fr fr2 : Option Nat}
    (h1 : LdH w pa fa K) (l3 : pb < w.heap.size) (l4 : ∀ g, fr = some g → g < w.heap.size) (h3 : pa ≠ pb) (h4 : ∀ x ∈ fa, x ≠ pb ∧ fr ≠ some x ∧ B ≤ x) (h5 : ∀ g, fr = some g → g ≠ pa ∧ B ≤ g) (h6 : B ≤ pa) (h7 : B ≤ pb) (h8 : ∀ x, G x → x < w.heap.size ∧ x ≠ pa ∧ x ≠ pb ∧ x ∉ fa ∧ fr ≠ some x)
    (k1 : RfS w' pb fr2 F') (k2 : ∀ g, fr2 = some g → fr = some g ∨ w.heap.size ≤ g) (ht : Touch (fun x => x = pb ∨ fr = some x) w w') : Duo G B pa pb K F' w' ∧ Below B w w' ∧ KeepG G w w' := by
  have l1 := h1.low
  have l2 := h1.lows
  refine ⟨⟨fa, fr2, h1.keep ht (by rintro (h | h); exact h3 h; exact (h5 _ h).1 rfl) (by rintro g hg (h | h); exact (h4 g hg).1 h; exact (h4 g hg).2.1 h), k1, h3, fun x hx => ⟨(h4 x hx).1, fun hx2 => ?_, (h4 x hx).2.2⟩, fun g hg => ?_, h6, h7, fun x hx => ⟨Nat.lt_of_lt_of_le (h8 x hx).1 ht.size, (h8 x hx).2.1, (h8 x hx).2.2.1, (h8 x hx).2.2.2.1, fun hx2 => ?_⟩⟩, ht.below (by omega) (by rintro k (h | h); omega; exact (h5 k h).2), fun x hx => ht.block x (h8 x hx).1 (by rintro (h | h); exact (h8 x hx).2.2.1 h; exact (h8 x hx).2.2.2.2 h)⟩
  · rcases k2 x hx2 with h | h
    · exact (h4 x hx).2.1 h
    · have := l2 x hx; omega
  · rcases k2 g hg with h | h
    · exact h5 g h
    · exact ⟨by omega, by omega⟩
  · rcases k2 x hx2 with h | h
    · exact (h8 x hx).2.2.2.2 h
    · have := (h8 x hx).1; omega
theorem Duo.hitC {G : Nat → Prop} {B pa pb : Nat} {K : Ks} {F : Fc} {w : World} (h : Duo G B pa pb K F w) (z : Int) (s : ByteArray) :
    Calls Try.prog 7 #[.pointer (some ⟨pa, 0, none⟩), .int .i64 z, .string s] w fun e w' => e = .returned (.tuple #[]) ∧ Duo G B pa pb (hitK K z s.data.toList) F w' ∧ Below B w w' ∧ KeepG G w w' := by
  obtain ⟨fa, fr, h1, h2, h3, h4, h5, h6, h7, h8⟩ := h
  refine (hitLoad pa fa K z s w h1).mono ?_
  rintro e w' ⟨rfl, ⟨fa2, k1, k2⟩, ht⟩
  exact ⟨rfl, codeSide h2 h1.low h1.lows h3 h4 h5 h6 h7 h8 k1 k2 ht⟩
theorem Duo.fadeC {G : Nat → Prop} {B pa pb : Nat} {K : Ks} {F : Fc} {w : World} (h : Duo G B pa pb K F w) :
    Calls Try.prog 9 #[.pointer (some ⟨pa, 0, none⟩)] w fun e w' => e = .returned (.tuple #[]) ∧ Duo G B pa pb (fadeK K) F w' ∧ Below B w w' ∧ KeepG G w w' := by
  obtain ⟨fa, fr, h1, h2, h3, h4, h5, h6, h7, h8⟩ := h
  refine (fadeLoad pa fa K w h1).mono ?_
  rintro e w' ⟨rfl, ⟨fa2, k1, k2⟩, ht⟩
  exact ⟨rfl, codeSide h2 h1.low h1.lows h3 h4 h5 h6 h7 h8 k1 (fun x hx => .inl (k2 x hx)) ht⟩
theorem Duo.goneC {G : Nat → Prop} {B pa pb : Nat} {K : Ks} {F : Fc} {w : World} (h : Duo G B pa pb K F w) (z : Int) :
    Calls Try.prog 11 #[.pointer (some ⟨pa, 0, none⟩), .int .i64 z] w fun e w' => e = .returned (.tuple #[]) ∧ Duo G B pa pb (goneK K z) F w' ∧ Below B w w' ∧ KeepG G w w' := by
  obtain ⟨fa, fr, h1, h2, h3, h4, h5, h6, h7, h8⟩ := h
  refine (goneLoad pa fa K z w h1).mono ?_
  rintro e w' ⟨rfl, ⟨fa2, k1, k2⟩, ht⟩
  exact ⟨rfl, codeSide h2 h1.low h1.lows h3 h4 h5 h6 h7 h8 k1 (fun x hx => .inl (k2 x hx)) ht⟩
theorem Duo.hitR {G : Nat → Prop} {B pa pb : Nat} {K K1 : Ks} {w : World} (h : Duo G B pa pb K1 (flatK K) w) (hK : OKs K) (hlen : (flatK K).length ≤ 100000) (z : Int) (s : ByteArray) :
    Calls Try.prog 8 #[.pointer (some ⟨pb, 0, none⟩), .int .i64 z, .string s] w fun e w' => e = .returned (.tuple #[]) ∧ Duo G B pa pb K1 (flatK (hitK K z s.data.toList)) w' ∧ Below B w w' ∧ KeepG G w w' := by
  obtain ⟨fa, fr, h1, h2, h3, h4, h5, h6, h7, h8⟩ := h
  refine (refHit pb fr (flatK K) z s w h2 hlen hK.flat (flat_pos hK)).mono ?_
  rintro e w' ⟨rfl, ⟨fr2, k1, k2⟩, ht⟩
  rw [hitF_flat hK] at k1
  exact ⟨rfl, refSide h1 h2.low h2.lows h3 h4 h5 h6 h7 h8 k1 k2 ht⟩
theorem Duo.fadeR {G : Nat → Prop} {B pa pb : Nat} {K K1 : Ks} {w : World} (h : Duo G B pa pb K1 (flatK K) w) (hK : OKs K) (hlen : (flatK K).length ≤ 100000) :
    Calls Try.prog 10 #[.pointer (some ⟨pb, 0, none⟩)] w fun e w' => e = .returned (.tuple #[]) ∧ Duo G B pa pb K1 (flatK (fadeK K)) w' ∧ Below B w w' ∧ KeepG G w w' := by
  obtain ⟨fa, fr, h1, h2, h3, h4, h5, h6, h7, h8⟩ := h
  refine (refFade pb fr (flatK K) w h2 hlen (fun c hc => by have := flat_pos hK c hc; omega)).mono ?_
  rintro e w' ⟨rfl, ⟨fr2, k1, k2⟩, ht⟩
  rw [fadeF_flat] at k1
  exact ⟨rfl, refSide h1 h2.low h2.lows h3 h4 h5 h6 h7 h8 k1 (fun g hg => .inr (k2 g hg)) (ht.mono fun k hk => .inl hk)⟩
theorem Duo.goneR {G : Nat → Prop} {B pa pb : Nat} {K K1 : Ks} {w : World} (h : Duo G B pa pb K1 (flatK K) w) (hlen : (flatK K).length ≤ 100000) (z : Int) :
    Calls Try.prog 12 #[.pointer (some ⟨pb, 0, none⟩), .int .i64 z] w fun e w' => e = .returned (.tuple #[]) ∧ Duo G B pa pb K1 (flatK (goneK K z)) w' ∧ Below B w w' ∧ KeepG G w w' := by
  obtain ⟨fa, fr, h1, h2, h3, h4, h5, h6, h7, h8⟩ := h
  refine (refGone pb fr (flatK K) z w h2 hlen).mono ?_
  rintro e w' ⟨rfl, ⟨fr2, k1, k2⟩, ht⟩
  rw [goneF_flat] at k1
  exact ⟨rfl, refSide h1 h2.low h2.lows h3 h4 h5 h6 h7 h8 k1 (fun g hg => .inr (k2 g hg)) (ht.mono fun k hk => .inl hk)⟩
theorem Duo.tabC {G : Nat → Prop} {B pa pb : Nat} {K : Ks} {F : Fc} {w : World} (h : Duo G B pa pb K F w) (hlen : K.length ≤ 1000) (hwf : ∀ p ∈ K, (Lit.int .i64 p.1).wf = true) :
    Calls Try.prog 14 #[.pointer (some ⟨pa, 0, none⟩)] w fun e w' => ∃ v, e = .returned v ∧ w'.ownsRow w.heap.size 43 3 v K.length (flatR (tabK K)) ∧ Below w.heap.size w w' := by
  obtain ⟨fa, fr, h1, _⟩ := h
  exact tableLoad pa fa K w h1 hlen hwf
theorem Duo.tabR {G : Nat → Prop} {B pa pb : Nat} {K K1 : Ks} {w : World} (h : Duo G B pa pb K1 (flatK K) w) (hK : OKs K) (hlen : (flatK K).length ≤ 100000) :
    Calls Try.prog 15 #[.pointer (some ⟨pb, 0, none⟩)] w fun e w' => ∃ v, e = .returned v ∧ w'.ownsRow w.heap.size 54 3 v K.length (flatR (tabK K)) ∧ Below w.heap.size w w' := by
  obtain ⟨fa, fr, h1, h2, _⟩ := h
  exact refTable pb fr K w h2 hlen hK
/-- how large a load may be behind n acts -/
structure Fits (n : Nat) (K : Ks) : Prop where
  zones : K.length ≤ n
  cells : (flatK K).length ≤ n
  wf : ∀ p ∈ K, (Lit.int .i64 p.1).wf = true
theorem Fits.nil : Fits 0 [] := ⟨Nat.le_refl _, Nat.le_refl _, by simp⟩
theorem Fits.next {n : Nat} {K : Ks} (h : Fits n K) : Fits (n + 1) K := ⟨by have := h.zones; omega, by have := h.cells; omega, h.wf⟩
theorem Fits.hit {n : Nat} {K : Ks} (h : Fits n K) (hK : OKs K) {z : Int} (hz : (Lit.int .i64 z).wf = true) (k : By) : Fits (n + 1) (hitK K z k) := by
  refine ⟨by have := hit_len K z k; have := h.zones; omega, ?_, ?_⟩
  · rw [← hitF_flat hK]
    have hc := h.cells
    unfold hitF
    split
    · have := upd_len (lt := ltP) (z, k) (fun c => c.getD 0 + 1) (flatK K); omega
    · omega
  · intro p hp
    unfold hitK at hp
    split at hp
    · rcases mem_upd hp with e | hp
      · rw [e]; exact hz
      · exact h.wf p hp
    · exact h.wf p hp
theorem Fits.fade {n : Nat} {K : Ks} (h : Fits n K) : Fits (n + 1) (fadeK K) := by
  refine ⟨?_, ?_, ?_⟩
  · have h1 : (fadeK K).length ≤ K.length := by
      unfold fadeK
      refine Nat.le_trans (List.length_filter_le _ _) ?_
      rw [List.length_map]; exact Nat.le_refl _
    have := h.zones; omega
  · rw [← fadeF_flat]
    have h1 : (fadeF (flatK K)).length ≤ (flatK K).length := by
      unfold fadeF
      refine Nat.le_trans (List.length_filter_le _ _) ?_
      rw [List.length_map]; exact Nat.le_refl _
    have := h.cells; omega
  · intro p hp
    unfold fadeK at hp
    obtain ⟨q, hq, rfl⟩ := List.mem_map.1 (List.mem_filter.1 hp).1
    exact h.wf q hq
theorem Fits.gone {n : Nat} {K : Ks} (h : Fits n K) (z : Int) : Fits (n + 1) (goneK K z) := by
  refine ⟨?_, ?_, ?_⟩
  · have h1 : (goneK K z).length ≤ K.length := List.length_filter_le _ _
    have := h.zones; omega
  · rw [← goneF_flat]
    have h1 : (goneF (flatK K) z).length ≤ (flatK K).length := List.length_filter_le _ _
    have := h.cells; omega
  · intro p hp
    exact h.wf p (List.mem_filter.1 hp).1
end Go.Proofs.Ytfakfnekcgkelaa
