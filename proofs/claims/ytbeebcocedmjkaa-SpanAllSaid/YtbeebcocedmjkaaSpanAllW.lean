/- The walk of the law SpanAll: it returns true. -/
import Derived.Test.YtbeebcocedmjkaaSpanRAll
import Derived.Laws.AppendOwnNone
import Derived.Deep.AppendLies
namespace Go.Proofs.Ytbeebcocedmjkaa
open Go.RowKit
set_option linter.unusedVariables false
set_option linter.unusedSimpArgs false

def flatB : List (ByteArray × ByteArray) → List Value
  | [] => []
  | p :: r => .string p.1 :: .string p.2 :: flatB r
theorem flatB_length (xs : List (ByteArray × ByteArray)) : (flatB xs).length = xs.length * 2 := by
  induction xs with
  | nil => rfl
  | cons p r ih => simp only [flatB, List.length_cons, ih]; omega
theorem flatB_get : ∀ (xs : List (ByteArray × ByteArray)) (k : Nat) (h : k < xs.length), (flatB xs)[k * 2]? = some (.string xs[k].1) ∧ (flatB xs)[k * 2 + 1]? = some (.string xs[k].2)
  | p :: r, 0, _ => ⟨rfl, rfl⟩
  | p :: r, k + 1, h => by
    have := flatB_get r k (by simpa using h)
    simp only [flatB, List.getElem_cons_succ]
    rw [show (k + 1) * 2 = k * 2 + 1 + 1 from by omega, show k * 2 + 1 + 1 + 1 = (k * 2 + 1) + 1 + 1 from by omega]
    simpa using this
theorem flatB_one (xs : List (ByteArray × ByteArray)) : ∀ u ∈ flatB xs, u.oneCell' = true := by
  induction xs with
  | nil => simp [flatB]
  | cons p r ih => intro u hu; simp only [flatB, List.mem_cons] at hu; rcases hu with rfl | rfl | hu
                   · rfl
                   · rfl
                   · exact ih u hu
theorem add_none (b o j : Nat) : (⟨b, o, none⟩ : Addr).add j = ⟨b, o + j, none⟩ := by
  unfold Addr.add; split <;> simp_all
theorem spans_news {w : World} {B : Nat} {ad : Addr} {xs : List (ByteArray × ByteArray)} (h : Spans w B (some ad) xs) : ∀ (j : Nat) (u : Value), (flatB xs)[j]? = some u → w.cell? (ad.add j) = some u := by
  intro j u hu
  have hj : j < (flatB xs).length := (List.getElem?_eq_some_iff.1 hu).1
  rw [flatB_length] at hj
  obtain ⟨b, o, e, _, h1, h2⟩ := h (j / 2) (by omega)
  injection e with e
  subst e
  obtain ⟨e1, e2⟩ := flatB_get xs (j / 2) (by omega)
  rcases Nat.mod_two_eq_zero_or_one j with hm | hm
  · have hj2 : j = j / 2 * 2 := by omega
    rw [add_none, hj2, h1, ← hu]
    conv => rhs; rw [hj2]
    exact e1.symm
  · have hj2 : j = j / 2 * 2 + 1 := by omega
    rw [add_none, hj2, ← Nat.add_assoc, h2, ← hu]
    conv => rhs; rw [hj2]
    exact e2.symm
theorem owns_spans {w : World} {base g cap e : Nat} {xs : List (ByteArray × ByteArray)} (h : w.ownsRow base e 2 (.slice (some ⟨g, 0, none⟩) xs.length cap) xs.length (flatB xs)) (hg : g < w.heap.size) : Spans w w.heap.size (some ⟨g, 0, none⟩) xs := by
  intro k hk
  obtain ⟨e1, e2⟩ := flatB_get xs k hk
  refine ⟨g, 0, rfl, hg, ?_, ?_⟩
  · rw [Nat.zero_add, h.cellAt (k * 2) (by omega)]; exact e1
  · rw [Nat.zero_add, h.cellAt (k * 2 + 1) (by omega)]; exact e2
theorem spans_keep {w w1 : World} {B B' : Nat} {A : Option Addr} {xs : List (ByteArray × ByteArray)} (h : Spans w B A xs) (hb : Below B w w1) (hB : B ≤ B') : Spans w1 B' A xs := by
  intro k hk
  obtain ⟨b, o, e, hlt, h1, h2⟩ := h k hk
  exact ⟨b, o, e, by omega, bkeep hb h1 hlt, bkeep hb h2 hlt⟩

theorem Try.infoSpan : (Try.prog.info? 45).map (fun i => (i.zero, i.size, i.bytes)) = some (some (.agg #[.string ⟨#[]⟩, .string ⟨#[]⟩]), 2, 32) := by kernel_rfl

theorem spanAll0 (A : Option Addr) (c : Nat) (w : World) :
    Calls Try.prog 43 #[.slice A 0 c] w fun e w' => e = .returned (.bool false) ∧ Below w.heap.size w w' := by
  go_enter Try.func43, Try.ntmps43
  go_wp2_with fail
  go_ret
  exact ⟨rfl, Below.refl _ _⟩

theorem own_form {w : World} {base e size n : Nat} {v : Value} {xs : List Value} (h : w.ownsRow base e size v n xs) (hn : 0 < n) : ∃ g cap, v = .slice (some ⟨g, 0, none⟩) n cap ∧ base ≤ g ∧ g < w.heap.size ∧ n ≤ cap := by
  rcases h.2 with ⟨_, h0⟩ | ⟨g, cap, cur, hv, hg, hh, hc, _⟩
  · omega
  · exact ⟨g, cap, hv, hg, (Array.getElem?_eq_some_iff.1 hh).1, hc⟩
theorem own_slice {w : World} {base e size n : Nat} {v : Value} {xs : List Value} (h : w.ownsRow base e size v n xs) : ∃ A cap, v = .slice A n cap := by
  rcases h.2 with ⟨hv, h0⟩ | ⟨g, cap, cur, hv, hg, hh, hc, _⟩
  · subst h0; exact ⟨_, _, hv⟩
  · exact ⟨_, _, hv⟩
theorem spans_news_alloc {w : World} {ad : Addr} {xs : List (ByteArray × ByteArray)} (h : Spans w w.heap.size (some ad) xs) (ob : Obj) : ∀ (j : Nat) (u : Value), (flatB xs)[j]? = some u → (w.alloc ob).cell? (ad.add j) = some u := by
  intro j u hu
  have hj : j < (flatB xs).length := (List.getElem?_eq_some_iff.1 hu).1
  rw [flatB_length] at hj
  obtain ⟨b, o, e, hb, _, _⟩ := h (j / 2) (by omega)
  have := spans_news h j u hu
  injection e with e
  subst e
  rw [add_none] at this ⊢
  exact c_alloc hb this

set_option maxHeartbeats 1000000 in
theorem walkAll1 (ad : Addr) (c : Nat) (f t : ByteArray) (r : List (ByteArray × ByteArray)) (w : World) (hl : r.length + 1 ≤ 100) (hcap : r.length + 1 ≤ c) (hx : Spans w w.heap.size (some ad) ((f, t) :: r)) (hh : heavyB ((f, t) :: r) = false) :
    Calls Try.prog 12 #[.slice (some ad) (r.length + 1) c] w fun e w' => e = .returned (.bool true) ∧ Below w.heap.size w w' := by
  obtain ⟨i0, hi, hz0, hz1, hz2⟩ := info_parts Try.infoSpan
  have HX := Lib.hid hx
  have HN := Lib.hid (spans_news_alloc hx (.cells #[] 45))
  clear hx
  have hl2 : decide ((100 : Int) < (r.length : Int) + 1) = false := by simp; omega
  go_enter Try.func12, Try.ntmps12
  go_wp2_with fail
  refine (spanHeavy (some ad) c ((f, t) :: r) _ (by simp; omega) HX.out).mono ?_
  rintro e w1 ⟨rfl, rfl⟩
  go_wp2_with (at_builtin; go_must (refine wpList_append_own _ rfl (.tmp 10) (.tmp 11) 54 rfl w.heap.size 45 i0 (.agg #[.string ⟨#[]⟩, .string ⟨#[]⟩]) 2 32 Try.underlying54 hi hz0 hz1 hz2 rfl (by decide) _ 0 [] rfl (World.ownsRow_lit w #[] 0 (Nat.le_refl _) (by decide) rfl) ad (r.length + 1) c (flatB ((f, t) :: r)) rfl (flatB_length _) HN.out (flatB_one _) (by unfold maxLen; omega) (by omega) (by simp) ?_); intro v' w1 hown hgrow hiff)
  simp only [Nat.zero_add, List.nil_append] at hown
  obtain ⟨g, cap, rfl, hg1, hg2, hcap2⟩ := own_form hown (by omega)
  have hB : Below w.heap.size w w1 := ((Below.refl w.heap.size w).alloc (Nat.le_refl _) _).grown hgrow (by simp) (fun k hk => by have hk2 : some w.heap.size = some k := hk; injection hk2 with hk3; omega)
  have hs1 := hB.size
  refine (spanAll1 (some ⟨g, 0, none⟩) cap f t r _ (by omega) hcap2 (owns_spans hown hg2)).mono ?_
  rintro e w2 ⟨rfl, hb2⟩
  have hB2 := hB.trans (hb2.mono hs1)
  have hs2 := hB2.size
  go_wp2_with fail
  refine (refAll (some ad) c ((f, t) :: r) _ (by simp; omega) (spans_keep HX.out hB2 hs2)).mono ?_
  rintro e w3 ⟨rfl, hb3⟩
  have hB3 := hB2.trans (hb3.mono hs2)
  have hs3 := hB3.size
  go_wp2_with fail
  refine (spanKnown _).mono ?_
  rintro e w4 ⟨rfl, hb4⟩
  go_wp2_with fail
  go_ret
  exact ⟨rfl, hB3.trans (hb4.mono hs3)⟩

theorem walkAllNil (A : Option Addr) (c : Nat) (w : World) (hc : A = none → c = 0) :
    Calls Try.prog 12 #[.slice A 0 c] w fun e w' => e = .returned (.bool true) ∧ Below w.heap.size w w' := by
  obtain ⟨i0, hi, hz0, hz1, hz2⟩ := info_parts Try.infoSpan
  have h0 : Spans w w.heap.size A [] := fun k h => by cases h
  have hh : heavyB [] = false := rfl
  rcases A with _ | ad
  · obtain rfl := hc rfl
    go_enter Try.func12, Try.ntmps12
    go_wp2_with fail
    refine (spanHeavy none 0 [] _ (by simp) h0).mono ?_
    rintro e w1 ⟨rfl, rfl⟩
    go_wp2_with (at_builtin; go_must (refine wpList_append_own_none rfl (.tmp 10) (.tmp 11) 54 rfl w.heap.size 45 i0 2 Try.underlying54 hi _ 0 [] rfl (World.ownsRow_lit w #[] 0 (Nat.le_refl _) (by decide) rfl) rfl ?_))
    refine (spanAll0 _ _ _).mono ?_
    rintro e w2 ⟨rfl, hb2⟩
    have hB2 : Below w.heap.size w w2 := ((Below.refl w.heap.size w).alloc (Nat.le_refl _) _).trans (hb2.mono (by simp))
    have hs2 := hB2.size
    go_wp2_with fail
    refine (refAll none 0 [] _ (by simp) (spans_keep h0 hB2 hs2)).mono ?_
    rintro e w3 ⟨rfl, hb3⟩
    have hB3 := hB2.trans (hb3.mono hs2)
    have hs3 := hB3.size
    have ha : allB [] = false := rfl
    go_wp2_with fail
    refine (spanKnown _).mono ?_
    rintro e w4 ⟨rfl, hb4⟩
    go_wp2_with fail
    go_ret
    exact ⟨rfl, hB3.trans (hb4.mono hs3)⟩
  · go_enter Try.func12, Try.ntmps12
    go_wp2_with fail
    refine (spanHeavy (some ad) c [] _ (by simp) h0).mono ?_
    rintro e w1 ⟨rfl, rfl⟩
    go_wp2_with (at_builtin; go_must (refine wpList_append_own _ rfl (.tmp 10) (.tmp 11) 54 rfl w.heap.size 45 i0 (.agg #[.string ⟨#[]⟩, .string ⟨#[]⟩]) 2 32 Try.underlying54 hi hz0 hz1 hz2 rfl (by decide) _ 0 [] rfl (World.ownsRow_lit w #[] 0 (Nat.le_refl _) (by decide) rfl) ad 0 c [] rfl rfl (by simp) (by simp) (by unfold maxLen; omega) (by omega) (by simp) ?_); intro v' w1 hown hgrow hiff)
    simp only [Nat.zero_add, List.nil_append] at hown
    obtain ⟨A', cap', rfl⟩ := own_slice hown
    have hB : Below w.heap.size w w1 := ((Below.refl w.heap.size w).alloc (Nat.le_refl _) _).grown hgrow (by simp) (fun k hk => by have hk2 : some w.heap.size = some k := hk; injection hk2 with hk3; omega)
    have hs1 := hB.size
    refine (spanAll0 _ _ _).mono ?_
    rintro e w2 ⟨rfl, hb2⟩
    have hB2 := hB.trans (hb2.mono hs1)
    have hs2 := hB2.size
    go_wp2_with fail
    refine (refAll (some ad) c [] _ (by simp) (spans_keep h0 hB2 hs2)).mono ?_
    rintro e w3 ⟨rfl, hb3⟩
    have hB3 := hB2.trans (hb3.mono hs2)
    have hs3 := hB3.size
    have ha : allB [] = false := rfl
    go_wp2_with fail
    refine (spanKnown _).mono ?_
    rintro e w4 ⟨rfl, hb4⟩
    go_wp2_with fail
    go_ret
    exact ⟨rfl, hB3.trans (hb4.mono hs3)⟩

theorem walkAll (A : Option Addr) (c : Nat) (xs : List (ByteArray × ByteArray)) (w : World) (hc : A = none → c = 0) (hcap : xs.length ≤ c) (hc2 : c ≤ maxLen) (hx : Spans w w.heap.size A xs) :
    Calls Try.prog 12 #[.slice A xs.length c] w fun e w' => e = .returned (.bool true) ∧ Below w.heap.size w w' := by
  by_cases hl : xs.length ≤ 100
  · cases hh : heavyB xs
    · cases xs with
      | nil => exact walkAllNil A c w hc
      | cons p r =>
        obtain ⟨f, t⟩ := p
        cases A with
        | none => exact absurd (hc rfl) (by simp at hcap; omega)
        | some ad => exact walkAll1 ad c f t r w (by simpa using hl) (by simpa using hcap) hx hh
    · have hl2 : decide ((100 : Int) < (xs.length : Int)) = false := by simp; omega
      have HX := Lib.hid hx
      clear hx
      go_enter Try.func12, Try.ntmps12
      go_wp2_with fail
      refine (spanHeavy A c xs _ (by omega) HX.out).mono ?_
      rintro e w1 ⟨rfl, rfl⟩
      go_wp2_with fail
      go_ret
      exact ⟨rfl, Below.refl _ _⟩
  · have hl2 : (100 : Int) < (xs.length : Int) := by omega
    unfold maxLen at hc2
    go_enter Try.func12, Try.ntmps12
    go_wp2_with fail
    go_ret
    exact ⟨rfl, Below.refl _ _⟩

end Go.Proofs.Ytbeebcocedmjkaa
