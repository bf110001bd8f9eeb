/- A load in memory: Fade. -/
import Derived.Test.YtfakfnekcgkelaaLpC
import Derived.Test.YtfakfnekcgkelaaLpB
namespace Go.Proofs.Ytfakfnekcgkelaa
open Go.RowKit Go.MapKept
set_option linter.unusedVariables false
set_option linter.unusedSimpArgs false

theorem get1_filter {α β : Type} [DecidableEq α] (p : β → Bool) (k : α) : ∀ {l : List (α × β)}, (l.map (·.1)).Nodup → get1 k (l.filter fun q => p q.2) = (get1 k l).filter p
  | [], _ => rfl
  | (a, v) :: r, hn => by
    simp only [List.map_cons, List.nodup_cons] at hn
    have ih := get1_filter p k hn.2
    rw [List.filter_cons]
    by_cases e : a = k
    · subst e
      by_cases hp : p v = true
      · simp [hp, get1, Option.filter]
      · have hno : get1 a (r.filter fun q => p q.2) = none := by
          rw [get1_none]
          exact fun hm => hn.1 ((List.Sublist.map _ List.filter_sublist).subset hm)
        simp only [hp, Bool.false_eq_true, if_false, hno, get1, if_true, Option.filter]
    · by_cases hp : p v = true
      · simp only [hp, if_true, get1, if_neg e]; exact ih
      · simp only [hp, Bool.false_eq_true, if_false, get1, if_neg e]; exact ih
def half0 (o : Option Int) : Option Int := (o.map (· / 2)).filter (fun n => decide (0 < n))
theorem get_half {m : Km} (hn : (m.map (·.1)).Nodup) (k : By) : get1 k (halfM m) = half0 (get1 k m) := by
  unfold halfM half0
  rw [get1_filter (fun n : Int => decide (0 < n)) k (by rw [List.map_map]; exact hn), get1_map (fun n : Int => n / 2)]
theorem get_fade {K : Ks} (h : OKs K) (z : Int) : get1 z (fadeK K) = (get1 z K).bind fun m => if halfM m = [] then none else some (halfM m) := by
  unfold fadeK
  rw [get1_filter (fun m : Km => !m.isEmpty) z (by rw [List.map_map]; exact h.sorted.nodup sI), get1_map halfM]
  cases get1 z K with
  | none => rfl
  | some m =>
    simp only [Option.map_some, Option.bind_some, Option.filter]
    cases halfM m <;> simp
theorem nil_of_get {α β : Type} [DecidableEq α] {l : List (α × β)} (h : ∀ k, get1 k l = none) : l = [] := by
  cases l with
  | nil => rfl
  | cons p r => have := h p.1; simp [get1] at this
structure FadeInv (E rest : Ez) (K : Ks) : Prop where
  rn : (rest.map (·.1)).Nodup
  en : (E.map (·.1)).Nodup
  sub : ∀ e ∈ rest, e ∈ E
  met : ∀ z, z ∉ rest.map (·.1) → RelO (get1 z (zEz E)) (get1 z (fadeK K))
  left : ∀ z, z ∈ rest.map (·.1) → RelO (get1 z (zEz E)) (get1 z K)
theorem FadeInv.at {E p q : Ez} {K : Ks} {z : Int} {kb : Nat} {l : Km} (h : FadeInv E (p ++ (z, kb, l) :: q) K) : get1 z E = some (kb, l) ∧ ∃ m, get1 z K = some m ∧ (l.map (·.1)).Nodup ∧ ∀ k, get1 k l = get1 k m := by
  have hm := h.sub (z, kb, l) (by simp)
  have hg := get1_of_mem h.en hm
  have hl := h.left z (by simp)
  rw [get_zEz, hg] at hl
  simp only [Option.map_some] at hl
  cases hk : get1 z K with
  | none => rw [hk] at hl; exact absurd hl id
  | some m => rw [hk] at hl; exact ⟨hg, m, rfl, hl.1, hl.2⟩
theorem FadeInv.step {E p q : Ez} {K : Ks} {z : Int} {kb : Nat} {l l2 : Km} (hK : OKs K) (h : FadeInv E (p ++ (z, kb, l) :: q) K) (hl2 : (l2.map (·.1)).Nodup) (hg2 : ∀ k, get1 k l2 = half0 (get1 k l)) :
    (l2 ≠ [] → FadeInv (put1 z (kb, l2) E) (p ++ q) K) ∧ (l2 = [] → FadeInv (del1 z E) (p ++ q) K) := by
  obtain ⟨hgE, m, hgK, hln, hlm⟩ := h.at
  have hrn := h.rn
  simp only [List.map_append, List.map_cons] at hrn
  have hmid := nodup_mid hrn
  have hzn : z ∉ (p ++ q).map (·.1) := by rw [List.map_append]; exact (List.nodup_cons.1 hmid).1
  have hrn' : ((p ++ q).map (·.1)).Nodup := by rw [List.map_append]; exact (List.nodup_cons.1 hmid).2
  have hm := (hK.each _ (get1_mem hgK)).2
  have hmn := hm.sorted.nodup sB
  have hhm : ∀ k, get1 k (halfM m) = get1 k l2 := fun k => by rw [get_half hmn, hg2, hlm]
  have hrest : ∀ z', z' ≠ z → (z' ∈ (p ++ (z, kb, l) :: q).map (·.1) ↔ z' ∈ (p ++ q).map (·.1)) := fun z' hne => by simp [hne]
  have hsub : ∀ e ∈ p ++ q, e ∈ E ∧ e.1 ≠ z := fun e he => ⟨h.sub e (by simp at he ⊢; rcases he with h | h; exact .inl h; exact .inr (.inr h)), fun e2 => hzn (by rw [← e2]; exact List.mem_map.2 ⟨e, he, rfl⟩)⟩
  have hfade := get_fade hK z
  rw [hgK] at hfade
  simp only [Option.bind_some] at hfade
  refine ⟨fun hne => ⟨hrn', nodup_put1 h.en, ?_, ?_, ?_⟩, fun he0 => ⟨hrn', nodup_del1 h.en, ?_, ?_, ?_⟩⟩
  · intro e he
    obtain ⟨h1, h2⟩ := hsub e he
    have hge := get1_of_mem (k := e.1) (v := e.2) h.en h1
    have := get1_mem (k := e.1) (v := e.2) (l := put1 z (kb, l2) E) (by rw [get1_put1, if_neg (fun e3 => h2 e3.symm)]; exact hge)
    exact this
  · intro z' hz'
    rw [put_zEz, get1_put1]
    by_cases e : z = z'
    · subst e
      rw [if_pos rfl, hfade, if_neg (fun e => hne (nil_of_get (fun k => by rw [← hhm, e]; rfl)))]
      exact ⟨hl2, fun k => (hhm k).symm⟩
    · rw [if_neg e]
      exact h.met z' (fun hh => hz' ((hrest z' (fun e2 => e e2.symm)).1 hh))
  · intro z' hz'
    rw [put_zEz, get1_put1, if_neg (fun e => hzn (by rw [e]; exact hz'))]
    exact h.left z' ((hrest z' (fun e => hzn (by rw [← e]; exact hz'))).2 hz')
  · intro e he
    obtain ⟨h1, h2⟩ := hsub e he
    exact List.mem_filter.2 ⟨h1, by simp [h2]⟩
  · intro z' hz'
    rw [del_zEz, get1_del1]
    by_cases e : z = z'
    · subst e
      rw [if_pos rfl, hfade, if_pos (nil_of_get (fun k => by rw [hhm, he0]; rfl))]
      trivial
    · rw [if_neg e]
      exact h.met z' (fun hh => hz' ((hrest z' (fun e2 => e e2.symm)).1 hh))
  · intro z' hz'
    rw [del_zEz, get1_del1, if_neg (fun e => hzn (by rw [e]; exact hz'))]
    exact h.left z' ((hrest z' (fun e => hzn (by rw [← e]; exact hz'))).2 hz')
theorem vEz_split {rest : Ez} {pre post : List (Int × Value)} {k : Int} {v : Value} (h : vEz rest = pre ++ (k, v) :: post) : ∃ p kb l q, rest = p ++ (k, kb, l) :: q ∧ v = .map (some kb) ∧ pre ++ post = vEz (p ++ q) := by
  unfold vEz at h
  obtain ⟨p, t, rfl, e1, e2⟩ := List.map_eq_append_iff.1 h
  obtain ⟨⟨k', kb, l⟩, q, rfl, e3, e4⟩ := List.map_eq_cons_iff.1 e2
  simp only [Prod.mk.injEq] at e3
  obtain ⟨rfl, rfl⟩ := e3
  exact ⟨p, kb, l, q, rfl, rfl, by rw [← e1, ← e4, vEz, List.map_append]⟩
theorem nz_get {l : Km} (hn : (l.map (·.1)).Nodup) (k : By) : get1 k (nzM l) = (get1 k l).filter (fun n => decide (n ≠ 0)) := get1_filter (fun n : Int => decide (n ≠ 0)) k hn
end Go.Proofs.Ytfakfnekcgkelaa
