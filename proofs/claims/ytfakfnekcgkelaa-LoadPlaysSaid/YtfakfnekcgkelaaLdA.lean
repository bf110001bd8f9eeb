/- Loads as sorted lists: what a hit makes of one, its table. -/
import Derived.Test.YtfakfnekcgkelaaMapB
namespace Go.Proofs.Ytfakfnekcgkelaa
open Go.RowKit
set_option linter.unusedVariables false
set_option linter.unusedSimpArgs false
set_option linter.unusedSectionVars false

abbrev By := List UInt8
/-- an order in which of two that are not one either is ahead -/
structure Strict {α : Type} (lt : α → α → Prop) : Prop where
  irr : ∀ a, ¬ lt a a
  tr : ∀ {a b c}, lt a b → lt b c → lt a c
  tot : ∀ {a b}, a ≠ b → ¬ lt a b → lt b a
theorem strictI : Strict (fun a b : Int => a < b) := ⟨fun a => by omega, fun h k => by omega, fun h k => by omega⟩
theorem strictB : Strict (fun a b : By => a < b) := ⟨fun a => List.lt_irrefl a, fun h k => List.lt_trans h k, fun {a b} h k => by
  by_cases h2 : b < a
  · exact h2
  · exact absurd (List.le_antisymm (List.not_lt.1 h2) (List.not_lt.1 k)) h⟩
section
variable {α β : Type} [DecidableEq α] (lt : α → α → Prop) [DecidableRel lt]
def upd (a : α) (f : Option β → β) : List (α × β) → List (α × β)
  | [] => [(a, f none)]
  | (x, v) :: r => if a = x then (x, f (some v)) :: r else if lt a x then (a, f none) :: (x, v) :: r else (x, v) :: upd a f r
def SortedA (l : List (α × β)) : Prop := l.Pairwise (fun p q => lt p.1 q.1)
variable {lt}
theorem SortedA.nodup (H : Strict lt) {l : List (α × β)} (h : SortedA lt l) : (l.map (·.1)).Nodup := by
  unfold SortedA at h
  unfold List.Nodup
  rw [List.pairwise_map]
  exact h.imp (fun {a b} (hl : lt a.1 b.1) (e : a.1 = b.1) => H.irr b.1 (by rw [e] at hl; exact hl))
theorem SortedA.tail {p : α × β} {l : List (α × β)} (h : SortedA lt (p :: l)) : SortedA lt l := (List.pairwise_cons.1 h).2
theorem get1_head (H : Strict lt) {a x : α} {v : β} {r : List (α × β)} (h : SortedA lt ((x, v) :: r)) (ha : lt a x) : get1 a ((x, v) :: r) = none := by
  rw [get1_none]
  simp only [List.map_cons, List.mem_cons, not_or]
  refine ⟨fun e => H.irr a (by subst e; exact ha), fun hm => ?_⟩
  obtain ⟨p, hp, rfl⟩ := List.mem_map.1 hm
  exact H.irr _ (H.tr ha ((List.pairwise_cons.1 h).1 p hp))
theorem get1_upd (H : Strict lt) (a j : α) (f : Option β → β) : ∀ {l : List (α × β)}, SortedA lt l → get1 j (upd lt a f l) = if a = j then some (f (get1 a l)) else get1 j l
  | [], _ => by simp [upd, get1]
  | (x, v) :: r, h => by
    simp only [upd]
    by_cases h1 : a = x
    · subst h1
      simp only [if_true, get1]
      split <;> rfl
    · rw [if_neg h1]
      by_cases h2 : lt a x
      · rw [if_pos h2, get1_head H h h2]
        by_cases h3 : a = j
        · simp [get1, h3]
        · simp [get1, h3]
      · rw [if_neg h2]
        simp only [get1]
        rw [get1_upd H a j f h.tail]
        by_cases h3 : a = j
        · subst h3; simp only [if_true, if_neg (fun e => h1 e.symm : ¬ x = a)]
        · simp only [if_neg h3]
theorem mem_upd {a : α} {f : Option β → β} : ∀ {l : List (α × β)} {p : α × β}, p ∈ upd lt a f l → p.1 = a ∨ p ∈ l
  | [], p, h => by simp [upd] at h; exact .inl (by rw [h])
  | (x, v) :: r, p, h => by
    simp only [upd] at h
    split at h
    · rename_i e; subst e
      rcases List.mem_cons.1 h with rfl | h
      · exact .inl rfl
      · exact .inr (List.mem_cons_of_mem _ h)
    · split at h
      · rcases List.mem_cons.1 h with rfl | h
        · exact .inl rfl
        · exact .inr h
      · rcases List.mem_cons.1 h with rfl | h
        · exact .inr List.mem_cons_self
        · rcases mem_upd h with h | h
          · exact .inl h
          · exact .inr (List.mem_cons_of_mem _ h)
theorem sorted_upd (H : Strict lt) (a : α) (f : Option β → β) : ∀ {l : List (α × β)}, SortedA lt l → SortedA lt (upd lt a f l)
  | [], _ => by simp [upd, SortedA]
  | (x, v) :: r, h => by
    simp only [upd]
    have hc := List.pairwise_cons.1 h
    split
    · exact List.pairwise_cons.2 ⟨fun p hp => hc.1 p hp, hc.2⟩
    · rename_i h1
      split
      · rename_i h2
        exact List.pairwise_cons.2 ⟨fun p hp => by
          rcases List.mem_cons.1 hp with rfl | hp
          · exact h2
          · exact H.tr h2 (hc.1 p hp), h⟩
      · rename_i h2
        refine List.pairwise_cons.2 ⟨fun p hp => ?_, sorted_upd H a f hc.2⟩
        rcases mem_upd hp with e | hp
        · show lt x p.1
          rw [e]; exact H.tot h1 h2
        · exact hc.1 p hp
theorem upd_ne (a : α) (f : Option β → β) (l : List (α × β)) : upd lt a f l ≠ [] := by
  cases l with
  | nil => simp [upd]
  | cons p r => obtain ⟨x, v⟩ := p; simp only [upd]; split <;> (try split) <;> simp
theorem perm_of_get {l m : List (α × β)} (hl : (l.map (·.1)).Nodup) (hm : (m.map (·.1)).Nodup) (h : ∀ k, get1 k l = get1 k m) : l.Perm m := by
  have nd : ∀ {x : List (α × β)}, (x.map (·.1)).Nodup → x.Nodup := fun {x} hx => by
    unfold List.Nodup at hx ⊢
    rw [List.pairwise_map] at hx
    exact hx.imp (fun hne e => hne (by rw [e]))
  rw [List.perm_ext_iff_of_nodup (nd hl) (nd hm)]
  rintro ⟨k, v⟩
  exact ⟨fun hk => get1_mem (by rw [← h k]; exact get1_of_mem hl hk), fun hk => get1_mem (by rw [h k]; exact get1_of_mem hm hk)⟩
theorem eq_of_get (H : Strict lt) {l m : List (α × β)} (hl : SortedA lt l) (hm : SortedA lt m) (h : ∀ k, get1 k l = get1 k m) : l = m := by
  refine List.Perm.eq_of_pairwise ?_ hl hm (perm_of_get (hl.nodup H) (hm.nodup H) h)
  intro a b _ _ h1 h2
  exact absurd (H.tr h1 h2) (H.irr _)
end
/- loads -/
abbrev Km := List (By × Int)
abbrev Ks := List (Int × Km)
def ltI : Int → Int → Prop := fun a b => a < b
def ltB : By → By → Prop := fun a b => a < b
instance : DecidableRel ltI := fun a b => inferInstanceAs (Decidable (a < b))
instance : DecidableRel ltB := fun a b => inferInstanceAs (Decidable (a < b))
theorem sI : Strict ltI := strictI
theorem sB : Strict ltB := strictB
def zoneK (K : Ks) (z : Int) : Km := (get1 z K).getD []
def cntK (K : Ks) (z : Int) (k : By) : Int := (get1 k (zoneK K z)).getD 0
def okHitK (K : Ks) (z : Int) (k : By) : Prop := 1 ≤ z ∧ 1 ≤ k.length ∧ k.length ≤ 16 ∧ cntK K z k < 1048576 ∧ ¬ (cntK K z k = 0 ∧ 64 ≤ (zoneK K z).length)
instance (K : Ks) (z : Int) (k : By) : Decidable (okHitK K z k) := inferInstanceAs (Decidable (_ ∧ _))
def oneMore (k : By) (m : Km) : Km := upd ltB k (fun c => c.getD 0 + 1) m
def hitK (K : Ks) (z : Int) (k : By) : Ks := if okHitK K z k then upd ltI z (fun o => oneMore k (o.getD [])) K else K
structure OKm (m : Km) : Prop where
  sorted : SortedA ltB m
  ne : m ≠ []
  len : m.length ≤ 64
  cnt : ∀ p ∈ m, 1 ≤ p.2 ∧ p.2 ≤ 1048576 ∧ 1 ≤ p.1.length ∧ p.1.length ≤ 16
structure OKs (K : Ks) : Prop where
  sorted : SortedA ltI K
  each : ∀ p ∈ K, 1 ≤ p.1 ∧ OKm p.2
theorem OKs.zone {K : Ks} (h : OKs K) (z : Int) : (get1 z K = none ∧ zoneK K z = []) ∨ ∃ m, get1 z K = some m ∧ zoneK K z = m ∧ OKm m ∧ 1 ≤ z := by
  unfold zoneK
  cases hz : get1 z K with
  | none => exact .inl ⟨rfl, rfl⟩
  | some m => exact .inr ⟨m, rfl, rfl, (h.each _ (get1_mem hz)).2, (h.each _ (get1_mem hz)).1⟩
theorem okm_more {m : Km} {k : By} (hs : SortedA ltB m) (hc : ∀ p ∈ m, 1 ≤ p.2 ∧ p.2 ≤ 1048576 ∧ 1 ≤ p.1.length ∧ p.1.length ≤ 16) (hl : m.length ≤ 64) (h1 : 1 ≤ k.length) (h2 : k.length ≤ 16) (h3 : (get1 k m).getD 0 < 1048576) (h4 : ¬ ((get1 k m).getD 0 = 0 ∧ 64 ≤ m.length)) : OKm (oneMore k m) := by
  have hnd := hs.nodup sB
  have hs' : SortedA ltB (oneMore k m) := sorted_upd sB k _ hs
  have hget : ∀ j, get1 j (oneMore k m) = if k = j then some ((get1 k m).getD 0 + 1) else get1 j m := fun j => get1_upd sB k j _ hs
  refine ⟨hs', upd_ne _ _ _, ?_, ?_⟩
  · have hlen : (oneMore k m).length = if (get1 k m).isSome then m.length else m.length + 1 := by
      unfold oneMore
      clear hget hs' h4 h3 hl hc hnd
      induction m with
      | nil => simp [upd, get1]
      | cons p r ih =>
        obtain ⟨x, v⟩ := p
        simp only [upd]
        by_cases e1 : k = x
        · subst e1; simp [get1]
        · rw [if_neg e1]
          by_cases e2 : ltB k x
          · rw [if_pos e2, get1_head sB hs e2]; simp
          · rw [if_neg e2]
            simp only [List.length_cons, ih hs.tail, get1, if_neg (fun e => e1 e.symm : ¬ x = k)]
            split <;> rfl
    rw [hlen]
    cases hk : get1 k m with
    | none =>
      rw [hk] at h4
      simp only [Option.getD_none, true_and] at h4
      simp only [Option.isSome_none, Bool.false_eq_true, if_false]
      omega
    | some v => simp only [Option.isSome_some, if_true]; exact hl
  · rintro ⟨j, n⟩ hp
    have hg := get1_of_mem (hs'.nodup sB) hp
    rw [hget] at hg
    by_cases e : k = j
    · rw [if_pos e] at hg
      injection hg with hg
      subst e
      cases hk : get1 k m with
      | none => rw [hk] at hg h3; simp at hg h3; subst hg; exact ⟨by omega, by omega, h1, h2⟩
      | some v =>
        rw [hk] at hg h3; simp at hg h3; subst hg
        have := hc _ (get1_mem hk)
        exact ⟨by simp at this ⊢; omega, by simp at this ⊢; omega, h1, h2⟩
    · rw [if_neg e] at hg
      exact hc _ (get1_mem hg)
theorem OKs.hit {K : Ks} (h : OKs K) (z : Int) (k : By) : OKs (hitK K z k) := by
  unfold hitK
  split
  · rename_i hok
    obtain ⟨g1, g2, g3, g4, g5⟩ := hok
    have hs' : SortedA ltI (upd ltI z (fun o => oneMore k (o.getD [])) K) := sorted_upd sI z _ h.sorted
    refine ⟨hs', ?_⟩
    rintro ⟨z', m'⟩ hp
    have hg := get1_of_mem (hs'.nodup sI) hp
    rw [get1_upd sI z z' _ h.sorted] at hg
    by_cases e : z = z'
    · rw [if_pos e] at hg
      injection hg with hg
      subst e; subst hg
      refine ⟨g1, ?_⟩
      have hz : (get1 z K).getD [] = zoneK K z := rfl
      rw [hz]
      rcases h.zone z with ⟨_, e0⟩ | ⟨m, _, e0, hm, _⟩
      · unfold cntK at g4 g5
        rw [e0] at g4 g5 ⊢
        exact okm_more (by simp [SortedA]) (by simp) (by simp) g2 g3 g4 g5
      · unfold cntK at g4 g5
        rw [e0] at g4 g5 ⊢
        exact okm_more hm.sorted hm.cnt hm.len g2 g3 g4 g5
    · rw [if_neg e] at hg
      exact h.each _ (get1_mem hg)
  · exact h
theorem OKs.nil : OKs [] := ⟨by simp [SortedA], by simp⟩
/-- what maps have, whatever their order, as sorted lists -/
def RelO : Option Km → Option Km → Prop
  | none, none => True
  | some l, some m => (l.map (·.1)).Nodup ∧ ∀ k, get1 k l = get1 k m
  | _, _ => False
def Rep (Z K : Ks) : Prop := (Z.map (·.1)).Nodup ∧ OKs K ∧ ∀ z, RelO (get1 z Z) (get1 z K)
theorem Rep.nil : Rep [] [] := ⟨by simp, OKs.nil, fun z => trivial⟩
theorem Rep.cnt {Z K : Ks} (h : Rep Z K) (z : Int) (k : By) : (get1 k ((get1 z Z).getD [])).getD 0 = cntK K z k := by
  have := h.2.2 z
  unfold cntK zoneK
  cases h1 : get1 z Z <;> cases h2 : get1 z K <;> rw [h1, h2] at this
  · exact absurd this id
  · exact absurd this id
  · simp only [Option.getD_some]; rw [this.2 k]
theorem Rep.len {Z K : Ks} (h : Rep Z K) (z : Int) : ((get1 z Z).getD []).length = (zoneK K z).length := by
  have := h.2.2 z
  unfold zoneK
  cases h1 : get1 z Z <;> cases h2 : get1 z K <;> rw [h1, h2] at this
  · exact absurd this id
  · exact absurd this id
  · simp only [Option.getD_some]
    have hm := (h.2.1.each _ (get1_mem h2)).2
    exact (perm_of_get this.1 (hm.sorted.nodup sB) this.2).length_eq
/-- a hit: the zone's map has one more of the key -/
theorem Rep.hit {Z K : Ks} (h : Rep Z K) {z : Int} {k : By} (hok : okHitK K z k) : Rep (put1 z (put1 k (cntK K z k + 1) ((get1 z Z).getD [])) Z) (hitK K z k) := by
  refine ⟨nodup_put1 h.1, h.2.1.hit z k, fun z' => ?_⟩
  unfold hitK
  rw [if_pos hok, get1_put1, get1_upd sI z z' _ h.2.1.sorted]
  by_cases e : z = z'
  · subst e
    rw [if_pos rfl, if_pos rfl]
    have hr := h.2.2 z
    have hc := h.cnt z k
    have key : ∀ (l m : Km), SortedA ltB m → (l.map (·.1)).Nodup → (∀ k, get1 k l = get1 k m) → ((get1 k l).getD 0 = cntK K z k) → RelO (some (put1 k (cntK K z k + 1) l)) (some (oneMore k m)) := by
      intro l m hs hn hg hck
      refine ⟨nodup_put1 hn, fun j => ?_⟩
      unfold oneMore
      rw [get1_put1, get1_upd sB k j _ hs, ← hg k, ← hg j, hck]
    cases h1 : get1 z Z <;> cases h2 : get1 z K <;> rw [h1, h2] at hr
    · rw [h1] at hc
      exact key [] [] (by simp [SortedA]) (by simp) (fun _ => rfl) hc
    · exact absurd hr id
    · exact absurd hr id
    · rw [h1] at hc
      exact key _ _ (h.2.1.each _ (get1_mem h2)).2.sorted hr.1 hr.2 hc
  · rw [if_neg e, if_neg e]; exact h.2.2 z'
/- tables -/
def sumM (m : Km) : Int := (m.map (·.2)).foldr (· + ·) 0
def midM (s : Int) : Int → Km → By
  | _, [] => []
  | a, (k, n) :: r => if s ≤ 2 * (a + n) then k else midM s (a + n) r
def rowK (p : Int × Km) : Int × Int × By := (p.1, sumM p.2, midM (sumM p.2) 0 p.2)
def tabK (K : Ks) : List (Int × Int × By) := K.map rowK
theorem sumM_perm {l m : Km} (h : l.Perm m) : sumM l = sumM m := by
  unfold sumM
  exact List.Perm.foldr_eq' (h.map _) (fun x _ y _ z => by omega) 0
theorem sumM_bound {m : Km} {N : Nat} (hc : ∀ p ∈ m, 0 ≤ p.2 ∧ p.2 ≤ 1048576) (hl : m.length ≤ N) : 0 ≤ sumM m ∧ sumM m ≤ 1048576 * N := by
  induction m generalizing N with
  | nil => simp [sumM]; omega
  | cons p r ih =>
    have h1 := hc p List.mem_cons_self
    obtain ⟨N', rfl⟩ : ∃ N', N = N' + 1 := ⟨N - 1, by simp at hl; omega⟩
    have h2 := ih (fun q hq => hc q (List.mem_cons_of_mem _ hq)) (N := N') (by simp at hl; omega)
    simp only [sumM, List.map_cons, List.foldr_cons] at h2 ⊢
    omega
end Go.Proofs.Ytfakfnekcgkelaa
