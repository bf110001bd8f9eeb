/- Many hits: in what order does not matter, while there are few. -/
import Derived.Test.YtfakfnekcgkelaaLdG
import Derived.Test.YtfakfnekcgkelaaOpenActs
namespace Go.Proofs.Ytfakfnekcgkelaa
open Go.RowKit
set_option linter.unusedVariables false
set_option linter.unusedSimpArgs false

theorem upd_len {α β : Type} [DecidableEq α] {lt : α → α → Prop} [DecidableRel lt] (a : α) (f : Option β → β) : ∀ l : List (α × β), (upd lt a f l).length ≤ l.length + 1
  | [] => by simp [upd]
  | (x, v) :: r => by
    simp only [upd]
    have := upd_len (lt := lt) a f r
    split <;> (try split) <;> simp <;> omega
theorem hit_len (K : Ks) (z : Int) (k : By) : (hitK K z k).length ≤ K.length + 1 := by
  unfold hitK
  split
  · exact upd_len _ _ _
  · omega
theorem hit_get {K : Ks} (h : OKs K) {z : Int} {k : By} (hok : okHitK K z k) (z' : Int) : get1 z' (hitK K z k) = if z = z' then some (oneMore k (zoneK K z)) else get1 z' K := by
  unfold hitK
  rw [if_pos hok, get1_upd sI z z' _ h.sorted]; rfl
theorem zone_sorted {K : Ks} (h : OKs K) (z : Int) : SortedA ltB (zoneK K z) := by
  rcases h.zone z with ⟨_, e⟩ | ⟨m, _, e, hm, _⟩
  · rw [e]; simp [SortedA]
  · rw [e]; exact hm.sorted
theorem hit_cnt {K : Ks} (h : OKs K) {z : Int} {k : By} (hok : okHitK K z k) (z' : Int) (k' : By) : cntK (hitK K z k) z' k' = if z = z' ∧ k = k' then cntK K z k + 1 else cntK K z' k' := by
  unfold cntK zoneK
  rw [hit_get h hok z']
  by_cases e : z = z'
  · subst e
    simp only [if_true, Option.getD_some, true_and]
    unfold oneMore
    rw [get1_upd sB k k' _ (zone_sorted h z)]
    by_cases e2 : k = k'
    · subst e2; simp [zoneK]
    · simp [e2, zoneK]
  · simp [e]
theorem hit_zlen {K : Ks} (h : OKs K) (z : Int) (k : By) (z' : Int) : (zoneK (hitK K z k) z').length ≤ (zoneK K z').length + 1 := by
  by_cases hok : okHitK K z k
  · unfold zoneK
    rw [hit_get h hok z']
    split
    · rename_i e; subst e
      simp only [Option.getD_some]
      exact upd_len _ _ _
    · omega
  · rw [okHit_no hok]; omega
def okAct (a : Ac) : Prop := 1 ≤ a.2.1 ∧ 1 ≤ a.2.2.data.toList.length ∧ a.2.2.data.toList.length ≤ 16
instance (a : Ac) : Decidable (okAct a) := inferInstanceAs (Decidable (_ ∧ _))
def hitA (K : Ks) (a : Ac) : Ks := hitK K a.2.1 a.2.2.data.toList
def hitAll (K : Ks) (l : List Ac) : Ks := l.foldl hitA K
/-- how many of the acts are hits of a zone's key -/
def cntA (l : List Ac) (z : Int) (k : By) : Int := l.foldr (fun a n => (if okAct a ∧ a.2.1 = z ∧ a.2.2.data.toList = k then 1 else 0) + n) 0
theorem cntA_app (a b : List Ac) (z : Int) (k : By) : cntA (a ++ b) z k = cntA a z k + cntA b z k := by
  induction a with
  | nil => simp [cntA]
  | cons x r ih => simp only [cntA, List.cons_append, List.foldr_cons] at *; rw [ih]; omega
theorem cntA_rev (a : List Ac) (z : Int) (k : By) : cntA a.reverse z k = cntA a z k := by
  induction a with
  | nil => rfl
  | cons x r ih =>
    rw [List.reverse_cons, cntA_app, ih]
    simp only [cntA, List.foldr_cons, List.foldr_nil]; omega
theorem oks_all {K : Ks} (h : OKs K) (l : List Ac) : OKs (hitAll K l) := by
  induction l generalizing K with
  | nil => exact h
  | cons a r ih => exact ih (h.hit _ _)
theorem hitAll_len (K : Ks) (l : List Ac) : (hitAll K l).length ≤ K.length + l.length := by
  induction l generalizing K with
  | nil => simp [hitAll]
  | cons a r ih =>
    have h1 := ih (hitA K a)
    have h2 := hit_len K a.2.1 a.2.2.data.toList
    simp only [hitAll, List.foldl_cons, List.length_cons, hitA] at *
    omega
theorem hitAll_wf {l : List Ac} (hl : ∀ a ∈ l, actQ a) : ∀ {K : Ks}, (∀ p ∈ K, (Lit.int .i64 p.1).wf = true) → ∀ p ∈ hitAll K l, (Lit.int .i64 p.1).wf = true := by
  induction l with
  | nil => intro K h; exact h
  | cons a r ih =>
    intro K h
    refine ih (fun b hb => hl b (List.mem_cons_of_mem _ hb)) ?_
    intro p hp
    unfold hitA hitK at hp
    split at hp
    · rcases mem_upd hp with e | hp
      · rw [e]; exact (hl a List.mem_cons_self).2.1
      · exact h p hp
    · exact h p hp
theorem hitAll_cnt (l : List Ac) : ∀ {K : Ks}, OKs K → (∀ z, (zoneK K z).length + l.length ≤ 64) → (∀ z k, cntK K z k + l.length ≤ 1048576) → ∀ z k, cntK (hitAll K l) z k = cntK K z k + cntA l z k := by
  induction l with
  | nil => intro K _ _ _ z k; simp [hitAll, cntA]
  | cons a r ih =>
    intro K h h1 h2 z k
    have hstep : ∀ z k, cntK (hitA K a) z k = cntK K z k + (if okAct a ∧ a.2.1 = z ∧ a.2.2.data.toList = k then 1 else 0) := by
      intro z k
      unfold hitA
      by_cases hv : okAct a
      · have hok : okHitK K a.2.1 a.2.2.data.toList := ⟨hv.1, hv.2.1, hv.2.2, by have := h2 a.2.1 a.2.2.data.toList; simp only [List.length_cons] at this; omega, fun hh => by have := h1 a.2.1; simp only [List.length_cons] at this; omega⟩
        rw [hit_cnt h hok]
        by_cases e : a.2.1 = z ∧ a.2.2.data.toList = k
        · obtain ⟨rfl, rfl⟩ := e
          simp [hv]
        · rw [if_neg e, if_neg (fun hh => e hh.2)]; omega
      · rw [okHit_no (fun hh => hv ⟨hh.1, hh.2.1, hh.2.2.1⟩), if_neg (fun hh => hv hh.1)]; omega
    have := ih (K := hitA K a) (h.hit _ _) (fun z => by have := hit_zlen h a.2.1 a.2.2.data.toList z; have := h1 z; simp only [hitA, List.length_cons] at *; omega) (fun z k => by
      rw [hstep]
      have := h2 z k
      simp only [List.length_cons] at this
      split <;> omega) z k
    simp only [hitAll, List.foldl_cons, cntA, List.foldr_cons] at this ⊢
    rw [this, hstep]; omega
/-- the numbers tell all -/
theorem oks_ext {K K' : Ks} (h : OKs K) (h' : OKs K') (he : ∀ z k, cntK K z k = cntK K' z k) : K = K' := by
  have pos : ∀ {K : Ks}, OKs K → ∀ {z m}, get1 z K = some m → ∃ k, 1 ≤ cntK K z k := by
    intro K h z m hz
    have hm := (h.each _ (get1_mem hz)).2
    cases m with
    | nil => exact absurd rfl hm.ne
    | cons p r =>
      refine ⟨p.1, ?_⟩
      unfold cntK zoneK
      rw [hz]
      have := (hm.cnt p List.mem_cons_self).1
      simp [get1]; exact this
  have zero : ∀ {K : Ks} {z k}, get1 z K = none → cntK K z k = 0 := by
    intro K z k hz
    unfold cntK zoneK
    rw [hz]; rfl
  refine eq_of_get sI h.sorted h'.sorted fun z => ?_
  cases h1 : get1 z K with
  | none =>
    cases h2 : get1 z K' with
    | none => rfl
    | some m =>
      obtain ⟨k, hk⟩ := pos h' h2
      rw [← he, zero h1] at hk; omega
  | some m =>
    cases h2 : get1 z K' with
    | none =>
      obtain ⟨k, hk⟩ := pos h h1
      rw [he, zero h2] at hk; omega
    | some m' =>
      have hm : OKm m := (h.each _ (get1_mem h1)).2
      have hm' : OKm m' := (h'.each _ (get1_mem h2)).2
      have hc : ∀ k, (get1 k m).getD 0 = (get1 k m').getD 0 := fun k => by
        have := he z k
        unfold cntK zoneK at this
        rw [h1, h2] at this
        exact this
      refine congrArg some (eq_of_get sB hm.sorted hm'.sorted fun k => ?_)
      have hck := hc k
      cases g1 : get1 k m with
      | none =>
        cases g2 : get1 k m' with
        | none => rfl
        | some n => rw [g1, g2] at hck; have := (hm'.cnt _ (get1_mem g2)).1; simp at hck this; omega
      | some n =>
        cases g2 : get1 k m' with
        | none => rw [g1, g2] at hck; have := (hm.cnt _ (get1_mem g1)).1; simp at hck this; omega
        | some n' => rw [g1, g2] at hck; simp at hck; rw [hck]
theorem hits_rev (l : List Ac) (hl : l.length ≤ 64) : hitAll [] l = hitAll [] l.reverse := by
  refine oks_ext (oks_all OKs.nil _) (oks_all OKs.nil _) fun z k => ?_
  have e0 : cntK [] z k = 0 := rfl
  rw [hitAll_cnt l OKs.nil (fun z => by simp [zoneK, get1]; omega) (fun z k => by rw [show cntK [] z k = 0 from rfl]; omega),
    hitAll_cnt l.reverse OKs.nil (fun z => by simp [zoneK, get1]; omega) (fun z k => by rw [show cntK [] z k = 0 from rfl]; simp; omega), cntA_rev]
theorem hitAll_take (K : Ks) (l : List Ac) (i : Nat) (h : i < l.length) : hitAll K (l.take (i + 1)) = hitA (hitAll K (l.take i)) l[i] := by
  rw [List.take_add_one, List.getElem?_eq_getElem h]
  unfold hitAll
  rw [List.foldl_append]; rfl
end Go.Proofs.Ytfakfnekcgkelaa
