/- Loads as one sorted list of cells: what a hit, a fade make of it, its table. -/
import Derived.Test.YtfakfnekcgkelaaLdH
namespace Go.Proofs.Ytfakfnekcgkelaa
open Go.RowKit
set_option linter.unusedVariables false
set_option linter.unusedSimpArgs false

abbrev Zk := Int × By
def ltP (a b : Zk) : Prop := a.1 < b.1 ∨ (a.1 = b.1 ∧ ltB a.2 b.2)
instance : DecidableRel ltP := fun a b => inferInstanceAs (Decidable (_ ∨ _))
theorem sP : Strict ltP where
  irr a h := by rcases h with h | ⟨_, h⟩; exact Int.lt_irrefl _ h; exact sB.irr _ h
  tr {a b c} h k := by
    rcases h with h | ⟨h1, h2⟩ <;> rcases k with k | ⟨k1, k2⟩
    · exact .inl (Int.lt_trans h k)
    · exact .inl (by omega)
    · exact .inl (by omega)
    · exact .inr ⟨h1.trans k1, sB.tr h2 k2⟩
  tot {a b} h k := by
    obtain ⟨a1, a2⟩ := a; obtain ⟨b1, b2⟩ := b
    by_cases e : a1 = b1
    · subst e
      exact .inr ⟨rfl, sB.tot (fun (e : a2 = b2) => h (by rw [e])) (fun hk => k (.inr ⟨rfl, hk⟩))⟩
    · by_cases hl : a1 < b1
      · exact absurd (.inl hl) k
      · exact .inl (by show b1 < a1; omega)
abbrev Fc := List (Zk × Int)
def cellsZ (z : Int) (m : Km) : Fc := m.map fun q => ((z, q.1), q.2)
def flatK (K : Ks) : Fc := K.flatMap fun p => cellsZ p.1 p.2
theorem flatK_cons (p : Int × Km) (K : Ks) : flatK (p :: K) = cellsZ p.1 p.2 ++ flatK K := rfl
theorem mem_flat {K : Ks} {c : Zk × Int} (h : c ∈ flatK K) : ∃ p ∈ K, p.1 = c.1.1 ∧ (c.1.2, c.2) ∈ p.2 := by
  obtain ⟨p, hp, hc⟩ := List.mem_flatMap.1 h
  obtain ⟨q, hq, rfl⟩ := List.mem_map.1 hc
  exact ⟨p, hp, rfl, hq⟩
theorem sorted_cellsZ (z : Int) {m : Km} (h : SortedA ltB m) : SortedA ltP (cellsZ z m) := by
  unfold SortedA cellsZ at *
  rw [List.pairwise_map]
  exact h.imp (fun hl => .inr ⟨rfl, hl⟩)
theorem sorted_flat' : ∀ {K : Ks}, SortedA ltI K → (∀ p ∈ K, SortedA ltB p.2) → SortedA ltP (flatK K)
  | [], _, _ => by simp [flatK, SortedA]
  | p :: r, h, hm => by
    have hc := List.pairwise_cons.1 h
    rw [flatK_cons]
    unfold SortedA
    rw [List.pairwise_append]
    refine ⟨sorted_cellsZ _ (hm p List.mem_cons_self), sorted_flat' hc.2 (fun q hq => hm q (List.mem_cons_of_mem _ hq)), ?_⟩
    intro a ha b hb
    obtain ⟨q, hq, e, _⟩ := mem_flat hb
    obtain ⟨x, _, rfl⟩ := List.mem_map.1 ha
    exact .inl (by rw [← e]; exact hc.1 q hq)
theorem OKs.flat {K : Ks} (h : OKs K) : SortedA ltP (flatK K) := sorted_flat' h.sorted (fun p hp => (h.each p hp).2.sorted)
theorem get1_append {α β : Type} [DecidableEq α] (k : α) : ∀ (l m : List (α × β)), get1 k (l ++ m) = (get1 k l).or (get1 k m)
  | [], m => by simp [get1]
  | (a, v) :: r, m => by
    simp only [List.cons_append, get1]
    split
    · rfl
    · exact get1_append k r m
theorem get_cellsZ (z z' : Int) (k : By) : ∀ m : Km, get1 (z', k) (cellsZ z m) = if z = z' then get1 k m else none
  | [] => by simp [cellsZ, get1]
  | (a, v) :: r => by
    have ih := get_cellsZ z z' k r
    simp only [cellsZ, List.map_cons, get1] at ih ⊢
    rw [ih]
    by_cases e : z = z'
    · subst e
      by_cases e2 : a = k
      · subst e2; simp
      · simp [e2]
    · simp [e]
theorem get_flat' {K : Ks} (h : SortedA ltI K) (z : Int) (k : By) : get1 (z, k) (flatK K) = get1 k (zoneK K z) := by
  induction K with
  | nil => rfl
  | cons p r ih =>
    obtain ⟨a, m⟩ := p
    rw [flatK_cons, get1_append, get_cellsZ, ih h.tail]
    unfold zoneK
    simp only [get1]
    by_cases e : a = z
    · subst e
      rw [if_pos rfl, if_pos rfl]
      have : get1 a r = none := by
        rw [get1_none]
        intro hm
        obtain ⟨q, hq, e⟩ := List.mem_map.1 hm
        have := (List.pairwise_cons.1 h).1 q hq
        rw [e] at this
        exact sI.irr _ this
      rw [this]
      simp [get1]
    · rw [if_neg e, if_neg e]; rfl
theorem OKs.get {K : Ks} (h : OKs K) (z : Int) (k : By) : get1 (z, k) (flatK K) = get1 k (zoneK K z) := get_flat' h.sorted z k
def cntZ (F : Fc) (z : Int) : Nat := (F.filter fun c => c.1.1 = z).length
theorem cntZ_flat {K : Ks} (h : SortedA ltI K) (z : Int) : cntZ (flatK K) z = (zoneK K z).length := by
  induction K with
  | nil => rfl
  | cons p r ih =>
    obtain ⟨a, m⟩ := p
    have ih := ih h.tail
    unfold cntZ at ih ⊢
    rw [flatK_cons, List.filter_append, List.length_append, ih]
    unfold zoneK
    simp only [get1]
    by_cases e : a = z
    · subst e
      have : get1 a r = none := by
        rw [get1_none]
        intro hm
        obtain ⟨q, hq, e⟩ := List.mem_map.1 hm
        have := (List.pairwise_cons.1 h).1 q hq
        rw [e] at this
        exact sI.irr _ this
      rw [this, List.filter_eq_self.2 (by intro c hc; obtain ⟨q, _, rfl⟩ := List.mem_map.1 hc; simp)]
      simp [cellsZ]
    · rw [if_neg e, List.filter_eq_nil_iff.2 (by intro c hc; obtain ⟨q, _, rfl⟩ := List.mem_map.1 hc; simp [e])]
      simp
/-- what a hit makes of the cells -/
def okHitF (F : Fc) (z : Int) (k : By) : Prop := 1 ≤ z ∧ 1 ≤ k.length ∧ k.length ≤ 16 ∧ (get1 (z, k) F).getD 0 < 1048576 ∧ ¬ ((get1 (z, k) F).getD 0 = 0 ∧ 64 ≤ cntZ F z)
instance (F : Fc) (z : Int) (k : By) : Decidable (okHitF F z k) := inferInstanceAs (Decidable (_ ∧ _))
def hitF (F : Fc) (z : Int) (k : By) : Fc := if okHitF F z k then upd ltP (z, k) (fun c => c.getD 0 + 1) F else F
theorem hitF_flat {K : Ks} (h : OKs K) (z : Int) (k : By) : hitF (flatK K) z k = flatK (hitK K z k) := by
  have hiff : okHitF (flatK K) z k ↔ okHitK K z k := by
    unfold okHitF okHitK cntK
    rw [h.get, cntZ_flat h.sorted]
  unfold hitF
  by_cases hok : okHitK K z k
  · rw [if_pos (hiff.2 hok)]
    refine eq_of_get sP (sorted_upd sP _ _ h.flat) (h.hit z k).flat fun ⟨z', k'⟩ => ?_
    rw [get1_upd sP _ _ _ h.flat, (h.hit z k).get, h.get, h.get]
    unfold zoneK
    rw [hit_get h hok]
    by_cases e : z = z'
    · subst e
      rw [if_pos rfl]
      simp only [Option.getD_some]
      unfold oneMore
      rw [get1_upd sB _ _ _ (zone_sorted h z)]
      by_cases e2 : k = k'
      · subst e2; simp [zoneK]
      · rw [if_neg e2, if_neg (fun e => e2 (by injection e))]; rfl
    · rw [if_neg e, if_neg (fun e2 => e (by injection e2))]
  · rw [if_neg (fun hh => hok (hiff.1 hh)), okHit_no hok]
/- fades -/
def halfM (m : Km) : Km := (m.map fun q => (q.1, q.2 / 2)).filter fun q => 0 < q.2
def fadeK (K : Ks) : Ks := (K.map fun p => (p.1, halfM p.2)).filter fun p => !p.2.isEmpty
def fadeF (F : Fc) : Fc := (F.map fun c => (c.1, c.2 / 2)).filter fun c => 0 < c.2
theorem fadeF_app (a b : Fc) : fadeF (a ++ b) = fadeF a ++ fadeF b := by simp [fadeF]
theorem fadeF_cells (z : Int) (m : Km) : fadeF (cellsZ z m) = cellsZ z (halfM m) := by
  induction m with
  | nil => rfl
  | cons q r ih =>
    simp only [fadeF, cellsZ, halfM, List.map_cons, List.filter_cons] at ih ⊢
    split <;> simp_all
theorem fadeF_flat (K : Ks) : fadeF (flatK K) = flatK (fadeK K) := by
  induction K with
  | nil => rfl
  | cons p r ih =>
    rw [flatK_cons, fadeF_app, fadeF_cells, ih]
    unfold fadeK
    rw [List.map_cons, List.filter_cons]
    cases hm : halfM p.2 with
    | nil => simp [cellsZ, flatK]
    | cons q t => simp [flatK_cons, cellsZ]
theorem OKs.fade {K : Ks} (h : OKs K) : OKs (fadeK K) := by
  refine ⟨?_, ?_⟩
  · unfold SortedA fadeK
    refine List.Pairwise.filter _ ?_
    rw [List.pairwise_map]
    exact h.sorted
  · intro p hp
    obtain ⟨hp1, hp2⟩ := List.mem_filter.1 hp
    obtain ⟨q, hq, rfl⟩ := List.mem_map.1 hp1
    obtain ⟨h1, hm⟩ := h.each q hq
    refine ⟨h1, ?_, ?_, ?_, ?_⟩
    · unfold SortedA halfM
      refine List.Pairwise.filter _ ?_
      rw [List.pairwise_map]
      exact hm.sorted
    · intro e
      have e : halfM q.2 = [] := e
      simp only at hp2
      rw [e] at hp2; cases hp2
    · unfold halfM
      refine Nat.le_trans (List.length_filter_le _ _) ?_
      rw [List.length_map]; exact hm.len
    · intro x hx
      unfold halfM at hx
      obtain ⟨hx1, hx2⟩ := List.mem_filter.1 hx
      obtain ⟨y, hy, rfl⟩ := List.mem_map.1 hx1
      have := hm.cnt y hy
      simp only [decide_eq_true_eq] at hx2 ⊢
      exact ⟨by omega, by omega, this.2.2⟩
/- a zone forgotten -/
def goneK (K : Ks) (z : Int) : Ks := K.filter fun p => p.1 ≠ z
def goneF (F : Fc) (z : Int) : Fc := F.filter fun c => c.1.1 ≠ z
theorem goneF_flat (K : Ks) (z : Int) : goneF (flatK K) z = flatK (goneK K z) := by
  induction K with
  | nil => rfl
  | cons p r ih =>
    unfold goneF at ih ⊢
    rw [flatK_cons, List.filter_append, ih]
    unfold goneK
    rw [List.filter_cons]
    by_cases e : p.1 = z
    · rw [if_neg (by simp [e]), List.filter_eq_nil_iff.2 (by intro c hc; obtain ⟨q, _, rfl⟩ := List.mem_map.1 hc; simp [e])]; rfl
    · rw [if_pos (by simp [e]), flatK_cons, List.filter_eq_self.2 (by intro c hc; obtain ⟨q, _, rfl⟩ := List.mem_map.1 hc; simp [e])]
theorem OKs.gone {K : Ks} (h : OKs K) (z : Int) : OKs (goneK K z) := ⟨List.Pairwise.filter _ h.sorted, fun p hp => h.each p (List.mem_filter.1 hp).1⟩
/- tables of cells -/
/-- rows so far: zones and their hits -/
def step1 (out : List (Int × Int)) (c : Zk × Int) : List (Int × Int) :=
  match out.getLast? with
  | some l => if l.1 = c.1.1 then out.dropLast ++ [(l.1, l.2 + c.2)] else out ++ [(c.1.1, c.2)]
  | none => [(c.1.1, c.2)]
theorem step1_same (out : List (Int × Int)) (z n : Int) (k : By) (v : Int) : step1 (out ++ [(z, n)]) ((z, k), v) = out ++ [(z, n + v)] := by
  simp [step1]
theorem step1_new {out : List (Int × Int)} {z : Int} (h : ∀ l, out.getLast? = some l → l.1 ≠ z) (k : By) (v : Int) : step1 out ((z, k), v) = out ++ [(z, v)] := by
  unfold step1
  cases hl : out.getLast? with
  | none => rw [List.getLast?_eq_none_iff] at hl; subst hl; rfl
  | some l => simp only; rw [if_neg (h l hl)]
theorem fold1_zone (out : List (Int × Int)) (z : Int) : ∀ (m : Km) (n : Int), (cellsZ z m).foldl step1 (out ++ [(z, n)]) = out ++ [(z, n + sumM m)]
  | [], n => by simp [cellsZ, sumM]
  | q :: r, n => by
    have ih := fold1_zone out z r (n + q.2)
    simp only [cellsZ, List.map_cons, List.foldl_cons] at ih ⊢
    rw [step1_same, ih]
    simp [sumM]; omega
theorem fold1_flat : ∀ (K : Ks) (out : List (Int × Int)), SortedA ltI K → (∀ p ∈ K, p.2 ≠ []) → (∀ l, out.getLast? = some l → ∀ p ∈ K, l.1 < p.1) → (flatK K).foldl step1 out = out ++ K.map fun p => (p.1, sumM p.2)
  | [], out, _, _, _ => by simp [flatK]
  | (z, m) :: r, out, h, hne, hl => by
    cases m with
    | nil => exact absurd rfl (hne (z, []) List.mem_cons_self)
    | cons q t =>
      rw [flatK_cons, List.foldl_append]
      have e1 : (cellsZ z (q :: t)).foldl step1 out = out ++ [(z, sumM (q :: t))] := by
        have := fold1_zone out z t q.2
        simp only [cellsZ, List.map_cons, List.foldl_cons] at this ⊢
        rw [step1_new (fun l hl2 => by have := hl l hl2 (z, q :: t) List.mem_cons_self; simp at this; omega), this]
        simp [sumM]
      rw [e1, fold1_flat r _ h.tail (fun p hp => hne p (List.mem_cons_of_mem _ hp)) (fun l hl2 p hp => by
        rw [List.getLast?_append] at hl2
        simp at hl2
        subst hl2
        exact (List.pairwise_cons.1 h).1 p hp)]
      simp
/-- a zone's middle key so far -/
def step2 (z S : Int) (s : Int × By) (c : Zk × Int) : Int × By := if c.1.1 ≠ z ∨ S ≤ 2 * s.1 then s else (s.1 + c.2, c.1.2)
theorem fold2_other {z z' S : Int} (h : z' ≠ z) : ∀ (m : Km) (s : Int × By), (cellsZ z' m).foldl (step2 z S) s = s
  | [], s => rfl
  | q :: r, s => by
    have ih := fold2_other (S := S) h r s
    simp only [cellsZ, List.map_cons, List.foldl_cons, step2] at ih ⊢
    rw [if_pos (.inl h)]; exact ih
theorem fold2_done {z S : Int} {s : Int × By} (h : S ≤ 2 * s.1) : ∀ (m : Km), (cellsZ z m).foldl (step2 z S) s = s
  | [] => rfl
  | q :: r => by
    have ih := fold2_done (z := z) h r
    simp only [cellsZ, List.map_cons, List.foldl_cons, step2] at ih ⊢
    rw [if_pos (.inr h)]; exact ih
theorem fold2_zone (z S : Int) : ∀ (m : Km) (a : Int) (k : By), 2 * a < S → S ≤ 2 * (a + sumM m) → ((cellsZ z m).foldl (step2 z S) (a, k)).2 = midM S a m
  | [], a, k, h1, h2 => by simp [sumM] at h2; omega
  | q :: r, a, k, h1, h2 => by
    simp only [cellsZ, List.map_cons, List.foldl_cons, step2, midM]
    rw [if_neg (by simp; omega)]
    by_cases h3 : S ≤ 2 * (a + q.2)
    · rw [if_pos h3]
      have := fold2_done (z := z) (s := (a + q.2, q.1)) h3 r
      simp only [cellsZ, step2] at this
      rw [this]
    · rw [if_neg h3]
      have := fold2_zone z S r (a + q.2) q.1 (by omega) (by simp [sumM] at h2 ⊢; omega)
      simp only [cellsZ, step2] at this
      exact this
theorem fold2_flat : ∀ (K : Ks) {z : Int} {m : Km}, SortedA ltI K → (z, m) ∈ K → 0 < sumM m → ((flatK K).foldl (step2 z (sumM m)) (0, [])).2 = midM (sumM m) 0 m
  | [], z, m, _, h, _ => by cases h
  | (z', m') :: r, z, m, hs, h, hp => by
    rw [flatK_cons, List.foldl_append]
    have hc := (List.pairwise_cons.1 hs).1
    rcases List.mem_cons.1 h with e | h
    · injection e with e1 e2
      subst e1 e2
      have hrest : ∀ (R : Ks) (s : Int × By), (∀ p ∈ R, p.1 ≠ z) → (flatK R).foldl (step2 z (sumM m)) s = s := by
        intro R
        induction R with
        | nil => intro s _; rfl
        | cons p t ih =>
          intro s hR
          rw [flatK_cons, List.foldl_append, fold2_other (hR p List.mem_cons_self), ih s (fun q hq => hR q (List.mem_cons_of_mem _ hq))]
      rw [hrest r _ (fun p hp => by have := hc p hp; simp [ltI] at this; omega)]
      exact fold2_zone z (sumM m) m 0 [] (by omega) (by omega)
    · rw [fold2_other (by have := hc (z, m) h; simp [ltI] at this; omega)]
      exact fold2_flat r hs.tail h hp
end Go.Proofs.Ytfakfnekcgkelaa
