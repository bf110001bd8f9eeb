/- The document's load: its Table, pure part and the rows of the first loop. -/
import Derived.Test.YtfakfnekcgkelaaLpG
namespace Go.Proofs.Ytfakfnekcgkelaa
open Go.RowKit
set_option linter.unusedVariables false
set_option linter.unusedSimpArgs false

theorem Try.infoRow2 : (Try.prog.info? 54).map (fun i => (i.zero, i.size, i.bytes)) = some (some (.agg #[.int .i64 0, .int .i64 0, .string ⟨#[]⟩]), 3, 32) := by kernel_rfl
def r1 (p : Int × Int) : Rw := (p.1, p.2, [])
theorem flatR_at3 (A B : List Rw) (r : Rw) : (flatR (A ++ r :: B))[A.length * 3]? = some (.int .i64 r.1) ∧ (flatR (A ++ r :: B))[A.length * 3 + 1]? = some (.int .i64 r.2.1) ∧ (flatR (A ++ r :: B))[A.length * 3 + 2]? = some (encStr r.2.2) := by
  have h := flatR_at (A ++ r :: B) A.length (by simp)
  simpa using h
theorem flatR_cons (r : Rw) (B : List Rw) : flatR (r :: B) = rowV r ++ flatR B := rfl
theorem flatR_set1 (A B : List Rw) (z h h' : Int) (k : By) : (flatR (A ++ (z, h, k) :: B)).set (A.length * 3 + 1) (.int .i64 h') = flatR (A ++ (z, h', k) :: B) := by
  rw [flatR_app, flatR_app, List.set_append_right _ _ (by rw [flatR_len]; omega), flatR_len, Nat.add_sub_cancel_left]; rfl
theorem flatR_set2 (A B : List Rw) (z h : Int) (k k' : By) : (flatR (A ++ (z, h, k) :: B)).set (A.length * 3 + 2) (encStr k') = flatR (A ++ (z, h, k') :: B) := by
  rw [flatR_app, flatR_app, List.set_append_right _ _ (by rw [flatR_len]; omega), flatR_len, Nat.add_sub_cancel_left]; rfl
theorem step1_bound {S : List (Int × Int)} {c : Zk × Int} {B : Int} (h : ∀ p ∈ S, 0 ≤ p.2 ∧ p.2 ≤ B) (hc : 0 ≤ c.2 ∧ c.2 ≤ 1048576) (hB : 0 ≤ B) : ∀ p ∈ step1 S c, 0 ≤ p.2 ∧ p.2 ≤ B + 1048576 := by
  intro p hp
  unfold step1 at hp
  cases hl : S.getLast? with
  | none =>
    rw [hl] at hp
    simp only [List.mem_cons, List.not_mem_nil, or_false] at hp
    subst hp
    exact ⟨hc.1, by show c.2 ≤ _; omega⟩
  | some l =>
    rw [hl] at hp
    have hlm := h l (List.mem_of_getLast? hl)
    simp only at hp
    split at hp
    · rcases List.mem_append.1 hp with hp | hp
      · have := h p (List.dropLast_subset _ hp); omega
      · simp only [List.mem_cons, List.not_mem_nil, or_false] at hp
        subst hp
        exact ⟨by show 0 ≤ l.2 + c.2; omega, by show l.2 + c.2 ≤ _; omega⟩
    · rcases List.mem_append.1 hp with hp | hp
      · have := h p hp; omega
      · simp only [List.mem_cons, List.not_mem_nil, or_false] at hp
        subst hp
        exact ⟨hc.1, by show c.2 ≤ _; omega⟩
/-- rows: so many with their middles -/
def mixR (K : Ks) (k : Nat) : List Rw := (tabK K).take k ++ (K.drop k).map fun p => (p.1, sumM p.2, [])
def midR (K : Ks) (k : Nat) (z h : Int) (s : By) : List Rw := (tabK K).take k ++ (z, h, s) :: (K.drop (k + 1)).map fun p => (p.1, sumM p.2, [])
theorem mixR_0 (K : Ks) : mixR K 0 = (K.map fun p => (p.1, sumM p.2)).map r1 := by simp [mixR, r1]
theorem mixR_end (K : Ks) : mixR K K.length = tabK K := by
  unfold mixR
  rw [List.drop_length, List.map_nil, List.append_nil, List.take_of_length_le (by simp [tabK])]
theorem mixR_mid {K : Ks} {k : Nat} (h : k < K.length) : mixR K k = midR K k K[k].1 (sumM K[k].2) [] := by
  unfold mixR midR
  rw [List.drop_eq_getElem_cons h, List.map_cons]
theorem midR_mix {K : Ks} {k : Nat} (h : k < K.length) : midR K k K[k].1 (sumM K[k].2) (midM (sumM K[k].2) 0 K[k].2) = mixR K (k + 1) := by
  unfold mixR midR
  rw [List.take_add_one, List.append_assoc]
  have : (tabK K)[k]? = some (K[k].1, sumM K[k].2, midM (sumM K[k].2) 0 K[k].2) := by
    unfold tabK
    rw [List.getElem?_map, List.getElem?_eq_getElem h]; rfl
  rw [this]; rfl
theorem takeK_len {K : Ks} {k : Nat} (h : k ≤ K.length) : ((tabK K).take k).length = k := by rw [List.length_take]; simp [tabK]; omega
theorem flat_pos {K : Ks} (h : OKs K) : ∀ c ∈ flatK K, 1 ≤ c.2 ∧ c.2 ≤ 1048576 := by
  intro c hc
  obtain ⟨p, hp, _, hm⟩ := mem_flat hc
  have := (h.each p hp).2.cnt _ hm
  exact ⟨this.1, this.2.1⟩
theorem fold1_all {K : Ks} (h : OKs K) : (flatK K).foldl step1 [] = K.map fun p => (p.1, sumM p.2) := by
  have := fold1_flat K [] h.sorted (fun p hp => (h.each p hp).2.ne) (by simp)
  simpa using this
theorem sum_pos {K : Ks} (h : OKs K) {p : Int × Km} (hp : p ∈ K) : 0 < sumM p.2 ∧ sumM p.2 ≤ 67108864 := by
  have hm := (h.each p hp).2
  have hb := sumM_bound (m := p.2) (N := 64) (fun q hq => by have := hm.cnt q hq; omega) hm.len
  refine ⟨?_, by omega⟩
  cases hq : p.2 with
  | nil => exact absurd hq hm.ne
  | cons q r =>
    have h1 := hm.cnt q (by rw [hq]; exact List.mem_cons_self)
    have h2 := sumM_bound (m := r) (N := 64) (fun x hx => by have := hm.cnt x (by rw [hq]; exact List.mem_cons_of_mem _ hx); omega) (by have := hm.len; rw [hq] at this; simp at this; omega)
    show 0 < q.2 + sumM r
    omega
theorem step2_bound (z S : Int) : ∀ (F : Fc) (s : Int × By), (∀ c ∈ F, 0 ≤ c.2 ∧ c.2 ≤ 1048576) → 0 ≤ s.1 → 0 ≤ (F.foldl (step2 z S) s).1 ∧ (F.foldl (step2 z S) s).1 ≤ s.1 + 1048576 * F.length
  | [], s, _, h => by simp; exact h
  | c :: r, s, hc, h => by
    have h1 := hc c List.mem_cons_self
    rw [List.foldl_cons]
    unfold step2
    split
    · have := step2_bound z S r s (fun x hx => hc x (List.mem_cons_of_mem _ hx)) h
      unfold step2 at this
      simp only [List.length_cons]
      omega
    · have := step2_bound z S r (s.1 + c.2, c.1.2) (fun x hx => hc x (List.mem_cons_of_mem _ hx)) (by show 0 ≤ s.1 + c.2; omega)
      unfold step2 at this
      simp only [List.length_cons] at this ⊢
      omega
end Go.Proofs.Ytfakfnekcgkelaa
