/- Maps that are lists of pairs: delete; stores and deletes inside a loop over the map. -/
import Derived.Test.YtfakfnekcgkelaaMapB
namespace Go.Proofs.Ytfakfnekcgkelaa
open Go.RowKit Go.ChangeMaps Go.MapKept
set_option linter.unusedVariables false
set_option linter.unusedSimpArgs false
set_option linter.unusedSectionVars false

section
variable {α : Type} [DecidableEq α] {β : Type}
def del1 (k : α) (l : List (α × β)) : List (α × β) := l.filter fun p => decide (p.1 ≠ k)
theorem del1_none {k : α} {l : List (α × β)} (h : get1 k l = none) : del1 k l = l := by
  rw [get1_none] at h
  unfold del1
  exact List.filter_eq_self.2 (fun p hp => by simp; exact fun e => h (by rw [← e]; exact List.mem_map.2 ⟨p, hp, rfl⟩))
theorem del1_erase {k : α} : ∀ {l : List (α × β)} {i j : Nat} {u : β}, (l.map (·.1)).Nodup → find1 k l i = some (j, u) → i ≤ j ∧ j - i < l.length ∧ del1 k l = l.eraseIdx (j - i)
  | [], i, j, u, _, h => by cases h
  | (a, x) :: r, i, j, u, hn, h => by
    simp only [List.map_cons, List.nodup_cons] at hn
    simp only [find1] at h
    by_cases e : a = k
    · rw [if_pos e] at h
      injection h with h; injection h with h1 h2
      subst h1; subst e
      refine ⟨Nat.le_refl _, by simp, ?_⟩
      rw [Nat.sub_self, List.eraseIdx_cons_zero]
      unfold del1
      rw [List.filter_cons, if_neg (by simp)]
      exact List.filter_eq_self.2 (fun p hp => by simp; exact fun e => hn.1 (by rw [← e]; exact List.mem_map.2 ⟨p, hp, rfl⟩))
    · rw [if_neg e] at h
      obtain ⟨h1, h2, h3⟩ := del1_erase hn.2 h
      have e2 : j - i = (j - (i + 1)) + 1 := by omega
      refine ⟨by omega, by simp; omega, ?_⟩
      rw [e2, List.eraseIdx_cons_succ, ← h3]
      unfold del1
      rw [List.filter_cons, if_pos (by simp [e])]
theorem get1_del1 (k j : α) : ∀ (l : List (α × β)), get1 j (del1 k l) = if k = j then none else get1 j l
  | [] => by simp [del1, get1]
  | (a, x) :: r => by
    have ih := get1_del1 k j r
    unfold del1 at ih ⊢
    rw [List.filter_cons]
    by_cases e : a = k
    · subst e
      rw [if_neg (by simp), ih]
      by_cases e2 : a = j
      · simp [e2]
      · simp [e2, get1]
    · rw [if_pos (by simp [e])]
      simp only [get1, ih]
      by_cases e2 : a = j
      · subst e2; rw [if_pos rfl, if_neg (fun h => e h.symm), if_pos rfl]
      · rw [if_neg e2, if_neg e2]
theorem nodup_del1 {k : α} {l : List (α × β)} (h : (l.map (·.1)).Nodup) : ((del1 k l).map (·.1)).Nodup := (List.Sublist.map _ List.filter_sublist).nodup h
theorem map_del1 {γ : Type} (f : β → γ) (k : α) (l : List (α × β)) : (del1 k l).map (fun p => (p.1, f p.2)) = del1 k (l.map fun p => (p.1, f p.2)) := by
  unfold del1
  induction l with
  | nil => rfl
  | cons p r ih =>
    simp only [List.filter_cons, List.map_cons]
    split <;> simp_all
end
theorem filter_set {α : Type} {p : α → Bool} {x : α} : ∀ {l : List α} {j : Nat}, (∀ y, l[j]? = some y → p y = false) → p x = false → (l.set j x).filter p = l.filter p
  | [], j, _, _ => by simp
  | y :: r, 0, h, hx => by
    have := h y rfl
    simp [List.filter_cons, this, hx]
  | y :: r, j + 1, h, hx => by
    simp only [List.set_cons_succ, List.filter_cons]
    rw [filter_set (l := r) (j := j) (fun z hz => h z (by simpa using hz)) hx]
theorem filter_erase {α : Type} {p : α → Bool} : ∀ {l : List α} {j : Nat}, (∀ y, l[j]? = some y → p y = false) → (l.eraseIdx j).filter p = l.filter p
  | [], j, _ => by simp
  | y :: r, 0, h => by
    have := h y rfl
    simp [List.filter_cons, this]
  | y :: r, j + 1, h => by
    simp only [List.eraseIdx_cons_succ, List.filter_cons]
    rw [filter_erase (l := r) (j := j) (fun z hz => h z (by simpa using hz))]
section
variable {α : Type} [DecidableEq α] {enc : α → Value} {P : Program} {w : World} {t kt et : TypeId} {b r : Nat} {l rest : List (α × Value)}
theorem del_nil (K : KeyT P kt enc) (ht : P.underlying t = some (.map kt et)) (kt' ty : TypeId) (k : α) : (Builtin.delete_ #[t, kt'] ty #[.map none, enc k]).run P w = .ok (.tuple #[]) w := by
  simp [Builtin.delete_, run_underlying ht, K.check, Result.andThen]
theorem MapOf.del (h : MapOf enc w b l) (K : KeyT P kt enc) (ht : P.underlying t = some (.map kt et)) (hn : (l.map (·.1)).Nodup) (kt' ty : TypeId) (k : α) :
    ∃ w', (Builtin.delete_ #[t, kt'] ty #[.map (some b), enc k]).run P w = .ok (.tuple #[]) w' ∧ MapOf enc w' b (del1 k l) ∧ w.grownBy w' (some b) ∧ w'.heap.size = w.heap.size := by
  obtain ⟨es, cl, hb, he, hlt, hnd⟩ := h
  have hf := K.find es.toList l k w he
  have grown : ∀ o : Obj, w.grownBy (setBlock w b o) (some b) := fun o => ⟨rfl, rfl, rfl, by simp [setBlock], fun i _ hi => heap_setBlock_other hb _ (fun e => hi (by rw [e]))⟩
  cases hfi : find1 k l 0 with
  | none =>
    rw [hfi] at hf
    have hg : get1 k l = none := by rw [← find1_get k l 0, hfi]; rfl
    refine ⟨setBlock w b (.map es cl), ?_, ⟨_, _, heap_setBlock_same hb _, by rw [del1_none hg]; exact he, hlt, hnd⟩, grown _, by simp [setBlock]⟩
    simp [Builtin.delete_, run_underlying ht, MapKept.run_getObj_map hb, K.check, hf, MapKept.run_setObj_map _ hb, Result.andThen, setBlock]
  | some p =>
    obtain ⟨j, u⟩ := p
    rw [hfi] at hf
    obtain ⟨_, h2, h3⟩ := del1_erase hn hfi
    simp only [Nat.sub_zero] at h2 h3
    have hj : j < es.size := by have := congrArg List.length he; simp at this; omega
    have hsub : (es.eraseIdxIfInBounds j).toList = es.toList.eraseIdx j := by
      unfold Array.eraseIdxIfInBounds
      rw [dif_pos hj]; simp
    refine ⟨setBlock w b (.map (es.eraseIdxIfInBounds j) cl), ?_, ⟨_, _, heap_setBlock_same hb _, ?_, ?_, ?_⟩, grown _, by simp [setBlock]⟩
    · simp [Builtin.delete_, run_underlying ht, MapKept.run_getObj_map hb, K.check, hf, MapKept.run_setObj_map _ hb, Result.andThen, setBlock]
    · rw [hsub, h3, ChangeMaps.map_eraseIdx, ChangeMaps.map_eraseIdx, he]
    · intro x hx
      rw [hsub] at hx
      exact hlt x ((List.eraseIdx_sublist _ _).subset hx)
    · rw [hsub]
      exact (List.Sublist.map _ (List.eraseIdx_sublist _ _)).nodup hnd
/-- a store at a key that the loop has met -/
theorem RangeL.put (h : RangeL enc w b r l rest) (K : KeyT P kt enc) (ht : P.underlying t = some (.map kt et)) (hi : ∀ a b, enc a = enc b → a = b) (k : α) (v : Value) {u : Value} (hk : get1 k l = some u) (hr : k ∉ rest.map (·.1)) :
    ∃ w', (Instr.mapUpdate t (.map (some b)) (enc k) v).run P w = .ok () w' ∧ RangeL enc w' b r (put1 k v l) rest ∧ w.grownBy w' (some b) ∧ w'.heap.size = w.heap.size := by
  have hne := h.ne
  have hM := h.map
  obtain ⟨es, cl, seen, since, c0, h1, h2, h3, h4, h5, h6, h7, h8, h9⟩ := h
  have hf := K.find es.toList l k w h3
  cases hfi : find1 k l 0 with
  | none => rw [← find1_get k l 0, hfi] at hk; cases hk
  | some p =>
    obtain ⟨j, u'⟩ := p
    rw [hfi] at hf
    obtain ⟨_, g2, g3, g4⟩ := find1_some (v := v) hfi
    simp only [Nat.sub_zero] at g2 g3 g4
    have hj : j < es.size := by have := congrArg List.length h3; simp at this; omega
    have hkey : es[j].key = enc k := by
      have e1 : (es.toList.map (fun e => (e.key, e.val)))[j]? = (l.map (fun p => (enc p.1, p.2)))[j]? := by rw [h3]
      simp [List.getElem?_map, g3, Array.getElem?_eq_getElem hj] at e1
      exact e1.1
    have hborn : (es.modify j fun e => { e with key := enc k, val := v }).toList.map (·.born) = es.toList.map (·.born) := by
      apply List.ext_getElem?
      intro i
      simp only [List.getElem?_map, Array.getElem?_toList, Array.getElem?_modify]
      by_cases hij : j = i
      · subst hij; simp [Array.getElem?_eq_getElem hj]
      · simp [hij]
    have hmem : ∀ x ∈ (es.modify j fun e => { e with key := enc k, val := v }).toList, ∃ y ∈ es.toList, x.born = y.born := by
      intro x hx
      have : x.born ∈ (es.modify j fun e => { e with key := enc k, val := v }).toList.map (·.born) := List.mem_map.2 ⟨x, hx, rfl⟩
      rw [hborn] at this
      obtain ⟨y, hy, e⟩ := List.mem_map.1 this
      exact ⟨y, hy, e.symm⟩
    have hset : (es.modify j fun e => { e with key := enc k, val := v }).toList = es.toList.set j ⟨enc k, v, es[j].born⟩ := by
      apply List.ext_getElem?
      intro i
      simp only [Array.getElem?_toList, Array.getElem?_modify, List.getElem?_set]
      by_cases hij : j = i
      · subst hij; simp [Array.getElem?_eq_getElem hj, hj]
      · simp [hij]
    have hseen : (fun e : MapEntry => !seen.contains e.born) es[j] = false := by
      by_cases hs : (fun e : MapEntry => !seen.contains e.born) es[j] = true
      · exfalso
        have hin : es[j] ∈ (leftOf es seen).toList := by
          unfold leftOf
          rw [Array.toList_filter]
          exact List.mem_filter.2 ⟨by simp, hs⟩
        have : (es[j].key, es[j].val) ∈ rest.map (fun p => (enc p.1, p.2)) := by rw [← h9]; exact List.mem_map.2 ⟨_, hin, rfl⟩
        obtain ⟨q, hq, e⟩ := List.mem_map.1 this
        injection e with e1 e2
        exact hr (List.mem_map.2 ⟨q, hq, hi _ _ (by rw [e1, hkey])⟩)
      · simpa using hs
    refine ⟨setBlock w b (.map (es.modify j fun e => { e with key := enc k, val := v }) cl), ?_, ⟨_, cl, seen, since, c0, heap_setBlock_same h1 _, ?_, ?_, ?_, h5, ?_, ?_, h8, ?_⟩, ⟨rfl, rfl, rfl, by simp [setBlock], fun i _ hi => heap_setBlock_other h1 _ (fun e => hi (by rw [e]))⟩, by simp [setBlock]⟩
    · simp [Instr.mapUpdate, run_underlying ht, MapKept.run_getObj_map h1, K.check, hf, MapKept.run_setObj_map _ h1, Result.andThen, setBlock, Array.getElem?_eq_getElem hj, hkey, K.stays]
    · rw [heap_setBlock_other h1 _ (Ne.symm hne)]; exact h2
    · rw [hset, List.map_set, h3, g4, List.map_set]
    · intro x hx
      obtain ⟨y, hy, e⟩ := hmem x hx
      rw [e]; exact h4 y hy
    · rw [hborn]; exact h6
    · intro x hx
      obtain ⟨y, hy, e⟩ := hmem x hx
      rw [e]; exact h7 y hy
    · unfold leftOf at h9 ⊢
      rw [Array.toList_filter] at h9 ⊢
      rw [hset, filter_set (p := fun e : MapEntry => !seen.contains e.born) (fun y hy => by
        rw [Array.getElem?_toList, Array.getElem?_eq_getElem hj] at hy
        injection hy with hy; subst hy; exact hseen) (x := ⟨enc k, v, es[j].born⟩) hseen]
      exact h9
/-- a delete of a key that the loop has met -/
theorem RangeL.del (h : RangeL enc w b r l rest) (K : KeyT P kt enc) (ht : P.underlying t = some (.map kt et)) (hi : ∀ a b, enc a = enc b → a = b) (hn : (l.map (·.1)).Nodup) (kt' ty : TypeId) (k : α) {u : Value} (hk : get1 k l = some u) (hr : k ∉ rest.map (·.1)) :
    ∃ w', (Builtin.delete_ #[t, kt'] ty #[.map (some b), enc k]).run P w = .ok (.tuple #[]) w' ∧ RangeL enc w' b r (del1 k l) rest ∧ w.grownBy w' (some b) ∧ w'.heap.size = w.heap.size := by
  have hne := h.ne
  obtain ⟨es, cl, seen, since, c0, h1, h2, h3, h4, h5, h6, h7, h8, h9⟩ := h
  have hf := K.find es.toList l k w h3
  cases hfi : find1 k l 0 with
  | none => rw [← find1_get k l 0, hfi] at hk; cases hk
  | some p =>
    obtain ⟨j, u'⟩ := p
    rw [hfi] at hf
    obtain ⟨_, g2, g3⟩ := del1_erase hn hfi
    obtain ⟨_, _, g5, _⟩ := find1_some (v := u') hfi
    simp only [Nat.sub_zero] at g2 g3 g5
    have hj : j < es.size := by have := congrArg List.length h3; simp at this; omega
    have hkey : es[j].key = enc k := by
      have e1 : (es.toList.map (fun e => (e.key, e.val)))[j]? = (l.map (fun p => (enc p.1, p.2)))[j]? := by rw [h3]
      simp [List.getElem?_map, g5, Array.getElem?_eq_getElem hj] at e1
      exact e1.1
    have hsub : (es.eraseIdxIfInBounds j).toList = es.toList.eraseIdx j := by
      unfold Array.eraseIdxIfInBounds
      rw [dif_pos hj]; simp
    have hseen : (fun e : MapEntry => !seen.contains e.born) es[j] = false := by
      by_cases hs : (fun e : MapEntry => !seen.contains e.born) es[j] = true
      · exfalso
        have hin : es[j] ∈ (leftOf es seen).toList := by
          unfold leftOf
          rw [Array.toList_filter]
          exact List.mem_filter.2 ⟨by simp, hs⟩
        have : (es[j].key, es[j].val) ∈ rest.map (fun p => (enc p.1, p.2)) := by rw [← h9]; exact List.mem_map.2 ⟨_, hin, rfl⟩
        obtain ⟨q, hq, e⟩ := List.mem_map.1 this
        injection e with e1 e2
        exact hr (List.mem_map.2 ⟨q, hq, hi _ _ (by rw [e1, hkey])⟩)
      · simpa using hs
    refine ⟨setBlock w b (.map (es.eraseIdxIfInBounds j) cl), ?_, ⟨_, cl, seen, since, c0, heap_setBlock_same h1 _, ?_, ?_, ?_, h5, ?_, ?_, h8, ?_⟩, ⟨rfl, rfl, rfl, by simp [setBlock], fun i _ hi => heap_setBlock_other h1 _ (fun e => hi (by rw [e]))⟩, by simp [setBlock]⟩
    · simp [Builtin.delete_, run_underlying ht, MapKept.run_getObj_map h1, K.check, hf, MapKept.run_setObj_map _ h1, Result.andThen, setBlock]
    · rw [heap_setBlock_other h1 _ (Ne.symm hne)]; exact h2
    · rw [hsub, g3, ChangeMaps.map_eraseIdx, ChangeMaps.map_eraseIdx, h3]
    · intro x hx
      rw [hsub] at hx
      exact h4 x ((List.eraseIdx_sublist _ _).subset hx)
    · rw [hsub]
      exact (List.Sublist.map _ (List.eraseIdx_sublist _ _)).nodup h6
    · intro x hx
      rw [hsub] at hx
      exact h7 x ((List.eraseIdx_sublist _ _).subset hx)
    · unfold leftOf at h9 ⊢
      rw [Array.toList_filter] at h9 ⊢
      rw [hsub, filter_erase (p := fun e : MapEntry => !seen.contains e.born) (fun y hy => by
        rw [Array.getElem?_toList, Array.getElem?_eq_getElem hj] at hy
        injection hy with hy; subst hy; exact hseen)]
      exact h9
end
end Go.Proofs.Ytfakfnekcgkelaa
