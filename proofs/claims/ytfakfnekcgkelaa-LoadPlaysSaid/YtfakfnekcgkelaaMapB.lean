/- Loops over maps that are lists of pairs. -/
import Derived.Test.YtfakfnekcgkelaaMapA
import Derived.Maps.Range
namespace Go.Proofs.Ytfakfnekcgkelaa
open Go.RowKit Go.ChangeMaps Go.MapKept
set_option linter.unusedVariables false
set_option linter.unusedSimpArgs false
set_option linter.unusedSectionVars false

theorem MapOf.grown {α : Type} {enc : α → Value} {w w' : World} {b : Nat} {row : Option Nat} {l : List (α × Value)} (h : MapOf enc w b l) (hg : w.grownBy w' row) (hne : some b ≠ row) : MapOf enc w' b l :=
  h.block (hg.block b h.lt hne)
theorem MapOf.inj {α : Type} {enc : α → Value} (hi : ∀ a b, enc a = enc b → a = b) {w : World} {b : Nat} {l l' : List (α × Value)} (h : MapOf enc w b l) (h' : MapOf enc w b l') : l = l' := by
  obtain ⟨es, cl, hb, he, _⟩ := h
  obtain ⟨es', cl', hb', he', _⟩ := h'
  rw [hb] at hb'; injection hb' with hb'; injection hb' with e1 e2; subst e1
  rw [he] at he'
  have : ∀ (x y : List (α × Value)), x.map (fun p => (enc p.1, p.2)) = y.map (fun p => (enc p.1, p.2)) → x = y := by
    intro x
    induction x with
    | nil => intro y e; cases y with | nil => rfl | cons _ _ => cases e
    | cons p r ih =>
      intro y e
      cases y with
      | nil => cases e
      | cons q s =>
        simp only [List.map_cons, List.cons.injEq, Prod.mk.injEq] at e
        rw [ih s e.2]
        obtain ⟨a, v⟩ := p; obtain ⟨a', v'⟩ := q
        simp at e
        rw [hi _ _ e.1.1, e.1.2]
  exact this _ _ he'
/-- a loop over the map in block b goes on, its iterator lies in block r: these pairs are left -/
def RangeL {α : Type} (enc : α → Value) (w : World) (b r : Nat) (l rest : List (α × Value)) : Prop :=
  ∃ es cl seen since c0, w.heap[b]? = some (.map es cl) ∧ w.heap[r]? = some (.mapIter (some b) since seen c0) ∧ es.toList.map (fun e => (e.key, e.val)) = l.map (fun p => (enc p.1, p.2)) ∧
    (∀ x ∈ es.toList, x.born < since) ∧ since ≤ c0 ∧ (es.toList.map (·.born)).Nodup ∧ (∀ x ∈ es.toList, x.born < cl) ∧ since ≤ cl ∧
    (leftOf es seen).toList.map (fun e => (e.key, e.val)) = rest.map (fun p => (enc p.1, p.2))
section
variable {α : Type} {enc : α → Value} {P : Program} {w : World} {b r : Nat} {l rest : List (α × Value)}
theorem RangeL.map (h : RangeL enc w b r l rest) : MapOf enc w b l := by
  obtain ⟨es, cl, seen, since, c0, h1, h2, h3, h4, h5, h6, h7, h8, h9⟩ := h
  exact ⟨es, cl, h1, h3, h7, h6⟩
theorem RangeL.ne (h : RangeL enc w b r l rest) : b ≠ r := by
  obtain ⟨es, cl, seen, since, c0, h1, h2, _⟩ := h
  intro e; subst e; rw [h1] at h2; cases h2
theorem RangeL.lt (h : RangeL enc w b r l rest) : r < w.heap.size := by
  obtain ⟨es, cl, seen, since, c0, h1, h2, _⟩ := h
  exact (Array.getElem?_eq_some_iff.1 h2).1
theorem RangeL.blocks {w' : World} (h : RangeL enc w b r l rest) (hb : w'.heap[b]? = w.heap[b]?) (hr : w'.heap[r]? = w.heap[r]?) : RangeL enc w' b r l rest := by
  obtain ⟨es, cl, seen, since, c0, h1, h2, h3⟩ := h
  exact ⟨es, cl, seen, since, c0, by rw [hb]; exact h1, by rw [hr]; exact h2, h3⟩
theorem RangeL.left_eq (h : RangeL enc w b r l rest) : w.rangeLeft b r = rest.length := by
  obtain ⟨es, cl, seen, since, c0, h1, h2, h3, h4, h5, h6, h7, h8, h9⟩ := h
  simp only [World.rangeLeft, h1, h2]
  have := congrArg List.length h9
  simpa using this
/-- 'range m' -/
theorem MapOf.range {t kt et : TypeId} (h : MapOf enc w b l) (ht : P.underlying t = some (.map kt et)) :
    ∃ o, (Instr.range t (.map (some b))).run P w = .ok (.pointer (some ⟨w.heap.size, 0, none⟩)) (w.alloc o) ∧ RangeL enc (w.alloc o) b w.heap.size l l := by
  have hlt := h.lt
  obtain ⟨es, cl, hb, he, hlt1, hnd⟩ := h
  refine ⟨.mapIter (some b) cl #[] cl, run_range_map w t kt et b es cl ht hb, es, cl, #[], cl, cl, ?_, (MapKept.heap_alloc w _).1, he, hlt1, Nat.le_refl _, hnd, hlt1, Nat.le_refl _, ?_⟩
  · rw [(World.grownBy_alloc w _ none).block b hlt (by simp)]; exact hb
  · unfold leftOf
    rw [show es.filter (fun e => !(#[] : Array Nat).contains e.born) = es from Array.filter_eq_self.2 (fun x _ => by simp)]
    exact he
theorem left_push (es : Array MapEntry) (seen : Array Nat) (hn : (es.toList.map (·.born)).Nodup) {e : MapEntry} (he : e ∈ (leftOf es seen).toList) :
    ∃ pre post, (leftOf es seen).toList = pre ++ e :: post ∧ (leftOf es (seen.push e.born)).toList = pre ++ post := by
  have key : ∀ (xs : List MapEntry), (xs.map (·.born)).Nodup → e ∈ xs → ∃ pre post, xs = pre ++ e :: post ∧ xs.filter (fun x => !(x.born == e.born)) = pre ++ post := by
    intro xs
    induction xs with
    | nil => intro _ h; cases h
    | cons x t ih =>
      intro hnd hm
      simp only [List.map_cons, List.nodup_cons] at hnd
      rcases List.mem_cons.1 hm with rfl | hm
      · refine ⟨[], t, rfl, ?_⟩
        simp only [List.filter_cons, beq_self_eq_true, Bool.not_true, Bool.false_eq_true, if_false, List.nil_append]
        refine List.filter_eq_self.2 fun y hy => ?_
        have : y.born ≠ e.born := fun h => hnd.1 (h ▸ List.mem_map.2 ⟨y, hy, rfl⟩)
        simp [this]
      · obtain ⟨pre, post, h1, h2⟩ := ih hnd.2 hm
        have : x.born ≠ e.born := fun h => hnd.1 (h ▸ List.mem_map.2 ⟨e, hm, rfl⟩)
        refine ⟨x :: pre, post, by rw [h1]; rfl, ?_⟩
        simp [this, h2]
  have hsub : ((leftOf es seen).toList.map (·.born)).Nodup := by
    unfold leftOf
    rw [Array.toList_filter]
    exact (List.Sublist.map _ List.filter_sublist).nodup hn
  obtain ⟨pre, post, h1, h2⟩ := key _ hsub he
  refine ⟨pre, post, h1, ?_⟩
  rw [← h2]
  unfold leftOf
  rw [Array.toList_filter, Array.toList_filter, List.filter_filter]
  refine List.filter_congr fun x _ => ?_
  simp only [Array.contains_push]
  cases h3 : seen.contains x.born <;> cases h4 : (x.born == e.born) <;> simp_all
/-- 'next' -/
theorem RangeL.next (h : RangeL enc w b r l rest) (ty : TypeId) :
    (rest = [] ∧ (Instr.next (.pointer (some ⟨r, 0, none⟩)) false ty).run P w = .ok (.tuple #[.bool false]) w) ∨
    ∃ pre k v post w', rest = pre ++ (k, v) :: post ∧ (Instr.next (.pointer (some ⟨r, 0, none⟩)) false ty).run P w = .ok (.tuple #[.bool true, enc k, v]) w' ∧ RangeL enc w' b r l (pre ++ post) ∧
      w.grownBy w' (some r) ∧ w'.heap.size = w.heap.size ∧ (Instr.entry (.pointer (some ⟨r, 0, none⟩))).run P w' = .ok (.tuple #[enc k, v]) w' := by
  have hne := h.ne
  have hlt := h.lt
  obtain ⟨es, cl, seen, since, c0, h1, h2, h3, h4, h5, h6, h7, h8, h9⟩ := h
  rcases run_next_at (P := P) w ty r b since c0 seen es cl h2 h1 h4 h5 with ⟨hz, hrun⟩ | ⟨e, he, w1, hw1, hrun⟩
  · refine .inl ⟨?_, hrun⟩
    have : (leftOf es seen).toList = [] := by rw [Array.eq_empty_of_size_eq_zero hz]
    rw [this] at h9
    exact List.map_eq_nil_iff.1 h9.symm
  · obtain ⟨pre0, post0, g1, g2⟩ := left_push es seen h6 he
    rw [g1, List.map_append, List.map_cons] at h9
    obtain ⟨pre, t, rfl, e1, e2⟩ := List.map_eq_append_iff.1 h9.symm
    obtain ⟨⟨k, v⟩, post, rfl, e3, e4⟩ := List.map_eq_cons_iff.1 e2
    simp only [Prod.mk.injEq] at e3
    have hmem : e ∈ es.toList := by
      have : e ∈ (leftOf es seen).toList := he
      unfold leftOf at this
      rw [Array.toList_filter] at this
      exact (List.mem_filter.1 this).1
    have hr1 : w1.heap[r]? = some (.mapIter (some b) since seen c0) := by rcases hw1 with rfl | rfl <;> exact h2
    have hb1 : w1.heap[b]? = some (.map es cl) := by rcases hw1 with rfl | rfl <;> exact h1
    have hr' : (setBlock w1 r (.mapIter (some b) since (seen.push e.born) cl)).heap[r]? = some (.mapIter (some b) since (seen.push e.born) cl) := (MapKept.heap_set hr1).1
    have hb' : (setBlock w1 r (.mapIter (some b) since (seen.push e.born) cl)).heap[b]? = some (.map es cl) := ((MapKept.heap_set hr1).2 _ hne).trans hb1
    refine .inr ⟨pre, k, v, post, setBlock w1 r (.mapIter (some b) since (seen.push e.born) cl), rfl, ?_, ⟨es, cl, seen.push e.born, since, cl, hb', hr', h3, h4, h8, h6, h7, h8, ?_⟩, ?_, ?_, ?_⟩
    · rw [hrun, ← e3.1, ← e3.2]
    · rw [g2, List.map_append, List.map_append, e1, e4]
    · rcases hw1 with rfl | rfl <;> exact ⟨rfl, rfl, rfl, by simp [setBlock], fun i _ hi => (MapKept.heap_set hr1).2 _ (fun e => hi (by rw [e]))⟩
    · rcases hw1 with rfl | rfl <;> simp only [setBlock, Array.size_setIfInBounds] <;> rfl
    · rw [run_entry_at (P := P) _ r b since seen es cl e hr' hb' hmem h6, ← e3.1, ← e3.2]
end
end Go.Proofs.Ytfakfnekcgkelaa
