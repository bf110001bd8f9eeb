/- Loops over maps that are lists of pairs. How many zones have an ID: counts as a map. -/
import Derived.Maps.Range
import Derived.Test.YtepjehcmiofehaaGreatPq5
import Derived.Test.YtepjehcmiofehaaGreatPq15
namespace Go.Proofs.YtepjehcmiofehaaGreat
open Go.RowKit Go.ChangeMaps Go.MapKept
set_option linter.unusedVariables false
set_option linter.unusedSimpArgs false
set_option linter.unusedSectionVars false
theorem MapOf.grown {α : Type} {enc : α → Value} {w w' : World} {b : Nat} {row : Option Nat} {l : List (α × Value)} (h : MapOf enc w b l) (hg : w.grownBy w' row) (hne : some b ≠ row) : MapOf enc w' b l :=
  h.block (hg.block b h.lt hne)
/-- a loop over the map in block b goes on, its iterator lies in block r: these pairs are left -/
def RangeL {α : Type} (enc : α → Value) (w : World) (b r : Nat) (l rest : List (α × Value)) : Prop :=
  ∃ es cl seen since c0, w.heap[b]? = some (.map es cl) ∧ w.heap[r]? = some (.mapIter (some b) since seen c0) ∧ es.toList.map (fun e => (e.key, e.val)) = l.map (fun p => (enc p.1, p.2)) ∧
    (∀ x ∈ es.toList, x.born < since) ∧ since ≤ c0 ∧ (es.toList.map (·.born)).Nodup ∧ (∀ x ∈ es.toList, x.born < cl) ∧ since ≤ cl ∧
    (leftOf es seen).toList.map (fun e => (e.key, e.val)) = rest.map (fun p => (enc p.1, p.2))
section
variable {α : Type} {enc : α → Value} {P : Program} {w : World} {b r : Nat} {l rest : List (α × Value)}
theorem RangeL.map (h : RangeL enc w b r l rest) : MapOf enc w b l := by
  obtain ⟨es, cl, seen, since, c0, h1, h2, h3, h4, h5, h6, h7, h8, h9⟩ := h
  exact ⟨es, cl, h1, h3, h7, h6⟩
theorem RangeL.ne (h : RangeL enc w b r l rest) : b ≠ r := by
  obtain ⟨es, cl, seen, since, c0, h1, h2, _⟩ := h
  intro e; subst e; rw [h1] at h2; cases h2
theorem RangeL.lt (h : RangeL enc w b r l rest) : r < w.heap.size := by
  obtain ⟨es, cl, seen, since, c0, h1, h2, _⟩ := h
  exact (Array.getElem?_eq_some_iff.1 h2).1
theorem RangeL.left_eq (h : RangeL enc w b r l rest) : w.rangeLeft b r = rest.length := by
  obtain ⟨es, cl, seen, since, c0, h1, h2, h3, h4, h5, h6, h7, h8, h9⟩ := h
  simp only [World.rangeLeft, h1, h2]
  have := congrArg List.length h9
  simpa using this
/-- 'range m' -/
theorem MapOf.range {t kt et : TypeId} (h : MapOf enc w b l) (ht : P.underlying t = some (.map kt et)) :
    ∃ o, (Instr.range t (.map (some b))).run P w = .ok (.pointer (some ⟨w.heap.size, 0, none⟩)) (w.alloc o) ∧ RangeL enc (w.alloc o) b w.heap.size l l := by
  have hlt := h.lt
  obtain ⟨es, cl, hb, he, hlt1, hnd⟩ := h
  refine ⟨.mapIter (some b) cl #[] cl, run_range_map w t kt et b es cl ht hb, es, cl, #[], cl, cl, ?_, (MapKept.heap_alloc w _).1, he, hlt1, Nat.le_refl _, hnd, hlt1, Nat.le_refl _, ?_⟩
  · rw [(World.grownBy_alloc w _ none).block b hlt (by simp)]; exact hb
  · unfold leftOf
    rw [show es.filter (fun e => !(#[] : Array Nat).contains e.born) = es from Array.filter_eq_self.2 (fun x _ => by simp)]
    exact he
theorem left_push (es : Array MapEntry) (seen : Array Nat) (hn : (es.toList.map (·.born)).Nodup) {e : MapEntry} (he : e ∈ (leftOf es seen).toList) :
    ∃ pre post, (leftOf es seen).toList = pre ++ e :: post ∧ (leftOf es (seen.push e.born)).toList = pre ++ post := by
  have key : ∀ (xs : List MapEntry), (xs.map (·.born)).Nodup → e ∈ xs → ∃ pre post, xs = pre ++ e :: post ∧ xs.filter (fun x => !(x.born == e.born)) = pre ++ post := by
    intro xs
    induction xs with
    | nil => intro _ h; cases h
    | cons x t ih =>
      intro hnd hm
      simp only [List.map_cons, List.nodup_cons] at hnd
      rcases List.mem_cons.1 hm with rfl | hm
      · refine ⟨[], t, rfl, ?_⟩
        simp only [List.filter_cons, beq_self_eq_true, Bool.not_true, Bool.false_eq_true, if_false, List.nil_append]
        refine List.filter_eq_self.2 fun y hy => ?_
        have : y.born ≠ e.born := fun h => hnd.1 (h ▸ List.mem_map.2 ⟨y, hy, rfl⟩)
        simp [this]
      · obtain ⟨pre, post, h1, h2⟩ := ih hnd.2 hm
        have : x.born ≠ e.born := fun h => hnd.1 (h ▸ List.mem_map.2 ⟨e, hm, rfl⟩)
        refine ⟨x :: pre, post, by rw [h1]; rfl, ?_⟩
        simp [this, h2]
  have hsub : ((leftOf es seen).toList.map (·.born)).Nodup := by
    unfold leftOf
    rw [Array.toList_filter]
    exact (List.Sublist.map _ List.filter_sublist).nodup hn
  obtain ⟨pre, post, h1, h2⟩ := key _ hsub he
  refine ⟨pre, post, h1, ?_⟩
  rw [← h2]
  unfold leftOf
  rw [Array.toList_filter, Array.toList_filter, List.filter_filter]
  refine List.filter_congr fun x _ => ?_
  simp only [Array.contains_push]
  cases h3 : seen.contains x.born <;> cases h4 : (x.born == e.born) <;> simp_all
/-- 'next' -/
theorem RangeL.next (h : RangeL enc w b r l rest) (ty : TypeId) :
    (rest = [] ∧ (Instr.next (.pointer (some ⟨r, 0, none⟩)) false ty).run P w = .ok (.tuple #[.bool false]) w) ∨
    ∃ pre k v post w', rest = pre ++ (k, v) :: post ∧ (Instr.next (.pointer (some ⟨r, 0, none⟩)) false ty).run P w = .ok (.tuple #[.bool true, enc k, v]) w' ∧ RangeL enc w' b r l (pre ++ post) ∧
      w.grownBy w' (some r) ∧ w'.heap.size = w.heap.size ∧ (Instr.entry (.pointer (some ⟨r, 0, none⟩))).run P w' = .ok (.tuple #[enc k, v]) w' := by
  have hne := h.ne
  have hlt := h.lt
  obtain ⟨es, cl, seen, since, c0, h1, h2, h3, h4, h5, h6, h7, h8, h9⟩ := h
  rcases run_next_at (P := P) w ty r b since c0 seen es cl h2 h1 h4 h5 with ⟨hz, hrun⟩ | ⟨e, he, w1, hw1, hrun⟩
  · refine .inl ⟨?_, hrun⟩
    have : (leftOf es seen).toList = [] := by rw [Array.eq_empty_of_size_eq_zero hz]
    rw [this] at h9
    exact List.map_eq_nil_iff.1 h9.symm
  · obtain ⟨pre0, post0, g1, g2⟩ := left_push es seen h6 he
    rw [g1, List.map_append, List.map_cons] at h9
    obtain ⟨pre, t, rfl, e1, e2⟩ := List.map_eq_append_iff.1 h9.symm
    obtain ⟨⟨k, v⟩, post, rfl, e3, e4⟩ := List.map_eq_cons_iff.1 e2
    simp only [Prod.mk.injEq] at e3
    have hmem : e ∈ es.toList := by
      have : e ∈ (leftOf es seen).toList := he
      unfold leftOf at this
      rw [Array.toList_filter] at this
      exact (List.mem_filter.1 this).1
    have hr1 : w1.heap[r]? = some (.mapIter (some b) since seen c0) := by rcases hw1 with rfl | rfl <;> exact h2
    have hb1 : w1.heap[b]? = some (.map es cl) := by rcases hw1 with rfl | rfl <;> exact h1
    have hr' : (setBlock w1 r (.mapIter (some b) since (seen.push e.born) cl)).heap[r]? = some (.mapIter (some b) since (seen.push e.born) cl) := (MapKept.heap_set hr1).1
    have hb' : (setBlock w1 r (.mapIter (some b) since (seen.push e.born) cl)).heap[b]? = some (.map es cl) := ((MapKept.heap_set hr1).2 _ hne).trans hb1
    refine .inr ⟨pre, k, v, post, setBlock w1 r (.mapIter (some b) since (seen.push e.born) cl), rfl, ?_, ⟨es, cl, seen.push e.born, since, cl, hb', hr', h3, h4, h8, h6, h7, h8, ?_⟩, ?_, ?_, ?_⟩
    · rw [hrun, ← e3.1, ← e3.2]
    · rw [g2, List.map_append, List.map_append, e1, e4]
    · rcases hw1 with rfl | rfl <;> exact ⟨rfl, rfl, rfl, by simp [setBlock], fun i _ hi => (MapKept.heap_set hr1).2 _ (fun e => hi (by rw [e]))⟩
    · rcases hw1 with rfl | rfl <;> simp only [setBlock, Array.size_setIfInBounds] <;> rfl
    · rw [run_entry_at (P := P) _ r b since seen es cl e hr' hb' hmem h6, ← e3.1, ← e3.2]
end
end Go.Proofs.YtepjehcmiofehaaGreat
namespace Go.Proofs.YtepjehcmiofehaaGreat
open Go.RowKit Go.MapKept
set_option linter.unusedVariables false
set_option linter.unusedSimpArgs false
def vCn (C : List (Int × Int)) : List (Int × Value) := C.map fun p => (p.1, Value.int .i64 p.2)
theorem kIm : KeyT Tryz.prog 3 encI := int_key Tryz.underlying3
theorem zIm : ∀ w, (zeroValue 3).run Tryz.prog w = .ok (.int .i64 0) w := fun _ => by kernel_rfl
def gD (a : Int) (C : List (Int × Int)) : Int := (get1 a C).getD 0
theorem get_vCn (k : Int) (C : List (Int × Int)) : (get1 k (vCn C)).getD (.int .i64 0) = .int .i64 (gD k C) := by
  unfold vCn gD; rw [get1_map (fun n => Value.int .i64 n)]; cases get1 k C <;> rfl
theorem put_vCn (k : Int) (n : Int) (C : List (Int × Int)) : put1 k (.int .i64 n) (vCn C) = vCn (put1 k n C) := by
  unfold vCn; rw [put1_map (fun n => Value.int .i64 n)]
def addc (C : List (Int × Int)) (a : Int) : List (Int × Int) := put1 a (gD a C + 1) C
def cnts (xs : List Int) : List (Int × Int) := xs.foldl addc []
theorem cnts_snoc (xs : List Int) (a : Int) : cnts (xs ++ [a]) = addc (cnts xs) a := by simp [cnts]
theorem gD_addc (a b : Int) (C : List (Int × Int)) : gD b (addc C a) = gD b C + if a = b then 1 else 0 := by
  unfold addc gD
  rw [get1_put1]
  by_cases h : a = b
  · subst h; simp
  · simp [h]
theorem gD_fold (b : Int) : ∀ (xs : List Int) (C : List (Int × Int)), gD b (xs.foldl addc C) = gD b C + (xs.count b : Nat)
  | [], C => by simp
  | a :: r, C => by
    rw [List.foldl_cons, gD_fold b r, gD_addc, List.count_cons]
    by_cases h : a = b
    · subst h; simp; omega
    · have : (a == b) = false := by simpa using h
      simp [h, this]
theorem gD_cnts (b : Int) (xs : List Int) : gD b (cnts xs) = (xs.count b : Nat) := by
  unfold cnts; rw [gD_fold]; simp [gD, get1]
theorem cnts_keys : ∀ (xs : List Int) (C : List (Int × Int)), (C.map (·.1)).Nodup → ((xs.foldl addc C).map (·.1)).Nodup ∧ ∀ k ∈ (xs.foldl addc C).map (·.1), k ∈ C.map (·.1) ∨ k ∈ xs
  | [], C, h => ⟨h, fun k hk => .inl hk⟩
  | a :: r, C, h => by
    obtain ⟨h1, h2⟩ := cnts_keys r (addc C a) (nodup_put1 h)
    refine ⟨h1, fun k hk => ?_⟩
    rcases h2 k hk with h3 | h3
    · unfold addc at h3
      rw [keys_put1] at h3
      split at h3
      · exact .inl h3
      · rcases List.mem_append.1 h3 with h3 | h3
        · exact .inl h3
        · simp at h3; subst h3; exact .inr List.mem_cons_self
    · exact .inr (List.mem_cons_of_mem _ h3)
theorem cnts_nodup (xs : List Int) : ((cnts xs).map (·.1)).Nodup := (cnts_keys xs [] List.nodup_nil).1
theorem cnts_mem {xs : List Int} {p : Int × Int} (h : p ∈ cnts xs) : p.1 ∈ xs ∧ p.2 = (xs.count p.1 : Nat) := by
  refine ⟨?_, ?_⟩
  · rcases (cnts_keys xs [] List.nodup_nil).2 p.1 (List.mem_map.2 ⟨p, h, rfl⟩) with h | h
    · cases h
    · exact h
  · rw [← gD_cnts]
    unfold gD
    rw [get1_of_mem (cnts_nodup xs) h]; rfl
theorem mem_cnts {xs : List Int} {a : Int} (h : a ∈ xs) : (a, ((xs.count a : Nat) : Int)) ∈ cnts xs := by
  have h1 := gD_cnts a xs
  have h2 : 0 < xs.count a := List.count_pos_iff.2 h
  unfold gD at h1
  cases hg : get1 a (cnts xs) with
  | none => rw [hg] at h1; simp at h1; omega
  | some n =>
    rw [hg] at h1
    simp at h1
    subst h1
    exact get1_mem hg
theorem cnts_le (xs : List Int) (a : Int) : 0 ≤ gD a (cnts xs) ∧ gD a (cnts xs) ≤ xs.length := by
  rw [gD_cnts]
  have := List.count_le_length (a := a) (l := xs)
  omega
theorem nodup_count : ∀ (xs : List Int), (∀ a ∈ xs, xs.count a ≤ 1) → xs.Nodup
  | [], _ => List.nodup_nil
  | a :: r, h => by
    have h1 : a ∉ r := fun hm => by
      have h2 := h a List.mem_cons_self
      have h3 : 0 < r.count a := List.count_pos_iff.2 hm
      rw [List.count_cons_self] at h2
      omega
    refine List.nodup_cons.2 ⟨h1, nodup_count r (fun b hb => ?_)⟩
    have h2 := h b (List.mem_cons_of_mem _ hb)
    rw [List.count_cons] at h2
    omega
theorem count_nodup : ∀ (xs : List Int), xs.Nodup → ∀ a, xs.count a ≤ 1
  | [], _, a => by simp
  | b :: r, h, a => by
    obtain ⟨h1, h2⟩ := List.nodup_cons.1 h
    have ih := count_nodup r h2 a
    rw [List.count_cons]
    by_cases e : b = a
    · subst e
      have : r.count b = 0 := List.count_eq_zero.2 h1
      simp [this]
    · have : (b == a) = false := by simpa using e
      simp [this]; exact ih
theorem cnts_ok {xs : List Int} {n : Int} : (∀ p ∈ cnts xs, p.2 ≤ 1 ∧ 1 ≤ p.1 ∧ p.1 ≤ n - 1) ↔ (xs.Nodup ∧ ∀ a ∈ xs, 1 ≤ a ∧ a < n) :=
  ⟨fun h => ⟨nodup_count xs (fun a ha => by have := (h _ (mem_cnts ha)).1; simp at this; omega), fun a ha => by have := (h _ (mem_cnts ha)).2; simp at this; omega⟩,
   fun h p hp => by
    obtain ⟨h1, h2⟩ := cnts_mem hp
    have h3 := count_nodup xs h.1 p.1
    have h4 := h.2 p.1 h1
    omega⟩
theorem ids_take {l : List Zn} {k : Nat} (h : k < l.length) : idsA (l.take (k + 1)) = idsA (l.take k) ++ idsZ l[k] := by
  rw [List.take_add_one, List.getElem?_eq_getElem h, idsA_app]
  simp [idsA]
theorem ids_len (l : List Zn) : (idsA l).length ≤ 2 * l.length := by
  induction l with
  | nil => simp [idsA]
  | cons a r ih =>
    rw [idsA_cons, List.length_append, List.length_cons]
    have : (idsZ a).length ≤ 2 := by unfold idsZ; by_cases h : a.pd = 1 <;> simp [h]
    omega
theorem whl_grownM {w w' : World} {b g : Nat} {t : TypeId} {cs : Array Value} (h : Whl w b t cs) (hg : w.grownBy w' (some g)) (hne : b ≠ g) : Whl w' b t cs := (hg.block b h.low (by intro e; injection e with e; exact hne e)).trans h
theorem map_allocM {α : Type} {enc : α → Value} {w : World} {b : Nat} {l : List (α × Value)} (h : MapOf enc w b l) (o : Obj) : MapOf enc (w.alloc o) b l := h.grown (World.grownBy_alloc w o none) (by simp)
theorem vCn_split {rest : List (Int × Int)} {pre post : List (Int × Value)} {k : Int} {v : Value} (h : vCn rest = pre ++ (k, v) :: post) : ∃ p n q, rest = p ++ (k, n) :: q ∧ v = .int .i64 n ∧ pre ++ post = vCn (p ++ q) := by
  unfold vCn at h
  obtain ⟨p, t, rfl, e1, e2⟩ := List.map_eq_append_iff.1 h
  obtain ⟨⟨k', n⟩, q, rfl, e3, e4⟩ := List.map_eq_cons_iff.1 e2
  simp only [Prod.mk.injEq] at e3
  obtain ⟨rfl, rfl⟩ := e3
  exact ⟨p, n, q, rfl, rfl, by rw [← e1, ← e4, vCn, List.map_append]⟩
end Go.Proofs.YtepjehcmiofehaaGreat
