/- Maps of numbers, and of texts, as lists of pairs: what a look-up, a store, len, a range make of them. Loops over maps that are lists of pairs. Maps: what a delete makes of them. What the functions of package purse, and the document's own answers to them, retur -/
import Derived.Test.YtdlbiobjnohfbaaGreatTkVb
namespace Go.Proofs.YtdlbiobjnohfbaaGreat
open Go.RowKit Go.ChangeMaps Go.MapKept
set_option linter.unusedVariables false
set_option linter.unusedSimpArgs false
set_option linter.unusedSectionVars false
section
variable {α : Type} [DecidableEq α] {β : Type}
def get1 (k : α) : List (α × β) → Option β
 | [] => none
 | (a, v) :: r => if a = k then some v else get1 k r
def put1 (k : α) (v : β) : List (α × β) → List (α × β)
 | [] => [(k, v)]
 | (a, x) :: r => if a = k then (a, v) :: r else (a, x) :: put1 k v r
def find1 (k : α) : List (α × β) → Nat → Option (Nat × β)
 | [], _ => none
 | (a, v) :: r, i => if a = k then some (i, v) else find1 k r (i + 1)
theorem find1_get (k : α) : ∀ (l : List (α × β)) (i : Nat), (find1 k l i).map (·.2) = get1 k l
 | [], i => rfl
 | (a, v) :: r, i => by
  simp only [find1, get1]
  split
  · rfl
  · exact find1_get k r (i + 1)
theorem find1_none {k : α} : ∀ {l : List (α × β)} {i : Nat} {v : β}, find1 k l i = none → put1 k v l = l ++ [(k, v)]
 | [], i, v, h => rfl
 | (a, x) :: r, i, v, h => by
  simp only [find1] at h
  split at h
  · cases h
  ·
   rename_i hn
   simp only [put1, if_neg hn, List.cons_append, find1_none h]
theorem find1_some {k : α} : ∀ {l : List (α × β)} {i j : Nat} {u v : β}, find1 k l i = some (j, u) → i ≤ j ∧ j - i < l.length ∧ l[j - i]? = some (k, u) ∧ put1 k v l = l.set (j - i) (k, v)
 | [], i, j, u, v, h => by cases h
 | (a, x) :: r, i, j, u, v, h => by
  simp only [find1] at h
  split at h
  ·
   rename_i hn
   injection h with h; injection h with h1 h2
   subst h1; subst h2; subst hn
   simp [put1]
  ·
   rename_i hn
   obtain ⟨h1, h2, h3, h4⟩ := find1_some (v := v) h
   have e : j - i = (j - (i + 1)) + 1 := by omega
   refine ⟨by omega, by simp; omega, ?_, ?_⟩
   · rw [e, List.getElem?_cons_succ]; exact h3
   · rw [e, List.set_cons_succ, ← h4]; simp [put1, hn]
theorem get1_put1 (k j : α) (v : β) : ∀ (l : List (α × β)), get1 j (put1 k v l) = if k = j then some v else get1 j l
 | [] => by simp [put1, get1]
 | (a, x) :: r => by
  simp only [put1]
  split
  ·
   rename_i h; subst h
   simp only [get1]
   split <;> simp_all
  ·
   rename_i h
   simp only [get1, get1_put1 k j v r]
   split
   · rename_i h2; subst h2; rw [if_neg (fun e => h e.symm)]
   · rfl
theorem get1_none {k : α} : ∀ {l : List (α × β)}, get1 k l = none ↔ k ∉ l.map (·.1)
 | [] => by simp [get1]
 | (a, x) :: r => by
  simp only [get1, List.map_cons, List.mem_cons, not_or]
  by_cases h : a = k
  · subst h; simp
  ·
   rw [if_neg h, get1_none]
   exact ⟨fun hr => ⟨fun e => h e.symm, hr⟩, fun hr => hr.2⟩
theorem put1_map {γ : Type} (f : β → γ) (k : α) (v : β) (l : List (α × β)) : (put1 k v l).map (fun p => (p.1, f p.2)) = put1 k (f v) (l.map fun p => (p.1, f p.2)) := by
 induction l with
 | nil => rfl
 | cons p r ih =>
  obtain ⟨a, x⟩ := p
  simp only [put1, List.map_cons]
  split <;> simp [ih]
theorem get1_map {γ : Type} (f : β → γ) (k : α) (l : List (α × β)) : get1 k (l.map fun p => (p.1, f p.2)) = (get1 k l).map f := by
 induction l with
 | nil => rfl
 | cons p r ih =>
  obtain ⟨a, x⟩ := p
  simp only [get1, List.map_cons]
  split <;> simp [ih]
theorem get1_mem {k : α} {v : β} : ∀ {l : List (α × β)}, get1 k l = some v → (k, v) ∈ l
 | [], h => by cases h
 | (a, x) :: r, h => by
  simp only [get1] at h
  split at h
  · rename_i e; subst e; injection h with h; subst h; exact List.mem_cons_self
  · exact List.mem_cons_of_mem _ (get1_mem h)
theorem get1_of_mem {k : α} {v : β} : ∀ {l : List (α × β)}, (l.map (·.1)).Nodup → (k, v) ∈ l → get1 k l = some v
 | [], _, h => by cases h
 | (a, x) :: r, hn, h => by
  simp only [List.map_cons, List.nodup_cons] at hn
  simp only [get1]
  rcases List.mem_cons.1 h with e | h
  · injection e with e1 e2; subst e1; subst e2; rw [if_pos rfl]
  · rw [if_neg (fun e => hn.1 (by subst e; exact List.mem_map.2 ⟨_, h, rfl⟩)), get1_of_mem hn.2 h]
end
def MapOf {α : Type} (enc : α → Value) (w : World) (b : Nat) (l : List (α × Value)) : Prop :=
 ∃ es cl, w.heap[b]? = some (.map es cl) ∧ es.toList.map (fun e => (e.key, e.val)) = l.map (fun p => (enc p.1, p.2)) ∧ (∀ x ∈ es.toList, x.born < cl) ∧ (es.toList.map (·.born)).Nodup
theorem MapOf.lt {α : Type} {enc : α → Value} {w : World} {b : Nat} {l : List (α × Value)} (h : MapOf enc w b l) : b < w.heap.size := by
 obtain ⟨es, cl, hb, _⟩ := h; exact (Array.getElem?_eq_some_iff.1 hb).1
theorem MapOf.block {α : Type} {enc : α → Value} {w w' : World} {b : Nat} {l : List (α × Value)} (h : MapOf enc w b l) (hb : w'.heap[b]? = w.heap[b]?) : MapOf enc w' b l := by
 obtain ⟨es, cl, h1, h2⟩ := h; exact ⟨es, cl, by rw [hb]; exact h1, h2⟩
theorem MapOf.made {α : Type} {enc : α → Value} (w : World) : MapOf enc (w.alloc (.map #[] 0)) w.heap.size [] :=
 ⟨#[], 0, (MapKept.heap_alloc w _).1, rfl, by simp, by simp⟩
structure KeyT {α : Type} [DecidableEq α] (P : Program) (kt : TypeId) (enc : α → Value) : Prop where
 check : ∀ (e : Bool) (a : α) (w : World), (Instr.checkKey e 10000 kt (enc a)).run P w = .ok () w
 find : ∀ (es : List MapEntry) (l : List (α × Value)) (a : α) (w : World), es.map (fun e => (e.key, e.val)) = l.map (fun p => (enc p.1, p.2)) → (Instr.findKey kt (enc a) es).run P w = .ok (find1 a l 0) w
 stays : ∀ (a : α) (w : World), (Instr.keyThatStays (enc a) (enc a)).run P w = .ok (enc a) w
section
variable {α : Type} [DecidableEq α] {enc : α → Value} {P : Program} {w : World} {t kt et : TypeId} {b : Nat} {l : List (α × Value)}
theorem MapOf.look (h : MapOf enc w b l) (K : KeyT P kt enc) (ht : P.underlying t = some (.map kt et)) {z : Value} (hz : (zeroValue et).run P w = .ok z w) (k : α) :
  (Instr.lookup t (.map (some b)) (enc k) false).run P w = .ok ((get1 k l).getD z) w := by
 obtain ⟨es, cl, hb, he, _⟩ := h
 have hf := K.find es.toList l k w he
 have hg := find1_get k l 0
 cases hfi : find1 k l 0 with
 | none =>
  rw [hfi] at hg hf
  simp at hg
  rw [← hg]
  simp [Instr.lookup, run_underlying ht, MapKept.run_getObj_map hb, K.check, hf, hz, Result.andThen]
 | some p =>
  obtain ⟨j, v⟩ := p
  rw [hfi] at hg hf
  simp at hg
  rw [← hg]
  simp [Instr.lookup, run_underlying ht, MapKept.run_getObj_map hb, K.check, hf, Result.andThen]
theorem look_nil (K : KeyT P kt enc) (ht : P.underlying t = some (.map kt et)) {z : Value} (hz : (zeroValue et).run P w = .ok z w) (k : α) :
  (Instr.lookup t (.map none) (enc k) false).run P w = .ok z w := by
 have hf := K.find [] [] k w rfl
 simp [Instr.lookup, run_underlying ht, K.check, hf, find1, hz, Result.andThen]
theorem MapOf.len (h : MapOf enc w b l) (ht : P.underlying t = some (.map kt et)) (ty : TypeId) : (Builtin.len_ #[t] ty #[.map (some b)]).run P w = .ok (.int .i64 l.length) w := by
 obtain ⟨es, cl, hb, he, _⟩ := h
 have hl : es.size = l.length := by have := congrArg List.length he; simpa using this
 simp [Builtin.len_, run_underlying ht, MapKept.run_getObj_map hb, Result.andThen, goInt, hl]
theorem MapOf.put (h : MapOf enc w b l) (K : KeyT P kt enc) (ht : P.underlying t = some (.map kt et)) (k : α) (v : Value) :
  ∃ w', (Instr.mapUpdate t (.map (some b)) (enc k) v).run P w = .ok () w' ∧ MapOf enc w' b (put1 k v l) ∧ w.grownBy w' (some b) ∧ w'.heap.size = w.heap.size := by
 obtain ⟨es, cl, hb, he, hlt, hnd⟩ := h
 have hf := K.find es.toList l k w he
 have grown : ∀ o : Obj, w.grownBy (setBlock w b o) (some b) := fun o => ⟨rfl, rfl, rfl, by simp [setBlock], fun i _ hi => heap_setBlock_other hb _ (fun e => hi (by rw [e]))⟩
 cases hfi : find1 k l 0 with
 | none =>
  rw [hfi] at hf
  refine ⟨setBlock w b (.map (es.push { key := enc k, val := v, born := cl }) (cl + 1)), ?_, ⟨_, _, heap_setBlock_same hb _, ?_, ?_, ?_⟩, grown _, by simp [setBlock]⟩
  · simp [Instr.mapUpdate, run_underlying ht, MapKept.run_getObj_map hb, K.check, hf, MapKept.run_setObj_map _ hb, Result.andThen, setBlock]
  · rw [find1_none hfi]; simp [he]
  ·
   intro x hx
   simp at hx
   rcases hx with hx | rfl
   · have := hlt x (by simpa using hx); omega
   · simp
  ·
   simp only [Array.toList_push, List.map_append, List.map_cons, List.map_nil]
   refine List.nodup_append.2 ⟨hnd, by simp, fun a ha b' hb' e => ?_⟩
   simp at hb'; subst hb'
   obtain ⟨x, hx, rfl⟩ := List.mem_map.1 ha
   have := hlt x hx; omega
 | some p =>
  obtain ⟨j, u⟩ := p
  rw [hfi] at hf
  obtain ⟨_, h2, h3, h4⟩ := find1_some (v := v) hfi
  simp only [Nat.sub_zero] at h2 h3 h4
  have hj : j < es.size := by have := congrArg List.length he; simp at this; omega
  have hkey : es[j].key = enc k := by
   have e1 : (es.toList.map (fun e => (e.key, e.val)))[j]? = (l.map (fun p => (enc p.1, p.2)))[j]? := by rw [he]
   simp [List.getElem?_map, h3, Array.getElem?_eq_getElem hj] at e1
   exact e1.1
  refine ⟨setBlock w b (.map (es.modify j fun e => { e with key := enc k, val := v }) cl), ?_, ⟨_, _, heap_setBlock_same hb _, ?_, ?_, ?_⟩, grown _, by simp [setBlock]⟩
  · simp [Instr.mapUpdate, run_underlying ht, MapKept.run_getObj_map hb, K.check, hf, MapKept.run_setObj_map _ hb, Result.andThen, setBlock, Array.getElem?_eq_getElem hj, hkey, K.stays]
  ·
   rw [h4, List.map_set, ← he]
   apply List.ext_getElem?
   intro i
   simp only [List.getElem?_map, Array.getElem?_toList, Array.getElem?_modify, List.getElem?_set]
   by_cases hij : j = i
   ·
    subst hij
    simp [Array.getElem?_eq_getElem hj, hj]
   · simp [hij]
  ·
   intro x hx
   obtain ⟨i, hi, rfl⟩ := List.mem_iff_getElem.1 hx
   have hi' : i < es.size := by simpa using hi
   simp only [Array.getElem_toList, Array.getElem_modify]
   split
   · exact hlt es[i] (by simp)
   · exact hlt es[i] (by simp)
  ·
   have : (es.modify j fun e => { e with key := enc k, val := v }).toList.map (·.born) = es.toList.map (·.born) := by
    apply List.ext_getElem?
    intro i
    simp only [List.getElem?_map, Array.getElem?_toList, Array.getElem?_modify]
    by_cases hij : j = i
    · subst hij; simp [Array.getElem?_eq_getElem hj]
    · simp [hij]
   rw [this]; exact hnd
end
theorem MapOf.grown {α : Type} {enc : α → Value} {w w' : World} {b : Nat} {row : Option Nat} {l : List (α × Value)} (h : MapOf enc w b l) (hg : w.grownBy w' row) (hne : some b ≠ row) : MapOf enc w' b l :=
 h.block (hg.block b h.lt hne)
theorem MapOf.inj {α : Type} {enc : α → Value} (hi : ∀ a b, enc a = enc b → a = b) {w : World} {b : Nat} {l l' : List (α × Value)} (h : MapOf enc w b l) (h' : MapOf enc w b l') : l = l' := by
 obtain ⟨es, cl, hb, he, _⟩ := h
 obtain ⟨es', cl', hb', he', _⟩ := h'
 rw [hb] at hb'; injection hb' with hb'; injection hb' with e1 e2; subst e1
 rw [he] at he'
 have : ∀ (x y : List (α × Value)), x.map (fun p => (enc p.1, p.2)) = y.map (fun p => (enc p.1, p.2)) → x = y := by
  intro x
  induction x with
  | nil => intro y e; cases y with | nil => rfl | cons _ _ => cases e
  | cons p r ih =>
   intro y e
   cases y with
   | nil => cases e
   | cons q s =>
    simp only [List.map_cons, List.cons.injEq, Prod.mk.injEq] at e
    rw [ih s e.2]
    obtain ⟨a, v⟩ := p; obtain ⟨a', v'⟩ := q
    simp at e
    rw [hi _ _ e.1.1, e.1.2]
 exact this _ _ he'
def RangeL {α : Type} (enc : α → Value) (w : World) (b r : Nat) (l rest : List (α × Value)) : Prop :=
 ∃ es cl seen since c0, w.heap[b]? = some (.map es cl) ∧ w.heap[r]? = some (.mapIter (some b) since seen c0) ∧ es.toList.map (fun e => (e.key, e.val)) = l.map (fun p => (enc p.1, p.2)) ∧
  (∀ x ∈ es.toList, x.born < since) ∧ since ≤ c0 ∧ (es.toList.map (·.born)).Nodup ∧ (∀ x ∈ es.toList, x.born < cl) ∧ since ≤ cl ∧
  (leftOf es seen).toList.map (fun e => (e.key, e.val)) = rest.map (fun p => (enc p.1, p.2))
section
variable {α : Type} {enc : α → Value} {P : Program} {w : World} {b r : Nat} {l rest : List (α × Value)}
theorem RangeL.map (h : RangeL enc w b r l rest) : MapOf enc w b l := by
 obtain ⟨es, cl, seen, since, c0, h1, h2, h3, h4, h5, h6, h7, h8, h9⟩ := h
 exact ⟨es, cl, h1, h3, h7, h6⟩
theorem RangeL.ne (h : RangeL enc w b r l rest) : b ≠ r := by
 obtain ⟨es, cl, seen, since, c0, h1, h2, _⟩ := h
 intro e; subst e; rw [h1] at h2; cases h2
theorem RangeL.lt (h : RangeL enc w b r l rest) : r < w.heap.size := by
 obtain ⟨es, cl, seen, since, c0, h1, h2, _⟩ := h
 exact (Array.getElem?_eq_some_iff.1 h2).1
theorem MapOf.range {t kt et : TypeId} (h : MapOf enc w b l) (ht : P.underlying t = some (.map kt et)) :
  ∃ o, (Instr.range t (.map (some b))).run P w = .ok (.pointer (some ⟨w.heap.size, 0, none⟩)) (w.alloc o) ∧ RangeL enc (w.alloc o) b w.heap.size l l := by
 have hlt := h.lt
 obtain ⟨es, cl, hb, he, hlt1, hnd⟩ := h
 refine ⟨.mapIter (some b) cl #[] cl, run_range_map w t kt et b es cl ht hb, es, cl, #[], cl, cl, ?_, (MapKept.heap_alloc w _).1, he, hlt1, Nat.le_refl _, hnd, hlt1, Nat.le_refl _, ?_⟩
 · rw [(World.grownBy_alloc w _ none).block b hlt (by simp)]; exact hb
 ·
  unfold leftOf
  rw [show es.filter (fun e => !(#[] : Array Nat).contains e.born) = es from Array.filter_eq_self.2 (fun x _ => by simp)]
  exact he
theorem left_push (es : Array MapEntry) (seen : Array Nat) (hn : (es.toList.map (·.born)).Nodup) {e : MapEntry} (he : e ∈ (leftOf es seen).toList) :
  ∃ pre post, (leftOf es seen).toList = pre ++ e :: post ∧ (leftOf es (seen.push e.born)).toList = pre ++ post := by
 have key : ∀ (xs : List MapEntry), (xs.map (·.born)).Nodup → e ∈ xs → ∃ pre post, xs = pre ++ e :: post ∧ xs.filter (fun x => !(x.born == e.born)) = pre ++ post := by
  intro xs
  induction xs with
  | nil => intro _ h; cases h
  | cons x t ih =>
   intro hnd hm
   simp only [List.map_cons, List.nodup_cons] at hnd
   rcases List.mem_cons.1 hm with rfl | hm
   ·
    refine ⟨[], t, rfl, ?_⟩
    simp only [List.filter_cons, beq_self_eq_true, Bool.not_true, Bool.false_eq_true, if_false, List.nil_append]
    refine List.filter_eq_self.2 fun y hy => ?_
    have : y.born ≠ e.born := fun h => hnd.1 (h ▸ List.mem_map.2 ⟨y, hy, rfl⟩)
    simp [this]
   ·
    obtain ⟨pre, post, h1, h2⟩ := ih hnd.2 hm
    have : x.born ≠ e.born := fun h => hnd.1 (h ▸ List.mem_map.2 ⟨e, hm, rfl⟩)
    refine ⟨x :: pre, post, by rw [h1]; rfl, ?_⟩
    simp [this, h2]
 have hsub : ((leftOf es seen).toList.map (·.born)).Nodup := by
  unfold leftOf
  rw [Array.toList_filter]
  exact (List.Sublist.map _ List.filter_sublist).nodup hn
 obtain ⟨pre, post, h1, h2⟩ := key _ hsub he
 refine ⟨pre, post, h1, ?_⟩
 rw [← h2]
 unfold leftOf
 rw [Array.toList_filter, Array.toList_filter, List.filter_filter]
 refine List.filter_congr fun x _ => ?_
 simp only [Array.contains_push]
 cases h3 : seen.contains x.born <;> cases h4 : (x.born == e.born) <;> simp_all
theorem RangeL.next (h : RangeL enc w b r l rest) (ty : TypeId) :
  (rest = [] ∧ (Instr.next (.pointer (some ⟨r, 0, none⟩)) false ty).run P w = .ok (.tuple #[.bool false]) w) ∨
  ∃ pre k v post w', rest = pre ++ (k, v) :: post ∧ (Instr.next (.pointer (some ⟨r, 0, none⟩)) false ty).run P w = .ok (.tuple #[.bool true, enc k, v]) w' ∧ RangeL enc w' b r l (pre ++ post) ∧
   w.grownBy w' (some r) ∧ w'.heap.size = w.heap.size ∧ (Instr.entry (.pointer (some ⟨r, 0, none⟩))).run P w' = .ok (.tuple #[enc k, v]) w' := by
 have hne := h.ne
 have hlt := h.lt
 obtain ⟨es, cl, seen, since, c0, h1, h2, h3, h4, h5, h6, h7, h8, h9⟩ := h
 rcases run_next_at (P := P) w ty r b since c0 seen es cl h2 h1 h4 h5 with ⟨hz, hrun⟩ | ⟨e, he, w1, hw1, hrun⟩
 ·
  refine .inl ⟨?_, hrun⟩
  have : (leftOf es seen).toList = [] := by rw [Array.eq_empty_of_size_eq_zero hz]
  rw [this] at h9
  exact List.map_eq_nil_iff.1 h9.symm
 ·
  obtain ⟨pre0, post0, g1, g2⟩ := left_push es seen h6 he
  rw [g1, List.map_append, List.map_cons] at h9
  obtain ⟨pre, t, rfl, e1, e2⟩ := List.map_eq_append_iff.1 h9.symm
  obtain ⟨⟨k, v⟩, post, rfl, e3, e4⟩ := List.map_eq_cons_iff.1 e2
  simp only [Prod.mk.injEq] at e3
  have hmem : e ∈ es.toList := by
   have : e ∈ (leftOf es seen).toList := he
   unfold leftOf at this
   rw [Array.toList_filter] at this
   exact (List.mem_filter.1 this).1
  have hr1 : w1.heap[r]? = some (.mapIter (some b) since seen c0) := by rcases hw1 with rfl | rfl <;> exact h2
  have hb1 : w1.heap[b]? = some (.map es cl) := by rcases hw1 with rfl | rfl <;> exact h1
  have hr' : (setBlock w1 r (.mapIter (some b) since (seen.push e.born) cl)).heap[r]? = some (.mapIter (some b) since (seen.push e.born) cl) := (MapKept.heap_set hr1).1
  have hb' : (setBlock w1 r (.mapIter (some b) since (seen.push e.born) cl)).heap[b]? = some (.map es cl) := ((MapKept.heap_set hr1).2 _ hne).trans hb1
  refine .inr ⟨pre, k, v, post, setBlock w1 r (.mapIter (some b) since (seen.push e.born) cl), rfl, ?_, ⟨es, cl, seen.push e.born, since, cl, hb', hr', h3, h4, h8, h6, h7, h8, ?_⟩, ?_, ?_, ?_⟩
  · rw [hrun, ← e3.1, ← e3.2]
  · rw [g2, List.map_append, List.map_append, e1, e4]
  · rcases hw1 with rfl | rfl <;> exact ⟨rfl, rfl, rfl, by simp [setBlock], fun i _ hi => (MapKept.heap_set hr1).2 _ (fun e => hi (by rw [e]))⟩
  · rcases hw1 with rfl | rfl <;> simp only [setBlock, Array.size_setIfInBounds] <;> rfl
  · rw [run_entry_at (P := P) _ r b since seen es cl e hr' hb' hmem h6, ← e3.1, ← e3.2]
end
theorem map_eraseI {α β : Type} (f : α → β) : ∀ (l : List α) (i : Nat), (l.eraseIdx i).map f = (l.map f).eraseIdx i
 | [], _ => by simp
 | a :: r, 0 => rfl
 | a :: r, i + 1 => by simp only [List.eraseIdx_cons_succ, List.map_cons, map_eraseI f r i]
section
variable {α : Type} [DecidableEq α] {β : Type}
def del1 (k : α) : List (α × β) → List (α × β)
 | [] => []
 | (a, x) :: r => if a = k then r else (a, x) :: del1 k r
theorem find1_del_none {k : α} : ∀ {l : List (α × β)} {i : Nat}, find1 k l i = none → del1 k l = l
 | [], i, h => rfl
 | (a, x) :: r, i, h => by
  simp only [find1] at h
  split at h
  · cases h
  ·
   rename_i hn
   simp only [del1, if_neg hn, find1_del_none h]
theorem find1_del_some {k : α} : ∀ {l : List (α × β)} {i j : Nat} {u : β}, find1 k l i = some (j, u) → del1 k l = l.eraseIdx (j - i)
 | [], i, j, u, h => by cases h
 | (a, x) :: r, i, j, u, h => by
  simp only [find1] at h
  split at h
  ·
   rename_i hn
   injection h with h; injection h with h1 h2
   subst h1; subst hn
   simp [del1]
  ·
   rename_i hn
   obtain ⟨h1, _, _, _⟩ := find1_some (v := u) h
   have e : j - i = (j - (i + 1)) + 1 := by omega
   rw [e, List.eraseIdx_cons_succ, ← find1_del_some h]
   simp only [del1, if_neg hn]
theorem del1_keys {k : α} : ∀ {l : List (α × β)}, ∀ p ∈ del1 k l, p ∈ l
 | (a, x) :: r, p, h => by
  simp only [del1] at h
  split at h
  · exact List.mem_cons_of_mem _ h
  ·
   rcases List.mem_cons.1 h with h | h
   · rw [h]; exact List.mem_cons_self
   · exact List.mem_cons_of_mem _ (del1_keys p h)
theorem del1_nodup {k : α} : ∀ {l : List (α × β)}, (l.map (·.1)).Nodup → ((del1 k l).map (·.1)).Nodup
 | [], h => h
 | (a, x) :: r, h => by
  simp only [List.map_cons, List.nodup_cons] at h
  simp only [del1]
  split
  · exact h.2
  ·
   simp only [List.map_cons, List.nodup_cons]
   refine ⟨fun hm => h.1 ?_, del1_nodup h.2⟩
   obtain ⟨p, hp, e⟩ := List.mem_map.1 hm
   exact List.mem_map.2 ⟨p, del1_keys p hp, e⟩
theorem get1_no {k : α} : ∀ {l : List (α × β)}, (∀ p ∈ l, p.1 ≠ k) → get1 k l = none
 | [], _ => rfl
 | (a, x) :: r, h => by
  simp only [get1]
  rw [if_neg (h _ List.mem_cons_self), get1_no (fun p hp => h p (List.mem_cons_of_mem _ hp))]
theorem get1_del1 (k j : α) : ∀ {l : List (α × β)}, (l.map (·.1)).Nodup → get1 j (del1 k l) = if k = j then none else get1 j l
 | [], h => by simp [del1, get1]
 | (a, x) :: r, h => by
  simp only [List.map_cons, List.nodup_cons] at h
  simp only [del1]
  split
  ·
   rename_i e; subst e
   split
   ·
    rename_i e; subst e
    exact get1_no (fun p hp e => h.1 (List.mem_map.2 ⟨p, hp, e⟩))
   ·
    rename_i hn
    simp only [get1, if_neg hn]
  ·
   rename_i hn
   simp only [get1]
   rw [get1_del1 k j h.2]
   by_cases e : a = j
   · subst e; rw [if_pos rfl, if_pos rfl, if_neg (fun e => hn e.symm)]
   · rw [if_neg e, if_neg e]
theorem del1_map {γ : Type} (f : β → γ) (k : α) : ∀ (l : List (α × β)), (del1 k l).map (fun p => (p.1, f p.2)) = del1 k (l.map fun p => (p.1, f p.2))
 | [] => rfl
 | (a, x) :: r => by
  simp only [del1, List.map_cons]
  split
  · rfl
  · rw [List.map_cons, del1_map f k r]
end
section
variable {α : Type} [DecidableEq α] {enc : α → Value} {P : Program} {w : World} {t kt et : TypeId} {b : Nat} {l : List (α × Value)}
theorem MapOf.del (h : MapOf enc w b l) (K : KeyT P kt enc) (ht : P.underlying t = some (.map kt et)) (k : α) :
  ∃ w', (∀ ty, (Builtin.delete_ #[t, kt] ty #[.map (some b), enc k]).run P w = .ok (.tuple #[]) w') ∧ MapOf enc w' b (del1 k l) ∧ w.grownBy w' (some b) ∧ w'.heap.size = w.heap.size := by
 obtain ⟨es, cl, hb, he, hlt, hnd⟩ := h
 have hf := K.find es.toList l k w he
 have grown : ∀ o : Obj, w.grownBy (setBlock w b o) (some b) := fun o => ⟨rfl, rfl, rfl, by simp [setBlock], fun i _ hi => heap_setBlock_other hb _ (fun e => hi (by rw [e]))⟩
 cases hfi : find1 k l 0 with
 | none =>
  rw [hfi] at hf
  refine ⟨setBlock w b (.map es cl), fun ty => ?_, ⟨_, _, heap_setBlock_same hb _, ?_, hlt, hnd⟩, grown _, by simp [setBlock]⟩
  · simp [Builtin.delete_, run_underlying ht, MapKept.run_getObj_map hb, K.check, hf, MapKept.run_setObj_map _ hb, Result.andThen, setBlock]
  · rw [find1_del_none hfi]; exact he
 | some p =>
  obtain ⟨j, u⟩ := p
  rw [hfi] at hf
  obtain ⟨_, hj, _, _⟩ := find1_some (v := u) hfi
  have hjs : j < es.size := by have := congrArg List.length he; simp at this; omega
  have hel : (es.eraseIdxIfInBounds j).toList = es.toList.eraseIdx j := by
   unfold Array.eraseIdxIfInBounds
   rw [dif_pos hjs, Array.toList_eraseIdx]
  refine ⟨setBlock w b (.map (es.eraseIdxIfInBounds j) cl), fun ty => ?_, ⟨_, _, heap_setBlock_same hb _, ?_, ?_, ?_⟩, grown _, by simp [setBlock]⟩
  · simp [Builtin.delete_, run_underlying ht, MapKept.run_getObj_map hb, K.check, hf, MapKept.run_setObj_map _ hb, Result.andThen, setBlock]
  · rw [find1_del_some hfi, hel, map_eraseI, he, map_eraseI]; rfl
  ·
   intro x hx
   rw [hel] at hx
   exact hlt x ((List.eraseIdx_sublist _ _).subset hx)
  ·
   rw [hel]
   exact hnd.sublist ((List.eraseIdx_sublist _ _).map _)
theorem del_nil (K : KeyT P kt enc) (ht : P.underlying t = some (.map kt et)) (k : α) (ty : TypeId) :
  (Builtin.delete_ #[t, kt] ty #[.map none, enc k]).run P w = .ok (.tuple #[]) w := by
 simp [Builtin.delete_, run_underlying ht, K.check, Result.andThen]
end
end Go.Proofs.YtdlbiobjnohfbaaGreat
namespace Go.Proofs.YtdlbiobjnohfbaaGreat
open Go.RowKit
set_option linter.unusedVariables false
set_option linter.unusedSimpArgs false
def heldB (n : Int) : Bool := decide (0 ≤ n) && decide (n ≤ 1152921504606846976)
theorem heldB_iff {n : Int} : heldB n = true ↔ 0 ≤ n ∧ n ≤ 1152921504606846976 := by unfold heldB; simp
theorem heldB_not {n : Int} : heldB n = false ↔ n < 0 ∨ 1152921504606846976 < n := by
 rw [← Bool.not_eq_true, heldB_iff]; omega
theorem held (n : Int) (w : World) : Calls Tryz.prog 107 #[.int .i64 n] w fun e w' => e = .returned (.bool (heldB n)) ∧ w = w' := by
 go_enter Tryz.func107, Tryz.ntmps107
 go_wp2
 all_goals go_ret
 all_goals refine ⟨ret_bool ?_, rfl⟩
 all_goals (unfold heldB; simp; try omega)
def isP (a b c d : Int) : Bool := heldB a && heldB b && heldB c && heldB d
set_option maxHeartbeats 400000 in
theorem purseIs (a b c d : Int) (w : World) :
  Calls Tryz.prog 93 #[.agg #[.int .i64 a, .int .i64 b, .int .i64 c, .int .i64 d]] w fun e w' => e = .returned (.bool (isP a b c d)) ∧ Below w.heap.size w w' := by
 have i0 : ∀ w, (Instr.index 36 (.agg #[.int .i64 a, .int .i64 b, .int .i64 c, .int .i64 d]) (.int .i64 0)).run Tryz.prog w = .ok (.int .i64 a) w := fun _ => by kernel_rfl
 have i1 : ∀ w, (Instr.index 36 (.agg #[.int .i64 a, .int .i64 b, .int .i64 c, .int .i64 d]) (.int .i64 1)).run Tryz.prog w = .ok (.int .i64 b) w := fun _ => by kernel_rfl
 have i2 : ∀ w, (Instr.index 36 (.agg #[.int .i64 a, .int .i64 b, .int .i64 c, .int .i64 d]) (.int .i64 2)).run Tryz.prog w = .ok (.int .i64 c) w := fun _ => by kernel_rfl
 have i3 : ∀ w, (Instr.index 36 (.agg #[.int .i64 a, .int .i64 b, .int .i64 c, .int .i64 d]) (.int .i64 3)).run Tryz.prog w = .ok (.int .i64 d) w := fun _ => by kernel_rfl
 go_enter Tryz.func93, Tryz.ntmps93
 go_wp2_with fail
 refine wp_loop_rounds 5 ?_; rw [rounds_succ]
 cases h0 : heldB a
 ·
  go_wp2_with (go_at_call 107; refine (held _ _).mono ?_; rintro e w' ⟨rfl, rfl⟩)
  go_ret
  exact ⟨ret_bool (by simp [isP, h0]), by exact tB⟩
 go_wp2_with (go_at_call 107; refine (held _ _).mono ?_; rintro e w' ⟨rfl, rfl⟩)
 rw [rounds_succ]
 cases h1 : heldB b
 ·
  go_wp2_with (go_at_call 107; refine (held _ _).mono ?_; rintro e w' ⟨rfl, rfl⟩)
  go_ret
  exact ⟨ret_bool (by simp [isP, h1]), by exact tB⟩
 go_wp2_with (go_at_call 107; refine (held _ _).mono ?_; rintro e w' ⟨rfl, rfl⟩)
 rw [rounds_succ]
 cases h2 : heldB c
 ·
  go_wp2_with (go_at_call 107; refine (held _ _).mono ?_; rintro e w' ⟨rfl, rfl⟩)
  go_ret
  exact ⟨ret_bool (by simp [isP, h2]), by exact tB⟩
 go_wp2_with (go_at_call 107; refine (held _ _).mono ?_; rintro e w' ⟨rfl, rfl⟩)
 rw [rounds_succ]
 cases h3 : heldB d
 ·
  go_wp2_with (go_at_call 107; refine (held _ _).mono ?_; rintro e w' ⟨rfl, rfl⟩)
  go_ret
  exact ⟨ret_bool (by simp [isP, h3]), by exact tB⟩
 go_wp2_with (go_at_call 107; refine (held _ _).mono ?_; rintro e w' ⟨rfl, rfl⟩)
 rw [rounds_succ]
 go_wp2_with fail
 go_ret
 exact ⟨ret_bool (by simp [isP, h0, h1, h2, h3]), by exact tB⟩
set_option maxHeartbeats 400000 in
theorem refPIs (a b c d : Int) (w : World) :
  Calls Tryz.prog 61 #[.agg #[.int .i64 a, .int .i64 b, .int .i64 c, .int .i64 d]] w fun e w' => e = .returned (.bool (isP a b c d)) ∧ Below w.heap.size w w' := by
 go_enter Tryz.func61, Tryz.ntmps61
 go_wp2_with fail
 refine wp_loop_rounds 5 ?_; rw [rounds_succ]
 cases h0 : heldB a
 ·
  rcases heldB_not.1 h0 with g | g
  all_goals go_wp2_with fail
  all_goals go_ret
  all_goals exact ⟨ret_bool (by simp [isP, h0]), by exact tB⟩
 obtain ⟨g0, l0⟩ := heldB_iff.1 h0
 go_wp2_with fail
 rw [rounds_succ]
 cases h1 : heldB b
 ·
  rcases heldB_not.1 h1 with g | g
  all_goals go_wp2_with fail
  all_goals go_ret
  all_goals exact ⟨ret_bool (by simp [isP, h1]), by exact tB⟩
 obtain ⟨g1, l1⟩ := heldB_iff.1 h1
 go_wp2_with fail
 rw [rounds_succ]
 cases h2 : heldB c
 ·
  rcases heldB_not.1 h2 with g | g
  all_goals go_wp2_with fail
  all_goals go_ret
  all_goals exact ⟨ret_bool (by simp [isP, h2]), by exact tB⟩
 obtain ⟨g2, l2⟩ := heldB_iff.1 h2
 go_wp2_with fail
 rw [rounds_succ]
 cases h3 : heldB d
 ·
  rcases heldB_not.1 h3 with g | g
  all_goals go_wp2_with fail
  all_goals go_ret
  all_goals exact ⟨ret_bool (by simp [isP, h3]), by exact tB⟩
 obtain ⟨g3, l3⟩ := heldB_iff.1 h3
 go_wp2_with fail
 rw [rounds_succ]
 go_wp2_with fail
 go_ret
 exact ⟨ret_bool (by simp [isP, h0, h1, h2, h3]), by exact tB⟩
end Go.Proofs.YtdlbiobjnohfbaaGreat
