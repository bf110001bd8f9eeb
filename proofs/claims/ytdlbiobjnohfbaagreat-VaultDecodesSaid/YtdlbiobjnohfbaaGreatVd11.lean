/- book: Place. book: Cancel. Maps of numbers, and of texts, as lists of pairs: what a look-up, a store, len, a range make of them. -/
import Derived.Test.YtdlbiobjnohfbaaGreatVd9
import Derived.Test.YtdlbiobjnohfbaaGreatVd10
namespace Go.Proofs.YtdlbiobjnohfbaaGreat
open Go.RowKit
set_option linter.unusedVariables false
set_option linter.unusedSimpArgs false
theorem bkPlace (Y : Lay) (b : Nat) (v : Nat → Value) (S : Nat → List Od) (last : Int) (L : List Od) (o : Od) (w : World) (h : BkH Y w b v S last) (hr : RelS S L) (hk : Bk L last) (hlen : L.length ≤ 1000) :
    Calls Tryz.prog 43 #[.pointer (some ⟨b, Y.o, none⟩), odA o] w fun e w' => PlaceQ Y b v L last o w e w' := by
  cases hb : o.buy with
  | true => exact bkPlaceT Y b v S last L o w h hr hk hlen hb
  | false => exact bkPlaceF Y b v S last L o w h hr hk hlen hb
end Go.Proofs.YtdlbiobjnohfbaaGreat
namespace Go.Proofs.YtdlbiobjnohfbaaGreat
open Go.RowKit
set_option linter.unusedVariables false
set_option linter.unusedSimpArgs false
theorem RelS.len {S : Nat → List Od} {L : List Od} (h : RelS S L) {j : Nat} (hj : j < 8) : (S j).length ≤ L.length := by
  rw [(h j hj).1.length_eq]; exact List.length_filter_le _ _
theorem ord8_lt {k : Nat} (h : k < 8) : ord8 k < 8 := by unfold ord8; split <;> omega
theorem Touch.mono'' {D D' : Nat → Prop} {w w' : World} (h : Touch D w w') (hD : ∀ k, k < w.heap.size → D k → D' k) : Touch D' w w' := ⟨h.os, h.tape, h.output, h.size, fun k hk hn => h.block k hk (fun hd => hn (hD k hk hd))⟩
theorem measI {j L : Nat} (h : j < L) : L - (intOf (.int .i64 ((j : Int) + 1))).toNat < L - (intOf (.int .i64 (j : Int))).toNat := by simp [intOf]; omega
end Go.Proofs.YtdlbiobjnohfbaaGreat
namespace Go.Proofs.YtdlbiobjnohfbaaGreat
open Go.RowKit Go.ChangeMaps Go.MapKept
set_option linter.unusedVariables false
set_option linter.unusedSimpArgs false
set_option linter.unusedSectionVars false
section
variable {α : Type} [DecidableEq α] {β : Type}
def get1 (k : α) : List (α × β) → Option β
  | [] => none
  | (a, v) :: r => if a = k then some v else get1 k r
def put1 (k : α) (v : β) : List (α × β) → List (α × β)
  | [] => [(k, v)]
  | (a, x) :: r => if a = k then (a, v) :: r else (a, x) :: put1 k v r
/-- where a key is, and what is there -/
def find1 (k : α) : List (α × β) → Nat → Option (Nat × β)
  | [], _ => none
  | (a, v) :: r, i => if a = k then some (i, v) else find1 k r (i + 1)
theorem find1_get (k : α) : ∀ (l : List (α × β)) (i : Nat), (find1 k l i).map (·.2) = get1 k l
  | [], i => rfl
  | (a, v) :: r, i => by
    simp only [find1, get1]
    split
    · rfl
    · exact find1_get k r (i + 1)
theorem find1_none {k : α} : ∀ {l : List (α × β)} {i : Nat} {v : β}, find1 k l i = none → put1 k v l = l ++ [(k, v)]
  | [], i, v, h => rfl
  | (a, x) :: r, i, v, h => by
    simp only [find1] at h
    split at h
    · cases h
    · rename_i hn
      simp only [put1, if_neg hn, List.cons_append, find1_none h]
theorem find1_some {k : α} : ∀ {l : List (α × β)} {i j : Nat} {u v : β}, find1 k l i = some (j, u) → i ≤ j ∧ j - i < l.length ∧ l[j - i]? = some (k, u) ∧ put1 k v l = l.set (j - i) (k, v)
  | [], i, j, u, v, h => by cases h
  | (a, x) :: r, i, j, u, v, h => by
    simp only [find1] at h
    split at h
    · rename_i hn
      injection h with h; injection h with h1 h2
      subst h1; subst h2; subst hn
      simp [put1]
    · rename_i hn
      obtain ⟨h1, h2, h3, h4⟩ := find1_some (v := v) h
      have e : j - i = (j - (i + 1)) + 1 := by omega
      refine ⟨by omega, by simp; omega, ?_, ?_⟩
      · rw [e, List.getElem?_cons_succ]; exact h3
      · rw [e, List.set_cons_succ, ← h4]; simp [put1, hn]
theorem put1_map {γ : Type} (f : β → γ) (k : α) (v : β) (l : List (α × β)) : (put1 k v l).map (fun p => (p.1, f p.2)) = put1 k (f v) (l.map fun p => (p.1, f p.2)) := by
  induction l with
  | nil => rfl
  | cons p r ih =>
    obtain ⟨a, x⟩ := p
    simp only [put1, List.map_cons]
    split <;> simp [ih]
theorem get1_map {γ : Type} (f : β → γ) (k : α) (l : List (α × β)) : get1 k (l.map fun p => (p.1, f p.2)) = (get1 k l).map f := by
  induction l with
  | nil => rfl
  | cons p r ih =>
    obtain ⟨a, x⟩ := p
    simp only [get1, List.map_cons]
    split <;> simp [ih]
theorem get1_mem {k : α} {v : β} : ∀ {l : List (α × β)}, get1 k l = some v → (k, v) ∈ l
  | [], h => by cases h
  | (a, x) :: r, h => by
    simp only [get1] at h
    split at h
    · rename_i e; subst e; injection h with h; subst h; exact List.mem_cons_self
    · exact List.mem_cons_of_mem _ (get1_mem h)
theorem get1_of_mem {k : α} {v : β} : ∀ {l : List (α × β)}, (l.map (·.1)).Nodup → (k, v) ∈ l → get1 k l = some v
  | [], _, h => by cases h
  | (a, x) :: r, hn, h => by
    simp only [List.map_cons, List.nodup_cons] at hn
    simp only [get1]
    rcases List.mem_cons.1 h with e | h
    · injection e with e1 e2; subst e1; subst e2; rw [if_pos rfl]
    · rw [if_neg (fun e => hn.1 (by subst e; exact List.mem_map.2 ⟨_, h, rfl⟩)), get1_of_mem hn.2 h]
end
/-- block b is a map of these pairs -/
def MapOf {α : Type} (enc : α → Value) (w : World) (b : Nat) (l : List (α × Value)) : Prop :=
  ∃ es cl, w.heap[b]? = some (.map es cl) ∧ es.toList.map (fun e => (e.key, e.val)) = l.map (fun p => (enc p.1, p.2)) ∧ (∀ x ∈ es.toList, x.born < cl) ∧ (es.toList.map (·.born)).Nodup
theorem MapOf.lt {α : Type} {enc : α → Value} {w : World} {b : Nat} {l : List (α × Value)} (h : MapOf enc w b l) : b < w.heap.size := by
  obtain ⟨es, cl, hb, _⟩ := h; exact (Array.getElem?_eq_some_iff.1 hb).1
theorem MapOf.block {α : Type} {enc : α → Value} {w w' : World} {b : Nat} {l : List (α × Value)} (h : MapOf enc w b l) (hb : w'.heap[b]? = w.heap[b]?) : MapOf enc w' b l := by
  obtain ⟨es, cl, h1, h2⟩ := h; exact ⟨es, cl, by rw [hb]; exact h1, h2⟩
theorem MapOf.made {α : Type} {enc : α → Value} (w : World) : MapOf enc (w.alloc (.map #[] 0)) w.heap.size [] :=
  ⟨#[], 0, (MapKept.heap_alloc w _).1, rfl, by simp, by simp⟩
/-- a type of keys -/
structure KeyT {α : Type} [DecidableEq α] (P : Program) (kt : TypeId) (enc : α → Value) : Prop where
  check : ∀ (e : Bool) (a : α) (w : World), (Instr.checkKey e 10000 kt (enc a)).run P w = .ok () w
  find : ∀ (es : List MapEntry) (l : List (α × Value)) (a : α) (w : World), es.map (fun e => (e.key, e.val)) = l.map (fun p => (enc p.1, p.2)) → (Instr.findKey kt (enc a) es).run P w = .ok (find1 a l 0) w
  stays : ∀ (a : α) (w : World), (Instr.keyThatStays (enc a) (enc a)).run P w = .ok (enc a) w
section
variable {α : Type} [DecidableEq α] {enc : α → Value} {P : Program} {w : World} {t kt et : TypeId} {b : Nat} {l : List (α × Value)}
theorem MapOf.look (h : MapOf enc w b l) (K : KeyT P kt enc) (ht : P.underlying t = some (.map kt et)) {z : Value} (hz : (zeroValue et).run P w = .ok z w) (k : α) :
    (Instr.lookup t (.map (some b)) (enc k) false).run P w = .ok ((get1 k l).getD z) w := by
  obtain ⟨es, cl, hb, he, _⟩ := h
  have hf := K.find es.toList l k w he
  have hg := find1_get k l 0
  cases hfi : find1 k l 0 with
  | none =>
    rw [hfi] at hg hf
    simp at hg
    rw [← hg]
    simp [Instr.lookup, run_underlying ht, MapKept.run_getObj_map hb, K.check, hf, hz, Result.andThen]
  | some p =>
    obtain ⟨j, v⟩ := p
    rw [hfi] at hg hf
    simp at hg
    rw [← hg]
    simp [Instr.lookup, run_underlying ht, MapKept.run_getObj_map hb, K.check, hf, Result.andThen]
theorem look_nil (K : KeyT P kt enc) (ht : P.underlying t = some (.map kt et)) {z : Value} (hz : (zeroValue et).run P w = .ok z w) (k : α) :
    (Instr.lookup t (.map none) (enc k) false).run P w = .ok z w := by
  have hf := K.find [] [] k w rfl
  simp [Instr.lookup, run_underlying ht, K.check, hf, find1, hz, Result.andThen]
theorem MapOf.len (h : MapOf enc w b l) (ht : P.underlying t = some (.map kt et)) (ty : TypeId) : (Builtin.len_ #[t] ty #[.map (some b)]).run P w = .ok (.int .i64 l.length) w := by
  obtain ⟨es, cl, hb, he, _⟩ := h
  have hl : es.size = l.length := by have := congrArg List.length he; simpa using this
  simp [Builtin.len_, run_underlying ht, MapKept.run_getObj_map hb, Result.andThen, goInt, hl]
theorem MapOf.put (h : MapOf enc w b l) (K : KeyT P kt enc) (ht : P.underlying t = some (.map kt et)) (k : α) (v : Value) :
    ∃ w', (Instr.mapUpdate t (.map (some b)) (enc k) v).run P w = .ok () w' ∧ MapOf enc w' b (put1 k v l) ∧ w.grownBy w' (some b) ∧ w'.heap.size = w.heap.size := by
  obtain ⟨es, cl, hb, he, hlt, hnd⟩ := h
  have hf := K.find es.toList l k w he
  have grown : ∀ o : Obj, w.grownBy (setBlock w b o) (some b) := fun o => ⟨rfl, rfl, rfl, by simp [setBlock], fun i _ hi => heap_setBlock_other hb _ (fun e => hi (by rw [e]))⟩
  cases hfi : find1 k l 0 with
  | none =>
    rw [hfi] at hf
    refine ⟨setBlock w b (.map (es.push { key := enc k, val := v, born := cl }) (cl + 1)), ?_, ⟨_, _, heap_setBlock_same hb _, ?_, ?_, ?_⟩, grown _, by simp [setBlock]⟩
    · simp [Instr.mapUpdate, run_underlying ht, MapKept.run_getObj_map hb, K.check, hf, MapKept.run_setObj_map _ hb, Result.andThen, setBlock]
    · rw [find1_none hfi]; simp [he]
    · intro x hx
      simp at hx
      rcases hx with hx | rfl
      · have := hlt x (by simpa using hx); omega
      · simp
    · simp only [Array.toList_push, List.map_append, List.map_cons, List.map_nil]
      refine List.nodup_append.2 ⟨hnd, by simp, fun a ha b' hb' e => ?_⟩
      simp at hb'; subst hb'
      obtain ⟨x, hx, rfl⟩ := List.mem_map.1 ha
      have := hlt x hx; omega
  | some p =>
    obtain ⟨j, u⟩ := p
    rw [hfi] at hf
    obtain ⟨_, h2, h3, h4⟩ := find1_some (v := v) hfi
    simp only [Nat.sub_zero] at h2 h3 h4
    have hj : j < es.size := by have := congrArg List.length he; simp at this; omega
    have hkey : es[j].key = enc k := by
      have e1 : (es.toList.map (fun e => (e.key, e.val)))[j]? = (l.map (fun p => (enc p.1, p.2)))[j]? := by rw [he]
      simp [List.getElem?_map, h3, Array.getElem?_eq_getElem hj] at e1
      exact e1.1
    refine ⟨setBlock w b (.map (es.modify j fun e => { e with key := enc k, val := v }) cl), ?_, ⟨_, _, heap_setBlock_same hb _, ?_, ?_, ?_⟩, grown _, by simp [setBlock]⟩
    · simp [Instr.mapUpdate, run_underlying ht, MapKept.run_getObj_map hb, K.check, hf, MapKept.run_setObj_map _ hb, Result.andThen, setBlock, Array.getElem?_eq_getElem hj, hkey, K.stays]
    · rw [h4, List.map_set, ← he]
      apply List.ext_getElem?
      intro i
      simp only [List.getElem?_map, Array.getElem?_toList, Array.getElem?_modify, List.getElem?_set]
      by_cases hij : j = i
      · subst hij
        simp [Array.getElem?_eq_getElem hj, hj]
      · simp [hij]
    · intro x hx
      obtain ⟨i, hi, rfl⟩ := List.mem_iff_getElem.1 hx
      have hi' : i < es.size := by simpa using hi
      simp only [Array.getElem_toList, Array.getElem_modify]
      split
      · exact hlt es[i] (by simp)
      · exact hlt es[i] (by simp)
    · have : (es.modify j fun e => { e with key := enc k, val := v }).toList.map (·.born) = es.toList.map (·.born) := by
        apply List.ext_getElem?
        intro i
        simp only [List.getElem?_map, Array.getElem?_toList, Array.getElem?_modify]
        by_cases hij : j = i
        · subst hij; simp [Array.getElem?_eq_getElem hj]
        · simp [hij]
      rw [this]; exact hnd
end
end Go.Proofs.YtdlbiobjnohfbaaGreat
