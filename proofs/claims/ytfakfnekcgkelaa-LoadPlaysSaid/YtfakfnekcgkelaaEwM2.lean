/- An evaluator of Go code whose memory has names of its own (2 of 9). -/
import Derived.Test.YtfakfnekcgkelaaEwM1
import Derived.Laws.Entries
import Derived.Lib.ConvBytes
import Derived.Laws.BytesString
/- An evaluator of Go code whose memory has names of its own (9): a new block, a block that is written. -/
namespace Go.Proofs.Ytfakfnekcgkelaa
set_option linter.unusedVariables false
set_option linter.unusedSimpArgs false

theorem AM.put_some {n : Nat} {o : Option AObj} {h h' : AH} {x : Unit} (e : (AM.put n o).run h = some (x, h')) : (∃ o', h.get n = some o') ∧ h' = { h with m := h.m.set 64 n o, tch := note h.base n h.tch, wrt := note h.base n h.wrt } := by
  unfold AM.put at e
  dsimp only at e
  split at e
  · rename_i o' ho
    injection e with e; injection e with e1 e2
    exact ⟨⟨o', ho⟩, e2.symm⟩
  · cases e
theorem AM.new_some {o : AObj} {h h' : AH} {x : Nat} (e : (AM.new o).run h = some (x, h')) : x = h.next ∧ h.next < 4611686018427387904 ∧ h' = { h with m := h.m.set 64 h.next (some o), next := h.next + 1 } := by
  unfold AM.new at e
  dsimp only at e
  split at e
  · rename_i hl
    injection e with e; injection e with e1 e2
    exact ⟨e1.symm, hl, e2.symm⟩
  · cases e
def Ren.at (ρ : Ren) (n b k : Nat) : Ren := { φ := fun m => if m = n then b else ρ.φ m, κ := fun m => if m = n then k else ρ.κ m, σ := ρ.σ }
theorem Ren.at_φ (ρ : Ren) (n b k : Nat) : (ρ.at n b k).φ n = b := by simp [Ren.at]
theorem Ren.at_κ (ρ : Ren) (n b k : Nat) : (ρ.at n b k).κ n = k := by simp [Ren.at]
theorem Ren.at_agree {N : Nat → Prop} (ρ : Ren) {n b k : Nat} (hn : ¬ N n) : Agree N ρ (ρ.at n b k) :=
  ⟨rfl, fun m hm => by show (if m = n then b else ρ.φ m) = ρ.φ m; rw [if_neg (by intro e; subst e; exact hn hm)], fun m hm => by show (if m = n then k else ρ.κ m) = ρ.κ m; rw [if_neg (by intro e; subst e; exact hn hm)]⟩
theorem get_new {h : AH} {o : AObj} (hl : h.next < 4611686018427387904) (k : Nat) : ({ h with m := h.m.set 64 h.next (some o), next := h.next + 1 } : AH).get k = if k = h.next then some o else h.get k := by
  show (h.m.set 64 h.next (some o)).get k = _
  by_cases e : k = h.next
  · subst e; rw [if_pos rfl]; exact Tr.get_set_same 64 h.m h.next (some o) (by omega)
  · rw [if_neg e]; exact Tr.get_set_other 64 h.m h.next k (some o) e
/-- a new block, wherever it lies apart from all that is known -/
theorem new_step {D N : Nat → Prop} {h : AH} {ρ : Ren} {w w' : World} {o : AObj} (hl : h.next < 4611686018427387904) (hwf : WF h) (hN : ¬ N h.next) (hr : Rel D N ρ h.get w) (b k : Nat) (hb : w.heap.size ≤ b)
    (hold : Holds (Grow N h.next (h.next + 1)) (ρ.at h.next b k) h.next w' o)
    (hos : w'.os = w.os) (htape : w'.tape = w.tape) (hout : w'.output = w.output) (hsize : w.heap.size ≤ w'.heap.size) (hheap : ∀ i, i < w.heap.size → w'.heap[i]? = w.heap[i]?) :
    Step D h ρ w { h with m := h.m.set 64 h.next (some o), next := h.next + 1 } (ρ.at h.next b k) w' ∧
    Rel D (Grow N h.next (h.next + 1)) (ρ.at h.next b k) ({ h with m := h.m.set 64 h.next (some o), next := h.next + 1 } : AH).get w' := by
  have hag : Agree N ρ (ρ.at h.next b k) := Ren.at_agree ρ hN
  refine ⟨⟨Ren.at_agree ρ (fun hh => hh ⟨Nat.le_refl _, Nat.lt_succ_self _⟩), fun n hn => .inl ?_, hos, htape, hout, hsize, fun i hi _ => hheap i hi⟩, ⟨?_, ?_, ?_, hr.sym, fun g hg => ⟨.inl (hr.glob g hg).1, (hag.φ g (hr.glob g hg).1).trans (hr.glob g hg).2⟩⟩⟩
  · have : n = h.next := by have := hn.1; have := hn.2; dsimp only at this; omega
    subst this; rw [Ren.at_φ]; exact hb
  · intro n m hn hm sn sm he
    rw [get_new hl] at sn sm
    have old : ∀ k', D k' → k' ≠ h.next → (h.get k').isSome → (ρ.at h.next b k).φ k' = ρ.φ k' ∧ ρ.φ k' < w.heap.size := fun k' hD hne hs => by
      refine ⟨by simp [Ren.at, hne], ?_⟩
      cases ho : h.get k' with
      | none => rw [ho] at hs; cases hs
      | some ob => exact (hr.holds k' ob hD ho).lt
    by_cases h1 : n = h.next
    · by_cases h2 : m = h.next
      · rw [h1, h2]
      · rw [if_neg h2] at sm
        obtain ⟨q1, q2⟩ := old m hm h2 sm
        rw [h1, Ren.at_φ, q1] at he
        omega
    · rw [if_neg h1] at sn
      obtain ⟨q1, q2⟩ := old n hn h1 sn
      by_cases h2 : m = h.next
      · rw [h2, Ren.at_φ, q1] at he; omega
      · rw [if_neg h2] at sm
        obtain ⟨q3, q4⟩ := old m hm h2 sm
        rw [q1, q3] at he
        exact hr.inj n m hn hm sn sm he
  · intro n ob hn hob
    rw [get_new hl] at hob
    by_cases h1 : n = h.next
    · rw [if_pos h1] at hob; injection hob with hob; subst hob; rw [h1]; exact hold
    · rw [if_neg h1] at hob
      have hh := hr.holds n ob hn hob
      exact hh.mono hag (fun _ h => .inl h) (hr.known n hn (by rw [hob]; rfl)) (hheap _ hh.lt)
  · intro n hn sn
    rw [get_new hl] at sn
    by_cases h1 : n = h.next
    · exact .inr ⟨by omega, by omega⟩
    · rw [if_neg h1] at sn; exact .inl (hr.known n hn sn)
/-- a block that is written -/
theorem put_step {D N : Nat → Prop} {h : AH} {ρ : Ren} {w w' : World} {n : Nat} {o : AObj} (hlt : n < 4611686018427387904) (hD : D n) (hs : (h.get n).isSome) (hnn : n < h.next) (hr : Rel D N ρ h.get w)
    (hold : Holds N ρ n w' o) (hos : w'.os = w.os) (htape : w'.tape = w.tape) (hout : w'.output = w.output) (hsize : w.heap.size ≤ w'.heap.size) (hheap : ∀ i, i < w.heap.size → i ≠ ρ.φ n → w'.heap[i]? = w.heap[i]?) :
    Step D h ρ w { h with m := h.m.set 64 n (some o), tch := note h.base n h.tch, wrt := note h.base n h.wrt } ρ w' ∧
    Rel D N ρ ({ h with m := h.m.set 64 n (some o), tch := note h.base n h.tch, wrt := note h.base n h.wrt } : AH).get w' := by
  have hget : ∀ k, ({ h with m := h.m.set 64 n (some o), tch := note h.base n h.tch, wrt := note h.base n h.wrt } : AH).get k = if k = n then some o else h.get k := fun k => by
    show (h.m.set 64 n (some o)).get k = _
    by_cases e : k = n
    · subst e; rw [if_pos rfl]; exact Tr.get_set_same 64 h.m k (some o) (by omega)
    · rw [if_neg e]; exact Tr.get_set_other 64 h.m n k (some o) e
  have hsome : ∀ k, (({ h with m := h.m.set 64 n (some o), tch := note h.base n h.tch, wrt := note h.base n h.wrt } : AH).get k).isSome → (h.get k).isSome := fun k hk => by
    rw [hget] at hk
    by_cases e : k = n
    · rw [e]; exact hs
    · rwa [if_neg e] at hk
  refine ⟨⟨Agree.refl _ _, fun m hm => absurd hm.1 (by have := hm.2; dsimp only at this; omega), hos, htape, hout, hsize, fun i hi hno => hheap i hi ?_⟩, ⟨?_, ?_, ?_, hr.sym, hr.glob⟩⟩
  · intro e
    refine hno n hD hnn hs ?_ e.symm
    by_cases hb : n < h.base
    · exact .inl (mem_note hb)
    · exact .inr (by omega)
  · intro a b ha hb sa sb he
    exact hr.inj a b ha hb (hsome a sa) (hsome b sb) he
  · intro k ob hk hob
    rw [hget] at hob
    by_cases e : k = n
    · rw [if_pos e] at hob; injection hob with hob; subst hob; rw [e]; exact hold
    · rw [if_neg e] at hob
      have hh := hr.holds k ob hk hob
      exact hh.mono (Agree.refl _ _) (fun _ h => h) (hr.known k hk (by rw [hob]; rfl)) (hheap _ hh.lt (fun e2 => e (hr.inj k n hk hD (by rw [hob]; rfl) hs e2)))
  · intro k hk sk
    exact hr.known k hk (hsome k sk)
/-- a block of which nothing more is said -/
theorem drop_step {D N : Nat → Prop} {h : AH} {ρ : Ren} {w : World} {n : Nat} (hlt : n < 4611686018427387904) (hr : Rel D N ρ h.get w) :
    Step D h ρ w { h with m := h.m.set 64 n none, tch := note h.base n h.tch, wrt := note h.base n h.wrt } ρ w ∧
    Rel D N ρ ({ h with m := h.m.set 64 n none, tch := note h.base n h.tch, wrt := note h.base n h.wrt } : AH).get w ∧ ({ h with m := h.m.set 64 n none, tch := note h.base n h.tch, wrt := note h.base n h.wrt } : AH).get n = none := by
  have hget : ∀ k, ({ h with m := h.m.set 64 n none, tch := note h.base n h.tch, wrt := note h.base n h.wrt } : AH).get k = if k = n then none else h.get k := fun k => by
    show (h.m.set 64 n none).get k = _
    by_cases e : k = n
    · subst e; rw [if_pos rfl]; exact Tr.get_set_same 64 h.m k none (by omega)
    · rw [if_neg e]; exact Tr.get_set_other 64 h.m n k none e
  have hsome : ∀ k, (({ h with m := h.m.set 64 n none, tch := note h.base n h.tch, wrt := note h.base n h.wrt } : AH).get k).isSome → (h.get k).isSome := fun k hk => by
    rw [hget] at hk
    by_cases e : k = n
    · rw [if_pos e] at hk; cases hk
    · rwa [if_neg e] at hk
  refine ⟨⟨Agree.refl _ _, fun m hm => absurd hm.1 (by have := hm.2; dsimp only at this; omega), rfl, rfl, rfl, Nat.le_refl _, fun _ _ _ => rfl⟩, ⟨?_, ?_, ?_, hr.sym, hr.glob⟩, by rw [hget, if_pos rfl]⟩
  · intro a b ha hb sa sb he
    exact hr.inj a b ha hb (hsome a sa) (hsome b sb) he
  · intro k ob hk hob
    rw [hget] at hob
    split at hob
    · cases hob
    · exact hr.holds k ob hk hob
  · intro k hk sk
    exact hr.known k hk (hsome k sk)
/-- a row that has grown: where it lay, or anew -/
theorem grown_step {D N : Nat → Prop} {h : AH} {ρ : Ren} {w w' : World} {n : Nat} {o : AObj} (hlt : n < 4611686018427387904) (hl : h.next < 4611686018427387904) (hwf : WF h) (hN : ¬ N h.next) (hD : D n) (hs : (h.get n).isSome) (hnn : n < h.next) (hr : Rel D N ρ h.get w)
    (b k : Nat) (hb : b = ρ.φ n ∨ w.heap.size ≤ b)
    (hold : Holds (Grow N h.next (h.next + 1)) (ρ.at h.next b k) h.next w' o)
    (hos : w'.os = w.os) (htape : w'.tape = w.tape) (hout : w'.output = w.output) (hsize : w.heap.size ≤ w'.heap.size) (hheap : ∀ i, i < w.heap.size → i ≠ ρ.φ n → w'.heap[i]? = w.heap[i]?) :
    Step D h ρ w { h with m := (h.m.set 64 n none).set 64 h.next (some o), next := h.next + 1, tch := note h.base n h.tch, wrt := note h.base n h.wrt } (ρ.at h.next b k) w' ∧
    Rel D (Grow N h.next (h.next + 1)) (ρ.at h.next b k) ({ h with m := (h.m.set 64 n none).set 64 h.next (some o), next := h.next + 1, tch := note h.base n h.tch, wrt := note h.base n h.wrt } : AH).get w' := by
  have hag : Agree N ρ (ρ.at h.next b k) := Ren.at_agree ρ hN
  have hget : ∀ k, ({ h with m := (h.m.set 64 n none).set 64 h.next (some o), next := h.next + 1, tch := note h.base n h.tch, wrt := note h.base n h.wrt } : AH).get k = if k = h.next then some o else if k = n then none else h.get k := fun k => by
    show ((h.m.set 64 n none).set 64 h.next (some o)).get k = _
    by_cases e : k = h.next
    · subst e; rw [if_pos rfl]; exact Tr.get_set_same 64 _ h.next (some o) (by omega)
    · rw [if_neg e, Tr.get_set_other 64 _ h.next k (some o) e]
      by_cases e2 : k = n
      · subst e2; rw [if_pos rfl]; exact Tr.get_set_same 64 h.m k none (by omega)
      · rw [if_neg e2]; exact Tr.get_set_other 64 h.m n k none e2
  have hsize0 : ∀ k', D k' → (h.get k').isSome → ρ.φ k' < w.heap.size := fun k' hD hs => by
    cases ho : h.get k' with
    | none => rw [ho] at hs; cases hs
    | some ob => exact (hr.holds k' ob hD ho).lt
  refine ⟨⟨Ren.at_agree ρ (fun hh => hh ⟨Nat.le_refl _, Nat.lt_succ_self _⟩), fun m hm => ?_, hos, htape, hout, hsize, fun i hi hno => hheap i hi ?_⟩, ⟨?_, ?_, ?_, hr.sym, fun g hg => ⟨.inl (hr.glob g hg).1, (hag.φ g (hr.glob g hg).1).trans (hr.glob g hg).2⟩⟩⟩
  · have : m = h.next := by have := hm.1; have := hm.2; dsimp only at this; omega
    subst this
    rw [Ren.at_φ]
    rcases hb with hb | hb
    · refine .inr ⟨n, hD, hnn, hs, ?_, hb⟩
      by_cases hbb : n < h.base
      · exact .inl (mem_note hbb)
      · exact .inr (by omega)
    · exact .inl hb
  · intro e
    refine hno n hD hnn hs ?_ e.symm
    by_cases hb : n < h.base
    · exact .inl (mem_note hb)
    · exact .inr (by omega)
  · have old : ∀ k', D k' → k' ≠ h.next → ((if k' = h.next then some o else if k' = n then none else h.get k') : Option AObj).isSome → (h.get k').isSome ∧ k' ≠ n ∧ (ρ.at h.next b k).φ k' = ρ.φ k' := fun k' hD hne hs => by
      rw [if_neg hne] at hs
      by_cases e : k' = n
      · rw [if_pos e] at hs; cases hs
      · rw [if_neg e] at hs; exact ⟨hs, e, by simp [Ren.at, hne]⟩
    intro x y hx hy sx sy he
    rw [hget] at sx sy
    by_cases h1 : x = h.next
    · by_cases h2 : y = h.next
      · rw [h1, h2]
      · obtain ⟨q1, q2, q3⟩ := old y hy h2 sy
        rw [h1, Ren.at_φ, q3] at he
        rcases hb with hb | hb
        · exact absurd (hr.inj n y hD hy hs q1 (by rw [← hb]; exact he)).symm q2
        · have := hsize0 y hy q1; omega
    · obtain ⟨q1, q2, q3⟩ := old x hx h1 sx
      by_cases h2 : y = h.next
      · rw [h2, Ren.at_φ, q3] at he
        rcases hb with hb | hb
        · exact absurd (hr.inj x n hx hD q1 hs (by rw [← hb]; exact he)) q2
        · have := hsize0 x hx q1; omega
      · obtain ⟨p1, p2, p3⟩ := old y hy h2 sy
        rw [q3, p3] at he
        exact hr.inj x y hx hy q1 p1 he
  · intro k' ob hk hob
    rw [hget] at hob
    by_cases h1 : k' = h.next
    · rw [if_pos h1] at hob; injection hob with hob; subst hob; rw [h1]; exact hold
    · rw [if_neg h1] at hob
      by_cases h2 : k' = n
      · rw [if_pos h2] at hob; cases hob
      · rw [if_neg h2] at hob
        have hh := hr.holds k' ob hk hob
        exact hh.mono hag (fun _ h => .inl h) (hr.known k' hk (by rw [hob]; rfl)) (hheap _ hh.lt (fun e => h2 (hr.inj k' n hk hD (by rw [hob]; rfl) hs e)))
  · intro k' hk sk
    rw [hget] at sk
    by_cases h1 : k' = h.next
    · exact .inr ⟨by omega, by omega⟩
    · rw [if_neg h1] at sk
      by_cases h2 : k' = n
      · rw [if_pos h2] at sk; cases sk
      · rw [if_neg h2] at sk; exact .inl (hr.known k' hk sk)

/-- cells written into a row -/
theorem heap_setCells {b : Nat} {e : TypeId} {fr : Nat × Nat} : ∀ (vs : List Value) (o : Nat) (c : Array Value) (w : World), w.heap[b]? = some (.cells c e fr) → o + vs.length ≤ c.size →
    (w.setCells b o vs).heap[b]? = some (.cells (c.toList.take o ++ vs ++ c.toList.drop (o + vs.length)).toArray e fr)
  | [], o, c, w, h, _ => by simp [World.setCells, h]
  | v :: r, o, c, w, h, hl => by
    simp only [List.length_cons] at hl
    have h1 : (w.setCell ⟨b, o, none⟩ v).heap[b]? = some (.cells (c.setIfInBounds o v) e fr) := by
      simp [World.setCell, Array.getElem?_modify, h]
    have ih := heap_setCells r (o + 1) (c.setIfInBounds o v) (w.setCell ⟨b, o, none⟩ v) h1 (by simp; omega)
    have e1 : w.setCells b o (v :: r) = (w.setCell ⟨b, o, none⟩ v).setCells b (o + 1) r := rfl
    rw [e1, ih]
    have hlt : o < c.toList.length := by rw [Array.length_toList]; omega
    have key : List.take (o + 1) (c.setIfInBounds o v).toList ++ r ++ List.drop (o + 1 + r.length) (c.setIfInBounds o v).toList = List.take o c.toList ++ v :: r ++ List.drop (o + (v :: r).length) c.toList := by
      rw [Array.toList_setIfInBounds]
      rw [List.drop_set_of_lt (show o < o + 1 + r.length by omega)]
      have e2 : List.take (o + 1) (c.toList.set o v) = List.take o c.toList ++ [v] := by
        have h3 : o < (c.toList.set o v).length := by simpa using hlt
        rw [List.take_succ_eq_append_getElem h3]
        rw [List.take_set, List.set_eq_of_length_le (by rw [List.length_take]; omega)]
        simp
      rw [e2, List.length_cons, show o + (r.length + 1) = o + 1 + r.length from by omega]
      simp
    rw [key]
theorem heap_setCells_other {b k : Nat} (hk : k ≠ b) : ∀ (vs : List Value) (o : Nat) (w : World), (w.setCells b o vs).heap[k]? = w.heap[k]?
  | [], o, w => rfl
  | v :: r, o, w => by
    have e1 : w.setCells b o (v :: r) = (w.setCell ⟨b, o, none⟩ v).setCells b (o + 1) r := rfl
    rw [e1, heap_setCells_other hk r]
    simp only [World.setCell, Array.getElem?_modify]
    rw [if_neg (by omega)]
theorem rest_setCells {b : Nat} : ∀ (vs : List Value) (o : Nat) (w : World), (w.setCells b o vs).os = w.os ∧ (w.setCells b o vs).tape = w.tape ∧ (w.setCells b o vs).output = w.output ∧ (w.setCells b o vs).heap.size = w.heap.size
  | [], o, w => ⟨rfl, rfl, rfl, rfl⟩
  | v :: r, o, w => by
    have e1 : w.setCells b o (v :: r) = (w.setCell ⟨b, o, none⟩ v).setCells b (o + 1) r := rfl
    have ih := rest_setCells (b := b) r (o + 1) (w.setCell ⟨b, o, none⟩ v)
    rw [e1]
    refine ⟨ih.1, ih.2.1, ih.2.2.1, ?_⟩
    rw [ih.2.2.2]; simp [World.setCell]
end Go.Proofs.Ytfakfnekcgkelaa
/- An evaluator of Go code whose memory has names of its own (10): operations that look at memory. -/
namespace Go.Proofs.Ytfakfnekcgkelaa
set_option linter.unusedVariables false
set_option linter.unusedSimpArgs false

theorem VR_ptr {N : Nat → Prop} {ρ : Ren} {n b k o : Nat} : VR (Grow N n (n + 1)) (ρ.at n b k) (.pointer (some ⟨n, o, none⟩)) (.pointer (some ⟨b, o, none⟩)) := fun r hr => by
  have h1 := hr.φ n (.inr ⟨Nat.le_refl _, Nat.lt_succ_self _⟩)
  rw [Ren.at_φ] at h1
  simp [ren, renB, renA, h1]
theorem VR_slice {N : Nat → Prop} {ρ : Ren} {n b k o len cap cap' : Nat} (hc : cap' = if capTop ≤ cap then k - (cap - capTop) else cap) :
    VR (Grow N n (n + 1)) (ρ.at n b k) (.slice (some ⟨n, o, none⟩) len cap) (.slice (some ⟨b, o, none⟩) len cap') := fun r hr => by
  have h1 := hr.φ n (.inr ⟨Nat.le_refl _, Nat.lt_succ_self _⟩)
  have h2 := hr.κ n (.inr ⟨Nat.le_refl _, Nat.lt_succ_self _⟩)
  rw [Ren.at_φ] at h1
  rw [Ren.at_κ] at h2
  simp only [ren, renB, renA, h1, renCap, h2, hc]
theorem VR_map {N : Nat → Prop} {ρ : Ren} {n b k : Nat} : VR (Grow N n (n + 1)) (ρ.at n b k) (.map (some n)) (.map (some b)) := fun r hr => by
  have h1 := hr.φ n (.inr ⟨Nat.le_refl _, Nat.lt_succ_self _⟩)
  rw [Ren.at_φ] at h1
  simp [ren, h1]
theorem LR.cells {N : Nat → Prop} {ρ : Ren} (hs : SymOk ρ) {v v' : Value} (h : VR N ρ v v') : LR N ρ v.cells.toList v'.cells.toList := fun r hr => by
  rw [← h r hr, cells_ren (fun k => by rw [hr.σ]; exact hs k), Array.toList_map]
theorem LR.shut {N : Nat → Prop} {ρ : Ren} {l : List Value} (h : l.all Go.Proofs.Ytfakfnekcgkelaa.shut = true) : LR N ρ l l := fun r hr => by
  have : l.map (ren r) = l.map id := List.map_congr_left (fun v hv => ren_shut r ((List.all_eq_true.1 h) v hv))
  rw [this, List.map_id]

/-- a new closed row -/
theorem new_row {D N : Nat → Prop} {h : AH} {ρ : Ren} {w : World} {cs : List Value} {c : Array Value} {e : TypeId} (hl : h.next < 4611686018427387904) (hwf : WF h) (hN : ¬ N h.next) (hr : Rel D N ρ h.get w) (hc : LR N ρ cs c.toList) :
    Step D h ρ w { h with m := h.m.set 64 h.next (some (.row cs e 0 false)), next := h.next + 1 } (ρ.at h.next w.heap.size 0) { w with heap := w.heap.push (.cells c e) } ∧
    Rel D (Grow N h.next (h.next + 1)) (ρ.at h.next w.heap.size 0) ({ h with m := h.m.set 64 h.next (some (.row cs e 0 false)), next := h.next + 1 } : AH).get { w with heap := w.heap.push (.cells c e) } := by
  have hlen : c.size = cs.length := by rw [← hc.length, Array.length_toList]
  refine new_step hl hwf hN hr w.heap.size 0 (Nat.le_refl _) ⟨c, (0, 0), ?_, ?_, rfl, ?_, hlen⟩ rfl rfl rfl (by simp) (fun i hi => ?_)
  · rw [Ren.at_φ]; simp
  · rw [List.take_of_length_le (show c.toList.length ≤ cs.length by rw [Array.length_toList]; omega)]
    exact hc.mono (Ren.at_agree ρ hN) (fun _ h => .inl h)
  · omega
  · show (w.heap.push _)[i]? = _
    rw [Array.getElem?_push, if_neg (by omega)]

abbrev VRel (N : Nat → Prop) (ρ : Ren) (x x' : Value) : Prop := VR N ρ x x'
def aNewRow (e : TypeId) (cs : List Value) : AM Nat := AM.new (.row cs e 0 false)
theorem aNewRow_sound {P : Program} {N : Nat → Prop} {ρ : Ren} {e : TypeId} {cs : List Value} {c : Array Value} (hc : LR N ρ cs c.toList) :
    Sim P N ρ (aNewRow e cs) (newRow e c) (fun N ρ n a => a = ⟨ρ.φ n, 0, none⟩ ∧ N n) := by
  intro h x h' he D w hcov hwf hN hr
  obtain ⟨rfl, hl, rfl⟩ := AM.new_some he
  have hNn : ¬ N h.next := hN h.next ⟨Nat.le_refl _, Nat.lt_succ_self _⟩
  obtain ⟨s, q⟩ := new_row (e := e) hl hwf hNn hr hc
  exact ⟨_, _, _, rfl, s, q, by rw [Ren.at_φ], .inr ⟨Nat.le_refl _, Nat.lt_succ_self _⟩⟩
theorem VR_of {N : Nat → Prop} {ρ : Ren} {n o : Nat} (h : N n) : VR N ρ (.pointer (some ⟨n, o, none⟩)) (.pointer (some ⟨ρ.φ n, o, none⟩)) := fun r hr => by simp [ren, renB, renA, hr.φ n h]
theorem VR_sl {N : Nat → Prop} {ρ : Ren} {n o len cap : Nat} (h : N n) (hc : cap < capTop) : VR N ρ (.slice (some ⟨n, o, none⟩) len cap) (.slice (some ⟨ρ.φ n, o, none⟩) len cap) := fun r hr => by
  simp only [ren, renB, renA, hr.φ n h, renCap]
  rw [if_neg (by omega)]

def zeroOf (P : Program) (t : TypeId) : Option (List Value) :=
  match P.info? t with
  | some i => match i.zero with
    | some z => if shut z && z.cells.toList.all shut then some z.cells.toList else none
    | none => none
  | none => none
theorem zeroOf_run {P : Program} {t : TypeId} {cs : List Value} (h : zeroOf P t = some cs) (w : World) : ∃ z, (zeroValue t).run P w = .ok z w ∧ z.cells.toList = cs ∧ cs.all shut = true := by
  unfold zeroOf at h
  cases hi : P.info? t with
  | none => rw [hi] at h; cases h
  | some i =>
    rw [hi] at h
    dsimp only at h
    cases hz : i.zero with
    | none => rw [hz] at h; cases h
    | some z =>
      rw [hz] at h
      dsimp only at h
      split at h
      · rename_i hs
        injection h with h; subst h
        rw [Bool.and_eq_true] at hs
        refine ⟨z, by simp [zeroValue, typeInfo, hi, hz], rfl, hs.2⟩
      · cases h

def aAlloc (P : Program) (t : TypeId) : AM Value :=
  match zeroOf P t with
  | some cs => (aNewRow t cs).bind fun n => .pure (.pointer (some ⟨n, 0, none⟩))
  | none => .fail
theorem aAlloc_sound {P : Program} {N : Nat → Prop} {ρ : Ren} {t : TypeId} : Sim P N ρ (aAlloc P t) (Instr.alloc t true (.tuple #[])) VRel := by
  unfold aAlloc
  cases hz : zeroOf P t with
  | none => exact Sim.fail
  | some cs =>
    intro h x h' he D w hcov hwf hN hr
    obtain ⟨z, r1, r2, r3⟩ := zeroOf_run hz w
    have := (aNewRow_sound (P := P) (N := N) (ρ := ρ) (e := t) (cs := cs) (c := z.cells) (by rw [r2]; exact LR.shut r3)).bind (f := fun n => AM.pure (Value.pointer (some ⟨n, 0, none⟩))) (g := fun a => Sem.pure (Value.pointer (some a)))
      (R2 := VRel) (fun N' ρ' x y _ _ hR => Sim.pure (by rw [hR.1]; exact VR_of hR.2)) h x h' he D w hcov hwf hN hr
    obtain ⟨ρ', y, w', q1, q2⟩ := this
    refine ⟨ρ', y, w', ?_, q2⟩
    unfold Instr.alloc
    rw [Sem.run_bind, r1]
    exact q1
def aBox (t : TypeId) (v : Value) : AM Value := (aNewRow t v.cells.toList).bind fun n => .pure (.pointer (some ⟨n, 0, none⟩))
theorem aBox_sound {P : Program} {N : Nat → Prop} {ρ : Ren} (hs : SymOk ρ) {t : TypeId} {v v' : Value} (hv : VR N ρ v v') : Sim P N ρ (aBox t v) (Instr.box t v') VRel := by
  have := (aNewRow_sound (P := P) (N := N) (ρ := ρ) (e := t) (cs := v.cells.toList) (c := v'.cells) (LR.cells hs hv)).bind (f := fun n => AM.pure (Value.pointer (some ⟨n, 0, none⟩))) (g := fun a => Sem.pure (Value.pointer (some a)))
      (R2 := VRel) (fun N' ρ' x y _ _ hR => Sim.pure (by rw [hR.1]; exact VR_of hR.2))
  exact this

/-- the symbols are what they are wherever a run begins -/
theorem Sim.withSym {P : Program} {α β : Type} {N : Nat → Prop} {ρ : Ren} {m : AM α} {s : Sem β} {R : (Nat → Prop) → Ren → α → β → Prop} (h : SymOk ρ → Sim P N ρ m s R) : Sim P N ρ m s R := by
  intro h0 x h' e D w hc hwf hN hr
  exact h hr.sym h0 x h' e D w hc hwf hN hr

/-- cells that are written into a row -/
def spliceL (l : List Value) (off : Nat) (cs : List Value) : List Value := l.take off ++ cs ++ l.drop (off + cs.length)
theorem splice_take {l : List Value} {off L : Nat} {vs : List Value} (h : off + vs.length ≤ L) (hL : L ≤ l.length) : (spliceL l off vs).take L = spliceL (l.take L) off vs := by
  unfold spliceL
  have e1 : l = l.take L ++ l.drop L := (List.take_append_drop L l).symm
  have e2 : l.take off = (l.take L).take off := by rw [List.take_take, Nat.min_eq_left (by omega)]
  have e3 : l.drop (off + vs.length) = (l.take L).drop (off + vs.length) ++ l.drop L := by
    have : (l.take L ++ l.drop L).drop (off + vs.length) = (l.take L).drop (off + vs.length) ++ l.drop L := by
      rw [List.drop_append_of_le_length (by rw [List.length_take]; omega)]
    rw [← this, List.take_append_drop]
  rw [e2, e3, ← List.append_assoc]
  refine List.take_left' ?_
  simp only [List.length_append, List.length_take, List.length_drop]
  omega
theorem splice_len {l vs : List Value} {off : Nat} (h : off + vs.length ≤ l.length) : (spliceL l off vs).length = l.length := by
  unfold spliceL
  simp only [List.length_append, List.length_take, List.length_drop]
  omega
theorem LR.splice {N : Nat → Prop} {ρ : Ren} {l l' vs vs' : List Value} {off : Nat} (h : LR N ρ l l') (k : LR N ρ vs vs') : LR N ρ (spliceL l off vs) (spliceL l' off vs') := fun r hr => by
  unfold spliceL
  rw [List.map_append, List.map_append, List.map_take, List.map_drop, h r hr, k r hr, k.length]
def aWrite (b off : Nat) (cs : List Value) : AM Unit :=
  if cs.all Value.oneCell' && decide (b < 4611686018427387904) then
    (AM.look b).bind fun
      | .row l e op mk => if off + cs.length ≤ l.length then AM.put b (some (.row (spliceL l off cs) e op mk)) else .fail
      | _ => .fail
  else .fail
theorem aWrite_sound {P : Program} {N : Nat → Prop} {ρ : Ren} {b off : Nat} {cs cs' : List Value} (hc : LR N ρ cs cs') : Sim P N ρ (aWrite b off cs) (storeCells ⟨ρ.φ b, off, none⟩ cs') (fun _ _ _ _ => True) := by
  refine Sim.withSym fun hsym => ?_
  unfold aWrite
  split
  case isFalse => exact Sim.fail
  case isTrue hone =>
    rw [Bool.and_eq_true, decide_eq_true_eq] at hone
    intro h x h' he D w hcov hwf hN hr
    obtain ⟨ob, h1, e1, e2⟩ := AM.bind_some he
    obtain ⟨g1, rfl⟩ := AM.look_some e1
    cases ob with
    | map es cl => cases e2
    | iter m s e t => cases e2
    | row l e op mk =>
      dsimp only at e2
      split at e2
      case isFalse => cases e2
      case isTrue hlen =>
        have m2 := (AM.put b _).mono _ _ _ e2
        have hDb : D b := (hcov.of m2).look
        obtain ⟨_, rfl⟩ := AM.put_some e2
        have hbn : b < h.next := by
          rcases Nat.lt_or_ge b h.next with hh | hh
          · exact hh
          · rw [hwf b hh] at g1; cases g1
        have hls := look_step (n := b) hr
        rw [Grow.eq_self] at hls
        obtain ⟨c, fr, q1, q2, q4, q5, q6⟩ := hr.holds b _ hDb g1
        have hl' : cs'.length = cs.length := hc.length
        have hone' : ∀ v ∈ cs', v.oneCell' = true := fun v hv => by
          rw [← hc.eq] at hv
          obtain ⟨u, hu, rfl⟩ := List.mem_map.1 hv
          rw [oneCell_ren hsym]
          exact (List.all_eq_true.1 hone.1) u hu
        have hrun : (storeCells ⟨ρ.φ b, off, none⟩ cs').run P w = .ok () (w.setCells (ρ.φ b) off cs') := by
          have := run_storeCells_cells (P := P) (ρ.φ b) off cs' 0 w (fun j hj => ?_) (fun j hj => ?_) hone'
          · simpa using this
          · have hlt : off + j < c.size := by omega
            simp [World.cell?, q1, hlt]
          · have hlt : off + j < c.size := by omega
            simp only [World.frozen?, q1, Nat.add_zero]
            cases mk with
            | true =>
              rw [if_pos rfl] at q4
              obtain ⟨f1, f2⟩ := fr
              simp only [Bool.and_eq_false_iff, decide_eq_false_iff_not]
              dsimp only at q4
              omega
            | false =>
              rw [if_neg (by simp)] at q4
              subst q4
              simp
        have hc' := heap_setCells (b := ρ.φ b) cs' off c w q1 (by omega)
        have hcl : c.toList.length = c.size := Array.length_toList
        have hrest := rest_setCells (b := ρ.φ b) cs' off w
        have hpl : (spliceL l off cs).length = l.length := splice_len hlen
        have hsb : (({ h with tch := note h.base b h.tch } : AH).get b).isSome := by
          show (h.get b).isSome
          rw [g1]; rfl
        have hps := put_step (D := D) (N := N) (h := { h with tch := note h.base b h.tch }) (ρ := ρ) (w := w) (w' := w.setCells (ρ.φ b) off cs') (n := b) (o := .row (spliceL l off cs) e op mk) hone.2 hDb hsb hbn hls.2
          ⟨_, fr, hc', ?_, ?_, ?_, ?_⟩ hrest.1 hrest.2.1 hrest.2.2.1 (Nat.le_of_eq hrest.2.2.2.symm) (fun i _ hne => heap_setCells_other hne cs' off w)
        · refine ⟨ρ, (), _, hrun, ?_, ?_, trivial⟩
          · exact hls.1.trans hps.1 ⟨Nat.le_refl _, rfl, fun _ h => mem_note_of h, fun _ h => h, fun _ _ h => h, fun _ _ _ _ => rfl, id⟩ m2
          · show Rel D (Grow N h.next h.next) ρ _ _
            rw [Grow.eq_self]; exact hps.2
        · rw [hpl]
          have := splice_take (l := c.toList) (off := off) (L := l.length) (vs := cs') (by omega) (by omega)
          rw [show (List.take off c.toList ++ cs' ++ List.drop (off + cs'.length) c.toList).toArray.toList = spliceL c.toList off cs' from rfl, this]
          exact q2.splice hc
        · have : (List.take off c.toList ++ cs' ++ List.drop (off + cs'.length) c.toList).toArray.size = c.size := by
            have := splice_len (l := c.toList) (vs := cs') (off := off) (by omega)
            simpa [spliceL] using this
          rw [this]; exact q4
        · have : (List.take off c.toList ++ cs' ++ List.drop (off + cs'.length) c.toList).toArray.size = c.size := by
            have := splice_len (l := c.toList) (vs := cs') (off := off) (by omega)
            simpa [spliceL] using this
          rw [this, hpl]; exact q5
        · have : (List.take off c.toList ++ cs' ++ List.drop (off + cs'.length) c.toList).toArray.size = c.size := by
            have := splice_len (l := c.toList) (vs := cs') (off := off) (by omega)
            simpa [spliceL] using this
          rw [this, hpl]; exact q6
def aStore (P : Program) (t : TypeId) (va vx : Value) : AM Unit :=
  match va with
  | .pointer (some ⟨b, off, none⟩) => (match P.info? t with
    | some i => if vx.cells.size = i.size then aWrite b off vx.cells.toList else .fail
    | none => .fail)
  | _ => .fail
theorem aStore_sound {P : Program} {N : Nat → Prop} {ρ : Ren} {t : TypeId} {va va' vx vx' : Value} (ha : VR N ρ va va') (hx : VR N ρ vx vx') : Sim P N ρ (aStore P t va vx) (Instr.storeAt t va' vx') (fun _ _ _ _ => True) := by
  refine Sim.withSym fun hsym => ?_
  unfold aStore
  split
  case h_2 => exact Sim.fail
  case h_1 b off =>
    split
    case h_2 => exact Sim.fail
    case h_1 i hi =>
      split
      case isFalse => exact Sim.fail
      case isTrue hsz =>
        have hva : va' = .pointer (some ⟨ρ.φ b, off, none⟩) := by rw [← ha.eq]; simp [ren, renB, renA]
        have hcs := LR.cells hsym hx
        have hsz' : vx'.cells.size = i.size := by rw [← Array.length_toList, hcs.length, Array.length_toList]; exact hsz
        have hw := aWrite_sound (P := P) (b := b) (off := off) hcs
        intro h x h' he D w hcov hwf hN hr
        obtain ⟨ρ', y, w', q1, q2⟩ := hw h x h' he D w hcov hwf hN hr
        refine ⟨ρ', y, w', ?_, q2⟩
        subst hva
        unfold Instr.storeAt storeVar
        simp [Instr.sureAddr, sizeOf, typeInfo, hi, hsz', q1]
end Go.Proofs.Ytfakfnekcgkelaa
/- An evaluator of Go code whose memory has names of its own (11): rows that grow, copies, literals. -/
namespace Go.Proofs.Ytfakfnekcgkelaa
set_option linter.unusedVariables false
set_option linter.unusedSimpArgs false

/-- the cells of a source: how many elements, what they are -/
def aSrc (size : Nat) : Value → AM (Nat × List Value)
  | .slice none n _ => if n = 0 then .pure (0, []) else .fail
  | .slice (some ⟨b, off, none⟩) m _ => (AM.look b).bind fun
    | .row cs _ _ _ => if off + m * size ≤ cs.length then .pure (m, (cs.drop off).take (m * size)) else .fail
    | _ => .fail
  | .slice (some ⟨_, _, some _⟩) n _ => if n = 0 then .pure (0, []) else .fail
  | _ => .fail
theorem LR.takeDrop {N : Nat → Prop} {ρ : Ren} {l l' : List Value} (h : LR N ρ l l') (a b : Nat) : LR N ρ ((l.drop a).take b) ((l'.drop a).take b) := fun r hr => by rw [List.map_take, List.map_drop, h r hr]
theorem aSrc_sound {P : Program} {size : Nat} {x x' : Value} {h h' : AH} {m : Nat} {cs : List Value} (e : (aSrc size x).run h = some ((m, cs), h')) {D N : Nat → Prop} {ρ : Ren} {w : World} (hc : Cov D h') (hr : Rel D N ρ h.get w) (hx : VR N ρ x x') :
    ∃ cs', LR N ρ cs cs' ∧ cs'.length = m * size ∧ h'.m = h.m ∧ h'.next = h.next ∧ Step D h ρ w h' ρ w ∧ Rel D N ρ h'.get w ∧ (∀ w, (Builtin.lenOf x').run P w = .ok m w) ∧
      ((x' = .slice none 0 0 ∧ m = 0) ∨ (∃ c, x' = .slice none 0 c ∧ m = 0) ∨ ∃ a c, x' = .slice (some a) m c ∧ ∀ j u, cs'[j]? = some u → w.cell? (a.add j) = some u) ∧
      (∀ k, k ≤ m → (Builtin.firstCells size k x').run P w = .ok (cs'.take (k * size)).toArray w) := by
  unfold aSrc at e
  split at e
  case h_3 b off z n c =>
    split at e
    case isFalse => cases e
    case isTrue hn =>
      obtain ⟨e1, rfl⟩ := AM.pure_some e
      injection e1 with e1 e2; subst e1; subst e2
      have hx' : x' = .slice (some (renB ρ ⟨b, off, some z⟩ c)) n (renCap ρ b c) := by rw [← hx.eq]; simp [ren]
      subst hn; subst hx'
      refine ⟨[], fun r _ => rfl, by simp, rfl, rfl, Step.refl _ _ _ _, hr, fun _ => rfl, .inr (.inr ⟨_, _, rfl, fun j u hu => by simp at hu⟩), fun k hk => ?_⟩
      obtain rfl : k = 0 := by omega
      have := run_loadCells_list (P := P) (w := w) (renB ρ ⟨b, off, some z⟩ c) [] (fun j v hv => by simp at hv)
      simpa [Builtin.firstCells] using this
  case h_1 n c =>
    split at e
    case isFalse => cases e
    case isTrue hn =>
      obtain ⟨e1, rfl⟩ := AM.pure_some e
      injection e1 with e1 e2; subst e1; subst e2
      have hx' : x' = .slice none n c := by rw [← hx.eq]; simp [ren]
      subst hn; subst hx'
      refine ⟨[], fun r _ => rfl, by simp, rfl, rfl, Step.refl _ _ _ _, hr, fun _ => rfl, .inr (.inl ⟨c, rfl, rfl⟩), fun k hk => ?_⟩
      obtain rfl : k = 0 := by omega
      simp [Builtin.firstCells]
  case h_2 b off m0 c =>
    obtain ⟨ob, h1, e1, e2⟩ := AM.bind_some e
    obtain ⟨g1, rfl⟩ := AM.look_some e1
    cases ob with
    | map es cl => cases e2
    | iter m s e t => cases e2
    | row l el op mk =>
      dsimp only at e2
      split at e2
      case isFalse => cases e2
      case isTrue hlen =>
        obtain ⟨e3, rfl⟩ := AM.pure_some e2
        injection e3 with e3 e4; subst e3; subst e4
        have hh := hr.holds b _ hc.look g1
        have hra := rangeAt_of hh off ((l.drop off).take (m * size)) (fun j v hv => by
          rw [List.getElem?_take] at hv
          split at hv
          · rwa [List.getElem?_drop] at hv
          · cases hv)
        obtain ⟨ca, fr, q1, q2, _⟩ := hh
        have hls := look_step (n := b) hr
        rw [Grow.eq_self] at hls
        have hx' : x' = .slice (some ⟨ρ.φ b, off, none⟩) m (renCap ρ b c) := by rw [← hx.eq]; simp [ren, renB, renA]
        subst hx'
        refine ⟨((l.drop off).take (m * size)).map (ren ρ), fun r hr2 => ?_, by simp; omega, rfl, rfl, hls.1, hls.2, fun _ => rfl, .inr (.inr ⟨_, _, rfl, fun j u hu => ?_⟩), fun k hk => ?_⟩
        · rw [List.map_take, List.map_drop, List.map_take, List.map_drop, q2 r hr2, q2.eq]
        · rw [Addr.add_mid]; exact hra j u hu
        · show (loadCells _ _).run P w = _
          have hks : k * size ≤ m * size := Nat.mul_le_mul_right _ hk
          have := run_loadCells_list (P := P) (w := w) ⟨ρ.φ b, off, none⟩ (((l.drop off).take (m * size)).map (ren ρ) |>.take (k * size)) (fun j v hv => by
            rw [Addr.add_mid]
            rw [List.getElem?_take] at hv
            split at hv
            · exact hra j v hv
            · cases hv)
          rw [show ((((l.drop off).take (m * size)).map (ren ρ)).take (k * size)).length = k * size from by simp; omega] at this
          exact this
  case h_4 => cases e

def growRow (e : TypeId) (size : Nat) (cs : List Value) (len : Nat) : AM Value := (AM.new (.row cs e size false)).bind fun n => .pure (.slice (some ⟨n, 0, none⟩) len capTop)
def aAppend (P : Program) (t : TypeId) (s x : Value) : AM Value :=
  match P.underlying t with
  | some (.slice e) => (match P.info? e, zeroOf P e with
    | some i, some zs =>
      if zs.length = i.size ∧ 0 < i.size then (aSrc i.size x).bind fun p =>
        if p.2.all Value.oneCell' = true then match s with
          | .slice none n c => if p.1 = 0 ∧ n = 0 ∧ c = 0 then .pure s else if n = 0 ∧ c = 0 ∧ p.1 * i.bytes ≤ 70368744177664 ∧ p.1 ≤ 70368744177664 then growRow e i.size p.2 p.1 else .fail
          | .slice (some ⟨b, off, none⟩) n cap =>
            if cap < capTop ∧ n + p.1 ≤ cap then (aWrite b (off + n * i.size) p.2).bind fun _ => .pure (.slice (some ⟨b, off, none⟩) (n + p.1) cap)
            else if off = 0 ∧ b < 4611686018427387904 ∧ (n + p.1) * i.bytes ≤ 70368744177664 ∧ n + p.1 ≤ 70368744177664 then (AM.look b).bind fun
              | .row cs e' op false =>
                if e' = e ∧ ((op = 0 ∧ cap < capTop ∧ cap * i.size = cs.length ∧ n ≤ cap ∧ cap ≤ 70368744177664) ∨ (op = i.size ∧ cap = capTop ∧ n * i.size ≤ cs.length)) then
                  (if op = i.size ∧ cap = capTop ∧ (n + p.1) * i.size ≤ cs.length then (aWrite b (n * i.size) p.2).bind fun _ => .pure (.slice (some ⟨b, 0, none⟩) (n + p.1) capTop)
                  else (AM.put b none).bind fun _ => growRow e i.size (cs.take (n * i.size) ++ p.2) (n + p.1))
                else .fail
              | _ => .fail
            else .fail
          | _ => .fail
        else .fail
      else .fail
    | _, _ => .fail)
  | _ => .fail

theorem zeroOf_cells {P : Program} {t : TypeId} {cs : List Value} {i : TypeInfo} (h : zeroOf P t = some cs) (hi : P.info? t = some i) : ∃ z, i.zero = some z ∧ z.cells.size = cs.length := by
  unfold zeroOf at h
  rw [hi] at h
  dsimp only at h
  cases hz : i.zero with
  | none => rw [hz] at h; cases h
  | some z =>
    rw [hz] at h
    dsimp only at h
    split at h
    · injection h with h; subst h; exact ⟨z, rfl, by simp⟩
    · cases h

/-- append into the room that there is -/
theorem run_append_fits {P : Program} {t e ty : TypeId} {i : TypeInfo} (ht : P.underlying t = some (.slice e)) (hi : P.info? e = some i) {x' : Value} {m : Nat} {cs' : List Value} {w : World} (hlen : (Builtin.lenOf x').run P w = .ok m w)
    (hfc : (Builtin.firstCells i.size m x').run P w = .ok cs'.toArray w) {a : Addr} {n cap : Nat} (hfit : n + m ≤ cap) {w' : World} (hst : (storeCells (a.add (n * i.size)) cs').run P w = .ok () w') :
    (Builtin.append_ #[t, t] ty #[.slice (some a) n cap, x']).run P w = .ok (.slice (some a) (n + m) cap) w' := by
  simp [Builtin.append_, run_underlying ht, sizeOf, typeInfo, hi, hlen, hfit, hfc, hst]
theorem growRow_mono {e : TypeId} {size : Nat} {cs : List Value} {len : Nat} {h h' : AH} {v : Value} (he : (growRow e size cs len).run h = some (v, h')) :
    v = .slice (some ⟨h.next, 0, none⟩) len capTop ∧ h.next < 4611686018427387904 ∧ h' = { h with m := h.m.set 64 h.next (some (.row cs e size false)), next := h.next + 1 } := by
  obtain ⟨n, h1, e1, e2⟩ := AM.bind_some he
  obtain ⟨rfl, hl, rfl⟩ := AM.new_some e1
  obtain ⟨rfl, rfl⟩ := AM.pure_some e2
  exact ⟨rfl, hl, rfl⟩
theorem owns_some {w : World} {base : Nat} {e : TypeId} {size : Nat} {v : Value} {n : Nat} {xs : List Value} (h : w.ownsRow base e size v n xs) (h0 : 0 < n) :
    ∃ g cap cur, v = .slice (some ⟨g, 0, none⟩) n cap ∧ w.heap[g]? = some (.cells cur e (0, 0)) ∧ n ≤ cap ∧ cap ≤ maxLen ∧ cur.size = cap * size ∧ cur.toList.take (n * size) = xs := by
  rcases h.2 with ⟨_, h1⟩ | ⟨g, cap, cur, h1, _, h2, h3, h4, h5, h6⟩
  · omega
  · exact ⟨g, cap, cur, h1, h2, h3, h4, h5, h6⟩

theorem append_none_absurd {op size cap n m len : Nat} (hrow : (op = 0 ∧ cap < capTop ∧ cap * size = len ∧ n ≤ cap ∧ cap ≤ 70368744177664) ∨ (op = size ∧ cap = capTop ∧ n * size ≤ len))
    (hnfit : ¬ (op = size ∧ cap = capTop ∧ (n + m) * size ≤ len)) (_h : True ∨ True) (_h2 : True ∨ True) (hnin : ¬ (cap < capTop ∧ n + m ≤ cap)) (h0 : m = 0) : False := by
  subst h0
  rcases hrow with ⟨h1, h2, h3, h4, h5⟩ | ⟨h1, h2, h3⟩
  · exact hnin ⟨h2, h4⟩
  · exact hnfit ⟨h1, h2, h3⟩
theorem aWrite_next {b off : Nat} {cs : List Value} {h h' : AH} {u : Unit} (e : (aWrite b off cs).run h = some (u, h')) : h'.next = h.next := by
  unfold aWrite at e
  split at e
  case isFalse => cases e
  case isTrue =>
    obtain ⟨ob, h1, e1, e2⟩ := AM.bind_some e
    obtain ⟨_, rfl⟩ := AM.look_some e1
    cases ob with
    | map es cl => cases e2
    | iter m s e t => cases e2
    | row l e op mk =>
      dsimp only at e2
      split at e2
      case isFalse => cases e2
      case isTrue => obtain ⟨_, rfl⟩ := AM.put_some e2; rfl
theorem aAppend_sound {P : Program} {N : Nat → Prop} {ρ : Ren} {t ty : TypeId} {s s' x x' : Value} (hs : VR N ρ s s') (hx : VR N ρ x x') : Sim P N ρ (aAppend P t s x) (Builtin.append_ #[t, t] ty #[s', x']) VRel := by
  refine Sim.withSym fun hsym => ?_
  intro h v h' he D w hcov hwf hN hr
  unfold aAppend at he
  split at he
  case h_2 => cases he
  case h_1 e ht =>
    split at he
    case h_2 => cases he
    case h_1 i zs hi hzs =>
      split at he
      case isFalse => cases he
      case isTrue hsz =>
        obtain ⟨z, hz, hzc⟩ := zeroOf_cells hzs hi
        obtain ⟨p, h1, e1, e2⟩ := AM.bind_some he
        obtain ⟨m, cs⟩ := p
        have mono1 := (aSrc i.size x).mono _ _ _ e1
        have cov1 : Cov D h1 := hcov.of (AM.mono _ _ _ _ e2)
        obtain ⟨cs', c1, c2, c3, c4, c5, c6, c7, c8, c9⟩ := aSrc_sound (P := P) e1 cov1 hr hx
        have hfc : (Builtin.firstCells i.size m x').run P w = .ok cs'.toArray w := by
          have := c9 m (Nat.le_refl _)
          rwa [List.take_of_length_le (by omega)] at this
        have wf1 : WF h1 := mono1.wf hwf
        have hN1 : New N h1.next h'.next := by rw [c4]; exact hN
        have hG : Grow N h.next h1.next = N := by rw [c4]; exact Grow.eq_self _ _
        have hone' : cs.all Value.oneCell' = true → ∀ v ∈ cs', v.oneCell' = true := fun hone v hv => by
          rw [← c1.eq] at hv
          obtain ⟨u, hu, rfl⟩ := List.mem_map.1 hv
          rw [oneCell_ren hsym]
          exact (List.all_eq_true.1 hone) u hu
        have hownH : ∀ (N' : Nat → Prop) (ρ' : Ren) (nm : Nat) (w' : World) (g cap : Nat) (cur : Array Value) (l l' : List Value) (len : Nat), LR N' ρ' l l' → l'.length = len * i.size → len ≤ cap → cap ≤ maxLen → cur.size = cap * i.size → cur.toList.take (len * i.size) = l' →
            w'.heap[g]? = some (.cells cur e (0, 0)) → ρ'.φ nm = g → ρ'.κ nm = cap → Holds N' ρ' nm w' (.row l e i.size false) := fun N' ρ' nm w' g cap cur l l' len a1 a2 a3 a4 a5 a6 a7 a8 a9 => by
          have hll : l.length = len * i.size := by rw [← a1.length, a2]
          have hmul : len * i.size ≤ cap * i.size := Nat.mul_le_mul_right _ a3
          refine ⟨cur, (0, 0), by rw [a8]; exact a7, by rw [hll, a6]; exact a1, rfl, by omega, ?_⟩
          rw [if_neg (by omega), a9]
          exact ⟨a5, a4⟩
        dsimp only at e2
        split at e2
        case isFalse => cases e2
        case isTrue hone =>
        split at e2
        case h_3 => cases e2
        case h_1 n c =>
          have hs' : s' = .slice none n c := by rw [← hs.eq]; simp [ren]
          subst hs'
          split at e2
          case isTrue hz0 =>
            obtain ⟨hm0, rfl, rfl⟩ := hz0
            subst hm0
            obtain ⟨rfl, rfl⟩ := AM.pure_some e2
            have hcs : cs' = [] := List.eq_nil_of_length_eq_zero (by omega)
            subst hcs
            refine ⟨ρ, .slice none 0 0, w, ?_, c5, by rw [hG]; exact c6, by rw [hG]; exact hs⟩
            simp [Builtin.append_, run_underlying ht, sizeOf, typeInfo, hi, c7, hfc]
          case isFalse hnz =>
            split at e2
            case isFalse => cases e2
            case isTrue hb =>
              obtain ⟨rfl, rfl, hb1, hb2⟩ := hb
              have hm0 : m ≠ 0 := fun e => hnz ⟨e, rfl, rfl⟩
              obtain ⟨rfl, hl, rfl⟩ := growRow_mono e2
              rcases c8 with ⟨_, h0⟩ | ⟨_, _, h0⟩ | ⟨a, ca, hxe, hcell⟩
              · exact absurd h0 hm0
              · exact absurd h0 hm0
              subst hxe
              obtain ⟨v', w', r1, r2, r3, r4, r5⟩ := run_append_own_at (P := P) w 0 t ty e i z i.size i.bytes ht hi hz rfl rfl (by omega) hsz.2 (.slice none 0 0) 0 [] (World.ownsRow_nil _ _ _ _) a m ca cs' c2 hcell (hone' hone) (by unfold maxLen; omega) (by rw [Nat.zero_add]; omega) (Nat.zero_le _)
              rw [Nat.zero_add] at r2
              obtain ⟨g, cap, cur, rfl, q2, q3, q4, q5, q6⟩ := owns_some r2 (by omega)
              have hg : g = w.heap.size := by
                rcases r5 with h5 | h5
                · simp [Value.ownBlock] at h5
                · simpa [Value.ownBlock] using h5
              subst hg
              have hNn : ¬ N h1.next := hN1 h1.next ⟨Nat.le_refl _, Nat.lt_succ_self _⟩
              have hst := new_step (D := D) (w' := w') (o := .row cs e i.size false) hl wf1 hNn c6 w.heap.size cap (Nat.le_refl _)
                (hownH _ _ h1.next w' w.heap.size cap cur cs cs' m (c1.mono (Ren.at_agree ρ hNn) (fun _ h => .inl h)) c2 q3 q4 q5 (by rw [q6]; simp) q2 (Ren.at_φ _ _ _ _) (Ren.at_κ _ _ _ _))
                r3.os r3.tape r3.output r3.size (fun k hk => r3.block k hk (by simp [Value.ownBlock]))
              refine ⟨_, _, w', r1, c5.trans hst.1 mono1 (AM.mono _ _ _ _ e2), ?_, ?_⟩
              · have := hst.2
                rw [c4] at this ⊢
                exact this
              · rw [c4]
                simp only [Nat.zero_add]
                exact VR_slice (by simp [capTop])
        case h_2 b off n cap =>
          have hs' : s' = .slice (some ⟨ρ.φ b, off, none⟩) n (renCap ρ b cap) := by rw [← hs.eq]; simp [ren, renB, renA]
          split at e2
          case isTrue hin =>
            -- into the room that there is
            obtain ⟨u, h2, e3, e4⟩ := AM.bind_some e2
            obtain ⟨rfl, rfl⟩ := AM.pure_some e4
            obtain ⟨ρ', y, w', r1, r2, r3, _⟩ := aWrite_sound (P := P) (b := b) (off := off + n * i.size) c1 h1 u h' e3 D w hcov wf1 hN1 c6
            have hnx : h'.next = h1.next := aWrite_next e3
            refine ⟨ρ', .slice (some ⟨ρ.φ b, off, none⟩) (n + m) (renCap ρ b cap), w', ?_, c5.trans r2 mono1 (AM.mono _ _ _ _ e3), ?_, ?_⟩
            · rw [hs']
              refine run_append_fits ht hi (c7 w) hfc ?_ ?_
              · unfold renCap; rw [if_neg (by omega)]; exact hin.2
              · rw [Addr.add_mid]; exact r1
            · rw [c4] at r3; exact r3
            · have hag : Agree N ρ ρ' := agree_step r2 hN1
              have : VR N ρ (.slice (some ⟨b, off, none⟩) (n + m) cap) (.slice (some ⟨ρ.φ b, off, none⟩) (n + m) (renCap ρ b cap)) := fun r hr2 => by
                have := hs r hr2
                rw [hs'] at this
                simp only [ren, Value.slice.injEq] at this ⊢
                exact ⟨this.1, trivial, this.2.2⟩
              exact this.mono hag (fun _ h => .inl h)
          case isFalse hnin =>
            split at e2
            case isFalse => cases e2
            case isTrue hb =>
              obtain ⟨rfl, hb0, hb1, hb2⟩ := hb
              obtain ⟨ob, h2, e3, e4⟩ := AM.bind_some e2
              obtain ⟨g1, rfl⟩ := AM.look_some e3
              have cov2 := hcov.of (AM.mono _ _ _ _ e4)
              have hDb : D b := cov2.look
              split at e4
              case h_2 => cases e4
              case h_1 rcs e' op =>
                split at e4
                case isFalse => cases e4
                case isTrue hrow =>
                  obtain ⟨rfl, hrow⟩ := hrow
                  have hls := look_step (n := b) c6
                  rw [Grow.eq_self] at hls
                  have hh := c6.holds b _ hDb g1
                  obtain ⟨ca, fr, q1, q2, q4, q5, q6⟩ := hh
                  rw [if_neg (by simp)] at q4
                  subst q4
                  have hbn : b < h1.next := by
                    rcases Nat.lt_or_ge b h1.next with hh | hh
                    · exact hh
                    · rw [wf1 b hh] at g1; cases g1
                  -- what the slice is
                  have hown : ∃ cc, s' = .slice (some ⟨ρ.φ b, 0, none⟩) n cc ∧ n ≤ cc ∧ cc ≤ maxLen ∧ ca.size = cc * i.size ∧ n * i.size ≤ rcs.length ∧ (op = i.size ∧ cap = capTop → cc = ρ.κ b) := by
                    rcases hrow with ⟨g2, g3, g4, g5, g6⟩ | ⟨g2, g3, g4⟩
                    · rw [if_pos g2] at q6
                      refine ⟨cap, ?_, g5, by unfold maxLen; omega, by rw [q6, ← g4], by rw [← g4]; exact Nat.mul_le_mul_right _ g5, fun h => by omega⟩
                      rw [hs']; unfold renCap; rw [if_neg (by omega)]
                    · rw [if_neg (by omega)] at q6
                      refine ⟨ρ.κ b, ?_, ?_, q6.2, by rw [q6.1, g2], g4, fun _ => rfl⟩
                      · rw [hs']; unfold renCap; rw [if_pos (by omega)]; simp [g3]
                      · have h1 : n * i.size ≤ ρ.κ b * i.size := by rw [← g2, ← q6.1, g2]; omega
                        exact Nat.le_of_mul_le_mul_right h1 hsz.2
                  obtain ⟨cc, o1, o2, o3, o4, o5, o6⟩ := hown
                  split at e4
                  case isTrue hfit =>
                    obtain ⟨u, h2, e5, e6⟩ := AM.bind_some e4
                    obtain ⟨rfl, rfl⟩ := AM.pure_some e6
                    obtain ⟨ρ', y, w', r1, r2, r3, _⟩ := aWrite_sound (P := P) (b := b) (off := n * i.size) c1 _ u h' e5 D w hcov wf1 hN1 hls.2
                    have hstep := (c5.trans hls.1 mono1 (AM.mono _ _ _ _ e3)).trans r2 (mono1.trans (AM.mono _ _ _ _ e3)) (AM.mono _ _ _ _ e5)
                    refine ⟨ρ', .slice (some ⟨ρ.φ b, 0, none⟩) (n + m) (renCap ρ b cap), w', ?_, hstep, ?_, ?_⟩
                    · rw [hs']
                      refine run_append_fits ht hi (c7 w) hfc ?_ ?_
                      · rw [o1] at hs'
                        injection hs' with _ _ hcc
                        rw [← hcc]
                        have h1 : (n + m) * i.size ≤ cc * i.size := by omega
                        exact Nat.le_of_mul_le_mul_right h1 hsz.2
                      · rw [Addr.add_mid, Nat.zero_add]; exact r1
                    · rw [← c4]; exact r3
                    · have hag : Agree N ρ ρ' := agree_step r2 hN1
                      have : VR N ρ (.slice (some ⟨b, 0, none⟩) (n + m) capTop) (.slice (some ⟨ρ.φ b, 0, none⟩) (n + m) (renCap ρ b cap)) := fun r hr2 => by
                        have := hs r hr2
                        rw [hs', hfit.2.1] at this
                        rw [hfit.2.1]
                        simp only [ren, Value.slice.injEq] at this ⊢
                        exact ⟨this.1, trivial, this.2.2⟩
                      rw [← c4]
                      exact this.mono hag (fun _ h => .inl h)
                  case isFalse hnfit =>
                    obtain ⟨u, h2, e5, e6⟩ := AM.bind_some e4
                    obtain ⟨_, rfl⟩ := AM.put_some e5
                    obtain ⟨rfl, hl, rfl⟩ := growRow_mono e6
                    -- m is not 0 here, or it fits
                    have hxs : LR N ρ (rcs.take (n * i.size)) (ca.toList.take (n * i.size)) := by
                      have := q2.takeDrop 0 (n * i.size)
                      rw [List.drop_zero, List.drop_zero, List.take_take, Nat.min_eq_left o5] at this
                      exact this
                    have hxl : (ca.toList.take (n * i.size)).length = n * i.size := by rw [hxs.length, List.length_take]; omega
                    have hown : w.ownsRow 0 e' i.size s' n (ca.toList.take (n * i.size)) := ⟨hxl, .inr ⟨ρ.φ b, cc, ca, o1, Nat.zero_le _, q1, o2, o3, o4, rfl⟩⟩
                    rcases c8 with ⟨hx0, h0⟩ | ⟨_, hx0, h0⟩ | ⟨a, cx, hxe, hcell⟩
                    · exact (append_none_absurd hrow hnfit (.inl trivial) (.inl trivial) hnin h0).elim
                    · exact (append_none_absurd hrow hnfit (.inl trivial) (.inl trivial) hnin h0).elim
                    subst hxe
                    have hm0 : m ≠ 0 := fun h0 => append_none_absurd hrow hnfit (.inl trivial) (.inl trivial) hnin h0
                    obtain ⟨v', w', r1, r2, r3, r4, r5⟩ := run_append_own_at (P := P) w 0 t ty e' i z i.size i.bytes ht hi hz rfl rfl (by omega) hsz.2 s' n _ hown a m cx cs' c2 hcell (hone' hone) (by unfold maxLen; omega) (by omega) (Nat.zero_le _)
                    obtain ⟨g, cap', cur, rfl, p2, p3, p4, p5, p6⟩ := owns_some r2 (by omega)
                    have hg : g = ρ.φ b ∨ w.heap.size ≤ g := by
                      rw [o1] at r5
                      rcases r5 with h5 | h5
                      · left; simpa [Value.ownBlock] using h5
                      · right; simp [Value.ownBlock] at h5; omega
                    have hNn : ¬ N h1.next := hN1 h1.next ⟨Nat.le_refl _, Nat.lt_succ_self _⟩
                    have hst := grown_step (D := D) (h := { h1 with tch := note h1.base b h1.tch }) (w' := w') (o := .row (rcs.take (n * i.size) ++ cs) e' i.size false) hb0 hl wf1 hNn hDb (by show (h1.get b).isSome; rw [g1]; rfl) hbn hls.2 g cap' hg
                      (hownH _ _ h1.next w' g cap' cur _ _ (n + m) ((hxs.append c1).mono (Ren.at_agree ρ hNn) (fun _ h => .inl h)) (by rw [List.length_append, hxl, c2, Nat.add_mul]) p3 p4 p5 p6 p2 (Ren.at_φ _ _ _ _) (Ren.at_κ _ _ _ _))
                      r3.os r3.tape r3.output r3.size (fun k hk hne => r3.block k hk (by rw [o1]; simp [Value.ownBlock]; omega))
                    refine ⟨_, _, w', r1, (c5.trans hls.1 mono1 (AM.mono _ _ _ _ e3)).trans hst.1 (mono1.trans (AM.mono _ _ _ _ e3)) ((AM.mono _ _ _ _ e5).trans (AM.mono _ _ _ _ e6)), ?_, ?_⟩
                    · rw [← c4]; exact hst.2
                    · rw [← c4]; exact VR_slice (by simp [capTop])
end Go.Proofs.Ytfakfnekcgkelaa
/- An evaluator of Go code whose memory has names of its own (12): copies, new slices, literals, parts of slices, texts and bytes. -/
namespace Go.Proofs.Ytfakfnekcgkelaa
set_option linter.unusedVariables false
set_option linter.unusedSimpArgs false

def aCopy (P : Program) (t : TypeId) (d x : Value) : AM Value :=
  match P.underlying t with
  | some (.slice e) => (match P.info? e with
    | some i => (aSrc i.size x).bind fun p => match d with
      | .slice none n _ => if n = 0 then .pure (.int .i64 0) else .fail
      | .slice (some ⟨b, off, none⟩) n _ => (aWrite b off (p.2.take (Nat.min p.1 n * i.size))).bind fun _ => .pure (.int .i64 (Nat.min p.1 n : Nat))
      | _ => .fail
    | none => .fail)
  | _ => .fail
theorem LR.take {N : Nat → Prop} {ρ : Ren} {l l' : List Value} (h : LR N ρ l l') (k : Nat) : LR N ρ (l.take k) (l'.take k) := fun r hr => by rw [List.map_take, h r hr]
theorem aCopy_sound {P : Program} {N : Nat → Prop} {ρ : Ren} {t t2 ty : TypeId} {d d' x x' : Value} (hd : VR N ρ d d') (hx : VR N ρ x x') : Sim P N ρ (aCopy P t d x) (Builtin.copy_ #[t, t2] ty #[d', x']) VRel := by
  intro h v h' he D w hcov hwf hN hr
  unfold aCopy at he
  split at he
  case h_2 => cases he
  case h_1 e ht =>
    split at he
    case h_2 => cases he
    case h_1 i hi =>
      obtain ⟨p, h1, e1, e2⟩ := AM.bind_some he
      obtain ⟨m, cs⟩ := p
      have mono1 := (aSrc i.size x).mono _ _ _ e1
      have cov1 : Cov D h1 := hcov.of (AM.mono _ _ _ _ e2)
      obtain ⟨cs', c1, c2, c3, c4, c5, c6, c7, c8, c9⟩ := aSrc_sound (P := P) e1 cov1 hr hx
      have hG : Grow N h.next h1.next = N := by rw [c4]; exact Grow.eq_self _ _
      dsimp only at e2
      split at e2
      case h_3 => cases e2
      case h_1 n c =>
        split at e2
        case isFalse => cases e2
        case isTrue hn =>
          subst hn
          obtain ⟨rfl, rfl⟩ := AM.pure_some e2
          have hd' : d' = .slice none 0 c := by rw [← hd.eq]; simp [ren]
          subst hd'
          refine ⟨ρ, .int .i64 0, w, ?_, c5, by rw [hG]; exact c6, VR.shut rfl⟩
          have h0 := c9 0 (Nat.zero_le _)
          simp [Builtin.copy_, run_underlying ht, c7, sizeOf, typeInfo, hi, h0, goInt]
      case h_2 b off n c =>
        obtain ⟨u, h2, e3, e4⟩ := AM.bind_some e2
        obtain ⟨rfl, rfl⟩ := AM.pure_some e4
        have hd' : d' = .slice (some ⟨ρ.φ b, off, none⟩) n (renCap ρ b c) := by rw [← hd.eq]; simp [ren, renB, renA]
        obtain ⟨ρ', y, w', r1, r2, r3, _⟩ := aWrite_sound (P := P) (b := b) (off := off) (c1.take (Nat.min m n * i.size)) h1 u h' e3 D w hcov (mono1.wf hwf) (by rw [c4]; exact hN) c6
        refine ⟨ρ', .int .i64 (Nat.min m n : Nat), w', ?_, c5.trans r2 mono1 (AM.mono _ _ _ _ e3), by rw [← c4]; exact r3, VR.shut rfl⟩
        subst hd'
        have h0 := c9 (Nat.min m n) (Nat.min_le_left _ _)
        simp [Builtin.copy_, run_underlying ht, c7, sizeOf, typeInfo, hi, h0, goInt, r1]

def aMakeSlice (P : Program) (t : TypeId) (vl vc : Value) : AM Value :=
  match P.underlying t, vl, vc with
  | some (.slice e), .int _ ln, .int _ cn => (match P.info? e, zeroOf P e with
    | some i, some zs =>
      let l := IntKind.i64.wrap ln
      let c := IntKind.i64.wrap cn
      if 0 ≤ l ∧ l ≤ c ∧ (i.bytes : Int) * c ≤ 1099511627776 ∧ c < 1099511627776 then
        (let row := ((Array.range (c.toNat * i.size)).map (zs.toArray[· % zs.toArray.size]!)).toList
        if row.all shut then (aNewRow e row).bind fun n => .pure (.slice (some ⟨n, 0, none⟩) l.toNat c.toNat) else .fail)
      else .fail
    | _, _ => .fail)
  | _, _, _ => .fail
theorem aMakeSlice_sound {P : Program} {N : Nat → Prop} {ρ : Ren} {t : TypeId} {vl vl' vc vc' : Value} (hl : VR N ρ vl vl') (hc : VR N ρ vc vc') : Sim P N ρ (aMakeSlice P t vl vc) (Instr.makeSlice t vl' vc') VRel := by
  unfold aMakeSlice
  split
  case h_2 => exact Sim.fail
  case h_1 e k1 ln k2 cn ht =>
    split
    case h_2 => exact Sim.fail
    case h_1 i zs hi hzs =>
      dsimp only
      split
      case isFalse => exact Sim.fail
      case isTrue hb =>
        split
        case isFalse => exact Sim.fail
        case isTrue hsh =>
          intro h v h' he D w hcov hwf hN hr
          have hl' : vl' = .int k1 ln := by rw [← hl.eq]; simp [ren]
          have hc' : vc' = .int k2 cn := by rw [← hc.eq]; simp [ren]
          subst hl'; subst hc'
          obtain ⟨z, z1, z2, z3⟩ := zeroOf_run hzs w
          have hrow := (aNewRow_sound (P := P) (N := N) (ρ := ρ) (e := e) (c := (Array.range ((IntKind.i64.wrap cn).toNat * i.size)).map (zs.toArray[· % zs.toArray.size]!)) (LR.shut hsh)).bind
            (f := fun n => AM.pure (Value.slice (some ⟨n, 0, none⟩) (IntKind.i64.wrap ln).toNat (IntKind.i64.wrap cn).toNat)) (g := fun a => Sem.pure (Value.slice (some a) (IntKind.i64.wrap ln).toNat (IntKind.i64.wrap cn).toNat))
            (R2 := VRel) (fun N' ρ' x y _ _ hR => Sim.pure (by rw [hR.1]; exact VR_sl hR.2 (by unfold capTop; omega))) h v h' he D w hcov hwf hN hr
          obtain ⟨ρ', y, w', q1, q2⟩ := hrow
          refine ⟨ρ', y, w', ?_, q2⟩
          have hz0 : z.cells = zs.toArray := by apply Array.ext'; rw [z2]
          have t1 : ¬ ((i.bytes : Int) * IntKind.i64.wrap cn > 2 ^ 48) := by omega
          have t2 : ¬ (IntKind.i64.wrap cn < 0) := by omega
          have t3 : ¬ (IntKind.i64.wrap ln < 0) := by omega
          have t4 : ¬ (IntKind.i64.wrap ln > IntKind.i64.wrap cn) := by omega
          have r0 : ∀ f : Nat → Value, (Array.range 0).map f = #[] := fun f => by simp
          rw [Sem.run_bind'] at q1
          unfold Instr.makeSlice
          simp only [Sem.run_bind, run_underlying ht w, Result.andThen_ok, asInt, asIntOf, Sem.run_pure, typeInfo, run_program, hi]
          rw [if_neg (by simp; omega)]
          simp only [Sem.run_bind, run_askRoom, Result.andThen_ok, sizeOf, typeInfo, run_program, hi, Sem.run_pure]
          by_cases hn : (IntKind.i64.wrap cn).toNat * i.size = 0
          · rw [if_pos hn, hn]
            rw [hn] at q1
            simp only [Sem.run_bind, Sem.run_pure, Result.andThen_ok]
            rw [r0] at q1 ⊢
            exact q1
          · rw [if_neg hn]
            simp only [Sem.run_bind, z1, Sem.run_pure, Result.andThen_ok, hz0]
            exact q1

theorem fold_set_map {g : Value → Value} : ∀ (l : List (Value × Nat)) (cs : Array Value) (off : Nat), (l.map fun p => (g p.1, p.2)).foldl (fun cs (p : Value × Nat) => cs.setIfInBounds (off + p.2) p.1) (cs.map g) = (l.foldl (fun cs (p : Value × Nat) => cs.setIfInBounds (off + p.2) p.1) cs).map g
  | [], cs, off => rfl
  | p :: r, cs, off => by
    simp only [List.map_cons, List.foldl_cons]
    rw [← fold_set_map r]
    congr 1
    apply Array.ext'
    simp
theorem fill_map {place : Nat → Option (Nat × Nat)} {r : Ren} (hr : SymOk r) : ∀ (parts : List (Nat × Value)) (cells : Array Value),
    Instr.fill place (cells.map (ren r)) (parts.map fun p => (p.1, ren r p.2)) = (Instr.fill place cells parts).map fun c => c.map (ren r)
  | [], cells => rfl
  | (i, v) :: rest, cells => by
    simp only [List.map_cons, Instr.fill]
    cases hp : place i with
    | none => rfl
    | some q =>
      obtain ⟨off, size⟩ := q
      dsimp only
      have hsz : (ren r v).cells.size = v.cells.size := by rw [cells_ren hr]; simp
      rw [hsz, Array.size_map]
      split
      · rfl
      · rw [← fill_map hr rest]
        congr 1
        rw [cells_ren hr]
        have := fold_set_map (g := ren r) v.cells.zipIdx.toList cells off
        simp only [← Array.foldl_toList, Array.toList_zipIdx, Array.toList_map, List.zipIdx_map] at this ⊢
        rw [← this]
        congr 1
/-- the places of a struct's fields, an array's elements -/
def placesOf (P : Program) (t : TypeId) : Option (Nat → Option (Nat × Nat)) :=
  match P.underlying t with
  | some (.struct fields) => (pureRun P (fields.mapM fun f => do pure (f.offset, ← sizeOf f.type))).map fun places => (places[·]?)
  | some (.array _ e) => (P.info? e).map fun i => fun k => some (k * i.size, i.size)
  | _ => none
def aBuild (P : Program) (t : TypeId) (parts : List (Nat × Value)) : Option Value :=
  match placesOf P t, zeroOf P t with
  | some pl, some zs => (Instr.fill pl zs.toArray parts).map .agg
  | _, _ => none
theorem aBuild_run {P : Program} {t : TypeId} {parts : List (Nat × Value)} {out : Value} (h : aBuild P t parts = some out) {r : Ren} (hr : SymOk r) (w : World) (ps : Array (Nat × Value)) (hps : ps.toList = parts.map fun p => (p.1, ren r p.2)) :
    (Instr.build t ps).run P w = .ok (ren r out) w := by
  unfold aBuild at h
  split at h
  case h_2 => cases h
  case h_1 pl zs hpl hzs =>
    obtain ⟨z, z1, z2, z3⟩ := zeroOf_run hzs w
    have hz0 : z.cells = zs.toArray := by apply Array.ext'; rw [z2]
    have hzr : zs.toArray.map (ren r) = zs.toArray := by
      apply Array.ext'
      rw [Array.toList_map]
      have := (LR.shut (N := fun _ => False) (ρ := r) z3).eq
      exact this
    cases hf : Instr.fill pl zs.toArray parts with
    | none => rw [hf] at h; cases h
    | some c =>
      rw [hf] at h
      simp only [Option.map_some, Option.some.injEq] at h
      subst h
      have hfm := fill_map (place := pl) hr parts zs.toArray
      rw [hzr, hf, ← hps] at hfm
      unfold placesOf at hpl
      split at hpl
      case h_1 fields hu =>
        cases hp : pureRun P (fields.mapM fun f => do pure (f.offset, ← sizeOf f.type)) with
        | none => rw [hp] at hpl; cases hpl
        | some places =>
          rw [hp] at hpl
          simp only [Option.map_some, Option.some.injEq] at hpl
          subst hpl
          have hrun := pureRun_run _ hp w
          unfold Instr.build
          simp only [Sem.run_bind, z1, Result.andThen_ok, hz0, run_underlying hu w]
          simp only [hrun, Result.andThen_ok, hfm, Option.map_some, Sem.run_pure, ren_agg]
      case h_2 n e hu =>
        cases hi : P.info? e with
        | none => rw [hi] at hpl; cases hpl
        | some i =>
          rw [hi] at hpl
          simp only [Option.map_some, Option.some.injEq] at hpl
          subst hpl
          unfold Instr.build
          simp only [Sem.run_bind, z1, Result.andThen_ok, hz0, run_underlying hu w, sizeOf, typeInfo, run_program, hi, Sem.run_pure, hfm, Option.map_some, ren_agg]
      case h_3 => cases hpl
def aBuildSlice (P : Program) (t : TypeId) (len : Nat) (parts : List (Nat × Value)) : AM Value :=
  match P.underlying t with
  | some (.slice e) => (match P.info? e, zeroOf P e with
    | some i, some zs =>
      if len * i.size ≤ 16777216 ∧ len < capTop then
        (match Instr.fill (fun k => some (k * i.size, i.size)) ((Array.range (len * i.size)).map (zs.toArray[· % zs.toArray.size]!)) parts with
        | some c => (aNewRow e c.toList).bind fun n => .pure (.slice (some ⟨n, 0, none⟩) len len)
        | none => .fail)
      else .fail
    | _, _ => .fail)
  | _ => .fail
theorem mod_shut {zs : List Value} {n : Nat} (hz : zs.all shut = true) (r : Ren) : ((Array.range n).map (zs.toArray[· % zs.toArray.size]!)).map (ren r) = (Array.range n).map (zs.toArray[· % zs.toArray.size]!) := by
  rw [Array.map_map]
  congr 1
  funext k
  show ren r (zs.toArray[k % zs.toArray.size]!) = zs.toArray[k % zs.toArray.size]!
  rw [getElem!_def]
  cases hk : zs.toArray[k % zs.toArray.size]? with
  | none => exact ren_shut r rfl
  | some v =>
    have : v ∈ zs := by
      have := Array.mem_of_getElem? hk
      simpa using this
    exact ren_shut r ((List.all_eq_true.1 hz) v this)
theorem aBuildSlice_sound {P : Program} {N : Nat → Prop} {ρ : Ren} {t : TypeId} {len : Nat} {parts : List (Nat × Value)} {ps : Array (Nat × Value)} (hps : ∀ r, Agree N ρ r → ps.toList = parts.map fun p => (p.1, ren r p.2)) :
    Sim P N ρ (aBuildSlice P t len parts) (Instr.buildSlice t len ps) VRel := by
  refine Sim.withSym fun hsym => ?_
  unfold aBuildSlice
  split
  case h_2 => exact Sim.fail
  case h_1 e ht =>
    split
    case h_2 => exact Sim.fail
    case h_1 i zs hi hzs =>
      split
      case isFalse => exact Sim.fail
      case isTrue hb =>
        split
        case h_2 => exact Sim.fail
        case h_1 c hc =>
          intro h v h' he D w hcov hwf hN hr
          obtain ⟨z, z1, z2, z3⟩ := zeroOf_run hzs w
          have hz0 : z.cells = zs.toArray := by apply Array.ext'; rw [z2]
          have hfm : ∀ r, Agree N ρ r → Instr.fill (fun k => some (k * i.size, i.size)) ((Array.range (len * i.size)).map (zs.toArray[· % zs.toArray.size]!)) ps.toList = some (c.map (ren r)) := fun r hr => by
            have := fill_map (place := fun k => some (k * i.size, i.size)) (r := r) (fun k => by rw [hr.σ]; exact hsym k) parts ((Array.range (len * i.size)).map (zs.toArray[· % zs.toArray.size]!))
            rw [mod_shut z3, hc, ← hps r hr] at this
            exact this
          have hfc := hfm ρ (Agree.refl _ _)
          have hLR : LR N ρ c.toList (c.map (ren ρ)).toList := fun r hr => by
            have := hfm r hr
            rw [hfc] at this
            injection this with this
            rw [this, Array.toList_map]
          have hrow := (aNewRow_sound (P := P) (N := N) (ρ := ρ) (e := e) hLR).bind
            (f := fun n => AM.pure (Value.slice (some ⟨n, 0, none⟩) len len)) (g := fun a => Sem.pure (Value.slice (some a) len len))
            (R2 := VRel) (fun N' ρ' x y _ _ hR => Sim.pure (by rw [hR.1]; exact VR_sl hR.2 hb.2)) h v h' he D w hcov hwf hN hr
          obtain ⟨ρ', y, w', q1, q2⟩ := hrow
          refine ⟨ρ', y, w', ?_, q2⟩
          rw [Sem.run_bind'] at q1
          have r0 : ∀ f : Nat → Value, (Array.range 0).map f = #[] := fun f => by simp
          unfold Instr.buildSlice
          simp only [Sem.run_bind, run_underlying ht w, Result.andThen_ok, sizeOf, typeInfo, run_program, hi, Sem.run_pure]
          rw [if_neg (by omega)]
          by_cases hn : len * i.size = 0
          · rw [if_pos hn, hn]
            rw [hn, r0] at hfc
            simp only [Sem.run_bind, Sem.run_pure, Result.andThen_ok]
            rw [r0, hfc]
            exact q1
          · rw [if_neg hn]
            simp only [Sem.run_bind, z1, Sem.run_pure, Result.andThen_ok, hz0, hfc]
            exact q1
end Go.Proofs.Ytfakfnekcgkelaa
/- An evaluator of Go code whose memory has names of its own (13): texts and bytes, parts of slices, whom a call calls. -/
namespace Go.Proofs.Ytfakfnekcgkelaa
set_option linter.unusedVariables false
set_option linter.unusedSimpArgs false

def numsOf : List Value → Option (List Int)
  | [] => some []
  | .int .u8 n :: r => (numsOf r).map (n :: ·)
  | _ => none
theorem numsOf_eq : ∀ {cs : List Value} {ns : List Int}, numsOf cs = some ns → cs = ns.map (Value.int .u8)
  | [], ns, h => by simp [numsOf] at h; subst h; rfl
  | v :: r, ns, h => by
    unfold numsOf at h
    split at h
    · rename_i e; cases e
    · rename_i n r' e
      injection e with e1 e2; subst e1; subst e2
      cases hr : numsOf r with
      | none => rw [hr] at h; cases h
      | some ms =>
        rw [hr] at h
        simp only [Option.map_some, Option.some.injEq] at h
        subst h
        rw [numsOf_eq hr]; rfl
    · cases h
def strOfInts (ns : List Int) : ByteArray := ns.foldl (fun r n => r.push (UInt8.ofNat n.toNat)) ByteArray.empty
def aConv (P : Program) (src dst : TypeId) (x : Value) : AM Value :=
  match P.underlying src, P.underlying dst, x with
  | some (.slice e), some .string, x => (match P.underlying e with
    | some (.int .u8) => (match x with
      | .slice (some _) _ _ => (aSrc 1 x).bind fun p => (match numsOf p.2 with
        | some ns => .pure (.string (strOfInts ns))
        | none => .fail)
      | _ => .fail)
    | _ => .fail)
  | some _, some (.slice e), .string s => (match P.underlying e with
    | some (.int .u8) => if s.size ≤ 1099511627776 then
        (AM.new (.row (s.data.toList.map fun b => .int .u8 b.toNat) e 1 true)).bind fun n => .pure (.slice (some ⟨n, 0, none⟩) s.size capTop) else .fail
    | _ => .fail)
  | _, _, _ => .fail
theorem aConv_sound {P : Program} {N : Nat → Prop} {ρ : Ren} {src dst : TypeId} {x x' : Value} (hx : VR N ρ x x') : Sim P N ρ (aConv P src dst x) (convert src dst x') VRel := by
  intro h v h' he D w hcov hwf hN hr
  unfold aConv at he
  split at he
  case h_3 => cases he
  case h_1 e hs hd =>
    split at he
    case h_2 => cases he
    case h_1 hu =>
      split at he
      case h_2 => cases he
      case h_1 a n c =>
        obtain ⟨p, h1, e1, e2⟩ := AM.bind_some he
        obtain ⟨m, cs⟩ := p
        cases hn : numsOf cs with
        | none => simp only [hn] at e2; cases e2
        | some ns =>
          simp only [hn] at e2
          obtain ⟨rfl, rfl⟩ := AM.pure_some e2
          obtain ⟨cs', c1, c2, c3, c4, c5, c6, c7, c8, c9⟩ := aSrc_sound (P := P) e1 hcov hr hx
          have hcs := numsOf_eq hn
          have hcs' : cs' = ns.map (Value.int .u8) := by
            rw [← c1.eq, hcs, List.map_map]
            exact List.map_congr_left (fun k _ => by simp [ren])
          have hx' : x' = .slice (some (renB ρ a c)) n (renCap ρ a.block c) := by rw [← hx.eq]; simp [ren]
          have hG : Grow N h.next h'.next = N := by rw [c4]; exact Grow.eq_self _ _
          refine ⟨ρ, .string (strOfInts ns), w, ?_, c5, by rw [hG]; exact c6, VR.shut rfl⟩
          have hm : n = m := by
            have := c7 w
            rw [hx'] at this
            simpa [Builtin.lenOf] using this
          subst hm
          have h9 := c9 n (Nat.le_refl _)
          rw [List.take_of_length_le (by omega), hx'] at h9
          have hl : (loadCells (renB ρ a c) n).run P w = .ok (ns.map (Value.int .u8)).toArray w := by
            rw [← hcs']
            simpa [Builtin.firstCells] using h9
          subst hx'
          simp [convert, run_underlying hs w, run_underlying hd w, run_underlying hu w, run_bytesToString w _ _ _ ns hl, strOfInts]
  case h_2 _ du e s hs hd =>
    split at he
    case h_2 => cases he
    case h_1 hu =>
      split at he
      case isFalse => cases he
      case isTrue hsz =>
        obtain ⟨n, h1, e1, e2⟩ := AM.bind_some he
        obtain ⟨rfl, hl, rfl⟩ := AM.new_some e1
        obtain ⟨rfl, rfl⟩ := AM.pure_some e2
        have hx' : x' = .string s := by rw [← hx.eq]; simp [ren]
        subst hx'
        have hNn : ¬ N h.next := hN h.next ⟨Nat.le_refl _, Nat.lt_succ_self _⟩
        have hcap : grownCap w s.size 0 e ≤ maxLen ∧ s.size ≤ grownCap w s.size 0 e := by
          have h0 : grownCap w s.size 0 e = s.size + (w.tape w.drawn (.appendCap s.size 0 e)) % (2 ^ 63 - s.size) := rfl
          rw [h0]
          unfold maxLen
          have := Nat.mod_lt (w.tape w.drawn (.appendCap s.size 0 e)) (show 0 < 2 ^ 63 - s.size by omega)
          omega
        have hsize : (Lib.bytesCells w e s).size = grownCap w s.size 0 e := by
          simp [Lib.bytesCells]
          have := hcap.2
          omega
        have hst := new_step (D := D) (w' := Lib.bytesWorld w e s) (o := .row (s.data.toList.map fun b => .int .u8 b.toNat) e 1 true) hl hwf hNn hr w.heap.size (grownCap w s.size 0 e) (Nat.le_refl _)
          ⟨Lib.bytesCells w e s, _, by rw [Ren.at_φ]; exact Lib.bytesWorld_at_new w e s, ?_, ?_, ?_, ?_⟩ rfl rfl rfl (by rw [Lib.bytesWorld_size]; omega) (fun i hi => Lib.bytesWorld_at_old w e s i hi)
        · refine ⟨_, _, _, Lib.run_convert_string_bytes w src dst e s hs hd hu, hst.1, hst.2, VR_slice (by simp [capTop])⟩
        · have : (Lib.bytesCells w e s).toList.take (s.data.toList.map fun b => Value.int .u8 b.toNat).length = s.data.toList.map fun b => Value.int .u8 b.toNat := by
            simp [Lib.bytesCells]
          rw [this]
          intro r _
          rw [List.map_map]
          exact List.map_congr_left (fun k _ => by simp [ren])
        · rw [if_pos rfl]; exact .inl (Nat.le_refl _)
        · rw [hsize]
          simp
          have := hcap.2
          exact this
        · rw [if_neg (by omega), Ren.at_κ, hsize]
          exact ⟨by omega, hcap.1⟩

end Go.Proofs.Ytfakfnekcgkelaa
/- An evaluator of Go code whose memory has names of its own (13b): a constant text as a row of bytes. -/
namespace Go.Proofs.Ytfakfnekcgkelaa
set_option linter.unusedVariables false
set_option linter.unusedSimpArgs false

/-- a row of bytes that comes of a constant text is marked -/
def aMarkRow (P : Program) (src dst : TypeId) (x : Value) : AM Value :=
  match P.underlying src, P.underlying dst, x with
  | some (.slice e'), some (.slice e), .slice (some ⟨b, off, none⟩) n c => (match P.underlying e with
    | some (.int .u8) => if src = dst ∧ b < 4611686018427387904 then (AM.look b).bind fun
      | .row cs el 0 false => (AM.put b (some (.row cs el 0 true))).bind fun _ => .pure x
      | _ => .fail
      else .fail
    | _ => .fail)
  | _, _, _ => .fail
theorem aMarkRow_sound {P : Program} {N : Nat → Prop} {ρ : Ren} {src dst : TypeId} {x x' : Value} (hx : VR N ρ x x') : Sim P N ρ (aMarkRow P src dst x) (convert src dst x') VRel := by
  intro h v h' he D w hcov hwf hN hr
  unfold aMarkRow at he
  split at he
  case h_2 => cases he
  case h_1 e' e b off n c hs hd =>
    split at he
    case h_2 => cases he
    case h_1 hu =>
      split at he
      case isFalse => cases he
      case isTrue hsd =>
        obtain ⟨rfl, hlt⟩ := hsd
        have hee : e' = e := by have := hs.symm.trans hd; simpa using this
        subst hee
        obtain ⟨ob, h1, e1, e2⟩ := AM.bind_some he
        have m1 := (AM.look b).mono _ _ _ e1
        obtain ⟨g1, rfl⟩ := AM.look_some e1
        split at e2
        case h_2 => cases e2
        case h_1 cs el =>
          obtain ⟨u, h2, e3, e4⟩ := AM.bind_some e2
          obtain ⟨rfl, rfl⟩ := AM.pure_some e4
          have m2 := (AM.put b _).mono _ _ _ e3
          have hDb : D b := (hcov.of m2).look
          obtain ⟨_, rfl⟩ := AM.put_some e3
          have hbn : b < h.next := by
            rcases Nat.lt_or_ge b h.next with hh | hh
            · exact hh
            · rw [hwf b hh] at g1; cases g1
          have hx' : x' = .slice (some ⟨ρ.φ b, off, none⟩) n (renCap ρ b c) := by rw [← hx.eq]; simp [ren, renB, renA]
          obtain ⟨ca, fr, q1, q2, q3, q4, q5⟩ := hr.holds b _ hDb g1
          have q3' : fr = (0, 0) := by simpa using q3
          subst q3'
          have q5' : ca.size = cs.length := by simpa using q5
          have hls := look_step (n := b) hr
          rw [Grow.eq_self] at hls
          have hlt2 : ρ.φ b < w.heap.size := (Array.getElem?_eq_some_iff.1 q1).1
          have hwh : ∀ i, (w.freeze ⟨ρ.φ b, ca.size, none⟩ 1).heap[i]? = if i = ρ.φ b then some (.cells ca el (ca.size, ca.size + 1)) else w.heap[i]? := fun i => by
            unfold World.freeze
            rw [if_neg (by decide)]
            simp only [Array.getElem?_modify]
            by_cases hi : ρ.φ b = i
            · subst hi; rw [if_pos rfl, if_pos rfl, q1]; simp
            · rw [if_neg hi, if_neg (fun e => hi e.symm)]
          have hrun : (convert src src x').run P w = .ok x' (w.freeze ⟨ρ.φ b, ca.size, none⟩ 1) := by
            subst hx'
            have hsh : ∀ w', Sem.run P (Sem.shape (ρ.φ b) Sem.pure) w' = .ok (w'.shape? (ρ.φ b)) w' := fun _ => rfl
            have hfz : ∀ a w', Sem.run P (Sem.freeze a 1 (Sem.pure ())) w' = .ok () (w'.freeze a 1) := fun _ _ => rfl
            simp [convert, run_underlying hs w, run_underlying hu w, markStringish, shape, freeze, hsh, hfz, World.shape?, q1]
          have hsz : (w.freeze ⟨ρ.φ b, ca.size, none⟩ 1).heap.size = w.heap.size := by
            unfold World.freeze
            rw [if_neg (by decide)]
            simp
          have hp := put_step (h := { h with tch := note h.base b h.tch }) (w' := w.freeze ⟨ρ.φ b, ca.size, none⟩ 1) (o := .row cs el 0 true) hlt hDb (by show (h.get b).isSome = true; rw [g1]; rfl) hbn hls.2
            ⟨ca, (ca.size, ca.size + 1), by rw [hwh, if_pos rfl], q2, by simp, q4, by simpa using q5'⟩ (by unfold World.freeze; rw [if_neg (by decide)]) (by unfold World.freeze; rw [if_neg (by decide)]) (by unfold World.freeze; rw [if_neg (by decide)]) (by rw [hsz]; exact Nat.le_refl _) (fun i _ hi => by rw [hwh, if_neg hi])
          refine ⟨ρ, x', _, hrun, hls.1.trans hp.1 m1 m2, ?_, ?_⟩
          · have := hp.2
            rw [show Grow N h.next _ = N from Grow.eq_self _ _]
            exact this
          · rw [show Grow N h.next _ = N from Grow.eq_self _ _]
            exact hx
end Go.Proofs.Ytfakfnekcgkelaa
/- An evaluator of Go code whose memory has names of its own (14): a part of a slice. -/
namespace Go.Proofs.Ytfakfnekcgkelaa
set_option linter.unusedVariables false
set_option linter.unusedSimpArgs false

/-- a part of a slice -/
def natOf : Value → Option Nat
  | .int _ n => if 0 ≤ n then some n.toNat else none
  | _ => none
def optNat : Option Value → Option (Option Nat)
  | none => some none
  | some v => (natOf v).map some
def aSliceOp (P : Program) (t : TypeId) (x : Value) (lo hi mx : Option Value) : AM Value :=
  match P.underlying t, x, optNat lo, optNat hi, mx with
  | some (.slice e), .slice (some ⟨b, off, none⟩) len cap, some lo, some hi, none => (match P.info? e with
    | some i =>
      let l := lo.getD 0
      let h := hi.getD len
      if l ≤ h then
        (if cap < capTop then (if h ≤ cap then .pure (.slice (some (if cap = l then ⟨b, off, none⟩ else (⟨b, off, none⟩ : Addr).add (l * i.size))) (h - l) (cap - l)) else .fail)
        else (AM.look b).bind fun
          | .row cs _ op _ => if op = i.size ∧ 0 < i.size ∧ (cap - capTop + h) * i.size ≤ cs.length ∧ (l = 0 ∨ (cap - capTop + l) * i.size < cs.length) then
              .pure (.slice (some ((⟨b, off, none⟩ : Addr).add (l * i.size))) (h - l) (cap + l))
            else if op = i.size ∧ 0 < i.size ∧ (cap - capTop + h) * i.size ≤ cs.length ∧ h = l ∧ 0 < l then .pure (.slice (some ⟨b, off + l * i.size, some off⟩) 0 (cap + l)) else .fail
          | _ => .fail)
      else .fail
    | none => .fail)
  | _, _, _, _, _ => .fail
theorem natOf_run {P : Program} {ρ : Ren} {v : Value} {n : Nat} (h : natOf v = some n) (w : World) : ∃ k, (asIntOf (ren ρ v)).run P w = .ok (k, (n : Int)) w := by
  unfold natOf at h
  split at h
  case h_2 => cases h
  case h_1 k m =>
    split at h
    case isFalse => cases h
    case isTrue hm =>
      injection h with h; subst h
      exact ⟨k, by simp [ren, asIntOf]; omega⟩
theorem sliceBound_run {P : Program} {ρ : Ren} {v : Value} {n y : Nat} {code : BoundsCode} (h : natOf v = some n) (hy : n ≤ y) (w : World) : (Instr.sliceBound (ren ρ v) y code).run P w = .ok n w := by
  obtain ⟨k, hk⟩ := natOf_run (P := P) (ρ := ρ) h w
  unfold Instr.sliceBound
  simp only [Sem.run_bind, hk, Result.andThen_ok]
  rw [if_pos ⟨by omega, by omega⟩]
  simp
theorem sliceBounds_run {P : Program} {ρ : Ren} {lo hi : Option Value} {ln hn : Option Nat} {len cap : Nat} (h1 : optNat lo = some ln) (h2 : optNat hi = some hn) (hl : ln.getD 0 ≤ hn.getD len) (hc : hn.isSome → hn.getD len ≤ cap) (w : World) :
    (Instr.sliceBounds true len cap (lo.map (ren ρ)) (hi.map (ren ρ)) none).run P w = .ok (ln.getD 0, hn.getD len, cap) w := by
  have q1 : (lo = none ∧ ln = none) ∨ ∃ v n, lo = some v ∧ ln = some n ∧ natOf v = some n := by
    cases lo with
    | none => simp [optNat] at h1; exact .inl ⟨rfl, h1.symm⟩
    | some v =>
      cases hn' : natOf v with
      | none => simp [optNat, hn'] at h1
      | some n => simp [optNat, hn'] at h1; exact .inr ⟨v, n, rfl, h1.symm, hn'⟩
  have q2 : (hi = none ∧ hn = none) ∨ ∃ v n, hi = some v ∧ hn = some n ∧ natOf v = some n := by
    cases hi with
    | none => simp [optNat] at h2; exact .inl ⟨rfl, h2.symm⟩
    | some v =>
      cases hn' : natOf v with
      | none => simp [optNat, hn'] at h2
      | some n => simp [optNat, hn'] at h2; exact .inr ⟨v, n, rfl, h2.symm, hn'⟩
  rcases q2 with ⟨rfl, rfl⟩ | ⟨v2, n2, rfl, rfl, k2⟩
  · rcases q1 with ⟨rfl, rfl⟩ | ⟨v1, n1, rfl, rfl, k1⟩
    · simp [Instr.sliceBounds]
    · have := sliceBound_run (P := P) (ρ := ρ) (code := .sliceB) k1 (show n1 ≤ len from hl) w
      simp [Instr.sliceBounds, this]
  · have h3 := sliceBound_run (P := P) (ρ := ρ) (code := .sliceAcap) k2 (show n2 ≤ cap from hc rfl) w
    rcases q1 with ⟨rfl, rfl⟩ | ⟨v1, n1, rfl, rfl, k1⟩
    · simp [Instr.sliceBounds, h3]
    · have := sliceBound_run (P := P) (ρ := ρ) (code := .sliceB) k1 (show n1 ≤ n2 from hl) w
      simp [Instr.sliceBounds, this, h3]
theorem aSliceOp_sound {P : Program} {N : Nat → Prop} {ρ : Ren} {t : TypeId} {x x' : Value} {lo hi mx lo' hi' mx' : Option Value} (hx : VR N ρ x x') (hlo : lo' = lo.map (ren ρ)) (hhi : hi' = hi.map (ren ρ)) (hmx : mx = none → mx' = none) :
    Sim P N ρ (aSliceOp P t x lo hi mx) (Instr.sliceAt t x' lo' hi' mx') VRel := by
  intro h v h' he D w hcov hwf hN hr
  have hrc : ∀ (r : Ren) (b c : Nat), renCap r b c = if capTop ≤ c then r.κ b - (c - capTop) else c := fun _ _ _ => rfl
  have hrb : ∀ (r : Ren) (b o z c : Nat), renB r ⟨b, o, some z⟩ c = if capTop ≤ c ∧ r.κ b ≤ c - capTop then ⟨r.φ b, z, none⟩ else ⟨r.φ b, o, none⟩ := fun _ _ _ _ _ => rfl
  unfold aSliceOp at he
  generalize capTop = T at he hrc hrb
  split at he
  case h_2 => cases he
  case h_1 e b off len cap ln hn ht h1 h2 =>
    split at he
    case h_2 => cases he
    case h_1 i hinf =>
      dsimp only at he
      split at he
      case isFalse => cases he
      case isTrue hlh =>
        have hmx' := hmx rfl
        have hx' : x' = .slice (some ⟨ρ.φ b, off, none⟩) len (renCap ρ b cap) := by rw [← hx.eq]; simp [ren, renB, renA]
        have hxr : ∀ r, Agree N ρ r → r.φ b = ρ.φ b ∧ renCap r b cap = renCap ρ b cap := fun r hr2 => by
          have := hx r hr2
          rw [hx'] at this
          simp only [ren, renB, renA, Value.slice.injEq, Option.some.injEq, Addr.mk.injEq] at this
          exact ⟨this.1.1, this.2.2⟩
        have hrun : ∀ cc : Nat, cc = renCap ρ b cap → (hn.isSome → hn.getD len ≤ cc) → (Instr.sliceAt t x' lo' hi' mx').run P w =
            .ok (.slice (some (if cc = ln.getD 0 then ⟨ρ.φ b, off, none⟩ else (⟨ρ.φ b, off, none⟩ : Addr).add (ln.getD 0 * i.size))) (hn.getD len - ln.getD 0) (cc - ln.getD 0)) w := fun cc hcc hle => by
          have hb := sliceBounds_run (P := P) (ρ := ρ) (lo := lo) (hi := hi) (cap := cc) h1 h2 hlh hle w
          subst hlo; subst hhi; subst hmx'; subst hx'
          unfold Instr.sliceAt
          simp only [Sem.run_bind, run_underlying ht w, Result.andThen_ok]
          unfold Instr.slice
          simp only [Sem.run_bind, run_underlying ht w, Result.andThen_ok, ← hcc, hb, sizeOf, typeInfo, run_program, hinf, Sem.run_pure]
          split <;> simp
        split at he
        case isTrue hct =>
          split at he
          case isFalse => cases he
          case isTrue hhc =>
            obtain ⟨rfl, rfl⟩ := AM.pure_some he
            have hcc : cap = renCap ρ b cap := by rw [hrc]; rw [if_neg (by omega)]
            refine ⟨ρ, _, w, hrun cap hcc (fun _ => hhc), Step.refl _ _ _ _, by rw [Grow.eq_self]; exact hr, ?_⟩
            rw [Grow.eq_self]
            intro r hr2
            have := hxr r hr2
            have h3 : renCap r b (cap - ln.getD 0) = cap - ln.getD 0 := by rw [hrc]; rw [if_neg (by omega)]
            have hadd : ∀ n : Nat, ((⟨b, off, none⟩ : Addr).add n) = ⟨b, off + n, none⟩ := fun n => Addr.add_mid b off n
            have hadd' : ∀ n : Nat, ((⟨ρ.φ b, off, none⟩ : Addr).add n) = ⟨ρ.φ b, off + n, none⟩ := fun n => Addr.add_mid _ off n
            rw [hadd, hadd']
            split <;> simp [ren, renB, renA, this.1, h3]
        case isFalse hct =>
          obtain ⟨ob, h1', e1, e2⟩ := AM.bind_some he
          obtain ⟨g1, rfl⟩ := AM.look_some e1
          cases ob with
          | map es cl => cases e2
          | iter m s e t => cases e2
          | row cs el op mk =>
            dsimp only at e2
            split at e2
            case isFalse =>
             split at e2
             case isFalse => cases e2
             case isTrue hb =>
              obtain ⟨hb1, hb2, hb3, hb4, hb5⟩ := hb
              obtain ⟨rfl, rfl⟩ := AM.pure_some e2
              obtain ⟨ca, fr, q1, q2, q4, q5, q6⟩ := hr.holds b _ hcov.look g1
              rw [if_neg (by omega)] at q6
              have hcc : ρ.κ b - (cap - T) = renCap ρ b cap := by rw [hrc]; rw [if_pos (by omega)]
              have hk : (cap - T + hn.getD len) ≤ ρ.κ b := by
                have h3 : (cap - T + hn.getD len) * op ≤ ρ.κ b * op := by rw [← q6.1, hb1]; omega
                exact Nat.le_of_mul_le_mul_right h3 (by omega)
              have hls := look_step (n := b) hr
              rw [Grow.eq_self] at hls
              have hadd' : ∀ n : Nat, ((⟨ρ.φ b, off, none⟩ : Addr).add n) = ⟨ρ.φ b, off + n, none⟩ := fun n => Addr.add_mid _ off n
              have hres := hrun _ hcc (fun _ => by omega)
              rw [hadd'] at hres
              have hvr : VRel N ρ (.slice (some ⟨b, off + ln.getD 0 * i.size, some off⟩) 0 (cap + ln.getD 0)) (.slice (some (if ρ.κ b - (cap - T) = ln.getD 0 then (⟨ρ.φ b, off, none⟩ : Addr) else ⟨ρ.φ b, off + ln.getD 0 * i.size, none⟩)) (hn.getD len - ln.getD 0) (ρ.κ b - (cap - T) - ln.getD 0)) := by
                intro r hr2
                have h0 := hxr r hr2
                have h5 := h0.2
                rw [← hcc, hrc, if_pos (by omega)] at h5
                have hcap : renCap r b (cap + ln.getD 0) = ρ.κ b - (cap - T) - ln.getD 0 := by
                  rw [hrc, if_pos (by omega)]
                  omega
                simp only [ren, hrb, h0.1, hcap, hb4, Nat.sub_self]
                by_cases hq : ρ.κ b - (cap - T) = ln.getD 0
                · rw [if_pos hq, if_pos ⟨by omega, by omega⟩]
                · rw [if_neg hq, if_neg (fun hh => hq (by omega))]
              have hG : Grow N h.next h.next = N := Grow.eq_self _ _
              refine ⟨ρ, _, w, hres, hls.1, ?_, ?_⟩
              · rw [show ({ h with tch := note h.base b h.tch } : AH).next = h.next from rfl, hG]; exact hls.2
              · rw [show ({ h with tch := note h.base b h.tch } : AH).next = h.next from rfl, hG]; exact hvr
            case isTrue hb =>
              obtain ⟨hb1, hb2, hb3, hb4⟩ := hb
              obtain ⟨rfl, rfl⟩ := AM.pure_some e2
              obtain ⟨ca, fr, q1, q2, q4, q5, q6⟩ := hr.holds b _ hcov.look g1
              rw [if_neg (by omega)] at q6
              have hcc : ρ.κ b - (cap - T) = renCap ρ b cap := by rw [hrc]; rw [if_pos (by omega)]
              have hk : (cap - T + hn.getD len) ≤ ρ.κ b := by
                have h3 : (cap - T + hn.getD len) * op ≤ ρ.κ b * op := by rw [← q6.1, hb1]; omega
                exact Nat.le_of_mul_le_mul_right h3 (by omega)
              have hls := look_step (n := b) hr
              rw [Grow.eq_self] at hls
              have hadd : ∀ n : Nat, ((⟨b, off, none⟩ : Addr).add n) = ⟨b, off + n, none⟩ := fun n => Addr.add_mid b off n
              have hadd' : ∀ n : Nat, ((⟨ρ.φ b, off, none⟩ : Addr).add n) = ⟨ρ.φ b, off + n, none⟩ := fun n => Addr.add_mid _ off n
              have hif : (if ρ.κ b - (cap - T) = ln.getD 0 then (⟨ρ.φ b, off, none⟩ : Addr) else (⟨ρ.φ b, off, none⟩ : Addr).add (ln.getD 0 * i.size)) = ⟨ρ.φ b, off + ln.getD 0 * i.size, none⟩ := by
                rcases hb4 with h4 | h4
                · rw [h4, Nat.zero_mul, Nat.add_zero]
                  split
                  · rfl
                  · rw [hadd']; rfl
                · have hlt : (cap - T + ln.getD 0) < ρ.κ b := by
                    have h3 : (cap - T + ln.getD 0) * op < ρ.κ b * op := by rw [← q6.1, hb1]; omega
                    exact Nat.lt_of_mul_lt_mul_right h3
                  rw [if_neg (by omega), hadd']
              have hres := hrun _ hcc (fun _ => by omega)
              rw [hif] at hres
              have hvr : VRel N ρ (.slice (some ((⟨b, off, none⟩ : Addr).add (ln.getD 0 * i.size))) (hn.getD len - ln.getD 0) (cap + ln.getD 0)) (.slice (some ⟨ρ.φ b, off + ln.getD 0 * i.size, none⟩) (hn.getD len - ln.getD 0) (ρ.κ b - (cap - T) - ln.getD 0)) := by
                intro r hr2
                have h0 := hxr r hr2
                have hcap : renCap r b (cap + ln.getD 0) = ρ.κ b - (cap - T) - ln.getD 0 := by
                  have h5 := h0.2
                  rw [← hcc, hrc, if_pos (by omega)] at h5
                  rw [hrc, if_pos (by omega)]
                  omega
                rw [hadd]
                simp only [ren, renB, renA, h0.1, hcap]
              have hG : Grow N h.next h.next = N := Grow.eq_self _ _
              refine ⟨ρ, _, w, hres, hls.1, ?_, ?_⟩
              · rw [show ({ h with tch := note h.base b h.tch } : AH).next = h.next from rfl, hG]; exact hls.2
              · rw [show ({ h with tch := note h.base b h.tch } : AH).next = h.next from rfl, hG]; exact hvr
end Go.Proofs.Ytfakfnekcgkelaa
/- An evaluator of Go code whose memory has names of its own (14b): a part of a slice with three indexes; clear of a slice. -/
namespace Go.Proofs.Ytfakfnekcgkelaa
set_option linter.unusedVariables false
set_option linter.unusedSimpArgs false

def aSlice3 (P : Program) (t : TypeId) (x : Value) (lo : Option Value) (hi mx : Value) : AM Value :=
  match P.underlying t, x, optNat lo, natOf hi, natOf mx with
  | some (.slice e), .slice (some ⟨b, off, none⟩) len cap, some lo, some h, some m => (match P.info? e with
    | some i =>
      let l := lo.getD 0
      if l ≤ h ∧ h ≤ m ∧ m < capTop then
        (if cap < capTop then (if m ≤ cap then .pure (.slice (some (if m = l then ⟨b, off, none⟩ else (⟨b, off, none⟩ : Addr).add (l * i.size))) (h - l) (m - l)) else .fail)
        else (AM.look b).bind fun
          | .row cs _ op _ => if op = i.size ∧ 0 < i.size ∧ (cap - capTop + m) * i.size ≤ cs.length then
              .pure (.slice (some (if m = l then ⟨b, off, none⟩ else (⟨b, off, none⟩ : Addr).add (l * i.size))) (h - l) (m - l)) else .fail
          | _ => .fail)
      else .fail
    | none => .fail)
  | _, _, _, _, _ => .fail
theorem sliceBounds3_run {P : Program} {ρ : Ren} {lo : Option Value} {hi mx : Value} {ln : Option Nat} {h m len cap : Nat} (h1 : optNat lo = some ln) (h2 : natOf hi = some h) (h3 : natOf mx = some m) (hl : ln.getD 0 ≤ h) (hh : h ≤ m) (hm : m ≤ cap) (w : World) :
    (Instr.sliceBounds true len cap (lo.map (ren ρ)) (some (ren ρ hi)) (some (ren ρ mx))).run P w = .ok (ln.getD 0, h, m) w := by
  have q1 : (lo = none ∧ ln = none) ∨ ∃ v n, lo = some v ∧ ln = some n ∧ natOf v = some n := by
    cases lo with
    | none => simp [optNat] at h1; exact .inl ⟨rfl, h1.symm⟩
    | some v =>
      cases hn' : natOf v with
      | none => simp [optNat, hn'] at h1
      | some n => simp [optNat, hn'] at h1; exact .inr ⟨v, n, rfl, h1.symm, hn'⟩
  have a1 := sliceBound_run (P := P) (ρ := ρ) (code := .slice3Acap) h3 hm w
  have a2 := sliceBound_run (P := P) (ρ := ρ) (code := .slice3B) h2 hh w
  rcases q1 with ⟨rfl, rfl⟩ | ⟨v1, n1, rfl, rfl, k1⟩
  · simp [Instr.sliceBounds, a1, a2]
  · have a3 := sliceBound_run (P := P) (ρ := ρ) (code := .slice3C) k1 (show n1 ≤ h from hl) w
    simp [Instr.sliceBounds, a1, a2, a3]
theorem aSlice3_sound {P : Program} {N : Nat → Prop} {ρ : Ren} {t : TypeId} {x x' : Value} {lo lo' hi' mx' : Option Value} {hi mx : Value} (hx : VR N ρ x x') (hlo : lo' = lo.map (ren ρ)) (hhi : hi' = some (ren ρ hi)) (hmx : mx' = some (ren ρ mx)) :
    Sim P N ρ (aSlice3 P t x lo hi mx) (Instr.sliceAt t x' lo' hi' mx') VRel := by
  intro h v h' he D w hcov hwf hN hr
  have hrc : ∀ (r : Ren) (b c : Nat), renCap r b c = if capTop ≤ c then r.κ b - (c - capTop) else c := fun _ _ _ => rfl
  unfold aSlice3 at he
  generalize capTop = T at he hrc
  split at he
  case h_2 => cases he
  case h_1 e b off len cap ln hn m ht h1 h2 h3 =>
    split at he
    case h_2 => cases he
    case h_1 i hinf =>
      dsimp only at he
      split at he
      case isFalse => cases he
      case isTrue hlh =>
        have hx' : x' = .slice (some ⟨ρ.φ b, off, none⟩) len (renCap ρ b cap) := by rw [← hx.eq]; simp [ren, renB, renA]
        have hxr : ∀ r, Agree N ρ r → r.φ b = ρ.φ b := fun r hr2 => by
          have := hx r hr2
          rw [hx'] at this
          simp only [ren, renB, renA, Value.slice.injEq, Option.some.injEq, Addr.mk.injEq] at this
          exact this.1.1
        have hadd : ∀ n : Nat, ((⟨b, off, none⟩ : Addr).add n) = ⟨b, off + n, none⟩ := fun n => Addr.add_mid b off n
        have hadd' : ∀ n : Nat, ((⟨ρ.φ b, off, none⟩ : Addr).add n) = ⟨ρ.φ b, off + n, none⟩ := fun n => Addr.add_mid _ off n
        have hrun : m ≤ renCap ρ b cap → (Instr.sliceAt t x' lo' hi' mx').run P w =
            .ok (.slice (some (if m = ln.getD 0 then ⟨ρ.φ b, off, none⟩ else (⟨ρ.φ b, off, none⟩ : Addr).add (ln.getD 0 * i.size))) (hn - ln.getD 0) (m - ln.getD 0)) w := fun hle => by
          have hb := sliceBounds3_run (P := P) (ρ := ρ) (len := len) h1 h2 h3 hlh.1 hlh.2.1 hle w
          subst hlo; subst hhi; subst hmx; subst hx'
          unfold Instr.sliceAt
          simp only [Sem.run_bind, run_underlying ht w, Result.andThen_ok]
          unfold Instr.slice
          simp only [Sem.run_bind, run_underlying ht w, Result.andThen_ok, hb, sizeOf, typeInfo, run_program, hinf, Sem.run_pure]
          split <;> simp
        have hvr : VRel N ρ (.slice (some (if m = ln.getD 0 then ⟨b, off, none⟩ else (⟨b, off, none⟩ : Addr).add (ln.getD 0 * i.size))) (hn - ln.getD 0) (m - ln.getD 0))
            (.slice (some (if m = ln.getD 0 then ⟨ρ.φ b, off, none⟩ else (⟨ρ.φ b, off, none⟩ : Addr).add (ln.getD 0 * i.size))) (hn - ln.getD 0) (m - ln.getD 0)) := by
          intro r hr2
          have h5 : renCap r b (m - ln.getD 0) = m - ln.getD 0 := by rw [hrc]; rw [if_neg (by omega)]
          rw [hadd, hadd']
          split <;> simp only [ren, renB, renA, hxr r hr2, h5]
        split at he
        case isTrue hct =>
          split at he
          case isFalse => cases he
          case isTrue hhc =>
            obtain ⟨rfl, rfl⟩ := AM.pure_some he
            have hcc : cap = renCap ρ b cap := by rw [hrc]; rw [if_neg (by omega)]
            refine ⟨ρ, _, w, hrun (by omega), Step.refl _ _ _ _, by rw [Grow.eq_self]; exact hr, ?_⟩
            rw [Grow.eq_self]
            exact hvr
        case isFalse hct =>
          obtain ⟨ob, h1', e1, e2⟩ := AM.bind_some he
          obtain ⟨g1, rfl⟩ := AM.look_some e1
          cases ob with
          | map es cl => cases e2
          | iter m s e t => cases e2
          | row cs el op mk =>
            dsimp only at e2
            split at e2
            case isFalse => cases e2
            case isTrue hb =>
              obtain ⟨hb1, hb2, hb3⟩ := hb
              obtain ⟨rfl, rfl⟩ := AM.pure_some e2
              obtain ⟨ca, fr, q1, q2, q4, q5, q6⟩ := hr.holds b _ hcov.look g1
              rw [if_neg (by omega)] at q6
              have hcc : ρ.κ b - (cap - T) = renCap ρ b cap := by rw [hrc]; rw [if_pos (by omega)]
              have hk : (cap - T + m) ≤ ρ.κ b := by
                have h3 : (cap - T + m) * op ≤ ρ.κ b * op := by rw [← q6.1, hb1]; omega
                exact Nat.le_of_mul_le_mul_right h3 (by omega)
              have hls := look_step (n := b) hr
              rw [Grow.eq_self] at hls
              have hG : Grow N h.next h.next = N := Grow.eq_self _ _
              refine ⟨ρ, _, w, hrun (by omega), hls.1, ?_, ?_⟩
              · rw [show ({ h with tch := note h.base b h.tch } : AH).next = h.next from rfl, hG]; exact hls.2
              · rw [show ({ h with tch := note h.base b h.tch } : AH).next = h.next from rfl, hG]; exact hvr

/-- clear of a slice -/
def aClear (P : Program) (t : TypeId) (x : Value) : AM Value :=
  match P.underlying t, x with
  | some (.slice e), .slice none _ _ => .pure (.tuple #[])
  | some (.slice e), .slice (some ⟨b, off, sp⟩) n _ => if n = 0 then .pure (.tuple #[]) else (match sp, zeroOf P e with
    | none, some zs => (aWrite b off (Builtin.zeroCells zs.toArray n).toList).bind fun _ => .pure (.tuple #[])
    | _, _ => .fail)
  | _, _ => .fail
theorem zeroCells_shut {zs : List Value} (h : zs.all shut = true) (n : Nat) : (Builtin.zeroCells zs.toArray n).toList.all shut = true := by
  rw [List.all_eq_true]
  intro v hv
  unfold Builtin.zeroCells at hv
  simp only [Array.toList_map, List.mem_map, Array.toList_range, List.mem_range, List.size_toArray] at hv
  obtain ⟨i, hi, rfl⟩ := hv
  have h0 : 0 < zs.length := by
    rcases Nat.eq_zero_or_pos zs.length with h | h
    · rw [h] at hi; omega
    · exact h
  have hm : i % zs.length < zs.length := Nat.mod_lt _ h0
  rw [getElem!_pos zs.toArray (i % zs.length) (by simpa using hm)]
  simp only [List.getElem_toArray]
  exact (List.all_eq_true.1 h) _ (List.getElem_mem _)
theorem Sim.congr' {P : Program} {α β : Type} {N : Nat → Prop} {ρ : Ren} {m : AM α} {s s' : Sem β} {R : (Nat → Prop) → Ren → α → β → Prop} (hs : Sim P N ρ m s R) (h : ∀ w, s'.run P w = s.run P w) : Sim P N ρ m s' R := by
  intro a x h' e D w h1 h2 h3 h4
  obtain ⟨r, y, w', q1, q2⟩ := hs a x h' e D w h1 h2 h3 h4
  exact ⟨r, y, w', by rw [h]; exact q1, q2⟩
theorem aClear_sound {P : Program} {N : Nat → Prop} {ρ : Ren} {t : TypeId} {x x' : Value} {ty : TypeId} (hx : VR N ρ x x') : Sim P N ρ (aClear P t x) (Builtin.clear_ #[t] ty #[x']) VRel := by
  unfold aClear
  split
  case h_1 e n c hu =>
    have hx' : x' = .slice none n c := by rw [← hx.eq]; simp [ren]
    subst hx'
    refine Sim.congr' (s := Sem.pure (.tuple #[])) (Sim.pure (VR.shut rfl)) (fun w => ?_)
    simp [Builtin.clear_, run_underlying hu w]
  case h_2 e b off sp n c hu =>
    have hx' : x' = .slice (some (renB ρ ⟨b, off, sp⟩ c)) n (renCap ρ b c) := by rw [← hx.eq]; simp [ren]
    subst hx'
    split
    case isTrue h0 =>
      subst h0
      refine Sim.congr' (s := Sem.pure (.tuple #[])) (Sim.pure (VR.shut rfl)) (fun w => ?_)
      simp [Builtin.clear_, run_underlying hu w]
    case isFalse h0 =>
      split
      case h_2 => exact Sim.fail
      case h_1 zs hz =>
        have hsh : LR N ρ (Builtin.zeroCells zs.toArray n).toList (Builtin.zeroCells zs.toArray n).toList := LR.shut (zeroCells_shut (by
          obtain ⟨z, _, _, h3⟩ := zeroOf_run hz default
          exact h3) n)
        refine Sim.congr' (s := Sem.bind (storeCells ⟨ρ.φ b, off, none⟩ (Builtin.zeroCells zs.toArray n).toList) fun _ => Sem.pure (.tuple #[])) ((aWrite_sound hsh).bind (fun _ _ _ _ _ _ _ => Sim.pure (VR.shut rfl))) (fun w => ?_)
        obtain ⟨z, z1, z2, z3⟩ := zeroOf_run hz w
        have hz2 : z.cells = zs.toArray := by apply Array.ext'; rw [z2]
        cases n with
        | zero => exact absurd rfl h0
        | succ n => simp [Builtin.clear_, run_underlying hu w, z1, hz2, renB, renA, Sem.run_bind']
  case h_3 => exact Sim.fail
theorem sliceBounds_runF {P : Program} {ρ : Ren} {lo hi : Option Value} {ln hn : Option Nat} {len cap : Nat} (h1 : optNat lo = some ln) (h2 : optNat hi = some hn) (hl : ln.getD 0 ≤ hn.getD len) (hc : hn.isSome → hn.getD len ≤ cap) (w : World) :
    (Instr.sliceBounds false len cap (lo.map (ren ρ)) (hi.map (ren ρ)) none).run P w = .ok (ln.getD 0, hn.getD len, cap) w := by
  have q1 : (lo = none ∧ ln = none) ∨ ∃ v n, lo = some v ∧ ln = some n ∧ natOf v = some n := by
    cases lo with
    | none => simp [optNat] at h1; exact .inl ⟨rfl, h1.symm⟩
    | some v =>
      cases hn' : natOf v with
      | none => simp [optNat, hn'] at h1
      | some n => simp [optNat, hn'] at h1; exact .inr ⟨v, n, rfl, h1.symm, hn'⟩
  have q2 : (hi = none ∧ hn = none) ∨ ∃ v n, hi = some v ∧ hn = some n ∧ natOf v = some n := by
    cases hi with
    | none => simp [optNat] at h2; exact .inl ⟨rfl, h2.symm⟩
    | some v =>
      cases hn' : natOf v with
      | none => simp [optNat, hn'] at h2
      | some n => simp [optNat, hn'] at h2; exact .inr ⟨v, n, rfl, h2.symm, hn'⟩
  rcases q2 with ⟨rfl, rfl⟩ | ⟨v2, n2, rfl, rfl, k2⟩
  · rcases q1 with ⟨rfl, rfl⟩ | ⟨v1, n1, rfl, rfl, k1⟩
    · simp [Instr.sliceBounds]
    · have := sliceBound_run (P := P) (ρ := ρ) (code := .sliceB) k1 (show n1 ≤ len from hl) w
      simp [Instr.sliceBounds, this]
  · have h3 := sliceBound_run (P := P) (ρ := ρ) (code := .sliceAlen) k2 (show n2 ≤ cap from hc rfl) w
    rcases q1 with ⟨rfl, rfl⟩ | ⟨v1, n1, rfl, rfl, k1⟩
    · simp [Instr.sliceBounds, h3]
    · have := sliceBound_run (P := P) (ρ := ρ) (code := .sliceB) k1 (show n1 ≤ n2 from hl) w
      simp [Instr.sliceBounds, this, h3]
/-- nothing of nothing, where an open row ends; a whole array -/
def spotted : Value → Bool
  | .slice (some ⟨_, _, some _⟩) _ _ => true
  | .pointer (some ⟨_, _, none⟩) => true
  | _ => false
def aSlice0 (P : Program) (t : TypeId) (x : Value) (lo hi : Option Value) : AM Value :=
  match P.underlying t, x, optNat lo, optNat hi with
  | some (.slice e), .slice (some ⟨b, off, some z⟩) n c, some lo, some hi => (match P.info? e with
    | some _ => if n = 0 ∧ lo.getD 0 = 0 ∧ hi.getD n = 0 then .pure x else .fail
    | none => .fail)
  | some (.array n e), .pointer (some ⟨b, off, none⟩), some lo, some hi => (match P.info? e with
    | some _ => if lo.getD 0 = 0 ∧ hi.getD n = n ∧ n < capTop then .pure (.slice (some ⟨b, off, none⟩) n n) else .fail
    | none => .fail)
  | _, _, _, _ => .fail
theorem aSlice0_sound {P : Program} {N : Nat → Prop} {ρ : Ren} {t : TypeId} {x x' : Value} {lo lo' hi hi' : Option Value} (hx : VR N ρ x x') (hlo : lo' = lo.map (ren ρ)) (hhi : hi' = hi.map (ren ρ)) :
    Sim P N ρ (aSlice0 P t x lo hi) (Instr.sliceAt t x' lo' hi' none) VRel := by
  intro h v h' he D w hcov hwf hN hr
  unfold aSlice0 at he
  split at he
  case h_3 => cases he
  case h_2 n e b off ln hn ht h1 h2 =>
    split at he
    case h_2 => cases he
    case h_1 i hinf =>
      have hcap : ∀ (r : Ren), n < capTop → ren r (.slice (some ⟨b, off, none⟩) n n) = .slice (some ⟨r.φ b, off, none⟩) n n := fun r hlt => by
        simp only [ren, renB, renA, renCap]
        rw [if_neg (by omega)]
      generalize capTop = T at he hcap
      split at he
      case isFalse => cases he
      case isTrue hz =>
        obtain ⟨hl, hh, hlt⟩ := hz
        obtain ⟨rfl, rfl⟩ := AM.pure_some he
        have hx' : x' = .pointer (some ⟨ρ.φ b, off, none⟩) := by rw [← hx.eq]; simp [ren, renA]
        have hxr : ∀ r, Agree N ρ r → r.φ b = ρ.φ b := fun r hr2 => by
          have := hx r hr2
          rw [hx'] at this
          simp only [ren, renA, Value.pointer.injEq, Option.some.injEq, Addr.mk.injEq] at this
          exact this.1
        have hb := sliceBounds_runF (P := P) (ρ := ρ) (len := n) (cap := n) h1 h2 (by omega) (fun _ => by omega) w
        rw [hl, hh] at hb
        have hrun : (Instr.sliceAt t x' lo' hi' none).run P w = .ok (.slice (some ⟨ρ.φ b, off, none⟩) n n) w := by
          subst hlo; subst hhi
          rw [hx']
          unfold Instr.sliceAt
          simp only [Sem.run_bind, run_underlying ht w, Result.andThen_ok]
          simp only [Instr.sureAddr, Sem.run_pure, Sem.run_bind, Result.andThen_ok, hb, sizeOf, typeInfo, run_program, hinf]
          simp [Addr.add]
        refine ⟨ρ, _, w, hrun, Step.refl _ _ _ _, by rw [Grow.eq_self]; exact hr, ?_⟩
        rw [Grow.eq_self]
        intro r hr2
        rw [hcap r hlt, hxr r hr2]
  case h_1 e b off z n c ln hn ht h1 h2 =>
    split at he
    case h_2 => cases he
    case h_1 i hinf =>
      split at he
      case isFalse => cases he
      case isTrue hz =>
        obtain ⟨rfl, hl, hh⟩ := hz
        obtain ⟨rfl, rfl⟩ := AM.pure_some he
        have hx' : x' = .slice (some (renB ρ ⟨b, off, some z⟩ c)) 0 (renCap ρ b c) := by rw [← hx.eq]; simp [ren]
        have hb := sliceBounds_run (P := P) (ρ := ρ) (len := 0) (cap := renCap ρ b c) h1 h2 (by omega) (fun _ => by omega) w
        rw [hl, hh] at hb
        have hrun : (Instr.sliceAt t x' lo' hi' none).run P w = .ok x' w := by
          subst hlo; subst hhi
          rw [hx']
          unfold Instr.sliceAt
          simp only [Sem.run_bind, run_underlying ht w, Result.andThen_ok]
          unfold Instr.slice
          simp only [Sem.run_bind, run_underlying ht w, Result.andThen_ok, hb, sizeOf, typeInfo, run_program, hinf, Sem.run_pure]
          simp [Addr.add]
        refine ⟨ρ, x', w, hrun, Step.refl _ _ _ _, by rw [Grow.eq_self]; exact hr, ?_⟩
        rw [Grow.eq_self]; exact hx
end Go.Proofs.Ytfakfnekcgkelaa
