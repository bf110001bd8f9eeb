/- An evaluator of Go code whose memory has names of its own (9): a new block, a block that is written. -/
import Derived.Test.YtljhlnpbomehkaaEwH
namespace Go.Proofs.Ytljhlnpbomehkaa
set_option linter.unusedVariables false
set_option linter.unusedSimpArgs false

theorem AM.put_some {n : Nat} {o : Option AObj} {h h' : AH} {x : Unit} (e : (AM.put n o).run h = some (x, h')) : (∃ o', h.get n = some o') ∧ h' = { h with m := h.m.set 64 n o, tch := note h.base n h.tch, wrt := note h.base n h.wrt } := by
  unfold AM.put at e
  dsimp only at e
  split at e
  · rename_i o' ho
    injection e with e; injection e with e1 e2
    exact ⟨⟨o', ho⟩, e2.symm⟩
  · cases e
theorem AM.new_some {o : AObj} {h h' : AH} {x : Nat} (e : (AM.new o).run h = some (x, h')) : x = h.next ∧ h.next < 4611686018427387904 ∧ h' = { h with m := h.m.set 64 h.next (some o), next := h.next + 1 } := by
  unfold AM.new at e
  dsimp only at e
  split at e
  · rename_i hl
    injection e with e; injection e with e1 e2
    exact ⟨e1.symm, hl, e2.symm⟩
  · cases e
def Ren.at (ρ : Ren) (n b k : Nat) : Ren := { φ := fun m => if m = n then b else ρ.φ m, κ := fun m => if m = n then k else ρ.κ m, σ := ρ.σ }
theorem Ren.at_φ (ρ : Ren) (n b k : Nat) : (ρ.at n b k).φ n = b := by simp [Ren.at]
theorem Ren.at_κ (ρ : Ren) (n b k : Nat) : (ρ.at n b k).κ n = k := by simp [Ren.at]
theorem Ren.at_agree {N : Nat → Prop} (ρ : Ren) {n b k : Nat} (hn : ¬ N n) : Agree N ρ (ρ.at n b k) :=
  ⟨rfl, fun m hm => by show (if m = n then b else ρ.φ m) = ρ.φ m; rw [if_neg (by intro e; subst e; exact hn hm)], fun m hm => by show (if m = n then k else ρ.κ m) = ρ.κ m; rw [if_neg (by intro e; subst e; exact hn hm)]⟩
theorem get_new {h : AH} {o : AObj} (hl : h.next < 4611686018427387904) (k : Nat) : ({ h with m := h.m.set 64 h.next (some o), next := h.next + 1 } : AH).get k = if k = h.next then some o else h.get k := by
  show (h.m.set 64 h.next (some o)).get k = _
  by_cases e : k = h.next
  · subst e; rw [if_pos rfl]; exact Tr.get_set_same 64 h.m h.next (some o) (by omega)
  · rw [if_neg e]; exact Tr.get_set_other 64 h.m h.next k (some o) e
/-- a new block, wherever it lies apart from all that is known -/
theorem new_step {D N : Nat → Prop} {h : AH} {ρ : Ren} {w w' : World} {o : AObj} (hl : h.next < 4611686018427387904) (hwf : WF h) (hN : ¬ N h.next) (hr : Rel D N ρ h.get w) (b k : Nat) (hb : w.heap.size ≤ b)
    (hold : Holds (Grow N h.next (h.next + 1)) (ρ.at h.next b k) h.next w' o)
    (hos : w'.os = w.os) (htape : w'.tape = w.tape) (hout : w'.output = w.output) (hsize : w.heap.size ≤ w'.heap.size) (hheap : ∀ i, i < w.heap.size → w'.heap[i]? = w.heap[i]?) :
    Step D h ρ w { h with m := h.m.set 64 h.next (some o), next := h.next + 1 } (ρ.at h.next b k) w' ∧
    Rel D (Grow N h.next (h.next + 1)) (ρ.at h.next b k) ({ h with m := h.m.set 64 h.next (some o), next := h.next + 1 } : AH).get w' := by
  have hag : Agree N ρ (ρ.at h.next b k) := Ren.at_agree ρ hN
  refine ⟨⟨Ren.at_agree ρ (fun hh => hh ⟨Nat.le_refl _, Nat.lt_succ_self _⟩), fun n hn => .inl ?_, hos, htape, hout, hsize, fun i hi _ => hheap i hi⟩, ⟨?_, ?_, ?_, hr.sym, fun g hg => ⟨.inl (hr.glob g hg).1, (hag.φ g (hr.glob g hg).1).trans (hr.glob g hg).2⟩⟩⟩
  · have : n = h.next := by have := hn.1; have := hn.2; dsimp only at this; omega
    subst this; rw [Ren.at_φ]; exact hb
  · intro n m hn hm sn sm he
    rw [get_new hl] at sn sm
    have old : ∀ k', D k' → k' ≠ h.next → (h.get k').isSome → (ρ.at h.next b k).φ k' = ρ.φ k' ∧ ρ.φ k' < w.heap.size := fun k' hD hne hs => by
      refine ⟨by simp [Ren.at, hne], ?_⟩
      cases ho : h.get k' with
      | none => rw [ho] at hs; cases hs
      | some ob => exact (hr.holds k' ob hD ho).lt
    by_cases h1 : n = h.next
    · by_cases h2 : m = h.next
      · rw [h1, h2]
      · rw [if_neg h2] at sm
        obtain ⟨q1, q2⟩ := old m hm h2 sm
        rw [h1, Ren.at_φ, q1] at he
        omega
    · rw [if_neg h1] at sn
      obtain ⟨q1, q2⟩ := old n hn h1 sn
      by_cases h2 : m = h.next
      · rw [h2, Ren.at_φ, q1] at he; omega
      · rw [if_neg h2] at sm
        obtain ⟨q3, q4⟩ := old m hm h2 sm
        rw [q1, q3] at he
        exact hr.inj n m hn hm sn sm he
  · intro n ob hn hob
    rw [get_new hl] at hob
    by_cases h1 : n = h.next
    · rw [if_pos h1] at hob; injection hob with hob; subst hob; rw [h1]; exact hold
    · rw [if_neg h1] at hob
      have hh := hr.holds n ob hn hob
      exact hh.mono hag (fun _ h => .inl h) (hr.known n hn (by rw [hob]; rfl)) (hheap _ hh.lt)
  · intro n hn sn
    rw [get_new hl] at sn
    by_cases h1 : n = h.next
    · exact .inr ⟨by omega, by omega⟩
    · rw [if_neg h1] at sn; exact .inl (hr.known n hn sn)
/-- a block that is written -/
theorem put_step {D N : Nat → Prop} {h : AH} {ρ : Ren} {w w' : World} {n : Nat} {o : AObj} (hlt : n < 4611686018427387904) (hD : D n) (hs : (h.get n).isSome) (hnn : n < h.next) (hr : Rel D N ρ h.get w)
    (hold : Holds N ρ n w' o) (hos : w'.os = w.os) (htape : w'.tape = w.tape) (hout : w'.output = w.output) (hsize : w.heap.size ≤ w'.heap.size) (hheap : ∀ i, i < w.heap.size → i ≠ ρ.φ n → w'.heap[i]? = w.heap[i]?) :
    Step D h ρ w { h with m := h.m.set 64 n (some o), tch := note h.base n h.tch, wrt := note h.base n h.wrt } ρ w' ∧
    Rel D N ρ ({ h with m := h.m.set 64 n (some o), tch := note h.base n h.tch, wrt := note h.base n h.wrt } : AH).get w' := by
  have hget : ∀ k, ({ h with m := h.m.set 64 n (some o), tch := note h.base n h.tch, wrt := note h.base n h.wrt } : AH).get k = if k = n then some o else h.get k := fun k => by
    show (h.m.set 64 n (some o)).get k = _
    by_cases e : k = n
    · subst e; rw [if_pos rfl]; exact Tr.get_set_same 64 h.m k (some o) (by omega)
    · rw [if_neg e]; exact Tr.get_set_other 64 h.m n k (some o) e
  have hsome : ∀ k, (({ h with m := h.m.set 64 n (some o), tch := note h.base n h.tch, wrt := note h.base n h.wrt } : AH).get k).isSome → (h.get k).isSome := fun k hk => by
    rw [hget] at hk
    by_cases e : k = n
    · rw [e]; exact hs
    · rwa [if_neg e] at hk
  refine ⟨⟨Agree.refl _ _, fun m hm => absurd hm.1 (by have := hm.2; dsimp only at this; omega), hos, htape, hout, hsize, fun i hi hno => hheap i hi ?_⟩, ⟨?_, ?_, ?_, hr.sym, hr.glob⟩⟩
  · intro e
    refine hno n hD hnn hs ?_ e.symm
    by_cases hb : n < h.base
    · exact .inl (mem_note hb)
    · exact .inr (by omega)
  · intro a b ha hb sa sb he
    exact hr.inj a b ha hb (hsome a sa) (hsome b sb) he
  · intro k ob hk hob
    rw [hget] at hob
    by_cases e : k = n
    · rw [if_pos e] at hob; injection hob with hob; subst hob; rw [e]; exact hold
    · rw [if_neg e] at hob
      have hh := hr.holds k ob hk hob
      exact hh.mono (Agree.refl _ _) (fun _ h => h) (hr.known k hk (by rw [hob]; rfl)) (hheap _ hh.lt (fun e2 => e (hr.inj k n hk hD (by rw [hob]; rfl) hs e2)))
  · intro k hk sk
    exact hr.known k hk (hsome k sk)
/-- a block of which nothing more is said -/
theorem drop_step {D N : Nat → Prop} {h : AH} {ρ : Ren} {w : World} {n : Nat} (hlt : n < 4611686018427387904) (hr : Rel D N ρ h.get w) :
    Step D h ρ w { h with m := h.m.set 64 n none, tch := note h.base n h.tch, wrt := note h.base n h.wrt } ρ w ∧
    Rel D N ρ ({ h with m := h.m.set 64 n none, tch := note h.base n h.tch, wrt := note h.base n h.wrt } : AH).get w ∧ ({ h with m := h.m.set 64 n none, tch := note h.base n h.tch, wrt := note h.base n h.wrt } : AH).get n = none := by
  have hget : ∀ k, ({ h with m := h.m.set 64 n none, tch := note h.base n h.tch, wrt := note h.base n h.wrt } : AH).get k = if k = n then none else h.get k := fun k => by
    show (h.m.set 64 n none).get k = _
    by_cases e : k = n
    · subst e; rw [if_pos rfl]; exact Tr.get_set_same 64 h.m k none (by omega)
    · rw [if_neg e]; exact Tr.get_set_other 64 h.m n k none e
  have hsome : ∀ k, (({ h with m := h.m.set 64 n none, tch := note h.base n h.tch, wrt := note h.base n h.wrt } : AH).get k).isSome → (h.get k).isSome := fun k hk => by
    rw [hget] at hk
    by_cases e : k = n
    · rw [if_pos e] at hk; cases hk
    · rwa [if_neg e] at hk
  refine ⟨⟨Agree.refl _ _, fun m hm => absurd hm.1 (by have := hm.2; dsimp only at this; omega), rfl, rfl, rfl, Nat.le_refl _, fun _ _ _ => rfl⟩, ⟨?_, ?_, ?_, hr.sym, hr.glob⟩, by rw [hget, if_pos rfl]⟩
  · intro a b ha hb sa sb he
    exact hr.inj a b ha hb (hsome a sa) (hsome b sb) he
  · intro k ob hk hob
    rw [hget] at hob
    split at hob
    · cases hob
    · exact hr.holds k ob hk hob
  · intro k hk sk
    exact hr.known k hk (hsome k sk)
/-- a row that has grown: where it lay, or anew -/
theorem grown_step {D N : Nat → Prop} {h : AH} {ρ : Ren} {w w' : World} {n : Nat} {o : AObj} (hlt : n < 4611686018427387904) (hl : h.next < 4611686018427387904) (hwf : WF h) (hN : ¬ N h.next) (hD : D n) (hs : (h.get n).isSome) (hnn : n < h.next) (hr : Rel D N ρ h.get w)
    (b k : Nat) (hb : b = ρ.φ n ∨ w.heap.size ≤ b)
    (hold : Holds (Grow N h.next (h.next + 1)) (ρ.at h.next b k) h.next w' o)
    (hos : w'.os = w.os) (htape : w'.tape = w.tape) (hout : w'.output = w.output) (hsize : w.heap.size ≤ w'.heap.size) (hheap : ∀ i, i < w.heap.size → i ≠ ρ.φ n → w'.heap[i]? = w.heap[i]?) :
    Step D h ρ w { h with m := (h.m.set 64 n none).set 64 h.next (some o), next := h.next + 1, tch := note h.base n h.tch, wrt := note h.base n h.wrt } (ρ.at h.next b k) w' ∧
    Rel D (Grow N h.next (h.next + 1)) (ρ.at h.next b k) ({ h with m := (h.m.set 64 n none).set 64 h.next (some o), next := h.next + 1, tch := note h.base n h.tch, wrt := note h.base n h.wrt } : AH).get w' := by
  have hag : Agree N ρ (ρ.at h.next b k) := Ren.at_agree ρ hN
  have hget : ∀ k, ({ h with m := (h.m.set 64 n none).set 64 h.next (some o), next := h.next + 1, tch := note h.base n h.tch, wrt := note h.base n h.wrt } : AH).get k = if k = h.next then some o else if k = n then none else h.get k := fun k => by
    show ((h.m.set 64 n none).set 64 h.next (some o)).get k = _
    by_cases e : k = h.next
    · subst e; rw [if_pos rfl]; exact Tr.get_set_same 64 _ h.next (some o) (by omega)
    · rw [if_neg e, Tr.get_set_other 64 _ h.next k (some o) e]
      by_cases e2 : k = n
      · subst e2; rw [if_pos rfl]; exact Tr.get_set_same 64 h.m k none (by omega)
      · rw [if_neg e2]; exact Tr.get_set_other 64 h.m n k none e2
  have hsize0 : ∀ k', D k' → (h.get k').isSome → ρ.φ k' < w.heap.size := fun k' hD hs => by
    cases ho : h.get k' with
    | none => rw [ho] at hs; cases hs
    | some ob => exact (hr.holds k' ob hD ho).lt
  refine ⟨⟨Ren.at_agree ρ (fun hh => hh ⟨Nat.le_refl _, Nat.lt_succ_self _⟩), fun m hm => ?_, hos, htape, hout, hsize, fun i hi hno => hheap i hi ?_⟩, ⟨?_, ?_, ?_, hr.sym, fun g hg => ⟨.inl (hr.glob g hg).1, (hag.φ g (hr.glob g hg).1).trans (hr.glob g hg).2⟩⟩⟩
  · have : m = h.next := by have := hm.1; have := hm.2; dsimp only at this; omega
    subst this
    rw [Ren.at_φ]
    rcases hb with hb | hb
    · refine .inr ⟨n, hD, hnn, hs, ?_, hb⟩
      by_cases hbb : n < h.base
      · exact .inl (mem_note hbb)
      · exact .inr (by omega)
    · exact .inl hb
  · intro e
    refine hno n hD hnn hs ?_ e.symm
    by_cases hb : n < h.base
    · exact .inl (mem_note hb)
    · exact .inr (by omega)
  · have old : ∀ k', D k' → k' ≠ h.next → ((if k' = h.next then some o else if k' = n then none else h.get k') : Option AObj).isSome → (h.get k').isSome ∧ k' ≠ n ∧ (ρ.at h.next b k).φ k' = ρ.φ k' := fun k' hD hne hs => by
      rw [if_neg hne] at hs
      by_cases e : k' = n
      · rw [if_pos e] at hs; cases hs
      · rw [if_neg e] at hs; exact ⟨hs, e, by simp [Ren.at, hne]⟩
    intro x y hx hy sx sy he
    rw [hget] at sx sy
    by_cases h1 : x = h.next
    · by_cases h2 : y = h.next
      · rw [h1, h2]
      · obtain ⟨q1, q2, q3⟩ := old y hy h2 sy
        rw [h1, Ren.at_φ, q3] at he
        rcases hb with hb | hb
        · exact absurd (hr.inj n y hD hy hs q1 (by rw [← hb]; exact he)).symm q2
        · have := hsize0 y hy q1; omega
    · obtain ⟨q1, q2, q3⟩ := old x hx h1 sx
      by_cases h2 : y = h.next
      · rw [h2, Ren.at_φ, q3] at he
        rcases hb with hb | hb
        · exact absurd (hr.inj x n hx hD q1 hs (by rw [← hb]; exact he)) q2
        · have := hsize0 x hx q1; omega
      · obtain ⟨p1, p2, p3⟩ := old y hy h2 sy
        rw [q3, p3] at he
        exact hr.inj x y hx hy q1 p1 he
  · intro k' ob hk hob
    rw [hget] at hob
    by_cases h1 : k' = h.next
    · rw [if_pos h1] at hob; injection hob with hob; subst hob; rw [h1]; exact hold
    · rw [if_neg h1] at hob
      by_cases h2 : k' = n
      · rw [if_pos h2] at hob; cases hob
      · rw [if_neg h2] at hob
        have hh := hr.holds k' ob hk hob
        exact hh.mono hag (fun _ h => .inl h) (hr.known k' hk (by rw [hob]; rfl)) (hheap _ hh.lt (fun e => h2 (hr.inj k' n hk hD (by rw [hob]; rfl) hs e)))
  · intro k' hk sk
    rw [hget] at sk
    by_cases h1 : k' = h.next
    · exact .inr ⟨by omega, by omega⟩
    · rw [if_neg h1] at sk
      by_cases h2 : k' = n
      · rw [if_pos h2] at sk; cases sk
      · rw [if_neg h2] at sk; exact .inl (hr.known k' hk sk)

/-- cells written into a row -/
theorem heap_setCells {b : Nat} {e : TypeId} {fr : Nat × Nat} : ∀ (vs : List Value) (o : Nat) (c : Array Value) (w : World), w.heap[b]? = some (.cells c e fr) → o + vs.length ≤ c.size →
    (w.setCells b o vs).heap[b]? = some (.cells (c.toList.take o ++ vs ++ c.toList.drop (o + vs.length)).toArray e fr)
  | [], o, c, w, h, _ => by simp [World.setCells, h]
  | v :: r, o, c, w, h, hl => by
    simp only [List.length_cons] at hl
    have h1 : (w.setCell ⟨b, o, none⟩ v).heap[b]? = some (.cells (c.setIfInBounds o v) e fr) := by
      simp [World.setCell, Array.getElem?_modify, h]
    have ih := heap_setCells r (o + 1) (c.setIfInBounds o v) (w.setCell ⟨b, o, none⟩ v) h1 (by simp; omega)
    have e1 : w.setCells b o (v :: r) = (w.setCell ⟨b, o, none⟩ v).setCells b (o + 1) r := rfl
    rw [e1, ih]
    have hlt : o < c.toList.length := by rw [Array.length_toList]; omega
    have key : List.take (o + 1) (c.setIfInBounds o v).toList ++ r ++ List.drop (o + 1 + r.length) (c.setIfInBounds o v).toList = List.take o c.toList ++ v :: r ++ List.drop (o + (v :: r).length) c.toList := by
      rw [Array.toList_setIfInBounds]
      rw [List.drop_set_of_lt (show o < o + 1 + r.length by omega)]
      have e2 : List.take (o + 1) (c.toList.set o v) = List.take o c.toList ++ [v] := by
        have h3 : o < (c.toList.set o v).length := by simpa using hlt
        rw [List.take_succ_eq_append_getElem h3]
        rw [List.take_set, List.set_eq_of_length_le (by rw [List.length_take]; omega)]
        simp
      rw [e2, List.length_cons, show o + (r.length + 1) = o + 1 + r.length from by omega]
      simp
    rw [key]
theorem heap_setCells_other {b k : Nat} (hk : k ≠ b) : ∀ (vs : List Value) (o : Nat) (w : World), (w.setCells b o vs).heap[k]? = w.heap[k]?
  | [], o, w => rfl
  | v :: r, o, w => by
    have e1 : w.setCells b o (v :: r) = (w.setCell ⟨b, o, none⟩ v).setCells b (o + 1) r := rfl
    rw [e1, heap_setCells_other hk r]
    simp only [World.setCell, Array.getElem?_modify]
    rw [if_neg (by omega)]
theorem rest_setCells {b : Nat} : ∀ (vs : List Value) (o : Nat) (w : World), (w.setCells b o vs).os = w.os ∧ (w.setCells b o vs).tape = w.tape ∧ (w.setCells b o vs).output = w.output ∧ (w.setCells b o vs).heap.size = w.heap.size
  | [], o, w => ⟨rfl, rfl, rfl, rfl⟩
  | v :: r, o, w => by
    have e1 : w.setCells b o (v :: r) = (w.setCell ⟨b, o, none⟩ v).setCells b (o + 1) r := rfl
    have ih := rest_setCells (b := b) r (o + 1) (w.setCell ⟨b, o, none⟩ v)
    rw [e1]
    refine ⟨ih.1, ih.2.1, ih.2.2.1, ?_⟩
    rw [ih.2.2.2]; simp [World.setCell]
end Go.Proofs.Ytljhlnpbomehkaa
