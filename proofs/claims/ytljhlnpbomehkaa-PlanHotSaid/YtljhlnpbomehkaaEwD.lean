/- An evaluator of Go code whose memory has names of its own (4): a region in whatever order is the region in its own order. -/
import Derived.Test.YtljhlnpbomehkaaEwC
namespace Go.Proofs.Ytljhlnpbomehkaa
set_option linter.unusedVariables false
set_option linter.unusedSimpArgs false

def edges (o : Oper) : List Nat := (o.after.toList.filter (Region.binds .any ·)).map (·.on)
def memN (k : Nat) : List Nat → Bool
  | [] => false
  | x :: r => match Nat.beq k x with
    | true => true
    | false => memN k r
/-- each once -/
def ded : List Nat → List Nat → List Nat
  | [], acc => acc
  | x :: r, acc => match memN x acc with
    | true => ded r acc
    | false => ded r (x :: acc)
theorem of_mem_ded {k : Nat} : ∀ {l acc : List Nat}, k ∈ ded l acc → k ∈ l ∨ k ∈ acc
  | [], acc, h => .inr h
  | x :: r, acc, h => by
    simp only [ded] at h
    split at h
    · exact (of_mem_ded h).elim (fun h => .inl (List.mem_cons_of_mem _ h)) .inr
    · rcases of_mem_ded h with h | h
      · exact .inl (List.mem_cons_of_mem _ h)
      · rcases List.mem_cons.1 h with rfl | h
        · exact .inl List.mem_cons_self
        · exact .inr h
def closeGo : List Oper → List (List Nat) → List (List Nat)
  | [], acc => acc
  | o :: r, acc => closeGo r (acc ++ [ded (edges o ++ (edges o).flatMap fun e => acc.getD e []) []])
def Down (ops : Array Oper) (L : Nat → Bool) : Prop := ∀ (j : Nat) o, ops[j]? = some o → L j = true → ∀ e ∈ edges o, L e = true
def GoodClo (ops : Array Oper) (acc : List (List Nat)) : Prop :=
  ∀ (j : Nat) x, acc[j]? = some x → ∀ i ∈ x, ∀ L, Down ops L → (∀ o, ops[j]? = some o → ∀ e ∈ edges o, L e = true) → L i = true
theorem closeGo_good {ops : Array Oper} : ∀ (r : List Oper) (acc : List (List Nat)), (∀ i o, r[i]? = some o → ops[acc.length + i]? = some o) → GoodClo ops acc → GoodClo ops (closeGo r acc)
  | [], acc, _, h => h
  | o :: r, acc, hr, h => by
    unfold closeGo
    refine closeGo_good r _ (fun i o' ho' => ?_) ?_
    · have := hr (i + 1) o' (by simpa using ho')
      rw [List.length_append, List.length_singleton]
      rwa [show acc.length + 1 + i = acc.length + (i + 1) from by omega]
    · intro j x hj i hi L hL he
      by_cases hlt : j < acc.length
      · exact h j x (by rwa [List.getElem?_append_left hlt] at hj) i hi L hL he
      · have hje : j = acc.length := by
          have := (List.getElem?_eq_some_iff.1 hj).1
          simp at this; omega
        subst hje
        have ho : ops[acc.length]? = some o := hr 0 o (by simp)
        rw [List.getElem?_append_right (Nat.le_refl _)] at hj
        simp only [Nat.sub_self, List.getElem?_cons_zero, Option.some.injEq] at hj
        subst hj
        replace hi := (of_mem_ded hi).resolve_right (fun h => by cases h)
        rcases List.mem_append.1 hi with hi | hi
        · exact he o ho i hi
        · obtain ⟨e, he1, he2⟩ := List.mem_flatMap.1 hi
          have hle := he o ho e he1
          cases hx : acc[e]? with
          | none => simp [List.getD, hx] at he2
          | some y =>
            simp only [List.getD, hx, Option.getD_some] at he2
            exact h e y hx i he2 L hL (fun o' ho' e' he' => hL e o' ho' hle e' he')

/-- no conflict of two that wait for each other in no way -/
def noMeet (ops : Array Oper) (l : List Rec) (t' : Array Value) (h' : AH) (clo : List (List Nat)) (i j : Nat) : Bool :=
  (clo.getD j []).contains i ||
  ((match ops[i]?, ops[j]? with
    | some x, some y => x.apart ops y
    | _, _ => false) &&
   (stF l j).all (fun k => !(stW l i).contains k && !(decide ((stH l h' i).next ≤ k) && decide (k < (stH l h' (i + 1)).next))) &&
   (stF l i).all (fun k => !(stW l j).contains k))
def okReg (ops : Array Oper) (l : List Rec) (t' : Array Value) (h' : AH) : Bool :=
  let clo := closeGo ops.toList []
  (List.range ops.size).all fun j =>
    (match ops[j]? with
     | some o => (edges o).all (fun e => decide (e < j))
     | none => false) &&
    (stF l j).all (fun k => decide (k < (stH l h' j).next)) &&
    (List.range j).all fun i => noMeet ops l t' h' clo i j

structure RC (ops : Array Oper) (f : Oper → Array Value → AM Value) (l : List Rec) (t' : Array Value) (h' : AH) : Prop where
  one : ∀ (i : Nat) (o : Oper), ops[i]? = some o → one ops f o (stT l t' i) (stH l h' i) = some (stT l t' (i + 1), stH l h' (i + 1), stF l i, stW l i)
  len : l.length = ops.size
  ok : okReg ops l t' h' = true
section
variable {P : Program} {ops : Array Oper} {f : Oper → Array Value → AM Value} {l : List Rec} {t' : Array Value} {h' : AH}
def wrH (l : List Rec) (h' : AH) (i n : Nat) : Prop := n ∈ stW l i ∨ Span (stH l h' i).next (stH l h' (i + 1)).next n
def wrT (ops : Array Oper) (i t : Nat) : Prop := ∃ o, ops[i]? = some o ∧ o.dst = some t
open Classical in
noncomputable def ovH (l : List Rec) (h' : AH) (L : Nat → Bool) (n : Nat) (k : Nat) : Option AObj := ov (fun i k => (stH l h' i).get k) (wrH l h') L n k
open Classical in
noncomputable def ovT (ops : Array Oper) (l : List Rec) (t' : Array Value) (L : Nat → Bool) (n : Nat) (k : Nat) : Value := ov (fun i k => (stT l t' i).getD k undef) (wrT ops) L n k

theorem RC.past (c : RC ops f l t' h') {i : Nat} (hi : ops.size ≤ i) : stT l t' i = t' ∧ stH l h' i = h' ∧ stW l i = [] ∧ stF l i = [] := by
  have : l[i]? = none := List.getElem?_eq_none (by rw [c.len]; exact hi)
  simp [stT, stH, stW, stF, this]
theorem RC.get (c : RC ops f l t' h') {i : Nat} (hi : i < ops.size) : ∃ o, ops[i]? = some o := ⟨ops[i], Array.getElem?_eq_getElem hi⟩
theorem RC.mono1 (c : RC ops f l t' h') (i : Nat) : Mono (stH l h' i) (stH l h' (i + 1)) ∧ (∀ n, n < (stH l h' i).next → n ∉ stW l i → (stH l h' (i + 1)).get n = (stH l h' i).get n) ∧ (∀ n ∈ stW l i, n ∈ stF l i) ∧
    (∀ n ∈ stW l i, n < (stH l h' i).base → n ∈ (stH l h' (i + 1)).wrt) ∧ (∀ n ∈ stF l i, n < (stH l h' i).base → n ∈ (stH l h' (i + 1)).tch) := by
  by_cases hi : i < ops.size
  · obtain ⟨o, ho⟩ := c.get hi
    exact one_mono (c.one i o ho)
  · have h1 := c.past (i := i) (by omega)
    have h2 := c.past (i := i + 1) (by omega)
    rw [h1.2.1, h2.2.1, h1.2.2.1, h1.2.2.2]
    exact ⟨Mono.refl _, fun _ _ _ => rfl, by simp, by simp, by simp⟩
theorem RC.mono (c : RC ops f l t' h') {i j : Nat} (h : i ≤ j) : Mono (stH l h' i) (stH l h' j) := by
  induction j with
  | zero => obtain rfl : i = 0 := by omega
            exact Mono.refl _
  | succ j ih =>
    by_cases he : i = j + 1
    · subst he; exact Mono.refl _
    · exact (ih (by omega)).trans (c.mono1 j).1
theorem RC.monoE (c : RC ops f l t' h') (i : Nat) : Mono (stH l h' i) h' := by
  have := c.mono (i := i) (j := max i ops.size) (Nat.le_max_left _ _)
  rwa [(c.past (i := max i ops.size) (Nat.le_max_right _ _)).2.1] at this
theorem RC.next_le (c : RC ops f l t' h') {i j : Nat} (h : i ≤ j) : (stH l h' i).next ≤ (stH l h' j).next := (c.mono h).next
theorem RC.ok1 (c : RC ops f l t' h') {j : Nat} (hj : j < ops.size) : (∀ o, ops[j]? = some o → ∀ e ∈ edges o, e < j) ∧ (∀ k ∈ stF l j, k < (stH l h' j).next) ∧ ∀ i, i < j → noMeet ops l t' h' (closeGo ops.toList []) i j = true := by
  have := c.ok
  unfold okReg at this
  have h1 := (List.all_eq_true.1 this) j (List.mem_range.2 hj)
  simp only [Bool.and_eq_true] at h1
  obtain ⟨⟨h1, h2⟩, h3⟩ := h1
  refine ⟨fun o ho e he => ?_, fun k hk => ?_, fun i hi => ?_⟩
  · rw [ho] at h1
    simpa using (List.all_eq_true.1 h1) e he
  · simpa using (List.all_eq_true.1 h2) k hk
  · exact (List.all_eq_true.1 h3) i (List.mem_range.2 hi)
theorem RC.clo (c : RC ops f l t' h') : GoodClo ops (closeGo ops.toList []) :=
  closeGo_good ops.toList [] (fun i o ho => by simpa using ho) (fun j x hj => by simp at hj)
/-- two that wait for each other in no way have nothing in common -/
theorem RC.meet (c : RC ops f l t' h') {i j : Nat} (hij : i < j) (hj : j < ops.size) {L : Nat → Bool} (hL : Down ops L) :
    ((∀ o, ops[j]? = some o → ∀ e ∈ edges o, L e = true) → L i = true) ∨
    ((∀ x y, ops[i]? = some x → ops[j]? = some y → x.apart ops y = true) ∧ (∀ k ∈ stF l j, k ∉ stW l i ∧ ¬ Span (stH l h' i).next (stH l h' (i + 1)).next k) ∧ ∀ k ∈ stF l i, k ∉ stW l j) := by
  have h := (c.ok1 hj).2.2 i hij
  unfold noMeet at h
  rw [Bool.or_eq_true] at h
  rcases h with h | h
  · refine .inl fun he => ?_
    have hm : i ∈ (closeGo ops.toList []).getD j [] := by simpa using h
    cases hx : (closeGo ops.toList [])[j]? with
    | none => simp [List.getD, hx] at hm
    | some x =>
      simp only [List.getD, hx, Option.getD_some] at hm
      exact c.clo j x hx i hm L hL he
  · simp only [Bool.and_eq_true] at h
    obtain ⟨⟨h1, h2⟩, h3⟩ := h
    refine .inr ⟨fun x y hx hy => ?_, fun k hk => ?_, fun k hk => ?_⟩
    · rw [hx, hy] at h1; exact h1
    · have := (List.all_eq_true.1 h2) k hk
      simp only [Bool.and_eq_true, Bool.not_eq_true', Bool.and_eq_false_iff, decide_eq_false_iff_not] at this
      refine ⟨fun hh => ?_, fun hh => ?_⟩
      · have h4 := this.1; simp at h4; exact h4 hh
      · rcases this.2 with h5 | h5
        · exact h5 hh.1
        · exact h5 hh.2
    · have := (List.all_eq_true.1 h3) k hk
      intro hh
      simp at this; exact this hh

/-- i may come up now -/
structure Up (ops : Array Oper) (L : Nat → Bool) (i : Nat) : Prop where
  down : Down ops L
  not : L i = false
  lt : i < ops.size
  edges : ∀ o, ops[i]? = some o → ∀ e ∈ edges o, L e = true
theorem RC.confH (c : RC ops f l t' h') {L : Nat → Bool} {i : Nat} (u : Up ops L i) {j k : Nat} (hj : j < ops.size) (hji : j ≠ i) (hw : wrH l h' j k) (hk : k ∈ stF l i ∨ wrH l h' i k) : L j = true ↔ j < i := by
  have hF : ∀ n, n < ops.size → ∀ k ∈ stF l n, k < (stH l h' n).next := fun n hn => (c.ok1 hn).2.1
  have hW := fun n => (c.mono1 n).2.2.1
  by_cases hlt : j < i
  · refine ⟨fun _ => hlt, fun _ => ?_⟩
    rcases c.meet hlt u.lt u.down with h | ⟨_, h2, _⟩
    · exact h u.edges
    · have hkF : k ∈ stF l i → False := fun hh => hw.elim (h2 k hh).1 (h2 k hh).2
      rcases hk with hk | hk | hk
      · exact (hkF hk).elim
      · exact (hkF (hW i k hk)).elim
      · exfalso
        have h1 := c.next_le (i := j + 1) (j := i) hlt
        have h0 := c.next_le (i := j) (j := i) (by omega)
        rcases hw with hw | hw
        · have := hF j hj k (hW j k hw); have := hk.1; omega
        · have := hw.2; have := hk.1; omega
  · have hgt : i < j := by omega
    refine ⟨fun hL => ?_, fun hh => absurd hh hlt⟩
    exfalso
    have hedge : ∀ o, ops[j]? = some o → ∀ e ∈ Go.Proofs.Ytljhlnpbomehkaa.edges o, L e = true := fun o ho => u.down j o ho hL
    have h1 := c.next_le (i := i + 1) (j := j) hgt
    have h0 := c.next_le (i := i) (j := j) (by omega)
    rcases c.meet hgt hj u.down with h | ⟨_, h2, h3⟩
    · have := h hedge; rw [u.not] at this; cases this
    · rcases hw with hw | hw
      · rcases hk with hk | hk | hk
        · exact h3 k hk hw
        · exact (h2 k (hW j k hw)).1 hk
        · exact (h2 k (hW j k hw)).2 hk
      · rcases hk with hk | hk | hk
        · have := hF i u.lt k hk; have := hw.1; omega
        · have := hF i u.lt k (hW i k hk); have := hw.1; omega
        · have := hk.2; have := hw.1; omega
theorem RC.confT (c : RC ops f l t' h') {L : Nat → Bool} {i : Nat} (u : Up ops L i) {j t : Nat} {o : Oper} (ho : ops[i]? = some o) (hj : j < ops.size) (hji : j ≠ i) (hw : wrT ops j t) (hk : t ∈ o.looksAt ops ∨ o.dst = some t) : L j = true ↔ j < i := by
  obtain ⟨oj, hoj, hd⟩ := hw
  by_cases hlt : j < i
  · refine ⟨fun _ => hlt, fun _ => ?_⟩
    rcases c.meet hlt u.lt u.down with h | ⟨h1, _, _⟩
    · exact h u.edges
    · obtain ⟨a1, a2, a3⟩ := Oper.apart_spec (h1 _ _ hoj ho)
      rcases hk with hk | hk
      · exact absurd hk (a1 t hd)
      · exact absurd hk (a2 t hd)
  · have hgt : i < j := by omega
    refine ⟨fun hL => ?_, fun hh => absurd hh hlt⟩
    exfalso
    rcases c.meet hgt hj u.down with h | ⟨h1, _, _⟩
    · have := h (fun o ho => u.down j o ho hL); rw [u.not] at this; cases this
    · obtain ⟨a1, a2, a3⟩ := Oper.apart_spec (h1 _ _ ho hoj)
      rcases hk with hk | hk
      · exact absurd hk (a3 t hd)
      · exact absurd hd (a2 t hk)
theorem RC.stepH (c : RC ops f l t' h') (h0 : WF (stH l h' 0)) (i n : Nat) (hw : ¬ wrH l h' i n) : (stH l h' (i + 1)).get n = (stH l h' i).get n := by
  have m := c.mono1 i
  by_cases hlt : n < (stH l h' i).next
  · exact m.2.1 n hlt (fun hh => hw (.inl hh))
  · have wfi := (c.mono (i := 0) (j := i) (Nat.zero_le _)).wf h0
    rw [wfi n (by omega), m.1.wf wfi n]
    by_cases h2 : n < (stH l h' (i + 1)).next
    · exact absurd (.inr ⟨by omega, h2⟩) hw
    · omega
theorem RC.stepT (c : RC ops f l t' h') (i t : Nat) (hw : ¬ wrT ops i t) : (stT l t' (i + 1)).getD t undef = (stT l t' i).getD t undef := by
  by_cases hi : i < ops.size
  · obtain ⟨o, ho⟩ := c.get hi
    have h1 := c.one i o ho
    have hne : ∀ d v, o.dst = some d → ((stT l t' i).setIfInBounds d v).getD t undef = (stT l t' i).getD t undef := fun d v hd => by
      have : d ≠ t := fun e => hw ⟨o, ho, by rw [hd, e]⟩
      rw [Array.getD_eq_getD_getElem?, Array.getD_eq_getD_getElem?, Array.getElem?_setIfInBounds_ne this]
    unfold Go.Proofs.Ytljhlnpbomehkaa.one at h1
    split at h1
    · simp only [Option.some.injEq, Prod.mk.injEq] at h1
      rw [← h1.1]
      cases hd : o.dst with
      | none => rfl
      | some d => exact hne d _ hd
    · split at h1
      · simp only [Option.some.injEq, Prod.mk.injEq] at h1
        rw [← h1.1]
        cases hd : o.dst with
        | none => rfl
        | some d => exact hne d _ hd
      · cases h1
    · cases h1
  · rw [(c.past (i := i) (by omega)).1, (c.past (i := i + 1) (by omega)).1]
/-- what i looks at is what it looked at in its own order -/
theorem RC.seesH (c : RC ops f l t' h') (h0 : WF (stH l h' 0)) {L : Nat → Bool} {i : Nat} (u : Up ops L i) {k : Nat} (hk : k ∈ stF l i) : ovH l h' L ops.size k = (stH l h' i).get k := by
  classical
  unfold ovH
  refine ov_eq (s := fun i k => (stH l h' i).get k) (fun j hw => c.stepH h0 j k hw) ops.size (Nat.le_of_lt u.lt) (fun j hj hw => ?_)
  by_cases hji : j = i
  · subst hji; rw [u.not]; simp
  · exact c.confH u hj hji hw (.inl hk)
theorem RC.seesT (c : RC ops f l t' h') {L : Nat → Bool} {i : Nat} (u : Up ops L i) {o : Oper} (ho : ops[i]? = some o) {t : Nat} (hk : t ∈ o.looksAt ops) : ovT ops l t' L ops.size t = (stT l t' i).getD t undef := by
  classical
  unfold ovT
  refine ov_eq (s := fun i k => (stT l t' i).getD k undef) (fun j hw => c.stepT j t hw) ops.size (Nat.le_of_lt u.lt) (fun j hj hw => ?_)
  by_cases hji : j = i
  · subst hji; rw [u.not]; simp
  · exact c.confT u ho hj hji hw (.inl hk)
/-- behind i -/
def with1 (L : Nat → Bool) (i : Nat) : Nat → Bool := fun k => if k = i then true else L k
theorem RC.newH (c : RC ops f l t' h') (h0 : WF (stH l h' 0)) {L : Nat → Bool} {i : Nat} (u : Up ops L i) {k : Nat} (hk : wrH l h' i k) : ovH l h' (with1 L i) ops.size k = (stH l h' (i + 1)).get k := by
  classical
  unfold ovH
  refine ov_eq (s := fun i k => (stH l h' i).get k) (fun j hw => c.stepH h0 j k hw) ops.size u.lt (fun j hj hw => ?_)
  unfold with1
  by_cases hji : j = i
  · subst hji; simp
  · rw [if_neg hji, c.confH u hj hji hw (.inr hk)]; omega
theorem RC.newT (c : RC ops f l t' h') {L : Nat → Bool} {i : Nat} (u : Up ops L i) {o : Oper} (ho : ops[i]? = some o) {t : Nat} (hk : o.dst = some t) : ovT ops l t' (with1 L i) ops.size t = (stT l t' (i + 1)).getD t undef := by
  classical
  unfold ovT
  refine ov_eq (s := fun i k => (stT l t' i).getD k undef) (fun j hw => c.stepT j t hw) ops.size u.lt (fun j hj hw => ?_)
  unfold with1
  by_cases hji : j = i
  · subst hji; simp
  · rw [if_neg hji, c.confT u ho hj hji hw (.inr hk)]; omega
theorem RC.oldH (c : RC ops f l t' h') {L : Nat → Bool} {i k : Nat} (hk : ¬ wrH l h' i k) : ovH l h' (with1 L i) ops.size k = ovH l h' L ops.size k := by
  classical
  unfold ovH
  refine ov_congr _ (fun j _ hw => ?_)
  unfold with1
  rw [if_neg]
  rintro rfl
  exact hk hw
theorem RC.oldT (c : RC ops f l t' h') {L : Nat → Bool} {i t : Nat} {o : Oper} (ho : ops[i]? = some o) (hk : o.dst ≠ some t) : ovT ops l t' (with1 L i) ops.size t = ovT ops l t' L ops.size t := by
  classical
  unfold ovT
  refine ov_congr _ (fun j _ hw => ?_)
  unfold with1
  rw [if_neg]
  rintro rfl
  obtain ⟨o', ho', hd⟩ := hw
  rw [ho] at ho'; injection ho' with ho'; subst ho'
  exact hk hd
end
end Go.Proofs.Ytljhlnpbomehkaa
