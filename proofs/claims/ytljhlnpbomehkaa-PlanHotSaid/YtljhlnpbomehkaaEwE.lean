/- An evaluator of Go code whose memory has names of its own (5): a region in whatever order, its proof. -/
import Derived.Test.YtljhlnpbomehkaaEwD
namespace Go.Proofs.Ytljhlnpbomehkaa
set_option linter.unusedVariables false
set_option linter.unusedSimpArgs false

/-- names of operations that have come up -/
def SL (l : List Rec) (h' : AH) (n : Nat) (L : Nat → Bool) (k : Nat) : Prop := ∃ i, i < n ∧ L i = true ∧ Span (stH l h' i).next (stH l h' (i + 1)).next k
def NL (N : Nat → Prop) (l : List Rec) (h' : AH) (n : Nat) (L : Nat → Bool) (k : Nat) : Prop := N k ∨ SL l h' n L k
structure StepS (D S : Nat → Prop) (h h' : AH) (ρ : Ren) (w : World) (ρ' : Ren) (w' : World) : Prop where
  agree : Agree (fun n => ¬ Span h.next h'.next n) ρ ρ'
  fresh : ∀ n, S n → w.heap.size ≤ ρ'.φ n ∨ ∃ m, D m ∧ m < h.next ∧ (h.get m).isSome ∧ (m ∈ h'.wrt ∨ h.base ≤ m) ∧ ρ'.φ n = ρ.φ m
  os : w'.os = w.os
  tape : w'.tape = w.tape
  output : w'.output = w.output
  size : w.heap.size ≤ w'.heap.size
  frame : ∀ k, k < w.heap.size → (∀ m, D m → m < h.next → (h.get m).isSome → (m ∈ h'.wrt ∨ h.base ≤ m) → ρ.φ m ≠ k) → w'.heap[k]? = w.heap[k]?
structure Inv (ops : Array Oper) (l : List Rec) (t' : Array Value) (h' : AH) (D N : Nat → Prop) (ρ0 : Ren) (a0 : Act) (w0 : World) (L : Nat → Bool) (ρ : Ren) (a : Act) (w : World) : Prop where
  rel : Rel D (NL N l h' ops.size L) ρ (ovH l h' L ops.size) w
  tmps : ∀ t, VR (NL N l h' ops.size L) ρ (ovT ops l t' L ops.size t) (a.tmps.getD t undef)
  size : a.tmps.size = (stT l t' 0).size
  defers : a.defers = a0.defers
  step : StepS D (SL l h' ops.size L) (stH l h' 0) h' ρ0 w0 ρ w

section
variable {P : Program} {ops : Array Oper} {f : Oper → Array Value → AM Value} {l : List Rec} {t' : Array Value} {h' : AH} {D N : Nat → Prop} {ρ0 : Ren} {a0 : Act} {w0 : World} {SQ : (Nat → Value) → Prop}
theorem RC.disj (c : RC ops f l t' h') {i j k : Nat} (h1 : Span (stH l h' i).next (stH l h' (i + 1)).next k) (h2 : Span (stH l h' j).next (stH l h' (j + 1)).next k) : i = j := by
  rcases Nat.lt_trichotomy i j with h | h | h
  · have := c.next_le (i := i + 1) (j := j) h; have := h1.2; have := h2.1; omega
  · exact h
  · have := c.next_le (i := j + 1) (j := i) h; have := h1.1; have := h2.2; omega
theorem RC.inSpan (c : RC ops f l t' h') {i k : Nat} (h1 : Span (stH l h' i).next (stH l h' (i + 1)).next k) : Span (stH l h' 0).next h'.next k := by
  have a1 := c.next_le (i := 0) (j := i) (Nat.zero_le _)
  have a2 := (c.monoE (i + 1)).next
  exact ⟨by have := h1.1; omega, by have := h1.2; omega⟩
theorem RC.findSpan (c : RC ops f l t' h') {k : Nat} : ∀ i, (stH l h' 0).next ≤ k → k < (stH l h' i).next → ∃ j, j < i ∧ Span (stH l h' j).next (stH l h' (j + 1)).next k
  | 0, h1, h2 => by omega
  | i + 1, h1, h2 => by
    by_cases h : k < (stH l h' i).next
    · obtain ⟨j, hj, hs⟩ := c.findSpan i h1 h
      exact ⟨j, by omega, hs⟩
    · exact ⟨i, by omega, by omega, h2⟩
theorem SL.with1 {L : Nat → Bool} {i k : Nat} (hi : i < ops.size) : SL l h' ops.size (with1 L i) k ↔ (SL l h' ops.size L k ∨ Span (stH l h' i).next (stH l h' (i + 1)).next k) := by
  unfold SL Go.Proofs.Ytljhlnpbomehkaa.with1
  constructor
  · rintro ⟨j, h1, h2, h3⟩
    by_cases hj : j = i
    · subst hj; exact .inr h3
    · rw [if_neg hj] at h2; exact .inl ⟨j, h1, h2, h3⟩
  · rintro (⟨j, h1, h2, h3⟩ | h)
    · refine ⟨j, h1, ?_, h3⟩
      by_cases hj : j = i
      · rw [if_pos hj]
      · rw [if_neg hj]; exact h2
    · exact ⟨i, hi, if_pos rfl, h⟩
theorem getD_set {a : Array Value} {d t : Nat} {v : Value} : (a.setIfInBounds d v).getD t undef = if d = t ∧ d < a.size then v else a.getD t undef := by
  rw [Array.getD_eq_getD_getElem?, Array.getD_eq_getD_getElem?, Array.getElem?_setIfInBounds]
  by_cases h : d = t
  · subst h
    by_cases h2 : d < a.size
    · simp [h2]
    · simp [h2]
  · simp [h]

/-- tmps behind an operation -/
theorem RC.putT (c : RC ops f l t' h') {L : Nat → Bool} {i : Nat} (u : Up ops L i) {o : Oper} (ho : ops[i]? = some o) {M M' : Nat → Prop} {ρ ρ' : Ren} {a : Act} {v v' : Value}
    (h1 : stT l t' (i + 1) = (match o.dst with | some d => (stT l t' i).setIfInBounds d v | none => stT l t' i)) (hsz : a.tmps.size = (stT l t' i).size)
    (hv : VR M' ρ' v v') (ht : ∀ t, VR M ρ (ovT ops l t' L ops.size t) (a.tmps.getD t undef)) (ha : Agree M ρ ρ') (hM : ∀ n, M n → M' n) :
    ∀ t, VR M' ρ' (ovT ops l t' (with1 L i) ops.size t) ((a.put o.dst v').tmps.getD t undef) := by
  intro t
  cases hd : o.dst with
  | none =>
    rw [c.oldT ho (by rw [hd]; simp)]
    exact (ht t).mono ha hM
  | some d =>
    rw [hd] at h1
    dsimp only [Act.put]
    rw [getD_set]
    by_cases hdt : d = t
    · subst hdt
      rw [c.newT u ho hd, h1]
      dsimp only
      rw [getD_set]
      by_cases hlt : d < (stT l t' i).size
      · have hlt2 : d < a.tmps.size := by rw [hsz]; exact hlt
        rw [if_pos ⟨rfl, hlt⟩, if_pos ⟨rfl, hlt2⟩]; exact hv
      · have hlt2 : ¬ d < a.tmps.size := by rw [hsz]; exact hlt
        rw [if_neg (fun h => hlt h.2), if_neg (fun h => hlt2 h.2)]
        rw [Array.getD_eq_getD_getElem?, Array.getD_eq_getD_getElem?, Array.getElem?_eq_none (Nat.le_of_not_lt hlt), Array.getElem?_eq_none (Nat.le_of_not_lt hlt2)]
        exact VR.shut rfl
    · rw [if_neg (fun h => hdt h.1), c.oldT ho (by rw [hd]; simpa using hdt)]
      exact (ht t).mono ha hM
theorem RC.sizeT (c : RC ops f l t' h') : ∀ i, (stT l t' i).size = (stT l t' 0).size := by
  intro i
  induction i with
  | zero => rfl
  | succ i ih =>
    rw [← ih]
    by_cases hi : i < ops.size
    · obtain ⟨o, ho⟩ := c.get hi
      have h1 := c.one i o ho
      unfold Go.Proofs.Ytljhlnpbomehkaa.one at h1
      split at h1
      · simp only [Option.some.injEq, Prod.mk.injEq] at h1
        rw [← h1.1]; split <;> simp
      · split at h1
        · simp only [Option.some.injEq, Prod.mk.injEq] at h1
          rw [← h1.1]; split <;> simp
        · cases h1
      · cases h1
    · rw [(c.past (i := i) (by omega)).1, (c.past (i := i + 1) (by omega)).1]

theorem RC.op (c : RC ops f l t' h') (hf : OSound P SQ ops f) (hsq : SQ ρ0.σ) (hcov : Cov D h') (hwf : WF (stH l h' 0)) (hN : New N (stH l h' 0).next h'.next) {L : Nat → Bool} {i : Nat} (u : Up ops L i)
    {ρ : Ren} {a : Act} {w : World} (I : Inv ops l t' h' D N ρ0 a0 w0 L ρ a w) {Q : Exit → Act → World → Prop} {K : Act → World → Prop}
    (hK : ∀ ρ' a' w', Inv ops l t' h' D N ρ0 a0 w0 (with1 L i) ρ' a' w' → K a' w') : wpOp P ops Q i K a w := by
  obtain ⟨o, ho⟩ := c.get u.lt
  have h1 := c.one i o ho
  have hsz : a.tmps.size = (stT l t' i).size := I.size.trans (c.sizeT i).symm
  have hlook : ∀ t ∈ o.looksAt ops, VR (NL N l h' ops.size L) ρ ((stT l t' i).getD t undef) (a.tmps.getD t undef) := fun t ht => by
    rw [← c.seesT u ho ht]; exact I.tmps t
  have hW := (c.mono1 i).2.2.1
  have hFn := (c.ok1 u.lt).2.1
  have hFD : ∀ k ∈ stF l i, D k := fun k hk => by
    by_cases hb : k < h'.base
    · exact hcov.tch k ((c.monoE (i + 1)).tch k ((c.mono1 i).2.2.2.2 k hk (by rw [← (c.monoE i).base]; exact hb)))
    · exact hcov.base k (by omega)
  unfold wpOp
  simp only [ho]
  unfold Go.Proofs.Ytljhlnpbomehkaa.one at h1
  cases hw : aWanted ops o (stT l t' i) with
  | none => rw [hw] at h1; cases h1
  | some b =>
    rw [wanted_of hw hsz hlook]
    rw [hw] at h1
    cases b with
    | false =>
      simp only [Option.some.injEq, Prod.mk.injEq] at h1
      obtain ⟨e1, e2, e3, e4⟩ := h1
      rw [if_neg (by simp)]
      have hno : ∀ k, ¬ wrH l h' i k := fun k => by
        rintro (h | h)
        · rw [← e4] at h; cases h
        · rw [← e2] at h; have := h.1; have := h.2; omega
      have hSL : ∀ k, SL l h' ops.size (with1 L i) k ↔ SL l h' ops.size L k := fun k => by
        rw [SL.with1 u.lt]
        exact ⟨fun h => h.elim id (fun hh => absurd (.inr hh) (hno k)), .inl⟩
      have hNL : NL N l h' ops.size (with1 L i) = NL N l h' ops.size L := funext fun k => propext (or_congr Iff.rfl (hSL k))
      refine hK ρ _ w ⟨?_, ?_, ?_, ?_, ?_⟩
      · rw [hNL, show ovH l h' (with1 L i) ops.size = ovH l h' L ops.size from funext fun k => c.oldH (hno k)]
        exact I.rel
      · exact c.putT u ho (v := undef) (v' := undef) (M := NL N l h' ops.size L) (ρ := ρ) e1.symm hsz (VR.shut rfl) I.tmps (Agree.refl _ _) (by rw [hNL]; exact fun _ h => h)
      · rw [← I.size]; cases o.dst <;> simp [Act.put]
      · rw [← I.defers]; cases o.dst <;> rfl
      · exact ⟨I.step.agree, fun n hn => I.step.fresh n ((hSL n).1 hn), I.step.os, I.step.tape, I.step.output, I.step.size, I.step.frame⟩
    | true =>
      dsimp only at h1
      cases hr : (f o (stT l t' i)).run { stH l h' i with base := (stH l h' i).next, tch := [], wrt := [] } with
      | none => rw [hr] at h1; cases h1
      | some p =>
        obtain ⟨v, h2⟩ := p
        rw [hr] at h1
        simp only [Option.some.injEq, Prod.mk.injEq] at h1
        obtain ⟨e1, e2, e3, e4⟩ := h1
        have m2 := (f o (stT l t' i)).mono _ _ _ hr
        have hnext : h2.next = (stH l h' (i + 1)).next := by rw [← e2]
        have hget : ∀ k, (stH l h' (i + 1)).get k = h2.get k := fun k => by rw [← e2]; rfl
        have wfi : WF (stH l h' i) := (c.mono (i := 0) (j := i) (Nat.zero_le _)).wf hwf
        rw [if_pos rfl]
        refine .inl ?_
        have hnk : ∀ n, Span (stH l h' i).next h2.next n → ¬ NL N l h' ops.size L n := fun n hn hh => by
          rw [hnext] at hn
          rcases hh with hh | ⟨j, hj, hL, hs⟩
          · exact hN n (c.inSpan hn) hh
          · have := c.disj hn hs
            subst this
            rw [u.not] at hL; cases hL
        have hDi : ∀ k, (k ∈ stF l i ∨ (stH l h' i).next ≤ k) → ((stH l h' i).get k).isSome → k ∈ stF l i ∧ k < (stH l h' i).next := fun k hk hs => by
          have hlt : k < (stH l h' i).next := by
            rcases Nat.lt_or_ge k (stH l h' i).next with h | h
            · exact h
            · rw [wfi k h] at hs; cases hs
          exact ⟨hk.resolve_right (by omega), hlt⟩
        refine hf o (Array.mem_of_getElem? ho) (stT l t' i) (NL N l h' ops.size L) ρ a (by rw [I.step.agree.σ]; exact hsq) hlook _ v h2 hr (fun k => k ∈ stF l i ∨ (stH l h' i).next ≤ k) w ⟨fun k hk => .inl ?_, fun k hk => .inr ?_⟩ wfi hnk
          ⟨?_, ?_, ?_, I.rel.sym, I.rel.glob⟩ K Q ?_
        · rw [← e3]; exact List.mem_append_right _ hk
        · rw [m2.base] at hk; exact hk
        · intro n m hn hm sn sm he
          have n1 := hDi n hn sn
          have m1 := hDi m hm sm
          exact I.rel.inj n m (hFD n n1.1) (hFD m m1.1) (by rw [c.seesH hwf u n1.1]; exact sn) (by rw [c.seesH hwf u m1.1]; exact sm) he
        · intro n ob hn hob
          have n1 := hDi n hn (by have : (stH l h' i).get n = some ob := hob; rw [this]; rfl)
          exact I.rel.holds n ob (hFD n n1.1) (by rw [c.seesH hwf u n1.1]; exact hob)
        · intro n hn sn
          have n1 := hDi n hn sn
          exact I.rel.known n (hFD n n1.1) (by rw [c.seesH hwf u n1.1]; exact sn)
        intro ρ' v' w' hs hrel hv
        have hGrow : Grow (NL N l h' ops.size L) (stH l h' i).next h2.next = NL N l h' ops.size (with1 L i) := funext fun k => propext (by
          unfold Grow NL
          rw [SL.with1 u.lt, hnext, or_assoc])
        have hrel : Rel (fun k => k ∈ stF l i ∨ (stH l h' i).next ≤ k) (NL N l h' ops.size (with1 L i)) ρ' h2.get w' := by rw [← hGrow]; exact hrel
        have hv : VR (NL N l h' ops.size (with1 L i)) ρ' v v' := by rw [← hGrow]; exact hv
        have hAg : Agree (NL N l h' ops.size L) ρ ρ' := agree_step hs hnk
        have hsub : ∀ n, NL N l h' ops.size L n → NL N l h' ops.size (with1 L i) n := fun n hn => by rw [← hGrow]; exact .inl hn
        -- what lies under a name that this operation writes
        have hwrt : ∀ m, (m ∈ stF l i ∨ (stH l h' i).next ≤ m) → m < (stH l h' i).next → ((stH l h' i).get m).isSome → (m ∈ h2.wrt ∨ (stH l h' i).next ≤ m) → m ∈ stW l i ∧ D m ∧ (ovH l h' L ops.size m).isSome := fun m h0 hm sm hw => by
          have hmF := (hDi m h0 sm).1
          refine ⟨?_, hFD m hmF, by rw [c.seesH hwf u hmF]; exact sm⟩
          rcases hw with hw | hw
          · rw [← e4]; exact hw
          · omega
        have hovlt : ∀ k, D k → (ovH l h' L ops.size k).isSome → ρ.φ k < w.heap.size := fun k hD hk => by
          cases ho2 : ovH l h' L ops.size k with
          | none => rw [ho2] at hk; cases hk
          | some ob => exact (I.rel.holds k ob hD ho2).lt
        -- a block of a name that it doesn't write
        have hkeep : ∀ k, D k → (ovH l h' L ops.size k).isSome → ¬ wrH l h' i k → w'.heap[ρ.φ k]? = w.heap[ρ.φ k]? := fun k hD hk hnw => by
          refine hs.frame _ (hovlt k hD hk) fun m h0 hm sm hw he => ?_
          obtain ⟨q1, q2, q3⟩ := hwrt m h0 hm sm hw
          have := I.rel.inj m k q2 hD q3 hk he
          subst this
          exact hnw (.inl q1)
        have hknown : ∀ k, D k → (ovH l h' L ops.size k).isSome → ρ'.φ k = ρ.φ k := fun k hD hk => hAg.φ k (I.rel.known k hD hk)
        have hDwr : ∀ k, wrH l h' i k → (k ∈ stF l i ∨ (stH l h' i).next ≤ k) := fun k hk => hk.elim (fun h => .inl (hW k h)) (fun h => .inr h.1)
        have hmix : ∀ n m, wrH l h' i n → ¬ wrH l h' i m → D m → (h2.get n).isSome → (ovH l h' L ops.size m).isSome → ρ'.φ n = ρ'.φ m → False := fun n m hn hm hDm sn sm he => by
          rw [hknown m hDm sm] at he
          by_cases hlt : n < (stH l h' i).next
          · have hnW : n ∈ stW l i := hn.resolve_right (fun h => by have := h.1; omega)
            have hnF := hW n hnW
            have sn' : ((stH l h' i).get n).isSome := m2.dom n hlt sn
            have sn2 : (ovH l h' L ops.size n).isSome := by rw [c.seesH hwf u hnF]; exact sn'
            rw [hknown n (hFD n hnF) sn2] at he
            have := I.rel.inj n m (hFD n hnF) hDm sn2 sm he
            subst this; exact hm hn
          · have hsp : Span (stH l h' i).next (stH l h' (i + 1)).next n := hn.resolve_left (fun h => hlt (hFn n (hW n h)))
            rcases hs.fresh n ⟨hsp.1, by rw [hnext]; exact hsp.2⟩ with h3 | ⟨m0, g1, g2, g3, g4, g5⟩
            · have := hovlt m hDm sm; omega
            · obtain ⟨q1, q2, q3⟩ := hwrt m0 g1 g2 g3 g4
              have := I.rel.inj m0 m q2 hDm q3 sm (by rw [← g5]; exact he)
              subst this; exact hm (.inl q1)
        refine hK ρ' _ w' ⟨⟨?_, ?_, ?_, hrel.sym, fun g hg => ⟨(hrel.glob g hg).1, (hrel.glob g hg).2⟩⟩, ?_, ?_, ?_, ⟨?_, ?_, hs.os.trans I.step.os, hs.tape.trans I.step.tape, hs.output.trans I.step.output, Nat.le_trans I.step.size hs.size, ?_⟩⟩
        · intro n m hDn hDm sn sm he
          by_cases hn : wrH l h' i n
          · rw [c.newH hwf u hn, hget] at sn
            by_cases hm : wrH l h' i m
            · rw [c.newH hwf u hm, hget] at sm
              exact hrel.inj n m (hDwr n hn) (hDwr m hm) sn sm he
            · rw [c.oldH hm] at sm
              exact (hmix n m hn hm hDm sn sm he).elim
          · rw [c.oldH hn] at sn
            by_cases hm : wrH l h' i m
            · rw [c.newH hwf u hm, hget] at sm
              exact (hmix m n hm hn hDn sm sn he.symm).elim
            · rw [c.oldH hm] at sm
              rw [hknown n hDn sn, hknown m hDm sm] at he
              exact I.rel.inj n m hDn hDm sn sm he
        · intro n ob hDn hob
          by_cases hn : wrH l h' i n
          · rw [c.newH hwf u hn, hget] at hob
            exact hrel.holds n ob (hDwr n hn) hob
          · rw [c.oldH hn] at hob
            have sn : (ovH l h' L ops.size n).isSome := by rw [hob]; rfl
            exact (I.rel.holds n ob hDn hob).mono hAg hsub (I.rel.known n hDn sn) (hkeep n hDn sn hn)
        · intro n hDn sn
          by_cases hn : wrH l h' i n
          · rw [c.newH hwf u hn, hget] at sn
            exact hrel.known n (hDwr n hn) sn
          · rw [c.oldH hn] at sn
            exact hsub n (I.rel.known n hDn sn)
        · exact c.putT u ho e1.symm hsz hv I.tmps hAg hsub
        · rw [← I.size]; cases o.dst <;> simp [Act.put]
        · rw [← I.defers]; cases o.dst <;> rfl
        · refine ⟨hs.agree.σ.trans I.step.agree.σ, fun n hn => ?_, fun n hn => ?_⟩
          · rw [hs.agree.φ n (fun hh => hn (c.inSpan ⟨hh.1, by rw [← hnext]; exact hh.2⟩)), I.step.agree.φ n hn]
          · rw [hs.agree.κ n (fun hh => hn (c.inSpan ⟨hh.1, by rw [← hnext]; exact hh.2⟩)), I.step.agree.κ n hn]
        -- a name of before that is written: one of the region's own, or one of the start
        have hback : ∀ m, m ∈ stW l i → m < (stH l h' i).next → ((stH l h' i).get m).isSome → D m →
            w0.heap.size ≤ ρ.φ m ∨ ∃ m0, D m0 ∧ m0 < (stH l h' 0).next ∧ ((stH l h' 0).get m0).isSome ∧ (m0 ∈ h'.wrt ∨ (stH l h' 0).base ≤ m0) ∧ ρ.φ m = ρ0.φ m0 := fun m hmW hlt sm hDm => by
          by_cases hm0 : m < (stH l h' 0).next
          · refine .inr ⟨m, hDm, hm0, (c.mono (i := 0) (j := i) (Nat.zero_le _)).dom m hm0 sm, ?_, ?_⟩
            · by_cases hb : m < (stH l h' 0).base
              · exact .inl ((c.monoE (i + 1)).wrt m ((c.mono1 i).2.2.2.1 m hmW (by rw [(c.mono (i := 0) (j := i) (Nat.zero_le _)).base]; exact hb)))
              · exact .inr (by omega)
            · exact I.step.agree.φ m (fun hh => by have := hh.1; omega)
          · obtain ⟨j, hj, hsp⟩ := c.findSpan i (by omega) hlt
            have hL : L j = true := (c.confH u (j := j) (k := m) (by have := u.lt; omega) (by omega) (.inr hsp) (.inl (hW m hmW))).2 hj
            exact I.step.fresh m ⟨j, by have := u.lt; omega, hL, hsp⟩
        · intro n hn
          rcases (SL.with1 u.lt).1 hn with hn | hn
          · obtain ⟨j, hj, hL, hsp⟩ := hn
            have : ρ'.φ n = ρ.φ n := hs.agree.φ n (fun hh => by
              have := c.disj hsp ⟨hh.1, by rw [← hnext]; exact hh.2⟩
              subst this; rw [u.not] at hL; cases hL)
            rw [this]
            exact I.step.fresh n ⟨j, hj, hL, hsp⟩
          · rcases hs.fresh n ⟨hn.1, by rw [hnext]; exact hn.2⟩ with h3 | ⟨m, g1, g2, g3, g4, g5⟩
            · exact .inl (Nat.le_trans I.step.size h3)
            · obtain ⟨q1, q2, q3⟩ := hwrt m g1 g2 g3 g4
              rw [g5]
              exact hback m q1 g2 g3 q2
        · intro k hk hno
          have hback : ∀ m, m ∈ stW l i → m < (stH l h' i).next → ((stH l h' i).get m).isSome → D m →
              w0.heap.size ≤ ρ.φ m ∨ ∃ m0, D m0 ∧ m0 < (stH l h' 0).next ∧ ((stH l h' 0).get m0).isSome ∧ (m0 ∈ h'.wrt ∨ (stH l h' 0).base ≤ m0) ∧ ρ.φ m = ρ0.φ m0 := fun m hmW hlt sm hDm => by
            by_cases hm0 : m < (stH l h' 0).next
            · refine .inr ⟨m, hDm, hm0, (c.mono (i := 0) (j := i) (Nat.zero_le _)).dom m hm0 sm, ?_, ?_⟩
              · by_cases hb : m < (stH l h' 0).base
                · exact .inl ((c.monoE (i + 1)).wrt m ((c.mono1 i).2.2.2.1 m hmW (by rw [(c.mono (i := 0) (j := i) (Nat.zero_le _)).base]; exact hb)))
                · exact .inr (by omega)
              · exact I.step.agree.φ m (fun hh => by have := hh.1; omega)
            · obtain ⟨j, hj, hsp⟩ := c.findSpan i (by omega) hlt
              have hL : L j = true := (c.confH u (j := j) (k := m) (by have := u.lt; omega) (by omega) (.inr hsp) (.inl (hW m hmW))).2 hj
              exact I.step.fresh m ⟨j, by have := u.lt; omega, hL, hsp⟩
          rw [hs.frame k (Nat.lt_of_lt_of_le hk I.step.size) ?_, I.step.frame k hk hno]
          intro m g1 g2 g3 g4 he
          obtain ⟨q1, q2, q3⟩ := hwrt m g1 g2 g3 g4
          rcases hback m q1 g2 g3 q2 with h3 | ⟨m0, p1, p2, p3, p4, p5⟩
          · omega
          · exact hno m0 p1 p2 p3 p4 (by rw [← p5]; exact he)
end
end Go.Proofs.Ytljhlnpbomehkaa
