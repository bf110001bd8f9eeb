/- An evaluator of Go code whose memory has names of its own (3): a region in whatever order. -/
import Derived.Test.YtljhlnpbomehkaaEwB
namespace Go.Proofs.Ytljhlnpbomehkaa
set_option linter.unusedVariables false
set_option linter.unusedSimpArgs false

def aEv (ts : Array Value) : Operand → Value
  | .tmp t => ts.getD t undef
  | .const v => v
  | .global g => .pointer (some ⟨g, 0, none⟩)
  | .func f => .func (.func f) #[] #[]
def okOpd : Operand → Bool
  | .const v => shut v
  | .global _ => false
  | _ => true
def okOpdG (G : List Nat) : Operand → Bool
  | .global g => G.contains g
  | x => okOpd x
theorem okOpdG_of {G : List Nat} {x : Operand} (h : okOpd x = true) : okOpdG G x = true := by
  cases x with
  | global g => cases h
  | _ => exact h
/-- one operation: what it leaves -/
def OSound (P : Program) (SQ : (Nat → Value) → Prop) (ops : Array Oper) (f : Oper → Array Value → AM Value) : Prop :=
  ∀ o, o ∈ ops → ∀ (ts : Array Value) (N : Nat → Prop) (ρ : Ren) (a : Act), SQ ρ.σ → (∀ t ∈ o.looksAt ops, VR N ρ (ts.getD t undef) (a.tmps.getD t undef)) →
    ∀ h v h', (f o ts).run h = some (v, h') → ∀ (D : Nat → Prop) (w : World), Cov D h' → WF h → New N h.next h'.next → Rel D N ρ h.get w →
      ∀ (K : Act → World → Prop) (Q : Exit → Act → World → Prop), (∀ ρ' v' w', Step D h ρ w h' ρ' w' → Rel D (Grow N h.next h'.next) ρ' h'.get w' → VR (Grow N h.next h'.next) ρ' v v' → K (a.put o.dst v') w') →
        o.wp P a w K Q

/-- a bool, or none, of what is no symbol -/
def boolOf : Value → Option (Option Bool)
  | .bool b => some (some b)
  | .tuple vs => if vs.size = 0 then some none else none
  | _ => none
/-- whether it is wanted; none: that cannot be said -/
def aWanted (ops : Array Oper) (o : Oper) (ts : Array Value) : Option Bool :=
  match o.guard with
  | none => some true
  | some (j, want) =>
    match (ops[j]?).bind (·.dst) with
    | none => none
    | some t => if t < ts.size then (match boolOf (ts.getD t undef) with
      | some x => some (x == some want)
      | none => none) else none
theorem boolOf_ren {ops : Array Oper} {tm : Array Value} {j t : Nat} {ρ : Ren} {v : Value} {x : Option Bool} (hd : (ops[j]?).bind (·.dst) = some t) (ht : tm[t]? = some (ren ρ v)) (h : boolOf v = some x) : yielded ops tm j = x := by
  unfold yielded
  rw [hd, Option.bind_some, ht]
  cases v with
  | bool b => simp [boolOf] at h; simp [ren, h]
  | tuple vs =>
    simp only [boolOf] at h
    split at h
    · injection h with h; subst h; simp [ren]
    · cases h
  | _ => simp [boolOf] at h
theorem wanted_of {ops : Array Oper} {o : Oper} {ts : Array Value} {N : Nat → Prop} {ρ : Ren} {tm : Array Value} {b : Bool} (h : aWanted ops o ts = some b) (hs : tm.size = ts.size)
    (hv : ∀ t ∈ o.looksAt ops, VR N ρ (ts.getD t undef) (tm.getD t undef)) : Region.wanted o (yielded ops tm) = b := by
  unfold aWanted at h
  unfold Region.wanted
  cases hg : o.guard with
  | none => rw [hg] at h; simpa using h
  | some g =>
    obtain ⟨j, want⟩ := g
    rw [hg] at h
    dsimp only at h ⊢
    cases hd : (ops[j]?).bind (·.dst) with
    | none => rw [hd] at h; cases h
    | some t =>
      rw [hd] at h
      dsimp only at h
      have hl : t ∈ o.looksAt ops := by
        unfold Oper.looksAt
        refine List.mem_append_right _ ?_
        simp only [hg, hd]; simp
      have hvt := (hv t hl).eq
      by_cases hlt : t < ts.size
      · rw [if_pos hlt] at h
        have hlt2 : t < tm.size := by rw [hs]; exact hlt
        have htm : tm[t]? = some (tm.getD t undef) := by
          rw [Array.getElem?_eq_getElem hlt2, Array.getD, dif_pos hlt2]; rfl
        cases hx : boolOf (ts.getD t undef) with
        | none => rw [hx] at h; cases h
        | some x =>
          rw [hx] at h
          rw [boolOf_ren (ρ := ρ) hd (by rw [htm, hvt]) hx]
          injection h
      · rw [if_neg hlt] at h; cases h

structure Rec where
  ts : Array Value
  h : AH
  F : List Nat
  W : List Nat

def noteAll (base : Nat) : List Nat → List Nat → List Nat
  | [], l => l
  | n :: r, l => noteAll base r (note base n l)
theorem mem_noteAll_of {b k : Nat} : ∀ {x l : List Nat}, k ∈ l → k ∈ noteAll b x l
  | [], _, h => h
  | n :: r, l, h => mem_noteAll_of (x := r) (mem_note_of h)
theorem mem_noteAll {b k : Nat} : ∀ {x l : List Nat}, k ∈ x → k < b → k ∈ noteAll b x l
  | n :: r, l, h, hb => by
    rcases List.mem_cons.1 h with rfl | h
    · exact mem_noteAll_of (x := r) (mem_note hb)
    · exact mem_noteAll (x := r) h hb
/-- one operation of a region, by itself: names of before are noted -/
def one (ops : Array Oper) (f : Oper → Array Value → AM Value) (o : Oper) (ts : Array Value) (h : AH) : Option (Array Value × AH × List Nat × List Nat) :=
  match aWanted ops o ts with
  | some false => some ((match o.dst with | some d => ts.setIfInBounds d undef | none => ts), h, [], [])
  | some true =>
    match (f o ts).run { h with base := h.next, tch := [], wrt := [] } with
    | some (v, h1) => some ((match o.dst with | some d => ts.setIfInBounds d v | none => ts), { h1 with base := h.base, tch := noteAll h.base (h1.wrt ++ h1.tch) h.tch, wrt := noteAll h.base h1.wrt h.wrt }, h1.wrt ++ h1.tch, h1.wrt)
    | none => none
  | none => none
def regGo (ops : Array Oper) (f : Oper → Array Value → AM Value) : List Oper → Array Value → AH → Option (List Rec × Array Value × AH)
  | [], ts, h => some ([], ts, h)
  | o :: r, ts, h => match one ops f o ts h with
    | none => none
    | some (ts1, h1, F, W) => match regGo ops f r ts1 h1 with
      | none => none
      | some (l, t', h') => some (⟨ts, h, F, W⟩ :: l, t', h')

theorem one_mono {ops : Array Oper} {f : Oper → Array Value → AM Value} {o : Oper} {ts : Array Value} {h : AH} {ts1 : Array Value} {h1 : AH} {F W : List Nat} (e : one ops f o ts h = some (ts1, h1, F, W)) :
    Mono h h1 ∧ (∀ n, n < h.next → n ∉ W → h1.get n = h.get n) ∧ (∀ n ∈ W, n ∈ F) ∧ (∀ n ∈ W, n < h.base → n ∈ h1.wrt) ∧ (∀ n ∈ F, n < h.base → n ∈ h1.tch) := by
  unfold one at e
  split at e
  · simp only [Option.some.injEq, Prod.mk.injEq] at e
    obtain ⟨_, rfl, rfl, rfl⟩ := e
    exact ⟨Mono.refl _, fun _ _ _ => rfl, by simp, by simp, by simp⟩
  · split at e
    · rename_i v h2 hr
      have m := (f o ts).mono _ _ _ hr
      simp only [Option.some.injEq, Prod.mk.injEq] at e
      obtain ⟨_, rfl, rfl, rfl⟩ := e
      have hn := m.next
      refine ⟨⟨m.next, rfl, fun n hn => mem_noteAll_of hn, fun n hn => mem_noteAll_of hn, m.dom, fun n hlt hb hw => ?_, m.wf⟩, fun n hlt hw => ?_, fun n hn => List.mem_append_left _ hn, fun n hn hb => mem_noteAll hn hb, fun n hn hb => mem_noteAll hn hb⟩
      · exact m.keep n hlt (show n < h.next from hlt) (fun hh => hw (mem_noteAll hh hb))
      · exact m.keep n hlt (show n < h.next from hlt) hw
    · cases e
  · cases e

/-- the state ahead of operation i -/
def stT (l : List Rec) (t' : Array Value) (i : Nat) : Array Value := ((l[i]?).map (·.ts)).getD t'
def stH (l : List Rec) (h' : AH) (i : Nat) : AH := ((l[i]?).map (·.h)).getD h'
def stF (l : List Rec) (i : Nat) : List Nat := ((l[i]?).map (·.F)).getD []
def stW (l : List Rec) (i : Nat) : List Nat := ((l[i]?).map (·.W)).getD []
theorem regGo_spec {ops : Array Oper} {f : Oper → Array Value → AM Value} : ∀ {L : List Oper} {ts : Array Value} {h : AH} {l : List Rec} {t' : Array Value} {h' : AH}, regGo ops f L ts h = some (l, t', h') →
    l.length = L.length ∧ stT l t' 0 = ts ∧ stH l h' 0 = h ∧ ∀ (i : Nat) (o : Oper), L[i]? = some o → one ops f o (stT l t' i) (stH l h' i) = some (stT l t' (i + 1), stH l h' (i + 1), stF l i, stW l i)
  | [], ts, h, l, t', h', e => by
    simp only [regGo, Option.some.injEq, Prod.mk.injEq] at e
    obtain ⟨rfl, rfl, rfl⟩ := e
    exact ⟨rfl, rfl, rfl, fun i o ho => by simp at ho⟩
  | o :: r, ts, h, l, t', h', e => by
    unfold regGo at e
    split at e
    · cases e
    · rename_i ts1 h1 F W h0
      split at e
      · cases e
      · rename_i l2 t2 h2 hr
        simp only [Option.some.injEq, Prod.mk.injEq] at e
        obtain ⟨rfl, rfl, rfl⟩ := e
        obtain ⟨a1, a2, a3, a4⟩ := regGo_spec hr
        refine ⟨by simp [a1], rfl, rfl, fun i o' ho' => ?_⟩
        cases i with
        | zero =>
          simp only [List.getElem?_cons_zero, Option.some.injEq] at ho'
          subst ho'
          have e1 : stT (⟨ts, h, F, W⟩ :: l2) t2 1 = stT l2 t2 0 := by simp [stT]
          have e2 : stH (⟨ts, h, F, W⟩ :: l2) h2 1 = stH l2 h2 0 := by simp [stH]
          rw [e1, e2, a2, a3]
          exact h0
        | succ i =>
          have := a4 i o' (by simpa using ho')
          simpa [stT, stH, stF, stW] using this

/-- one over another -/
def ov {α X : Type} (s : Nat → X → α) (wr : Nat → X → Prop) [∀ i x, Decidable (wr i x)] (L : Nat → Bool) : Nat → X → α
  | 0, x => s 0 x
  | k + 1, x => if L k = true ∧ wr k x then s (k + 1) x else ov s wr L k x
theorem ov_eq {α X : Type} {s : Nat → X → α} {wr : Nat → X → Prop} [∀ i x, Decidable (wr i x)] {L : Nat → Bool} {i : Nat} {x : X} (hs : ∀ k, ¬ wr k x → s (k + 1) x = s k x) :
    ∀ n, i ≤ n → (∀ k, k < n → wr k x → (L k = true ↔ k < i)) → ov s wr L n x = s i x := by
  have key : ∀ n, (∀ k, k < n → wr k x → (L k = true ↔ k < i)) → ov s wr L n x = s (min n i) x := by
    intro n
    induction n with
    | zero => intro _; simp [ov]
    | succ n ih =>
      intro h
      have ih := ih (fun k hk => h k (by omega))
      unfold ov
      by_cases hw : wr n x
      · have hi := h n (by omega) hw
        by_cases hl : L n = true
        · rw [if_pos ⟨hl, hw⟩]
          have := hi.1 hl
          rw [Nat.min_eq_left (by omega)]
        · rw [if_neg (fun hh => hl hh.1), ih]
          have : ¬ n < i := fun hh => hl (hi.2 hh)
          rw [Nat.min_eq_right (by omega), Nat.min_eq_right (by omega)]
      · rw [if_neg (fun hh => hw hh.2), ih]
        by_cases hn : n < i
        · rw [Nat.min_eq_left (by omega), Nat.min_eq_left (by omega), hs n hw]
        · rw [Nat.min_eq_right (by omega), Nat.min_eq_right (by omega)]
  intro n hn h
  rw [key n h, Nat.min_eq_right hn]
theorem ov_congr {α X : Type} {s : Nat → X → α} {wr : Nat → X → Prop} [∀ i x, Decidable (wr i x)] {L L' : Nat → Bool} {x : X} :
    ∀ n, (∀ k, k < n → wr k x → L k = L' k) → ov s wr L n x = ov s wr L' n x := by
  intro n
  induction n with
  | zero => intro _; rfl
  | succ n ih =>
    intro h
    unfold ov
    rw [ih (fun k hk => h k (by omega))]
    by_cases hw : wr n x
    · rw [h n (by omega) hw]
    · simp [hw]
end Go.Proofs.Ytljhlnpbomehkaa
