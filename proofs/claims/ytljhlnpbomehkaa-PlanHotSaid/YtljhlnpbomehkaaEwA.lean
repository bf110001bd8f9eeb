/- An evaluator of Go code whose memory has names of its own (1): values by a renaming, the heap, programs over it. -/
import Derived.Orders
import Derived.LoopN
import Derived.Scope
import Derived.Below
namespace Go.Proofs.Ytljhlnpbomehkaa
set_option linter.unusedVariables false
set_option linter.unusedSimpArgs false

/-- where names lie, how much open rows hold, what the symbols are -/
structure Ren where
  φ : Nat → Nat
  κ : Nat → Nat
  σ : Nat → Value

def capTop : Nat := 4611686018427387904
def renA (ρ : Ren) (a : Addr) : Addr := { block := ρ.φ a.block, off := a.off, spot := a.spot }
/-- where a slice begins: one with a spot, there if nothing is left behind it -/
def renB (ρ : Ren) (a : Addr) (c : Nat) : Addr :=
  match a.spot with
  | none => renA ρ a
  | some z => if capTop ≤ c ∧ ρ.κ a.block ≤ c - capTop then { block := ρ.φ a.block, off := z, spot := none } else { block := ρ.φ a.block, off := a.off, spot := none }
def renCap (ρ : Ren) (b c : Nat) : Nat := if capTop ≤ c then ρ.κ b - (c - capTop) else c
def ren (ρ : Ren) : Value → Value
  | .pointer (some a) => .pointer (some (renA ρ a))
  | .slice (some a) n c => .slice (some (renB ρ a c)) n (renCap ρ a.block c)
  | .map (some r) => .map (some (ρ.φ r))
  | .chan (some k) => ρ.σ k
  | .func f x y => .func f (x.map fun v => ren ρ v) (y.map fun v => ren ρ v)
  | .iface t v => .iface t (ren ρ v)
  | .agg cs => .agg (cs.map fun v => ren ρ v)
  | .tuple vs => .tuple (vs.map fun v => ren ρ v)
  | v => v

/-- no name, no symbol in it -/
def shutL (f : Value → Bool) : List Value → Bool
  | [] => true
  | v :: r => f v && shutL f r
def shutN : Nat → Value → Bool
  | _, .bool _ | _, .int _ _ | _, .float _ _ | _, .complex _ _ _ | _, .string _ => true
  | _, .pointer none | _, .slice none _ _ | _, .map none | _, .chan none | _, .nilFunc | _, .nilIface => true
  | n + 1, .func _ x y => shutL (shutN n) x.toList && shutL (shutN n) y.toList
  | n + 1, .iface _ v => shutN n v
  | n + 1, .agg cs => shutL (shutN n) cs.toList
  | n + 1, .tuple vs => shutL (shutN n) vs.toList
  | _, _ => false
def shut (v : Value) : Bool := shutN 20 v
theorem shutL_all {f : Value → Bool} : ∀ {l : List Value}, shutL f l = true → ∀ v ∈ l, f v = true
  | [], _, v, hv => by cases hv
  | x :: r, h, v, hv => by
    simp only [shutL, Bool.and_eq_true] at h
    rcases List.mem_cons.1 hv with rfl | hv
    · exact h.1
    · exact shutL_all h.2 v hv
theorem map_same {f : Value → Value} {a : Array Value} (h : ∀ v ∈ a.toList, f v = v) : a.map f = a := by
  apply Array.ext'
  rw [Array.toList_map]
  have : a.toList.map f = a.toList.map id := List.map_congr_left (fun v hv => h v hv)
  rw [this, List.map_id]
theorem ren_shutN (ρ : Ren) : ∀ (n : Nat) (v : Value), shutN n v = true → ren ρ v = v := by
  intro n
  induction n with
  | zero =>
    intro v h
    cases v with
    | pointer a => cases a <;> simp_all [shutN, ren]
    | slice a n c => cases a <;> simp_all [shutN, ren]
    | map a => cases a <;> simp_all [shutN, ren]
    | chan a => cases a <;> simp_all [shutN, ren]
    | _ => simp_all [shutN, ren]
  | succ n ih =>
    intro v h
    cases v with
    | pointer a => cases a <;> simp_all [shutN, ren]
    | slice a n c => cases a <;> simp_all [shutN, ren]
    | map a => cases a <;> simp_all [shutN, ren]
    | chan a => cases a <;> simp_all [shutN, ren]
    | func f x y =>
      simp only [shutN, Bool.and_eq_true] at h
      simp only [ren]
      rw [map_same fun v hv => ih v (shutL_all h.1 v hv), map_same fun v hv => ih v (shutL_all h.2 v hv)]
    | iface t v => simp only [shutN] at h; simp only [ren]; rw [ih v h]
    | agg cs => simp only [shutN] at h; simp only [ren]; rw [map_same fun v hv => ih v (shutL_all h v hv)]
    | tuple cs => simp only [shutN] at h; simp only [ren]; rw [map_same fun v hv => ih v (shutL_all h v hv)]
    | _ => simp_all [shutN, ren]
theorem ren_shut (ρ : Ren) {v : Value} (h : shut v = true) : ren ρ v = v := ren_shutN ρ 20 v h

/-- two renamings that are one upon N -/
structure Agree (N : Nat → Prop) (ρ ρ' : Ren) : Prop where
  σ : ρ'.σ = ρ.σ
  φ : ∀ n, N n → ρ'.φ n = ρ.φ n
  κ : ∀ n, N n → ρ'.κ n = ρ.κ n
theorem Agree.refl (N : Nat → Prop) (ρ : Ren) : Agree N ρ ρ := ⟨rfl, fun _ _ => rfl, fun _ _ => rfl⟩
theorem Agree.trans {N N' : Nat → Prop} {a b c : Ren} (h : Agree N a b) (k : Agree N' b c) (hN : ∀ n, N n → N' n) : Agree N a c :=
  ⟨k.σ.trans h.σ, fun n hn => (k.φ n (hN n hn)).trans (h.φ n hn), fun n hn => (k.κ n (hN n hn)).trans (h.κ n hn)⟩
theorem Agree.symm {N : Nat → Prop} {a b : Ren} (h : Agree N a b) : Agree N b a := ⟨h.σ.symm, fun n hn => (h.φ n hn).symm, fun n hn => (h.κ n hn).symm⟩
/-- v' is v, whatever becomes of names that are not known -/
def VR (N : Nat → Prop) (ρ : Ren) (v v' : Value) : Prop := ∀ ρ', Agree N ρ ρ' → ren ρ' v = v'
theorem VR.eq {N : Nat → Prop} {ρ : Ren} {v v' : Value} (h : VR N ρ v v') : ren ρ v = v' := h ρ (Agree.refl _ _)
theorem VR.mono {N N' : Nat → Prop} {ρ ρ' : Ren} {v v' : Value} (h : VR N ρ v v') (ha : Agree N ρ ρ') (hN : ∀ n, N n → N' n) : VR N' ρ' v v' :=
  fun r hr => h r (ha.trans hr hN)
theorem VR.shut {N : Nat → Prop} {ρ : Ren} {v : Value} (h : shut v = true) : VR N ρ v v := fun r _ => ren_shut r h
/-- lists, value by value -/
def LR (N : Nat → Prop) (ρ : Ren) (l l' : List Value) : Prop := ∀ ρ', Agree N ρ ρ' → l.map (ren ρ') = l'
theorem LR.length {N : Nat → Prop} {ρ : Ren} {l l' : List Value} (h : LR N ρ l l') : l'.length = l.length := by
  have := h ρ (Agree.refl _ _); rw [← this]; simp
theorem LR.get {N : Nat → Prop} {ρ : Ren} {l l' : List Value} (h : LR N ρ l l') {i : Nat} {v : Value} (hv : l[i]? = some v) : ∃ v', l'[i]? = some v' ∧ VR N ρ v v' := by
  refine ⟨ren ρ v, ?_, fun r hr => ?_⟩
  · rw [← h ρ (Agree.refl _ _), List.getElem?_map, hv]; rfl
  · have h1 := h r hr
    have h2 := h ρ (Agree.refl _ _)
    have e : (l.map (ren r))[i]? = (l.map (ren ρ))[i]? := by rw [h1, h2]
    rw [List.getElem?_map, List.getElem?_map, hv] at e
    simpa using e
theorem LR.set {N : Nat → Prop} {ρ : Ren} {l l' : List Value} (h : LR N ρ l l') (i : Nat) {v v' : Value} (hv : VR N ρ v v') : LR N ρ (l.set i v) (l'.set i v') := fun r hr => by
  rw [List.map_set, h r hr, hv r hr]
theorem LR.append {N : Nat → Prop} {ρ : Ren} {l l' m m' : List Value} (h : LR N ρ l l') (k : LR N ρ m m') : LR N ρ (l ++ m) (l' ++ m') := fun r hr => by
  rw [List.map_append, h r hr, k r hr]
theorem LR.mono {N N' : Nat → Prop} {ρ ρ' : Ren} {l l' : List Value} (h : LR N ρ l l') (ha : Agree N ρ ρ') (hN : ∀ n, N n → N' n) : LR N' ρ' l l' :=
  fun r hr => h r (ha.trans hr hN)
theorem LR.eq {N : Nat → Prop} {ρ : Ren} {l l' : List Value} (h : LR N ρ l l') : l.map (ren ρ) = l' := h ρ (Agree.refl _ _)

/-- what lies behind a name: a row of cells (0: just these; an element's size: these, and room), or a map -/
inductive AObj
  | row (cs : List Value) (e : TypeId) (op : Nat) (marked : Bool)
  | map (es : List MapEntry) (clock : Nat)
  | iter (m : Option Nat) (since : Nat) (seen : List Nat) (stepped : Nat)

/-- a heap by names -/
inductive Tr
  | lf
  | nd (o : Option AObj) (l r : Tr)
def Tr.get : Tr → Nat → Option AObj
  | .lf, _ => none
  | .nd o l r, n => match n with
    | 0 => o
    | k + 1 => if k % 2 = 0 then l.get (k / 2) else r.get (k / 2)
def Tr.set (f : Nat) (t : Tr) (n : Nat) (v : Option AObj) : Tr :=
  match f with
  | 0 => t
  | f + 1 =>
    match t with
    | .lf => (match n with
      | 0 => .nd v .lf .lf
      | k + 1 => if k % 2 = 0 then .nd none (Tr.set f .lf (k / 2) v) .lf else .nd none .lf (Tr.set f .lf (k / 2) v))
    | .nd o l r => (match n with
      | 0 => .nd v l r
      | k + 1 => if k % 2 = 0 then .nd o (Tr.set f l (k / 2) v) r else .nd o l (Tr.set f r (k / 2) v))
theorem Tr.get_lf (n : Nat) : Tr.get .lf n = none := by simp [Tr.get]
theorem Tr.get_set_other : ∀ (f : Nat) (t : Tr) (n m : Nat) (v : Option AObj), m ≠ n → (t.set f n v).get m = t.get m := by
  intro f
  induction f with
  | zero => intro t n m v h; rfl
  | succ f ih =>
    intro t n m v h
    cases t with
    | lf =>
      cases n with
      | zero => cases m with
        | zero => exact absurd rfl h
        | succ m => simp [Tr.set, Tr.get, Tr.get_lf]
      | succ n =>
        cases m with
        | zero => simp only [Tr.set]; split <;> simp [Tr.get]
        | succ m =>
          simp only [Tr.set]
          by_cases hn : n % 2 = 0 <;> by_cases hm : m % 2 = 0 <;> simp only [hn, hm, if_true, if_false, Tr.get] <;> first
            | rw [ih _ _ _ _ (by omega), Tr.get_lf]
            | simp [Tr.get_lf]
    | nd o l r =>
      cases n with
      | zero => cases m with
        | zero => exact absurd rfl h
        | succ m => simp [Tr.set, Tr.get]
      | succ n =>
        cases m with
        | zero => simp only [Tr.set]; split <;> simp [Tr.get]
        | succ m =>
          simp only [Tr.set]
          by_cases hn : n % 2 = 0 <;> by_cases hm : m % 2 = 0 <;> simp only [hn, hm, if_true, if_false, Tr.get] <;> first
            | rw [ih _ _ _ _ (by omega)]
            | rfl
theorem Tr.get_set_same : ∀ (f : Nat) (t : Tr) (n : Nat) (v : Option AObj), n < 2 ^ f - 1 → (t.set f n v).get n = v := by
  intro f
  induction f with
  | zero => intro t n v h; simp at h
  | succ f ih =>
    intro t n v h
    have hp : 2 ^ (f + 1) = 2 * 2 ^ f := by rw [Nat.pow_succ, Nat.mul_comm]
    cases t with
    | lf =>
      cases n with
      | zero => simp [Tr.set, Tr.get]
      | succ n =>
        simp only [Tr.set]
        by_cases hn : n % 2 = 0 <;> simp only [hn, if_true, if_false, Tr.get] <;> exact ih _ _ _ (by omega)
    | nd o l r =>
      cases n with
      | zero => simp [Tr.set, Tr.get]
      | succ n =>
        simp only [Tr.set]
        by_cases hn : n % 2 = 0 <;> simp only [hn, if_true, if_false, Tr.get] <;> exact ih _ _ _ (by omega)

/-- the state of the evaluator: the heap, the next name, the names below which is noted what is touched, and written -/
structure AH where
  m : Tr
  next : Nat
  base : Nat
  tch : List Nat
  wrt : List Nat
def AH.get (h : AH) (n : Nat) : Option AObj := h.m.get n
def note (base n : Nat) (l : List Nat) : List Nat := if n < base ∧ ¬ l.contains n then n :: l else l
theorem mem_note_of {b n k : Nat} {l : List Nat} (h : k ∈ l) : k ∈ note b n l := by unfold note; split; exact List.mem_cons_of_mem _ h; exact h
theorem mem_note {b n : Nat} {l : List Nat} (h : n < b) : n ∈ note b n l := by
  unfold note
  split
  · exact List.mem_cons_self
  · rename_i hh
    by_cases hm : l.contains n = true
    · simpa using hm
    · exact absurd ⟨h, hm⟩ hh
theorem of_mem_note {b n k : Nat} {l : List Nat} (h : k ∈ note b n l) : (k = n ∧ n < b) ∨ k ∈ l := by
  unfold note at h
  split at h
  · rename_i hh
    rcases List.mem_cons.1 h with h | h
    · exact .inl ⟨h, hh.1⟩
    · exact .inr h
  · exact .inr h
/-- no name from the next one on is in use -/
def WF (h : AH) : Prop := ∀ n, h.next ≤ n → h.get n = none
/-- what no step undoes -/
structure Mono (h h' : AH) : Prop where
  next : h.next ≤ h'.next
  base : h'.base = h.base
  tch : ∀ n ∈ h.tch, n ∈ h'.tch
  wrt : ∀ n ∈ h.wrt, n ∈ h'.wrt
  dom : ∀ n, n < h.next → (h'.get n).isSome → (h.get n).isSome
  keep : ∀ n, n < h.next → n < h.base → n ∉ h'.wrt → h'.get n = h.get n
  wf : WF h → WF h'
theorem Mono.refl (h : AH) : Mono h h := ⟨Nat.le_refl _, rfl, fun _ h => h, fun _ h => h, fun _ _ h => h, fun _ _ _ _ => rfl, id⟩
theorem Mono.trans {a b c : AH} (h : Mono a b) (k : Mono b c) : Mono a c :=
  ⟨Nat.le_trans h.next k.next, k.base.trans h.base, fun n hn => k.tch n (h.tch n hn), fun n hn => k.wrt n (h.wrt n hn),
   fun n hn hs => h.dom n hn (k.dom n (Nat.lt_of_lt_of_le hn h.next) hs),
   fun n hn hb hw => (k.keep n (Nat.lt_of_lt_of_le hn h.next) (by rw [h.base]; exact hb) hw).trans (h.keep n hn hb (fun hh => hw (k.wrt n hh))), fun x => k.wf (h.wf x)⟩

/-- a program over heaps by names -/
structure AM (α : Type) where
  run : AH → Option (α × AH)
  mono : ∀ h x h', run h = some (x, h') → Mono h h'
def AM.pure {α : Type} (x : α) : AM α := ⟨fun h => some (x, h), fun h y h' e => by injection e with e; injection e with e1 e2; subst e2; exact Mono.refl _⟩
def AM.fail {α : Type} : AM α := ⟨fun _ => none, fun _ _ _ e => by cases e⟩
def AM.bind {α β : Type} (m : AM α) (f : α → AM β) : AM β :=
  ⟨fun h => match m.run h with
    | some (x, h') => (f x).run h'
    | none => none, fun h y h' e => by
    cases hm : m.run h with
    | none => rw [hm] at e; cases e
    | some p =>
      obtain ⟨x, h1⟩ := p
      rw [hm] at e
      exact (m.mono _ _ _ hm).trans ((f x).mono _ _ _ e)⟩
theorem AM.bind_some {α β : Type} {m : AM α} {f : α → AM β} {h h' : AH} {y : β} (e : (m.bind f).run h = some (y, h')) : ∃ x h1, m.run h = some (x, h1) ∧ (f x).run h1 = some (y, h') := by
  cases hm : m.run h with
  | none => simp [AM.bind, hm] at e
  | some p => obtain ⟨x, h1⟩ := p; exact ⟨x, h1, rfl, by simpa [AM.bind, hm] using e⟩
theorem AM.pure_some {α : Type} {x y : α} {h h' : AH} (e : (AM.pure x).run h = some (y, h')) : y = x ∧ h' = h := by
  simp [AM.pure] at e; exact ⟨e.1.symm, e.2.symm⟩
def AM.ofOpt {α : Type} : Option α → AM α
  | some x => .pure x
  | none => .fail
/-- what lies behind a name -/
def AM.look (n : Nat) : AM AObj := ⟨fun h => match h.get n with
    | some o => some (o, { h with tch := note h.base n h.tch })
    | none => none, fun h x h' e => by
    split at e
    · injection e with e; injection e with e1 e2; subst e2
      exact ⟨Nat.le_refl _, rfl, fun _ h => mem_note_of h, fun _ h => h, fun _ _ h => h, fun _ _ _ _ => rfl, id⟩
    · cases e⟩
/-- it lies there from now on; none: nothing more is said of it -/
def AM.put (n : Nat) (o : Option AObj) : AM Unit := ⟨fun h => match h.get n with
    | some _ => some ((), { h with m := h.m.set 64 n o, tch := note h.base n h.tch, wrt := note h.base n h.wrt })
    | none => none, fun h x h' e => by
    split at e
    · rename_i o' ho'
      injection e with e; injection e with e1 e2; subst e2
      refine ⟨Nat.le_refl _, rfl, fun _ h => mem_note_of h, fun _ h => mem_note_of h, fun k _ hk => ?_, fun k hk hb hw => ?_, fun hwf k hk => ?_⟩
      · by_cases e : k = n
        · subst e; rw [ho']; rfl
        · have e2 := Tr.get_set_other 64 h.m n k o e
          unfold AH.get at hk ⊢; dsimp only at hk; rwa [e2] at hk
      · by_cases e : k = n
        · subst e; exact absurd (mem_note hb) hw
        · exact Tr.get_set_other 64 h.m n k o e
      · have hne : k ≠ n := fun e => by have := hwf k hk; rw [e, ho'] at this; cases this
        exact (Tr.get_set_other 64 h.m n k o hne).trans (hwf k hk)
    · cases e⟩
/-- a new name -/
def AM.new (o : AObj) : AM Nat := ⟨fun h => if h.next < 4611686018427387904 then some (h.next, { h with m := h.m.set 64 h.next (some o), next := h.next + 1 }) else none, fun h x h' e => by
    split at e
    · injection e with e; injection e with e1 e2; subst e2
      refine ⟨Nat.le_succ _, rfl, fun _ h => h, fun _ h => h, fun k hk hs => ?_, fun k hk _ _ => ?_, fun hwf k hk => ?_⟩
      · have e2 := Tr.get_set_other 64 h.m h.next k (some o) (by omega)
        unfold AH.get at hs ⊢; dsimp only at hs; rwa [e2] at hs
      · exact Tr.get_set_other 64 h.m h.next k (some o) (by omega)
      · have hk : h.next + 1 ≤ k := hk
        exact (Tr.get_set_other 64 h.m h.next k (some o) (by omega)).trans (hwf k (by omega))
    · cases e⟩
end Go.Proofs.Ytljhlnpbomehkaa
