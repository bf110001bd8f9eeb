/- An evaluator of Go code whose memory has names of its own (1 of 9). -/
import Derived.Orders
import Derived.LoopN
import Derived.Scope
import Derived.Below
import Derived.Maps.AppendAt
import Derived.Deep.MidRow
import Derived.Laws.Entries
/- An evaluator of Go code whose memory has names of its own (1): values by a renaming, the heap, programs over it. -/
namespace Go.Proofs.Ytfakfnekcgkelaa
set_option linter.unusedVariables false
set_option linter.unusedSimpArgs false

/-- where names lie, how much open rows hold, what the symbols are -/
structure Ren where
  φ : Nat → Nat
  κ : Nat → Nat
  σ : Nat → Value

def capTop : Nat := 4611686018427387904
def renA (ρ : Ren) (a : Addr) : Addr := { block := ρ.φ a.block, off := a.off, spot := a.spot }
/-- where a slice begins: one with a spot, there if nothing is left behind it -/
def renB (ρ : Ren) (a : Addr) (c : Nat) : Addr :=
  match a.spot with
  | none => renA ρ a
  | some z => if capTop ≤ c ∧ ρ.κ a.block ≤ c - capTop then { block := ρ.φ a.block, off := z, spot := none } else { block := ρ.φ a.block, off := a.off, spot := none }
def renCap (ρ : Ren) (b c : Nat) : Nat := if capTop ≤ c then ρ.κ b - (c - capTop) else c
def ren (ρ : Ren) : Value → Value
  | .pointer (some a) => .pointer (some (renA ρ a))
  | .slice (some a) n c => .slice (some (renB ρ a c)) n (renCap ρ a.block c)
  | .map (some r) => .map (some (ρ.φ r))
  | .chan (some k) => ρ.σ k
  | .func f x y => .func f (x.map fun v => ren ρ v) (y.map fun v => ren ρ v)
  | .iface t v => .iface t (ren ρ v)
  | .agg cs => .agg (cs.map fun v => ren ρ v)
  | .tuple vs => .tuple (vs.map fun v => ren ρ v)
  | v => v

/-- no name, no symbol in it -/
def shutL (f : Value → Bool) : List Value → Bool
  | [] => true
  | v :: r => f v && shutL f r
def shutN : Nat → Value → Bool
  | _, .bool _ | _, .int _ _ | _, .float _ _ | _, .complex _ _ _ | _, .string _ => true
  | _, .pointer none | _, .slice none _ _ | _, .map none | _, .chan none | _, .nilFunc | _, .nilIface => true
  | n + 1, .func _ x y => shutL (shutN n) x.toList && shutL (shutN n) y.toList
  | n + 1, .iface _ v => shutN n v
  | n + 1, .agg cs => shutL (shutN n) cs.toList
  | n + 1, .tuple vs => shutL (shutN n) vs.toList
  | _, _ => false
def shut (v : Value) : Bool := shutN 20 v
theorem shutL_all {f : Value → Bool} : ∀ {l : List Value}, shutL f l = true → ∀ v ∈ l, f v = true
  | [], _, v, hv => by cases hv
  | x :: r, h, v, hv => by
    simp only [shutL, Bool.and_eq_true] at h
    rcases List.mem_cons.1 hv with rfl | hv
    · exact h.1
    · exact shutL_all h.2 v hv
theorem map_same {f : Value → Value} {a : Array Value} (h : ∀ v ∈ a.toList, f v = v) : a.map f = a := by
  apply Array.ext'
  rw [Array.toList_map]
  have : a.toList.map f = a.toList.map id := List.map_congr_left (fun v hv => h v hv)
  rw [this, List.map_id]
theorem ren_shutN (ρ : Ren) : ∀ (n : Nat) (v : Value), shutN n v = true → ren ρ v = v := by
  intro n
  induction n with
  | zero =>
    intro v h
    cases v with
    | pointer a => cases a <;> simp_all [shutN, ren]
    | slice a n c => cases a <;> simp_all [shutN, ren]
    | map a => cases a <;> simp_all [shutN, ren]
    | chan a => cases a <;> simp_all [shutN, ren]
    | _ => simp_all [shutN, ren]
  | succ n ih =>
    intro v h
    cases v with
    | pointer a => cases a <;> simp_all [shutN, ren]
    | slice a n c => cases a <;> simp_all [shutN, ren]
    | map a => cases a <;> simp_all [shutN, ren]
    | chan a => cases a <;> simp_all [shutN, ren]
    | func f x y =>
      simp only [shutN, Bool.and_eq_true] at h
      simp only [ren]
      rw [map_same fun v hv => ih v (shutL_all h.1 v hv), map_same fun v hv => ih v (shutL_all h.2 v hv)]
    | iface t v => simp only [shutN] at h; simp only [ren]; rw [ih v h]
    | agg cs => simp only [shutN] at h; simp only [ren]; rw [map_same fun v hv => ih v (shutL_all h v hv)]
    | tuple cs => simp only [shutN] at h; simp only [ren]; rw [map_same fun v hv => ih v (shutL_all h v hv)]
    | _ => simp_all [shutN, ren]
theorem ren_shut (ρ : Ren) {v : Value} (h : shut v = true) : ren ρ v = v := ren_shutN ρ 20 v h

/-- two renamings that are one upon N -/
structure Agree (N : Nat → Prop) (ρ ρ' : Ren) : Prop where
  σ : ρ'.σ = ρ.σ
  φ : ∀ n, N n → ρ'.φ n = ρ.φ n
  κ : ∀ n, N n → ρ'.κ n = ρ.κ n
theorem Agree.refl (N : Nat → Prop) (ρ : Ren) : Agree N ρ ρ := ⟨rfl, fun _ _ => rfl, fun _ _ => rfl⟩
theorem Agree.trans {N N' : Nat → Prop} {a b c : Ren} (h : Agree N a b) (k : Agree N' b c) (hN : ∀ n, N n → N' n) : Agree N a c :=
  ⟨k.σ.trans h.σ, fun n hn => (k.φ n (hN n hn)).trans (h.φ n hn), fun n hn => (k.κ n (hN n hn)).trans (h.κ n hn)⟩
theorem Agree.symm {N : Nat → Prop} {a b : Ren} (h : Agree N a b) : Agree N b a := ⟨h.σ.symm, fun n hn => (h.φ n hn).symm, fun n hn => (h.κ n hn).symm⟩
/-- v' is v, whatever becomes of names that are not known -/
def VR (N : Nat → Prop) (ρ : Ren) (v v' : Value) : Prop := ∀ ρ', Agree N ρ ρ' → ren ρ' v = v'
theorem VR.eq {N : Nat → Prop} {ρ : Ren} {v v' : Value} (h : VR N ρ v v') : ren ρ v = v' := h ρ (Agree.refl _ _)
theorem VR.mono {N N' : Nat → Prop} {ρ ρ' : Ren} {v v' : Value} (h : VR N ρ v v') (ha : Agree N ρ ρ') (hN : ∀ n, N n → N' n) : VR N' ρ' v v' :=
  fun r hr => h r (ha.trans hr hN)
theorem VR.shut {N : Nat → Prop} {ρ : Ren} {v : Value} (h : shut v = true) : VR N ρ v v := fun r _ => ren_shut r h
/-- lists, value by value -/
def LR (N : Nat → Prop) (ρ : Ren) (l l' : List Value) : Prop := ∀ ρ', Agree N ρ ρ' → l.map (ren ρ') = l'
theorem LR.length {N : Nat → Prop} {ρ : Ren} {l l' : List Value} (h : LR N ρ l l') : l'.length = l.length := by
  have := h ρ (Agree.refl _ _); rw [← this]; simp
theorem LR.get {N : Nat → Prop} {ρ : Ren} {l l' : List Value} (h : LR N ρ l l') {i : Nat} {v : Value} (hv : l[i]? = some v) : ∃ v', l'[i]? = some v' ∧ VR N ρ v v' := by
  refine ⟨ren ρ v, ?_, fun r hr => ?_⟩
  · rw [← h ρ (Agree.refl _ _), List.getElem?_map, hv]; rfl
  · have h1 := h r hr
    have h2 := h ρ (Agree.refl _ _)
    have e : (l.map (ren r))[i]? = (l.map (ren ρ))[i]? := by rw [h1, h2]
    rw [List.getElem?_map, List.getElem?_map, hv] at e
    simpa using e
theorem LR.set {N : Nat → Prop} {ρ : Ren} {l l' : List Value} (h : LR N ρ l l') (i : Nat) {v v' : Value} (hv : VR N ρ v v') : LR N ρ (l.set i v) (l'.set i v') := fun r hr => by
  rw [List.map_set, h r hr, hv r hr]
theorem LR.append {N : Nat → Prop} {ρ : Ren} {l l' m m' : List Value} (h : LR N ρ l l') (k : LR N ρ m m') : LR N ρ (l ++ m) (l' ++ m') := fun r hr => by
  rw [List.map_append, h r hr, k r hr]
theorem LR.mono {N N' : Nat → Prop} {ρ ρ' : Ren} {l l' : List Value} (h : LR N ρ l l') (ha : Agree N ρ ρ') (hN : ∀ n, N n → N' n) : LR N' ρ' l l' :=
  fun r hr => h r (ha.trans hr hN)
theorem LR.eq {N : Nat → Prop} {ρ : Ren} {l l' : List Value} (h : LR N ρ l l') : l.map (ren ρ) = l' := h ρ (Agree.refl _ _)

/-- what lies behind a name: a row of cells (0: just these; an element's size: these, and room), or a map -/
inductive AObj
  | row (cs : List Value) (e : TypeId) (op : Nat) (marked : Bool)
  | map (es : List MapEntry) (clock : Nat)
  | iter (m : Option Nat) (since : Nat) (seen : List Nat) (stepped : Nat)

/-- a heap by names -/
inductive Tr
  | lf
  | nd (o : Option AObj) (l r : Tr)
def Tr.get : Tr → Nat → Option AObj
  | .lf, _ => none
  | .nd o l r, n => match n with
    | 0 => o
    | k + 1 => if k % 2 = 0 then l.get (k / 2) else r.get (k / 2)
def Tr.set (f : Nat) (t : Tr) (n : Nat) (v : Option AObj) : Tr :=
  match f with
  | 0 => t
  | f + 1 =>
    match t with
    | .lf => (match n with
      | 0 => .nd v .lf .lf
      | k + 1 => if k % 2 = 0 then .nd none (Tr.set f .lf (k / 2) v) .lf else .nd none .lf (Tr.set f .lf (k / 2) v))
    | .nd o l r => (match n with
      | 0 => .nd v l r
      | k + 1 => if k % 2 = 0 then .nd o (Tr.set f l (k / 2) v) r else .nd o l (Tr.set f r (k / 2) v))
theorem Tr.get_lf (n : Nat) : Tr.get .lf n = none := by simp [Tr.get]
theorem Tr.get_set_other : ∀ (f : Nat) (t : Tr) (n m : Nat) (v : Option AObj), m ≠ n → (t.set f n v).get m = t.get m := by
  intro f
  induction f with
  | zero => intro t n m v h; rfl
  | succ f ih =>
    intro t n m v h
    cases t with
    | lf =>
      cases n with
      | zero => cases m with
        | zero => exact absurd rfl h
        | succ m => simp [Tr.set, Tr.get, Tr.get_lf]
      | succ n =>
        cases m with
        | zero => simp only [Tr.set]; split <;> simp [Tr.get]
        | succ m =>
          simp only [Tr.set]
          by_cases hn : n % 2 = 0 <;> by_cases hm : m % 2 = 0 <;> simp only [hn, hm, if_true, if_false, Tr.get] <;> first
            | rw [ih _ _ _ _ (by omega), Tr.get_lf]
            | simp [Tr.get_lf]
    | nd o l r =>
      cases n with
      | zero => cases m with
        | zero => exact absurd rfl h
        | succ m => simp [Tr.set, Tr.get]
      | succ n =>
        cases m with
        | zero => simp only [Tr.set]; split <;> simp [Tr.get]
        | succ m =>
          simp only [Tr.set]
          by_cases hn : n % 2 = 0 <;> by_cases hm : m % 2 = 0 <;> simp only [hn, hm, if_true, if_false, Tr.get] <;> first
            | rw [ih _ _ _ _ (by omega)]
            | rfl
theorem Tr.get_set_same : ∀ (f : Nat) (t : Tr) (n : Nat) (v : Option AObj), n < 2 ^ f - 1 → (t.set f n v).get n = v := by
  intro f
  induction f with
  | zero => intro t n v h; simp at h
  | succ f ih =>
    intro t n v h
    have hp : 2 ^ (f + 1) = 2 * 2 ^ f := by rw [Nat.pow_succ, Nat.mul_comm]
    cases t with
    | lf =>
      cases n with
      | zero => simp [Tr.set, Tr.get]
      | succ n =>
        simp only [Tr.set]
        by_cases hn : n % 2 = 0 <;> simp only [hn, if_true, if_false, Tr.get] <;> exact ih _ _ _ (by omega)
    | nd o l r =>
      cases n with
      | zero => simp [Tr.set, Tr.get]
      | succ n =>
        simp only [Tr.set]
        by_cases hn : n % 2 = 0 <;> simp only [hn, if_true, if_false, Tr.get] <;> exact ih _ _ _ (by omega)

/-- the state of the evaluator: the heap, the next name, the names below which is noted what is touched, and written -/
structure AH where
  m : Tr
  next : Nat
  base : Nat
  tch : List Nat
  wrt : List Nat
def AH.get (h : AH) (n : Nat) : Option AObj := h.m.get n
def note (base n : Nat) (l : List Nat) : List Nat := if n < base ∧ ¬ l.contains n then n :: l else l
theorem mem_note_of {b n k : Nat} {l : List Nat} (h : k ∈ l) : k ∈ note b n l := by unfold note; split; exact List.mem_cons_of_mem _ h; exact h
theorem mem_note {b n : Nat} {l : List Nat} (h : n < b) : n ∈ note b n l := by
  unfold note
  split
  · exact List.mem_cons_self
  · rename_i hh
    by_cases hm : l.contains n = true
    · simpa using hm
    · exact absurd ⟨h, hm⟩ hh
theorem of_mem_note {b n k : Nat} {l : List Nat} (h : k ∈ note b n l) : (k = n ∧ n < b) ∨ k ∈ l := by
  unfold note at h
  split at h
  · rename_i hh
    rcases List.mem_cons.1 h with h | h
    · exact .inl ⟨h, hh.1⟩
    · exact .inr h
  · exact .inr h
/-- no name from the next one on is in use -/
def WF (h : AH) : Prop := ∀ n, h.next ≤ n → h.get n = none
/-- what no step undoes -/
structure Mono (h h' : AH) : Prop where
  next : h.next ≤ h'.next
  base : h'.base = h.base
  tch : ∀ n ∈ h.tch, n ∈ h'.tch
  wrt : ∀ n ∈ h.wrt, n ∈ h'.wrt
  dom : ∀ n, n < h.next → (h'.get n).isSome → (h.get n).isSome
  keep : ∀ n, n < h.next → n < h.base → n ∉ h'.wrt → h'.get n = h.get n
  wf : WF h → WF h'
theorem Mono.refl (h : AH) : Mono h h := ⟨Nat.le_refl _, rfl, fun _ h => h, fun _ h => h, fun _ _ h => h, fun _ _ _ _ => rfl, id⟩
theorem Mono.trans {a b c : AH} (h : Mono a b) (k : Mono b c) : Mono a c :=
  ⟨Nat.le_trans h.next k.next, k.base.trans h.base, fun n hn => k.tch n (h.tch n hn), fun n hn => k.wrt n (h.wrt n hn),
   fun n hn hs => h.dom n hn (k.dom n (Nat.lt_of_lt_of_le hn h.next) hs),
   fun n hn hb hw => (k.keep n (Nat.lt_of_lt_of_le hn h.next) (by rw [h.base]; exact hb) hw).trans (h.keep n hn hb (fun hh => hw (k.wrt n hh))), fun x => k.wf (h.wf x)⟩

/-- a program over heaps by names -/
structure AM (α : Type) where
  run : AH → Option (α × AH)
  mono : ∀ h x h', run h = some (x, h') → Mono h h'
def AM.pure {α : Type} (x : α) : AM α := ⟨fun h => some (x, h), fun h y h' e => by injection e with e; injection e with e1 e2; subst e2; exact Mono.refl _⟩
def AM.fail {α : Type} : AM α := ⟨fun _ => none, fun _ _ _ e => by cases e⟩
def AM.bind {α β : Type} (m : AM α) (f : α → AM β) : AM β :=
  ⟨fun h => match m.run h with
    | some (x, h') => (f x).run h'
    | none => none, fun h y h' e => by
    cases hm : m.run h with
    | none => rw [hm] at e; cases e
    | some p =>
      obtain ⟨x, h1⟩ := p
      rw [hm] at e
      exact (m.mono _ _ _ hm).trans ((f x).mono _ _ _ e)⟩
theorem AM.bind_some {α β : Type} {m : AM α} {f : α → AM β} {h h' : AH} {y : β} (e : (m.bind f).run h = some (y, h')) : ∃ x h1, m.run h = some (x, h1) ∧ (f x).run h1 = some (y, h') := by
  cases hm : m.run h with
  | none => simp [AM.bind, hm] at e
  | some p => obtain ⟨x, h1⟩ := p; exact ⟨x, h1, rfl, by simpa [AM.bind, hm] using e⟩
theorem AM.pure_some {α : Type} {x y : α} {h h' : AH} (e : (AM.pure x).run h = some (y, h')) : y = x ∧ h' = h := by
  simp [AM.pure] at e; exact ⟨e.1.symm, e.2.symm⟩
def AM.ofOpt {α : Type} : Option α → AM α
  | some x => .pure x
  | none => .fail
/-- what lies behind a name -/
def AM.look (n : Nat) : AM AObj := ⟨fun h => match h.get n with
    | some o => some (o, { h with tch := note h.base n h.tch })
    | none => none, fun h x h' e => by
    split at e
    · injection e with e; injection e with e1 e2; subst e2
      exact ⟨Nat.le_refl _, rfl, fun _ h => mem_note_of h, fun _ h => h, fun _ _ h => h, fun _ _ _ _ => rfl, id⟩
    · cases e⟩
/-- it lies there from now on; none: nothing more is said of it -/
def AM.put (n : Nat) (o : Option AObj) : AM Unit := ⟨fun h => match h.get n with
    | some _ => some ((), { h with m := h.m.set 64 n o, tch := note h.base n h.tch, wrt := note h.base n h.wrt })
    | none => none, fun h x h' e => by
    split at e
    · rename_i o' ho'
      injection e with e; injection e with e1 e2; subst e2
      refine ⟨Nat.le_refl _, rfl, fun _ h => mem_note_of h, fun _ h => mem_note_of h, fun k _ hk => ?_, fun k hk hb hw => ?_, fun hwf k hk => ?_⟩
      · by_cases e : k = n
        · subst e; rw [ho']; rfl
        · have e2 := Tr.get_set_other 64 h.m n k o e
          unfold AH.get at hk ⊢; dsimp only at hk; rwa [e2] at hk
      · by_cases e : k = n
        · subst e; exact absurd (mem_note hb) hw
        · exact Tr.get_set_other 64 h.m n k o e
      · have hne : k ≠ n := fun e => by have := hwf k hk; rw [e, ho'] at this; cases this
        exact (Tr.get_set_other 64 h.m n k o hne).trans (hwf k hk)
    · cases e⟩
/-- a new name -/
def AM.new (o : AObj) : AM Nat := ⟨fun h => if h.next < 4611686018427387904 then some (h.next, { h with m := h.m.set 64 h.next (some o), next := h.next + 1 }) else none, fun h x h' e => by
    split at e
    · injection e with e; injection e with e1 e2; subst e2
      refine ⟨Nat.le_succ _, rfl, fun _ h => h, fun _ h => h, fun k hk hs => ?_, fun k hk _ _ => ?_, fun hwf k hk => ?_⟩
      · have e2 := Tr.get_set_other 64 h.m h.next k (some o) (by omega)
        unfold AH.get at hs ⊢; dsimp only at hs; rwa [e2] at hs
      · exact Tr.get_set_other 64 h.m h.next k (some o) (by omega)
      · have hk : h.next + 1 ≤ k := hk
        exact (Tr.get_set_other 64 h.m h.next k (some o) (by omega)).trans (hwf k (by omega))
    · cases e⟩
end Go.Proofs.Ytfakfnekcgkelaa
/- An evaluator of Go code whose memory has names of its own (2): what a heap by names says of a world; one step of a program over it, and one of Go's. -/
namespace Go.Proofs.Ytfakfnekcgkelaa
set_option linter.unusedVariables false
set_option linter.unusedSimpArgs false

structure ER (N : Nat → Prop) (ρ : Ren) (e e' : MapEntry) : Prop where
  key : VR N ρ e.key e'.key
  val : VR N ρ e.val e'.val
  born : e'.born = e.born
/-- what lies at block k is o -/
def Holds (N : Nat → Prop) (ρ : Ren) (n : Nat) (w : World) : AObj → Prop
  | .row cs e op marked => ∃ c fr, w.heap[ρ.φ n]? = some (.cells c e fr) ∧ LR N ρ cs (c.toList.take cs.length) ∧
      (if marked then c.size ≤ fr.1 ∨ fr.2 = 0 else fr = (0, 0)) ∧ cs.length ≤ c.size ∧
      (if op = 0 then c.size = cs.length else c.size = ρ.κ n * op ∧ ρ.κ n ≤ maxLen)
  | .map es clock => ∃ es' : Array MapEntry, w.heap[ρ.φ n]? = some (.map es' clock) ∧ es'.size = es.length ∧ ∀ (i : Nat) (e : MapEntry), es[i]? = some e → ∃ e', es'[i]? = some e' ∧ ER N ρ e e'
  | .iter m since seen st => ∃ m', w.heap[ρ.φ n]? = some (.mapIter m' since seen.toArray st) ∧ ∀ r, Agree N ρ r → m.map r.φ = m'
theorem Holds.lt {N : Nat → Prop} {ρ : Ren} {n : Nat} {w : World} {o : AObj} (h : Holds N ρ n w o) : ρ.φ n < w.heap.size := by
  cases o with
  | row cs e op mk => obtain ⟨c, fr, h, _⟩ := h; exact (Array.getElem?_eq_some_iff.1 h).1
  | map es cl => obtain ⟨c, h, _⟩ := h; exact (Array.getElem?_eq_some_iff.1 h).1
  | iter m s e t => obtain ⟨c, h, _⟩ := h; exact (Array.getElem?_eq_some_iff.1 h).1
theorem Holds.mono {N N' : Nat → Prop} {ρ ρ' : Ren} {n : Nat} {w w' : World} {o : AObj} (h : Holds N ρ n w o) (ha : Agree N ρ ρ') (hN : ∀ n, N n → N' n) (hn : N n)
    (hw : w'.heap[ρ.φ n]? = w.heap[ρ.φ n]?) : Holds N' ρ' n w' o := by
  cases o with
  | row cs e op mk =>
    obtain ⟨c, fr, h1, h2, h4, h5, h6⟩ := h
    refine ⟨c, fr, ?_, h2.mono ha hN, h4, h5, ?_⟩
    · rw [ha.φ n hn, hw]; exact h1
    · rw [ha.κ n hn]; exact h6
  | map es cl =>
    obtain ⟨es', h1, h2, h3⟩ := h
    refine ⟨es', ?_, h2, fun i e he => ?_⟩
    · rw [ha.φ n hn, hw]; exact h1
    · obtain ⟨e', he', r⟩ := h3 i e he
      exact ⟨e', he', r.key.mono ha hN, r.val.mono ha hN, r.born⟩
  | iter m s e t =>
    obtain ⟨m', h1, h2⟩ := h
    exact ⟨m', by rw [ha.φ n hn, hw]; exact h1, fun r hr => h2 r (ha.trans hr hN)⟩

/-- the symbol that tells that a package's variable is a name -/
def gsym (g : Nat) : Nat := 5000000 + g
/-- of the names of D: what lies there, where they lie apart -/
structure Rel (D N : Nat → Prop) (ρ : Ren) (h : Nat → Option AObj) (w : World) : Prop where
  inj : ∀ n m, D n → D m → (h n).isSome → (h m).isSome → ρ.φ n = ρ.φ m → n = m
  holds : ∀ n o, D n → h n = some o → Holds N ρ n w o
  known : ∀ n, D n → (h n).isSome → N n
  sym : ∀ k, (ρ.σ k).oneCell' = true
  glob : ∀ g, ρ.σ (gsym g) = .nilFunc → N g ∧ ρ.φ g = g

def Span (a b n : Nat) : Prop := a ≤ n ∧ n < b
/-- what became of the world in one step -/
structure Step (D : Nat → Prop) (h : AH) (ρ : Ren) (w : World) (h' : AH) (ρ' : Ren) (w' : World) : Prop where
  agree : Agree (fun n => ¬ Span h.next h'.next n) ρ ρ'
  fresh : ∀ n, Span h.next h'.next n → w.heap.size ≤ ρ'.φ n ∨ ∃ m, D m ∧ m < h.next ∧ (h.get m).isSome ∧ (m ∈ h'.wrt ∨ h.base ≤ m) ∧ ρ'.φ n = ρ.φ m
  os : w'.os = w.os
  tape : w'.tape = w.tape
  output : w'.output = w.output
  size : w.heap.size ≤ w'.heap.size
  frame : ∀ k, k < w.heap.size → (∀ m, D m → m < h.next → (h.get m).isSome → (m ∈ h'.wrt ∨ h.base ≤ m) → ρ.φ m ≠ k) → w'.heap[k]? = w.heap[k]?
theorem Step.refl (D : Nat → Prop) (h : AH) (ρ : Ren) (w : World) : Step D h ρ w h ρ w :=
  ⟨Agree.refl _ _, fun n hn => absurd hn.1 (by have := hn.2; omega), rfl, rfl, rfl, Nat.le_refl _, fun _ _ _ => rfl⟩
theorem Step.trans {D : Nat → Prop} {a b c : AH} {ρ ρ' ρ'' : Ren} {w w' w'' : World} (h : Step D a ρ w b ρ' w') (k : Step D b ρ' w' c ρ'' w'') (hm : Mono a b) (km : Mono b c) :
    Step D a ρ w c ρ'' w'' := by
  have hle := hm.next
  have kle := km.next
  refine ⟨⟨k.agree.σ.trans h.agree.σ, fun n hn => ?_, fun n hn => ?_⟩, fun n hn => ?_, k.os.trans h.os, k.tape.trans h.tape, k.output.trans h.output, Nat.le_trans h.size k.size, fun i hi hn => ?_⟩
  · rw [k.agree.φ n (fun hs => hn ⟨by have := hs.1; omega, hs.2⟩), h.agree.φ n (fun hs => hn ⟨hs.1, by have := hs.2; omega⟩)]
  · rw [k.agree.κ n (fun hs => hn ⟨by have := hs.1; omega, hs.2⟩), h.agree.κ n (fun hs => hn ⟨hs.1, by have := hs.2; omega⟩)]
  · -- a new name
    have key : ∀ m, m < b.next → (m ∈ c.wrt ∨ b.base ≤ m) → (b.get m).isSome → D m → ρ'.φ m < w.heap.size → ∃ m0, D m0 ∧ m0 < a.next ∧ (a.get m0).isSome ∧ (m0 ∈ c.wrt ∨ a.base ≤ m0) ∧ ρ'.φ m = ρ.φ m0 := by
      intro m hlt hw hs hD hsz
      by_cases ham : a.next ≤ m
      · rcases h.fresh m ⟨ham, hlt⟩ with h1 | ⟨m0, h1, h2, h3, h4, h5⟩
        · omega
        · exact ⟨m0, h1, h2, h3, h4.imp (fun x => km.wrt _ x) id, h5⟩
      · refine ⟨m, hD, by omega, hm.dom m (by omega) hs, hw.imp id (fun x => by rw [hm.base] at x; exact x), ?_⟩
        rw [h.agree.φ m (fun hs => ham hs.1)]
    by_cases hb : b.next ≤ n
    · rcases k.fresh n ⟨hb, hn.2⟩ with h1 | ⟨m, h1, h2, h3, h4, h5⟩
      · exact .inl (Nat.le_trans h.size h1)
      · by_cases hsz : ρ'.φ m < w.heap.size
        · obtain ⟨m0, q1, q2, q3, q4, q5⟩ := key m h2 h4 h3 h1 hsz
          exact .inr ⟨m0, q1, q2, q3, q4, h5.trans q5⟩
        · exact .inl (by omega)
    · rw [k.agree.φ n (fun hs => hb hs.1)]
      rcases h.fresh n ⟨hn.1, by omega⟩ with h1 | ⟨m0, h1, h2, h3, h4, h5⟩
      · exact .inl h1
      · exact .inr ⟨m0, h1, h2, h3, h4.imp (fun x => km.wrt _ x) id, h5⟩
  · rw [k.frame i (Nat.lt_of_lt_of_le hi h.size) ?_, h.frame i hi ?_]
    · intro m hD hlt hs hw
      exact hn m hD hlt hs (hw.imp (fun x => km.wrt _ x) id)
    · intro m hD hlt hs hw he
      by_cases ham : a.next ≤ m
      · rcases h.fresh m ⟨ham, hlt⟩ with h1 | ⟨m0, h1, h2, h3, h4, h5⟩
        · omega
        · exact hn m0 h1 h2 h3 (h4.imp (fun x => km.wrt _ x) id) (by rw [← h5]; exact he)
      · refine hn m hD (by omega) (hm.dom m (by omega) hs) (hw.imp id (fun x => by rw [hm.base] at x; exact x)) ?_
        rw [← h.agree.φ m (fun hs => ham hs.1)]; exact he

/-- D holds all that is touched from here on -/
structure Cov (D : Nat → Prop) (h : AH) : Prop where
  tch : ∀ n ∈ h.tch, D n
  base : ∀ n, h.base ≤ n → D n
theorem Cov.of {D : Nat → Prop} {h h' : AH} (hc : Cov D h') (hm : Mono h h') : Cov D h := ⟨fun n hn => hc.tch n (hm.tch n hn), fun n hn => hc.base n (by rw [hm.base]; exact hn)⟩
def Grow (N : Nat → Prop) (a b : Nat) : Nat → Prop := fun n => N n ∨ Span a b n
/-- none of the names from a to b is known -/
def New (N : Nat → Prop) (a b : Nat) : Prop := ∀ n, Span a b n → ¬ N n
theorem agree_step {D N : Nat → Prop} {h h' : AH} {ρ ρ' : Ren} {w w' : World} (hs : Step D h ρ w h' ρ' w') (hN : New N h.next h'.next) : Agree N ρ ρ' :=
  ⟨hs.agree.σ, fun n hn => hs.agree.φ n (fun hh => hN n hh hn), fun n hn => hs.agree.κ n (fun hh => hN n hh hn)⟩

/-- what a run of m from h says of one of s -/
def Sim (P : Program) {α β : Type} (N : Nat → Prop) (ρ : Ren) (m : AM α) (s : Sem β) (R : (Nat → Prop) → Ren → α → β → Prop) : Prop :=
  ∀ h x h', m.run h = some (x, h') → ∀ (D : Nat → Prop) (w : World), Cov D h' → WF h → New N h.next h'.next → Rel D N ρ h.get w →
    ∃ ρ' y w', s.run P w = .ok y w' ∧ Step D h ρ w h' ρ' w' ∧ Rel D (Grow N h.next h'.next) ρ' h'.get w' ∧ R (Grow N h.next h'.next) ρ' x y
theorem Rel.of_eq {D N N' : Nat → Prop} {ρ : Ren} {h : Nat → Option AObj} {w : World} (hr : Rel D N ρ h w) (hN : ∀ n, N n → N' n) : Rel D N' ρ h w :=
  ⟨hr.inj, fun n o hD ho => (hr.holds n o hD ho).mono (Agree.refl _ _) hN (hr.known n hD (by rw [ho]; rfl)) rfl, fun n hD hs => hN n (hr.known n hD hs), hr.sym, fun g hg => ⟨hN g (hr.glob g hg).1, (hr.glob g hg).2⟩⟩
theorem Grow.self {N : Nat → Prop} {a : Nat} {n : Nat} : Grow N a a n ↔ N n := ⟨fun h => h.elim id (fun hs => absurd hs.1 (by have := hs.2; omega)), .inl⟩
theorem Grow.eq_self (N : Nat → Prop) (a : Nat) : Grow N a a = N := funext fun _ => propext Grow.self
theorem Grow.trans_eq (N : Nat → Prop) {a b c : Nat} (h : a ≤ b) (k : b ≤ c) : Grow (Grow N a b) b c = Grow N a c := funext fun n => propext (by
  unfold Grow Span
  constructor
  · rintro ((h1 | h1) | h1)
    · exact .inl h1
    · exact .inr ⟨h1.1, by omega⟩
    · exact .inr ⟨by omega, h1.2⟩
  · rintro (h1 | h1)
    · exact .inl (.inl h1)
    · by_cases hb : n < b
      · exact .inl (.inr ⟨h1.1, hb⟩)
      · exact .inr ⟨by omega, h1.2⟩)
theorem Sim.pure {P : Program} {α β : Type} {N : Nat → Prop} {ρ : Ren} {x : α} {y : β} {R : (Nat → Prop) → Ren → α → β → Prop} (hR : R N ρ x y) : Sim P N ρ (.pure x) (.pure y) R := by
  intro h x' h' e D w _ _ _ hr
  obtain ⟨rfl, rfl⟩ := AM.pure_some e
  refine ⟨ρ, y, w, rfl, Step.refl _ _ _ _, ?_, ?_⟩ <;> rw [Grow.eq_self] <;> assumption
theorem Sim.bind {P : Program} {α β γ δ : Type} {N : Nat → Prop} {ρ : Ren} {m : AM α} {f : α → AM γ} {s : Sem β} {g : β → Sem δ} {R1 : (Nat → Prop) → Ren → α → β → Prop} {R2 : (Nat → Prop) → Ren → γ → δ → Prop}
    (h1 : Sim P N ρ m s R1) (h2 : ∀ (N' : Nat → Prop) (ρ' : Ren) x y, (∀ n, N n → N' n) → Agree N ρ ρ' → R1 N' ρ' x y → Sim P N' ρ' (f x) (g y) R2) : Sim P N ρ (m.bind f) (s.bind g) R2 := by
  intro h x h' e D w hc hwf hN hr
  obtain ⟨x1, hm, e1, e2⟩ := AM.bind_some e
  have m1 := m.mono _ _ _ e1
  have m2 := (f x1).mono _ _ _ e2
  have l1 := m1.next
  have l2 := m2.next
  obtain ⟨ρ1, y1, w1, r1, s1, q1, p1⟩ := h1 h x1 hm e1 D w (hc.of m2) hwf (fun n hn => hN n ⟨hn.1, by have := hn.2; omega⟩) hr
  obtain ⟨ρ2, y2, w2, r2, s2, q2, p2⟩ := h2 _ _ x1 y1 (fun n hn => .inl hn) (agree_step s1 (fun n hn => hN n ⟨hn.1, by have := hn.2; omega⟩)) p1 hm x h' e2 D w1 hc (m1.wf hwf)
    (fun n hn hh => hh.elim (hN n ⟨by have := hn.1; omega, hn.2⟩) (fun hs => by have := hs.2; have := hn.1; omega)) q1
  rw [Grow.trans_eq N l1 l2] at q2 p2
  refine ⟨ρ2, y2, w2, ?_, s1.trans s2 m1 m2, q2, p2⟩
  have : (s.bind g).run P w = (s.run P w).andThen (fun a w => (g a).run P w) := by
    exact Sem.run_bind' P s g w
  rw [this, r1]
  exact r2
theorem Sim.fail {P : Program} {α β : Type} {N : Nat → Prop} {ρ : Ren} {s : Sem β} {R : (Nat → Prop) → Ren → α → β → Prop} : Sim P N ρ (AM.fail : AM α) s R := by
  intro h x h' e; cases e
theorem Sim.mono {P : Program} {α β : Type} {N : Nat → Prop} {ρ : Ren} {m : AM α} {s : Sem β} {R R' : (Nat → Prop) → Ren → α → β → Prop} (h : Sim P N ρ m s R)
    (hR : ∀ (N' : Nat → Prop) (ρ' : Ren) x y, (∀ n, N n → N' n) → Agree N ρ ρ' → R N' ρ' x y → R' N' ρ' x y) : Sim P N ρ m s R' := by
  intro h0 x h' e D w hc hwf hN hr
  obtain ⟨ρ1, y1, w1, r1, s1, q1, p1⟩ := h h0 x h' e D w hc hwf hN hr
  exact ⟨ρ1, y1, w1, r1, s1, q1, hR _ _ _ _ (fun n hn => .inl hn) (agree_step s1 hN) p1⟩
end Go.Proofs.Ytfakfnekcgkelaa
/- An evaluator of Go code whose memory has names of its own (3): a region in whatever order. -/
namespace Go.Proofs.Ytfakfnekcgkelaa
set_option linter.unusedVariables false
set_option linter.unusedSimpArgs false

def aEv (ts : Array Value) : Operand → Value
  | .tmp t => ts.getD t undef
  | .const v => v
  | .global g => .pointer (some ⟨g, 0, none⟩)
  | .func f => .func (.func f) #[] #[]
def okOpd : Operand → Bool
  | .const v => shut v
  | .global _ => false
  | _ => true
def okOpdG (G : List Nat) : Operand → Bool
  | .global g => G.contains g
  | x => okOpd x
theorem okOpdG_of {G : List Nat} {x : Operand} (h : okOpd x = true) : okOpdG G x = true := by
  cases x with
  | global g => cases h
  | _ => exact h
/-- one operation: what it leaves -/
def OSound (P : Program) (SQ : (Nat → Value) → Prop) (ops : Array Oper) (f : Oper → Array Value → AM Value) : Prop :=
  ∀ o, o ∈ ops → ∀ (ts : Array Value) (N : Nat → Prop) (ρ : Ren) (a : Act), SQ ρ.σ → (∀ t ∈ o.looksAt ops, VR N ρ (ts.getD t undef) (a.tmps.getD t undef)) →
    ∀ h v h', (f o ts).run h = some (v, h') → ∀ (D : Nat → Prop) (w : World), Cov D h' → WF h → New N h.next h'.next → Rel D N ρ h.get w →
      ∀ (K : Act → World → Prop) (Q : Exit → Act → World → Prop), (∀ ρ' v' w', Step D h ρ w h' ρ' w' → Rel D (Grow N h.next h'.next) ρ' h'.get w' → VR (Grow N h.next h'.next) ρ' v v' → K (a.put o.dst v') w') →
        o.wp P a w K Q

/-- a bool, or none, of what is no symbol -/
def boolOf : Value → Option (Option Bool)
  | .bool b => some (some b)
  | .tuple vs => if vs.size = 0 then some none else none
  | _ => none
/-- whether it is wanted; none: that cannot be said -/
def aWanted (ops : Array Oper) (o : Oper) (ts : Array Value) : Option Bool :=
  match o.guard with
  | none => some true
  | some (j, want) =>
    match (ops[j]?).bind (·.dst) with
    | none => none
    | some t => if t < ts.size then (match boolOf (ts.getD t undef) with
      | some x => some (x == some want)
      | none => none) else none
theorem boolOf_ren {ops : Array Oper} {tm : Array Value} {j t : Nat} {ρ : Ren} {v : Value} {x : Option Bool} (hd : (ops[j]?).bind (·.dst) = some t) (ht : tm[t]? = some (ren ρ v)) (h : boolOf v = some x) : yielded ops tm j = x := by
  unfold yielded
  rw [hd, Option.bind_some, ht]
  cases v with
  | bool b => simp [boolOf] at h; simp [ren, h]
  | tuple vs =>
    simp only [boolOf] at h
    split at h
    · injection h with h; subst h; simp [ren]
    · cases h
  | _ => simp [boolOf] at h
theorem wanted_of {ops : Array Oper} {o : Oper} {ts : Array Value} {N : Nat → Prop} {ρ : Ren} {tm : Array Value} {b : Bool} (h : aWanted ops o ts = some b) (hs : tm.size = ts.size)
    (hv : ∀ t ∈ o.looksAt ops, VR N ρ (ts.getD t undef) (tm.getD t undef)) : Region.wanted o (yielded ops tm) = b := by
  unfold aWanted at h
  unfold Region.wanted
  cases hg : o.guard with
  | none => rw [hg] at h; simpa using h
  | some g =>
    obtain ⟨j, want⟩ := g
    rw [hg] at h
    dsimp only at h ⊢
    cases hd : (ops[j]?).bind (·.dst) with
    | none => rw [hd] at h; cases h
    | some t =>
      rw [hd] at h
      dsimp only at h
      have hl : t ∈ o.looksAt ops := by
        unfold Oper.looksAt
        refine List.mem_append_right _ ?_
        simp only [hg, hd]; simp
      have hvt := (hv t hl).eq
      by_cases hlt : t < ts.size
      · rw [if_pos hlt] at h
        have hlt2 : t < tm.size := by rw [hs]; exact hlt
        have htm : tm[t]? = some (tm.getD t undef) := by
          rw [Array.getElem?_eq_getElem hlt2, Array.getD, dif_pos hlt2]; rfl
        cases hx : boolOf (ts.getD t undef) with
        | none => rw [hx] at h; cases h
        | some x =>
          rw [hx] at h
          rw [boolOf_ren (ρ := ρ) hd (by rw [htm, hvt]) hx]
          injection h
      · rw [if_neg hlt] at h; cases h

structure Rec where
  ts : Array Value
  h : AH
  F : List Nat
  W : List Nat

def noteAll (base : Nat) : List Nat → List Nat → List Nat
  | [], l => l
  | n :: r, l => noteAll base r (note base n l)
theorem mem_noteAll_of {b k : Nat} : ∀ {x l : List Nat}, k ∈ l → k ∈ noteAll b x l
  | [], _, h => h
  | n :: r, l, h => mem_noteAll_of (x := r) (mem_note_of h)
theorem mem_noteAll {b k : Nat} : ∀ {x l : List Nat}, k ∈ x → k < b → k ∈ noteAll b x l
  | n :: r, l, h, hb => by
    rcases List.mem_cons.1 h with rfl | h
    · exact mem_noteAll_of (x := r) (mem_note hb)
    · exact mem_noteAll (x := r) h hb
/-- one operation of a region, by itself: names of before are noted -/
def one (ops : Array Oper) (f : Oper → Array Value → AM Value) (o : Oper) (ts : Array Value) (h : AH) : Option (Array Value × AH × List Nat × List Nat) :=
  match aWanted ops o ts with
  | some false => some ((match o.dst with | some d => ts.setIfInBounds d undef | none => ts), h, [], [])
  | some true =>
    match (f o ts).run { h with base := h.next, tch := [], wrt := [] } with
    | some (v, h1) => some ((match o.dst with | some d => ts.setIfInBounds d v | none => ts), { h1 with base := h.base, tch := noteAll h.base (h1.wrt ++ h1.tch) h.tch, wrt := noteAll h.base h1.wrt h.wrt }, h1.wrt ++ h1.tch, h1.wrt)
    | none => none
  | none => none
def regGo (ops : Array Oper) (f : Oper → Array Value → AM Value) : List Oper → Array Value → AH → Option (List Rec × Array Value × AH)
  | [], ts, h => some ([], ts, h)
  | o :: r, ts, h => match one ops f o ts h with
    | none => none
    | some (ts1, h1, F, W) => match regGo ops f r ts1 h1 with
      | none => none
      | some (l, t', h') => some (⟨ts, h, F, W⟩ :: l, t', h')

theorem one_mono {ops : Array Oper} {f : Oper → Array Value → AM Value} {o : Oper} {ts : Array Value} {h : AH} {ts1 : Array Value} {h1 : AH} {F W : List Nat} (e : one ops f o ts h = some (ts1, h1, F, W)) :
    Mono h h1 ∧ (∀ n, n < h.next → n ∉ W → h1.get n = h.get n) ∧ (∀ n ∈ W, n ∈ F) ∧ (∀ n ∈ W, n < h.base → n ∈ h1.wrt) ∧ (∀ n ∈ F, n < h.base → n ∈ h1.tch) := by
  unfold one at e
  split at e
  · simp only [Option.some.injEq, Prod.mk.injEq] at e
    obtain ⟨_, rfl, rfl, rfl⟩ := e
    exact ⟨Mono.refl _, fun _ _ _ => rfl, by simp, by simp, by simp⟩
  · split at e
    · rename_i v h2 hr
      have m := (f o ts).mono _ _ _ hr
      simp only [Option.some.injEq, Prod.mk.injEq] at e
      obtain ⟨_, rfl, rfl, rfl⟩ := e
      have hn := m.next
      refine ⟨⟨m.next, rfl, fun n hn => mem_noteAll_of hn, fun n hn => mem_noteAll_of hn, m.dom, fun n hlt hb hw => ?_, m.wf⟩, fun n hlt hw => ?_, fun n hn => List.mem_append_left _ hn, fun n hn hb => mem_noteAll hn hb, fun n hn hb => mem_noteAll hn hb⟩
      · exact m.keep n hlt (show n < h.next from hlt) (fun hh => hw (mem_noteAll hh hb))
      · exact m.keep n hlt (show n < h.next from hlt) hw
    · cases e
  · cases e

/-- the state ahead of operation i -/
def stT (l : List Rec) (t' : Array Value) (i : Nat) : Array Value := ((l[i]?).map (·.ts)).getD t'
def stH (l : List Rec) (h' : AH) (i : Nat) : AH := ((l[i]?).map (·.h)).getD h'
def stF (l : List Rec) (i : Nat) : List Nat := ((l[i]?).map (·.F)).getD []
def stW (l : List Rec) (i : Nat) : List Nat := ((l[i]?).map (·.W)).getD []
theorem regGo_spec {ops : Array Oper} {f : Oper → Array Value → AM Value} : ∀ {L : List Oper} {ts : Array Value} {h : AH} {l : List Rec} {t' : Array Value} {h' : AH}, regGo ops f L ts h = some (l, t', h') →
    l.length = L.length ∧ stT l t' 0 = ts ∧ stH l h' 0 = h ∧ ∀ (i : Nat) (o : Oper), L[i]? = some o → one ops f o (stT l t' i) (stH l h' i) = some (stT l t' (i + 1), stH l h' (i + 1), stF l i, stW l i)
  | [], ts, h, l, t', h', e => by
    simp only [regGo, Option.some.injEq, Prod.mk.injEq] at e
    obtain ⟨rfl, rfl, rfl⟩ := e
    exact ⟨rfl, rfl, rfl, fun i o ho => by simp at ho⟩
  | o :: r, ts, h, l, t', h', e => by
    unfold regGo at e
    split at e
    · cases e
    · rename_i ts1 h1 F W h0
      split at e
      · cases e
      · rename_i l2 t2 h2 hr
        simp only [Option.some.injEq, Prod.mk.injEq] at e
        obtain ⟨rfl, rfl, rfl⟩ := e
        obtain ⟨a1, a2, a3, a4⟩ := regGo_spec hr
        refine ⟨by simp [a1], rfl, rfl, fun i o' ho' => ?_⟩
        cases i with
        | zero =>
          simp only [List.getElem?_cons_zero, Option.some.injEq] at ho'
          subst ho'
          have e1 : stT (⟨ts, h, F, W⟩ :: l2) t2 1 = stT l2 t2 0 := by simp [stT]
          have e2 : stH (⟨ts, h, F, W⟩ :: l2) h2 1 = stH l2 h2 0 := by simp [stH]
          rw [e1, e2, a2, a3]
          exact h0
        | succ i =>
          have := a4 i o' (by simpa using ho')
          simpa [stT, stH, stF, stW] using this

/-- one over another -/
def ov {α X : Type} (s : Nat → X → α) (wr : Nat → X → Prop) [∀ i x, Decidable (wr i x)] (L : Nat → Bool) : Nat → X → α
  | 0, x => s 0 x
  | k + 1, x => if L k = true ∧ wr k x then s (k + 1) x else ov s wr L k x
theorem ov_eq {α X : Type} {s : Nat → X → α} {wr : Nat → X → Prop} [∀ i x, Decidable (wr i x)] {L : Nat → Bool} {i : Nat} {x : X} (hs : ∀ k, ¬ wr k x → s (k + 1) x = s k x) :
    ∀ n, i ≤ n → (∀ k, k < n → wr k x → (L k = true ↔ k < i)) → ov s wr L n x = s i x := by
  have key : ∀ n, (∀ k, k < n → wr k x → (L k = true ↔ k < i)) → ov s wr L n x = s (min n i) x := by
    intro n
    induction n with
    | zero => intro _; simp [ov]
    | succ n ih =>
      intro h
      have ih := ih (fun k hk => h k (by omega))
      unfold ov
      by_cases hw : wr n x
      · have hi := h n (by omega) hw
        by_cases hl : L n = true
        · rw [if_pos ⟨hl, hw⟩]
          have := hi.1 hl
          rw [Nat.min_eq_left (by omega)]
        · rw [if_neg (fun hh => hl hh.1), ih]
          have : ¬ n < i := fun hh => hl (hi.2 hh)
          rw [Nat.min_eq_right (by omega), Nat.min_eq_right (by omega)]
      · rw [if_neg (fun hh => hw hh.2), ih]
        by_cases hn : n < i
        · rw [Nat.min_eq_left (by omega), Nat.min_eq_left (by omega), hs n hw]
        · rw [Nat.min_eq_right (by omega), Nat.min_eq_right (by omega)]
  intro n hn h
  rw [key n h, Nat.min_eq_right hn]
theorem ov_congr {α X : Type} {s : Nat → X → α} {wr : Nat → X → Prop} [∀ i x, Decidable (wr i x)] {L L' : Nat → Bool} {x : X} :
    ∀ n, (∀ k, k < n → wr k x → L k = L' k) → ov s wr L n x = ov s wr L' n x := by
  intro n
  induction n with
  | zero => intro _; rfl
  | succ n ih =>
    intro h
    unfold ov
    rw [ih (fun k hk => h k (by omega))]
    by_cases hw : wr n x
    · rw [h n (by omega) hw]
    · simp [hw]
end Go.Proofs.Ytfakfnekcgkelaa
/- An evaluator of Go code whose memory has names of its own (4): a region in whatever order is the region in its own order. -/
namespace Go.Proofs.Ytfakfnekcgkelaa
set_option linter.unusedVariables false
set_option linter.unusedSimpArgs false

def edges (o : Oper) : List Nat := (o.after.toList.filter (Region.binds .any ·)).map (·.on)
def memN (k : Nat) : List Nat → Bool
  | [] => false
  | x :: r => match Nat.beq k x with
    | true => true
    | false => memN k r
/-- each once -/
def ded : List Nat → List Nat → List Nat
  | [], acc => acc
  | x :: r, acc => match memN x acc with
    | true => ded r acc
    | false => ded r (x :: acc)
theorem of_mem_ded {k : Nat} : ∀ {l acc : List Nat}, k ∈ ded l acc → k ∈ l ∨ k ∈ acc
  | [], acc, h => .inr h
  | x :: r, acc, h => by
    simp only [ded] at h
    split at h
    · exact (of_mem_ded h).elim (fun h => .inl (List.mem_cons_of_mem _ h)) .inr
    · rcases of_mem_ded h with h | h
      · exact .inl (List.mem_cons_of_mem _ h)
      · rcases List.mem_cons.1 h with rfl | h
        · exact .inl List.mem_cons_self
        · exact .inr h
def closeGo : List Oper → List (List Nat) → List (List Nat)
  | [], acc => acc
  | o :: r, acc => closeGo r (acc ++ [ded (edges o ++ (edges o).flatMap fun e => acc.getD e []) []])
def Down (ops : Array Oper) (L : Nat → Bool) : Prop := ∀ (j : Nat) o, ops[j]? = some o → L j = true → ∀ e ∈ edges o, L e = true
def GoodClo (ops : Array Oper) (acc : List (List Nat)) : Prop :=
  ∀ (j : Nat) x, acc[j]? = some x → ∀ i ∈ x, ∀ L, Down ops L → (∀ o, ops[j]? = some o → ∀ e ∈ edges o, L e = true) → L i = true
theorem closeGo_good {ops : Array Oper} : ∀ (r : List Oper) (acc : List (List Nat)), (∀ i o, r[i]? = some o → ops[acc.length + i]? = some o) → GoodClo ops acc → GoodClo ops (closeGo r acc)
  | [], acc, _, h => h
  | o :: r, acc, hr, h => by
    unfold closeGo
    refine closeGo_good r _ (fun i o' ho' => ?_) ?_
    · have := hr (i + 1) o' (by simpa using ho')
      rw [List.length_append, List.length_singleton]
      rwa [show acc.length + 1 + i = acc.length + (i + 1) from by omega]
    · intro j x hj i hi L hL he
      by_cases hlt : j < acc.length
      · exact h j x (by rwa [List.getElem?_append_left hlt] at hj) i hi L hL he
      · have hje : j = acc.length := by
          have := (List.getElem?_eq_some_iff.1 hj).1
          simp at this; omega
        subst hje
        have ho : ops[acc.length]? = some o := hr 0 o (by simp)
        rw [List.getElem?_append_right (Nat.le_refl _)] at hj
        simp only [Nat.sub_self, List.getElem?_cons_zero, Option.some.injEq] at hj
        subst hj
        replace hi := (of_mem_ded hi).resolve_right (fun h => by cases h)
        rcases List.mem_append.1 hi with hi | hi
        · exact he o ho i hi
        · obtain ⟨e, he1, he2⟩ := List.mem_flatMap.1 hi
          have hle := he o ho e he1
          cases hx : acc[e]? with
          | none => simp [List.getD, hx] at he2
          | some y =>
            simp only [List.getD, hx, Option.getD_some] at he2
            exact h e y hx i he2 L hL (fun o' ho' e' he' => hL e o' ho' hle e' he')

/-- no conflict of two that wait for each other in no way -/
def noMeet (ops : Array Oper) (l : List Rec) (t' : Array Value) (h' : AH) (clo : List (List Nat)) (i j : Nat) : Bool :=
  (clo.getD j []).contains i ||
  ((match ops[i]?, ops[j]? with
    | some x, some y => x.apart ops y
    | _, _ => false) &&
   (stF l j).all (fun k => !(stW l i).contains k && !(decide ((stH l h' i).next ≤ k) && decide (k < (stH l h' (i + 1)).next))) &&
   (stF l i).all (fun k => !(stW l j).contains k))
def okReg (ops : Array Oper) (l : List Rec) (t' : Array Value) (h' : AH) : Bool :=
  let clo := closeGo ops.toList []
  (List.range ops.size).all fun j =>
    (match ops[j]? with
     | some o => (edges o).all (fun e => decide (e < j))
     | none => false) &&
    (stF l j).all (fun k => decide (k < (stH l h' j).next)) &&
    (List.range j).all fun i => noMeet ops l t' h' clo i j

structure RC (ops : Array Oper) (f : Oper → Array Value → AM Value) (l : List Rec) (t' : Array Value) (h' : AH) : Prop where
  one : ∀ (i : Nat) (o : Oper), ops[i]? = some o → one ops f o (stT l t' i) (stH l h' i) = some (stT l t' (i + 1), stH l h' (i + 1), stF l i, stW l i)
  len : l.length = ops.size
  ok : okReg ops l t' h' = true
section
variable {P : Program} {ops : Array Oper} {f : Oper → Array Value → AM Value} {l : List Rec} {t' : Array Value} {h' : AH}
def wrH (l : List Rec) (h' : AH) (i n : Nat) : Prop := n ∈ stW l i ∨ Span (stH l h' i).next (stH l h' (i + 1)).next n
def wrT (ops : Array Oper) (i t : Nat) : Prop := ∃ o, ops[i]? = some o ∧ o.dst = some t
open Classical in
noncomputable def ovH (l : List Rec) (h' : AH) (L : Nat → Bool) (n : Nat) (k : Nat) : Option AObj := ov (fun i k => (stH l h' i).get k) (wrH l h') L n k
open Classical in
noncomputable def ovT (ops : Array Oper) (l : List Rec) (t' : Array Value) (L : Nat → Bool) (n : Nat) (k : Nat) : Value := ov (fun i k => (stT l t' i).getD k undef) (wrT ops) L n k

theorem RC.past (c : RC ops f l t' h') {i : Nat} (hi : ops.size ≤ i) : stT l t' i = t' ∧ stH l h' i = h' ∧ stW l i = [] ∧ stF l i = [] := by
  have : l[i]? = none := List.getElem?_eq_none (by rw [c.len]; exact hi)
  simp [stT, stH, stW, stF, this]
theorem RC.get (c : RC ops f l t' h') {i : Nat} (hi : i < ops.size) : ∃ o, ops[i]? = some o := ⟨ops[i], Array.getElem?_eq_getElem hi⟩
theorem RC.mono1 (c : RC ops f l t' h') (i : Nat) : Mono (stH l h' i) (stH l h' (i + 1)) ∧ (∀ n, n < (stH l h' i).next → n ∉ stW l i → (stH l h' (i + 1)).get n = (stH l h' i).get n) ∧ (∀ n ∈ stW l i, n ∈ stF l i) ∧
    (∀ n ∈ stW l i, n < (stH l h' i).base → n ∈ (stH l h' (i + 1)).wrt) ∧ (∀ n ∈ stF l i, n < (stH l h' i).base → n ∈ (stH l h' (i + 1)).tch) := by
  by_cases hi : i < ops.size
  · obtain ⟨o, ho⟩ := c.get hi
    exact one_mono (c.one i o ho)
  · have h1 := c.past (i := i) (by omega)
    have h2 := c.past (i := i + 1) (by omega)
    rw [h1.2.1, h2.2.1, h1.2.2.1, h1.2.2.2]
    exact ⟨Mono.refl _, fun _ _ _ => rfl, by simp, by simp, by simp⟩
theorem RC.mono (c : RC ops f l t' h') {i j : Nat} (h : i ≤ j) : Mono (stH l h' i) (stH l h' j) := by
  induction j with
  | zero => obtain rfl : i = 0 := by omega
            exact Mono.refl _
  | succ j ih =>
    by_cases he : i = j + 1
    · subst he; exact Mono.refl _
    · exact (ih (by omega)).trans (c.mono1 j).1
theorem RC.monoE (c : RC ops f l t' h') (i : Nat) : Mono (stH l h' i) h' := by
  have := c.mono (i := i) (j := max i ops.size) (Nat.le_max_left _ _)
  rwa [(c.past (i := max i ops.size) (Nat.le_max_right _ _)).2.1] at this
theorem RC.next_le (c : RC ops f l t' h') {i j : Nat} (h : i ≤ j) : (stH l h' i).next ≤ (stH l h' j).next := (c.mono h).next
theorem RC.ok1 (c : RC ops f l t' h') {j : Nat} (hj : j < ops.size) : (∀ o, ops[j]? = some o → ∀ e ∈ edges o, e < j) ∧ (∀ k ∈ stF l j, k < (stH l h' j).next) ∧ ∀ i, i < j → noMeet ops l t' h' (closeGo ops.toList []) i j = true := by
  have := c.ok
  unfold okReg at this
  have h1 := (List.all_eq_true.1 this) j (List.mem_range.2 hj)
  simp only [Bool.and_eq_true] at h1
  obtain ⟨⟨h1, h2⟩, h3⟩ := h1
  refine ⟨fun o ho e he => ?_, fun k hk => ?_, fun i hi => ?_⟩
  · rw [ho] at h1
    simpa using (List.all_eq_true.1 h1) e he
  · simpa using (List.all_eq_true.1 h2) k hk
  · exact (List.all_eq_true.1 h3) i (List.mem_range.2 hi)
theorem RC.clo (c : RC ops f l t' h') : GoodClo ops (closeGo ops.toList []) :=
  closeGo_good ops.toList [] (fun i o ho => by simpa using ho) (fun j x hj => by simp at hj)
/-- two that wait for each other in no way have nothing in common -/
theorem RC.meet (c : RC ops f l t' h') {i j : Nat} (hij : i < j) (hj : j < ops.size) {L : Nat → Bool} (hL : Down ops L) :
    ((∀ o, ops[j]? = some o → ∀ e ∈ edges o, L e = true) → L i = true) ∨
    ((∀ x y, ops[i]? = some x → ops[j]? = some y → x.apart ops y = true) ∧ (∀ k ∈ stF l j, k ∉ stW l i ∧ ¬ Span (stH l h' i).next (stH l h' (i + 1)).next k) ∧ ∀ k ∈ stF l i, k ∉ stW l j) := by
  have h := (c.ok1 hj).2.2 i hij
  unfold noMeet at h
  rw [Bool.or_eq_true] at h
  rcases h with h | h
  · refine .inl fun he => ?_
    have hm : i ∈ (closeGo ops.toList []).getD j [] := by simpa using h
    cases hx : (closeGo ops.toList [])[j]? with
    | none => simp [List.getD, hx] at hm
    | some x =>
      simp only [List.getD, hx, Option.getD_some] at hm
      exact c.clo j x hx i hm L hL he
  · simp only [Bool.and_eq_true] at h
    obtain ⟨⟨h1, h2⟩, h3⟩ := h
    refine .inr ⟨fun x y hx hy => ?_, fun k hk => ?_, fun k hk => ?_⟩
    · rw [hx, hy] at h1; exact h1
    · have := (List.all_eq_true.1 h2) k hk
      simp only [Bool.and_eq_true, Bool.not_eq_true', Bool.and_eq_false_iff, decide_eq_false_iff_not] at this
      refine ⟨fun hh => ?_, fun hh => ?_⟩
      · have h4 := this.1; simp at h4; exact h4 hh
      · rcases this.2 with h5 | h5
        · exact h5 hh.1
        · exact h5 hh.2
    · have := (List.all_eq_true.1 h3) k hk
      intro hh
      simp at this; exact this hh

/-- i may come up now -/
structure Up (ops : Array Oper) (L : Nat → Bool) (i : Nat) : Prop where
  down : Down ops L
  not : L i = false
  lt : i < ops.size
  edges : ∀ o, ops[i]? = some o → ∀ e ∈ edges o, L e = true
theorem RC.confH (c : RC ops f l t' h') {L : Nat → Bool} {i : Nat} (u : Up ops L i) {j k : Nat} (hj : j < ops.size) (hji : j ≠ i) (hw : wrH l h' j k) (hk : k ∈ stF l i ∨ wrH l h' i k) : L j = true ↔ j < i := by
  have hF : ∀ n, n < ops.size → ∀ k ∈ stF l n, k < (stH l h' n).next := fun n hn => (c.ok1 hn).2.1
  have hW := fun n => (c.mono1 n).2.2.1
  by_cases hlt : j < i
  · refine ⟨fun _ => hlt, fun _ => ?_⟩
    rcases c.meet hlt u.lt u.down with h | ⟨_, h2, _⟩
    · exact h u.edges
    · have hkF : k ∈ stF l i → False := fun hh => hw.elim (h2 k hh).1 (h2 k hh).2
      rcases hk with hk | hk | hk
      · exact (hkF hk).elim
      · exact (hkF (hW i k hk)).elim
      · exfalso
        have h1 := c.next_le (i := j + 1) (j := i) hlt
        have h0 := c.next_le (i := j) (j := i) (by omega)
        rcases hw with hw | hw
        · have := hF j hj k (hW j k hw); have := hk.1; omega
        · have := hw.2; have := hk.1; omega
  · have hgt : i < j := by omega
    refine ⟨fun hL => ?_, fun hh => absurd hh hlt⟩
    exfalso
    have hedge : ∀ o, ops[j]? = some o → ∀ e ∈ Go.Proofs.Ytfakfnekcgkelaa.edges o, L e = true := fun o ho => u.down j o ho hL
    have h1 := c.next_le (i := i + 1) (j := j) hgt
    have h0 := c.next_le (i := i) (j := j) (by omega)
    rcases c.meet hgt hj u.down with h | ⟨_, h2, h3⟩
    · have := h hedge; rw [u.not] at this; cases this
    · rcases hw with hw | hw
      · rcases hk with hk | hk | hk
        · exact h3 k hk hw
        · exact (h2 k (hW j k hw)).1 hk
        · exact (h2 k (hW j k hw)).2 hk
      · rcases hk with hk | hk | hk
        · have := hF i u.lt k hk; have := hw.1; omega
        · have := hF i u.lt k (hW i k hk); have := hw.1; omega
        · have := hk.2; have := hw.1; omega
theorem RC.confT (c : RC ops f l t' h') {L : Nat → Bool} {i : Nat} (u : Up ops L i) {j t : Nat} {o : Oper} (ho : ops[i]? = some o) (hj : j < ops.size) (hji : j ≠ i) (hw : wrT ops j t) (hk : t ∈ o.looksAt ops ∨ o.dst = some t) : L j = true ↔ j < i := by
  obtain ⟨oj, hoj, hd⟩ := hw
  by_cases hlt : j < i
  · refine ⟨fun _ => hlt, fun _ => ?_⟩
    rcases c.meet hlt u.lt u.down with h | ⟨h1, _, _⟩
    · exact h u.edges
    · obtain ⟨a1, a2, a3⟩ := Oper.apart_spec (h1 _ _ hoj ho)
      rcases hk with hk | hk
      · exact absurd hk (a1 t hd)
      · exact absurd hk (a2 t hd)
  · have hgt : i < j := by omega
    refine ⟨fun hL => ?_, fun hh => absurd hh hlt⟩
    exfalso
    rcases c.meet hgt hj u.down with h | ⟨h1, _, _⟩
    · have := h (fun o ho => u.down j o ho hL); rw [u.not] at this; cases this
    · obtain ⟨a1, a2, a3⟩ := Oper.apart_spec (h1 _ _ ho hoj)
      rcases hk with hk | hk
      · exact absurd hk (a3 t hd)
      · exact absurd hd (a2 t hk)
theorem RC.stepH (c : RC ops f l t' h') (h0 : WF (stH l h' 0)) (i n : Nat) (hw : ¬ wrH l h' i n) : (stH l h' (i + 1)).get n = (stH l h' i).get n := by
  have m := c.mono1 i
  by_cases hlt : n < (stH l h' i).next
  · exact m.2.1 n hlt (fun hh => hw (.inl hh))
  · have wfi := (c.mono (i := 0) (j := i) (Nat.zero_le _)).wf h0
    rw [wfi n (by omega), m.1.wf wfi n]
    by_cases h2 : n < (stH l h' (i + 1)).next
    · exact absurd (.inr ⟨by omega, h2⟩) hw
    · omega
theorem RC.stepT (c : RC ops f l t' h') (i t : Nat) (hw : ¬ wrT ops i t) : (stT l t' (i + 1)).getD t undef = (stT l t' i).getD t undef := by
  by_cases hi : i < ops.size
  · obtain ⟨o, ho⟩ := c.get hi
    have h1 := c.one i o ho
    have hne : ∀ d v, o.dst = some d → ((stT l t' i).setIfInBounds d v).getD t undef = (stT l t' i).getD t undef := fun d v hd => by
      have : d ≠ t := fun e => hw ⟨o, ho, by rw [hd, e]⟩
      rw [Array.getD_eq_getD_getElem?, Array.getD_eq_getD_getElem?, Array.getElem?_setIfInBounds_ne this]
    unfold Go.Proofs.Ytfakfnekcgkelaa.one at h1
    split at h1
    · simp only [Option.some.injEq, Prod.mk.injEq] at h1
      rw [← h1.1]
      cases hd : o.dst with
      | none => rfl
      | some d => exact hne d _ hd
    · split at h1
      · simp only [Option.some.injEq, Prod.mk.injEq] at h1
        rw [← h1.1]
        cases hd : o.dst with
        | none => rfl
        | some d => exact hne d _ hd
      · cases h1
    · cases h1
  · rw [(c.past (i := i) (by omega)).1, (c.past (i := i + 1) (by omega)).1]
/-- what i looks at is what it looked at in its own order -/
theorem RC.seesH (c : RC ops f l t' h') (h0 : WF (stH l h' 0)) {L : Nat → Bool} {i : Nat} (u : Up ops L i) {k : Nat} (hk : k ∈ stF l i) : ovH l h' L ops.size k = (stH l h' i).get k := by
  classical
  unfold ovH
  refine ov_eq (s := fun i k => (stH l h' i).get k) (fun j hw => c.stepH h0 j k hw) ops.size (Nat.le_of_lt u.lt) (fun j hj hw => ?_)
  by_cases hji : j = i
  · subst hji; rw [u.not]; simp
  · exact c.confH u hj hji hw (.inl hk)
theorem RC.seesT (c : RC ops f l t' h') {L : Nat → Bool} {i : Nat} (u : Up ops L i) {o : Oper} (ho : ops[i]? = some o) {t : Nat} (hk : t ∈ o.looksAt ops) : ovT ops l t' L ops.size t = (stT l t' i).getD t undef := by
  classical
  unfold ovT
  refine ov_eq (s := fun i k => (stT l t' i).getD k undef) (fun j hw => c.stepT j t hw) ops.size (Nat.le_of_lt u.lt) (fun j hj hw => ?_)
  by_cases hji : j = i
  · subst hji; rw [u.not]; simp
  · exact c.confT u ho hj hji hw (.inl hk)
/-- behind i -/
def with1 (L : Nat → Bool) (i : Nat) : Nat → Bool := fun k => if k = i then true else L k
theorem RC.newH (c : RC ops f l t' h') (h0 : WF (stH l h' 0)) {L : Nat → Bool} {i : Nat} (u : Up ops L i) {k : Nat} (hk : wrH l h' i k) : ovH l h' (with1 L i) ops.size k = (stH l h' (i + 1)).get k := by
  classical
  unfold ovH
  refine ov_eq (s := fun i k => (stH l h' i).get k) (fun j hw => c.stepH h0 j k hw) ops.size u.lt (fun j hj hw => ?_)
  unfold with1
  by_cases hji : j = i
  · subst hji; simp
  · rw [if_neg hji, c.confH u hj hji hw (.inr hk)]; omega
theorem RC.newT (c : RC ops f l t' h') {L : Nat → Bool} {i : Nat} (u : Up ops L i) {o : Oper} (ho : ops[i]? = some o) {t : Nat} (hk : o.dst = some t) : ovT ops l t' (with1 L i) ops.size t = (stT l t' (i + 1)).getD t undef := by
  classical
  unfold ovT
  refine ov_eq (s := fun i k => (stT l t' i).getD k undef) (fun j hw => c.stepT j t hw) ops.size u.lt (fun j hj hw => ?_)
  unfold with1
  by_cases hji : j = i
  · subst hji; simp
  · rw [if_neg hji, c.confT u ho hj hji hw (.inr hk)]; omega
theorem RC.oldH (c : RC ops f l t' h') {L : Nat → Bool} {i k : Nat} (hk : ¬ wrH l h' i k) : ovH l h' (with1 L i) ops.size k = ovH l h' L ops.size k := by
  classical
  unfold ovH
  refine ov_congr _ (fun j _ hw => ?_)
  unfold with1
  rw [if_neg]
  rintro rfl
  exact hk hw
theorem RC.oldT (c : RC ops f l t' h') {L : Nat → Bool} {i t : Nat} {o : Oper} (ho : ops[i]? = some o) (hk : o.dst ≠ some t) : ovT ops l t' (with1 L i) ops.size t = ovT ops l t' L ops.size t := by
  classical
  unfold ovT
  refine ov_congr _ (fun j _ hw => ?_)
  unfold with1
  rw [if_neg]
  rintro rfl
  obtain ⟨o', ho', hd⟩ := hw
  rw [ho] at ho'; injection ho' with ho'; subst ho'
  exact hk hd
end
end Go.Proofs.Ytfakfnekcgkelaa
/- An evaluator of Go code whose memory has names of its own (5): a region in whatever order, its proof. -/
namespace Go.Proofs.Ytfakfnekcgkelaa
set_option linter.unusedVariables false
set_option linter.unusedSimpArgs false

/-- names of operations that have come up -/
def SL (l : List Rec) (h' : AH) (n : Nat) (L : Nat → Bool) (k : Nat) : Prop := ∃ i, i < n ∧ L i = true ∧ Span (stH l h' i).next (stH l h' (i + 1)).next k
def NL (N : Nat → Prop) (l : List Rec) (h' : AH) (n : Nat) (L : Nat → Bool) (k : Nat) : Prop := N k ∨ SL l h' n L k
structure StepS (D S : Nat → Prop) (h h' : AH) (ρ : Ren) (w : World) (ρ' : Ren) (w' : World) : Prop where
  agree : Agree (fun n => ¬ Span h.next h'.next n) ρ ρ'
  fresh : ∀ n, S n → w.heap.size ≤ ρ'.φ n ∨ ∃ m, D m ∧ m < h.next ∧ (h.get m).isSome ∧ (m ∈ h'.wrt ∨ h.base ≤ m) ∧ ρ'.φ n = ρ.φ m
  os : w'.os = w.os
  tape : w'.tape = w.tape
  output : w'.output = w.output
  size : w.heap.size ≤ w'.heap.size
  frame : ∀ k, k < w.heap.size → (∀ m, D m → m < h.next → (h.get m).isSome → (m ∈ h'.wrt ∨ h.base ≤ m) → ρ.φ m ≠ k) → w'.heap[k]? = w.heap[k]?
structure Inv (ops : Array Oper) (l : List Rec) (t' : Array Value) (h' : AH) (D N : Nat → Prop) (ρ0 : Ren) (a0 : Act) (w0 : World) (L : Nat → Bool) (ρ : Ren) (a : Act) (w : World) : Prop where
  rel : Rel D (NL N l h' ops.size L) ρ (ovH l h' L ops.size) w
  tmps : ∀ t, VR (NL N l h' ops.size L) ρ (ovT ops l t' L ops.size t) (a.tmps.getD t undef)
  size : a.tmps.size = (stT l t' 0).size
  defers : a.defers = a0.defers
  step : StepS D (SL l h' ops.size L) (stH l h' 0) h' ρ0 w0 ρ w

section
variable {P : Program} {ops : Array Oper} {f : Oper → Array Value → AM Value} {l : List Rec} {t' : Array Value} {h' : AH} {D N : Nat → Prop} {ρ0 : Ren} {a0 : Act} {w0 : World} {SQ : (Nat → Value) → Prop}
theorem RC.disj (c : RC ops f l t' h') {i j k : Nat} (h1 : Span (stH l h' i).next (stH l h' (i + 1)).next k) (h2 : Span (stH l h' j).next (stH l h' (j + 1)).next k) : i = j := by
  rcases Nat.lt_trichotomy i j with h | h | h
  · have := c.next_le (i := i + 1) (j := j) h; have := h1.2; have := h2.1; omega
  · exact h
  · have := c.next_le (i := j + 1) (j := i) h; have := h1.1; have := h2.2; omega
theorem RC.inSpan (c : RC ops f l t' h') {i k : Nat} (h1 : Span (stH l h' i).next (stH l h' (i + 1)).next k) : Span (stH l h' 0).next h'.next k := by
  have a1 := c.next_le (i := 0) (j := i) (Nat.zero_le _)
  have a2 := (c.monoE (i + 1)).next
  exact ⟨by have := h1.1; omega, by have := h1.2; omega⟩
theorem RC.findSpan (c : RC ops f l t' h') {k : Nat} : ∀ i, (stH l h' 0).next ≤ k → k < (stH l h' i).next → ∃ j, j < i ∧ Span (stH l h' j).next (stH l h' (j + 1)).next k
  | 0, h1, h2 => by omega
  | i + 1, h1, h2 => by
    by_cases h : k < (stH l h' i).next
    · obtain ⟨j, hj, hs⟩ := c.findSpan i h1 h
      exact ⟨j, by omega, hs⟩
    · exact ⟨i, by omega, by omega, h2⟩
theorem SL.with1 {L : Nat → Bool} {i k : Nat} (hi : i < ops.size) : SL l h' ops.size (with1 L i) k ↔ (SL l h' ops.size L k ∨ Span (stH l h' i).next (stH l h' (i + 1)).next k) := by
  unfold SL Go.Proofs.Ytfakfnekcgkelaa.with1
  constructor
  · rintro ⟨j, h1, h2, h3⟩
    by_cases hj : j = i
    · subst hj; exact .inr h3
    · rw [if_neg hj] at h2; exact .inl ⟨j, h1, h2, h3⟩
  · rintro (⟨j, h1, h2, h3⟩ | h)
    · refine ⟨j, h1, ?_, h3⟩
      by_cases hj : j = i
      · rw [if_pos hj]
      · rw [if_neg hj]; exact h2
    · exact ⟨i, hi, if_pos rfl, h⟩
theorem getD_set {a : Array Value} {d t : Nat} {v : Value} : (a.setIfInBounds d v).getD t undef = if d = t ∧ d < a.size then v else a.getD t undef := by
  rw [Array.getD_eq_getD_getElem?, Array.getD_eq_getD_getElem?, Array.getElem?_setIfInBounds]
  by_cases h : d = t
  · subst h
    by_cases h2 : d < a.size
    · simp [h2]
    · simp [h2]
  · simp [h]

/-- tmps behind an operation -/
theorem RC.putT (c : RC ops f l t' h') {L : Nat → Bool} {i : Nat} (u : Up ops L i) {o : Oper} (ho : ops[i]? = some o) {M M' : Nat → Prop} {ρ ρ' : Ren} {a : Act} {v v' : Value}
    (h1 : stT l t' (i + 1) = (match o.dst with | some d => (stT l t' i).setIfInBounds d v | none => stT l t' i)) (hsz : a.tmps.size = (stT l t' i).size)
    (hv : VR M' ρ' v v') (ht : ∀ t, VR M ρ (ovT ops l t' L ops.size t) (a.tmps.getD t undef)) (ha : Agree M ρ ρ') (hM : ∀ n, M n → M' n) :
    ∀ t, VR M' ρ' (ovT ops l t' (with1 L i) ops.size t) ((a.put o.dst v').tmps.getD t undef) := by
  intro t
  cases hd : o.dst with
  | none =>
    rw [c.oldT ho (by rw [hd]; simp)]
    exact (ht t).mono ha hM
  | some d =>
    rw [hd] at h1
    dsimp only [Act.put]
    rw [getD_set]
    by_cases hdt : d = t
    · subst hdt
      rw [c.newT u ho hd, h1]
      dsimp only
      rw [getD_set]
      by_cases hlt : d < (stT l t' i).size
      · have hlt2 : d < a.tmps.size := by rw [hsz]; exact hlt
        rw [if_pos ⟨rfl, hlt⟩, if_pos ⟨rfl, hlt2⟩]; exact hv
      · have hlt2 : ¬ d < a.tmps.size := by rw [hsz]; exact hlt
        rw [if_neg (fun h => hlt h.2), if_neg (fun h => hlt2 h.2)]
        rw [Array.getD_eq_getD_getElem?, Array.getD_eq_getD_getElem?, Array.getElem?_eq_none (Nat.le_of_not_lt hlt), Array.getElem?_eq_none (Nat.le_of_not_lt hlt2)]
        exact VR.shut rfl
    · rw [if_neg (fun h => hdt h.1), c.oldT ho (by rw [hd]; simpa using hdt)]
      exact (ht t).mono ha hM
theorem RC.sizeT (c : RC ops f l t' h') : ∀ i, (stT l t' i).size = (stT l t' 0).size := by
  intro i
  induction i with
  | zero => rfl
  | succ i ih =>
    rw [← ih]
    by_cases hi : i < ops.size
    · obtain ⟨o, ho⟩ := c.get hi
      have h1 := c.one i o ho
      unfold Go.Proofs.Ytfakfnekcgkelaa.one at h1
      split at h1
      · simp only [Option.some.injEq, Prod.mk.injEq] at h1
        rw [← h1.1]; split <;> simp
      · split at h1
        · simp only [Option.some.injEq, Prod.mk.injEq] at h1
          rw [← h1.1]; split <;> simp
        · cases h1
      · cases h1
    · rw [(c.past (i := i) (by omega)).1, (c.past (i := i + 1) (by omega)).1]

theorem RC.op (c : RC ops f l t' h') (hf : OSound P SQ ops f) (hsq : SQ ρ0.σ) (hcov : Cov D h') (hwf : WF (stH l h' 0)) (hN : New N (stH l h' 0).next h'.next) {L : Nat → Bool} {i : Nat} (u : Up ops L i)
    {ρ : Ren} {a : Act} {w : World} (I : Inv ops l t' h' D N ρ0 a0 w0 L ρ a w) {Q : Exit → Act → World → Prop} {K : Act → World → Prop}
    (hK : ∀ ρ' a' w', Inv ops l t' h' D N ρ0 a0 w0 (with1 L i) ρ' a' w' → K a' w') : wpOp P ops Q i K a w := by
  obtain ⟨o, ho⟩ := c.get u.lt
  have h1 := c.one i o ho
  have hsz : a.tmps.size = (stT l t' i).size := I.size.trans (c.sizeT i).symm
  have hlook : ∀ t ∈ o.looksAt ops, VR (NL N l h' ops.size L) ρ ((stT l t' i).getD t undef) (a.tmps.getD t undef) := fun t ht => by
    rw [← c.seesT u ho ht]; exact I.tmps t
  have hW := (c.mono1 i).2.2.1
  have hFn := (c.ok1 u.lt).2.1
  have hFD : ∀ k ∈ stF l i, D k := fun k hk => by
    by_cases hb : k < h'.base
    · exact hcov.tch k ((c.monoE (i + 1)).tch k ((c.mono1 i).2.2.2.2 k hk (by rw [← (c.monoE i).base]; exact hb)))
    · exact hcov.base k (by omega)
  unfold wpOp
  simp only [ho]
  unfold Go.Proofs.Ytfakfnekcgkelaa.one at h1
  cases hw : aWanted ops o (stT l t' i) with
  | none => rw [hw] at h1; cases h1
  | some b =>
    rw [wanted_of hw hsz hlook]
    rw [hw] at h1
    cases b with
    | false =>
      simp only [Option.some.injEq, Prod.mk.injEq] at h1
      obtain ⟨e1, e2, e3, e4⟩ := h1
      rw [if_neg (by simp)]
      have hno : ∀ k, ¬ wrH l h' i k := fun k => by
        rintro (h | h)
        · rw [← e4] at h; cases h
        · rw [← e2] at h; have := h.1; have := h.2; omega
      have hSL : ∀ k, SL l h' ops.size (with1 L i) k ↔ SL l h' ops.size L k := fun k => by
        rw [SL.with1 u.lt]
        exact ⟨fun h => h.elim id (fun hh => absurd (.inr hh) (hno k)), .inl⟩
      have hNL : NL N l h' ops.size (with1 L i) = NL N l h' ops.size L := funext fun k => propext (or_congr Iff.rfl (hSL k))
      refine hK ρ _ w ⟨?_, ?_, ?_, ?_, ?_⟩
      · rw [hNL, show ovH l h' (with1 L i) ops.size = ovH l h' L ops.size from funext fun k => c.oldH (hno k)]
        exact I.rel
      · exact c.putT u ho (v := undef) (v' := undef) (M := NL N l h' ops.size L) (ρ := ρ) e1.symm hsz (VR.shut rfl) I.tmps (Agree.refl _ _) (by rw [hNL]; exact fun _ h => h)
      · rw [← I.size]; cases o.dst <;> simp [Act.put]
      · rw [← I.defers]; cases o.dst <;> rfl
      · exact ⟨I.step.agree, fun n hn => I.step.fresh n ((hSL n).1 hn), I.step.os, I.step.tape, I.step.output, I.step.size, I.step.frame⟩
    | true =>
      dsimp only at h1
      cases hr : (f o (stT l t' i)).run { stH l h' i with base := (stH l h' i).next, tch := [], wrt := [] } with
      | none => rw [hr] at h1; cases h1
      | some p =>
        obtain ⟨v, h2⟩ := p
        rw [hr] at h1
        simp only [Option.some.injEq, Prod.mk.injEq] at h1
        obtain ⟨e1, e2, e3, e4⟩ := h1
        have m2 := (f o (stT l t' i)).mono _ _ _ hr
        have hnext : h2.next = (stH l h' (i + 1)).next := by rw [← e2]
        have hget : ∀ k, (stH l h' (i + 1)).get k = h2.get k := fun k => by rw [← e2]; rfl
        have wfi : WF (stH l h' i) := (c.mono (i := 0) (j := i) (Nat.zero_le _)).wf hwf
        rw [if_pos rfl]
        refine .inl ?_
        have hnk : ∀ n, Span (stH l h' i).next h2.next n → ¬ NL N l h' ops.size L n := fun n hn hh => by
          rw [hnext] at hn
          rcases hh with hh | ⟨j, hj, hL, hs⟩
          · exact hN n (c.inSpan hn) hh
          · have := c.disj hn hs
            subst this
            rw [u.not] at hL; cases hL
        have hDi : ∀ k, (k ∈ stF l i ∨ (stH l h' i).next ≤ k) → ((stH l h' i).get k).isSome → k ∈ stF l i ∧ k < (stH l h' i).next := fun k hk hs => by
          have hlt : k < (stH l h' i).next := by
            rcases Nat.lt_or_ge k (stH l h' i).next with h | h
            · exact h
            · rw [wfi k h] at hs; cases hs
          exact ⟨hk.resolve_right (by omega), hlt⟩
        refine hf o (Array.mem_of_getElem? ho) (stT l t' i) (NL N l h' ops.size L) ρ a (by rw [I.step.agree.σ]; exact hsq) hlook _ v h2 hr (fun k => k ∈ stF l i ∨ (stH l h' i).next ≤ k) w ⟨fun k hk => .inl ?_, fun k hk => .inr ?_⟩ wfi hnk
          ⟨?_, ?_, ?_, I.rel.sym, I.rel.glob⟩ K Q ?_
        · rw [← e3]; exact List.mem_append_right _ hk
        · rw [m2.base] at hk; exact hk
        · intro n m hn hm sn sm he
          have n1 := hDi n hn sn
          have m1 := hDi m hm sm
          exact I.rel.inj n m (hFD n n1.1) (hFD m m1.1) (by rw [c.seesH hwf u n1.1]; exact sn) (by rw [c.seesH hwf u m1.1]; exact sm) he
        · intro n ob hn hob
          have n1 := hDi n hn (by have : (stH l h' i).get n = some ob := hob; rw [this]; rfl)
          exact I.rel.holds n ob (hFD n n1.1) (by rw [c.seesH hwf u n1.1]; exact hob)
        · intro n hn sn
          have n1 := hDi n hn sn
          exact I.rel.known n (hFD n n1.1) (by rw [c.seesH hwf u n1.1]; exact sn)
        intro ρ' v' w' hs hrel hv
        have hGrow : Grow (NL N l h' ops.size L) (stH l h' i).next h2.next = NL N l h' ops.size (with1 L i) := funext fun k => propext (by
          unfold Grow NL
          rw [SL.with1 u.lt, hnext, or_assoc])
        have hrel : Rel (fun k => k ∈ stF l i ∨ (stH l h' i).next ≤ k) (NL N l h' ops.size (with1 L i)) ρ' h2.get w' := by rw [← hGrow]; exact hrel
        have hv : VR (NL N l h' ops.size (with1 L i)) ρ' v v' := by rw [← hGrow]; exact hv
        have hAg : Agree (NL N l h' ops.size L) ρ ρ' := agree_step hs hnk
        have hsub : ∀ n, NL N l h' ops.size L n → NL N l h' ops.size (with1 L i) n := fun n hn => by rw [← hGrow]; exact .inl hn
        -- what lies under a name that this operation writes
        have hwrt : ∀ m, (m ∈ stF l i ∨ (stH l h' i).next ≤ m) → m < (stH l h' i).next → ((stH l h' i).get m).isSome → (m ∈ h2.wrt ∨ (stH l h' i).next ≤ m) → m ∈ stW l i ∧ D m ∧ (ovH l h' L ops.size m).isSome := fun m h0 hm sm hw => by
          have hmF := (hDi m h0 sm).1
          refine ⟨?_, hFD m hmF, by rw [c.seesH hwf u hmF]; exact sm⟩
          rcases hw with hw | hw
          · rw [← e4]; exact hw
          · omega
        have hovlt : ∀ k, D k → (ovH l h' L ops.size k).isSome → ρ.φ k < w.heap.size := fun k hD hk => by
          cases ho2 : ovH l h' L ops.size k with
          | none => rw [ho2] at hk; cases hk
          | some ob => exact (I.rel.holds k ob hD ho2).lt
        -- a block of a name that it doesn't write
        have hkeep : ∀ k, D k → (ovH l h' L ops.size k).isSome → ¬ wrH l h' i k → w'.heap[ρ.φ k]? = w.heap[ρ.φ k]? := fun k hD hk hnw => by
          refine hs.frame _ (hovlt k hD hk) fun m h0 hm sm hw he => ?_
          obtain ⟨q1, q2, q3⟩ := hwrt m h0 hm sm hw
          have := I.rel.inj m k q2 hD q3 hk he
          subst this
          exact hnw (.inl q1)
        have hknown : ∀ k, D k → (ovH l h' L ops.size k).isSome → ρ'.φ k = ρ.φ k := fun k hD hk => hAg.φ k (I.rel.known k hD hk)
        have hDwr : ∀ k, wrH l h' i k → (k ∈ stF l i ∨ (stH l h' i).next ≤ k) := fun k hk => hk.elim (fun h => .inl (hW k h)) (fun h => .inr h.1)
        have hmix : ∀ n m, wrH l h' i n → ¬ wrH l h' i m → D m → (h2.get n).isSome → (ovH l h' L ops.size m).isSome → ρ'.φ n = ρ'.φ m → False := fun n m hn hm hDm sn sm he => by
          rw [hknown m hDm sm] at he
          by_cases hlt : n < (stH l h' i).next
          · have hnW : n ∈ stW l i := hn.resolve_right (fun h => by have := h.1; omega)
            have hnF := hW n hnW
            have sn' : ((stH l h' i).get n).isSome := m2.dom n hlt sn
            have sn2 : (ovH l h' L ops.size n).isSome := by rw [c.seesH hwf u hnF]; exact sn'
            rw [hknown n (hFD n hnF) sn2] at he
            have := I.rel.inj n m (hFD n hnF) hDm sn2 sm he
            subst this; exact hm hn
          · have hsp : Span (stH l h' i).next (stH l h' (i + 1)).next n := hn.resolve_left (fun h => hlt (hFn n (hW n h)))
            rcases hs.fresh n ⟨hsp.1, by rw [hnext]; exact hsp.2⟩ with h3 | ⟨m0, g1, g2, g3, g4, g5⟩
            · have := hovlt m hDm sm; omega
            · obtain ⟨q1, q2, q3⟩ := hwrt m0 g1 g2 g3 g4
              have := I.rel.inj m0 m q2 hDm q3 sm (by rw [← g5]; exact he)
              subst this; exact hm (.inl q1)
        refine hK ρ' _ w' ⟨⟨?_, ?_, ?_, hrel.sym, fun g hg => ⟨(hrel.glob g hg).1, (hrel.glob g hg).2⟩⟩, ?_, ?_, ?_, ⟨?_, ?_, hs.os.trans I.step.os, hs.tape.trans I.step.tape, hs.output.trans I.step.output, Nat.le_trans I.step.size hs.size, ?_⟩⟩
        · intro n m hDn hDm sn sm he
          by_cases hn : wrH l h' i n
          · rw [c.newH hwf u hn, hget] at sn
            by_cases hm : wrH l h' i m
            · rw [c.newH hwf u hm, hget] at sm
              exact hrel.inj n m (hDwr n hn) (hDwr m hm) sn sm he
            · rw [c.oldH hm] at sm
              exact (hmix n m hn hm hDm sn sm he).elim
          · rw [c.oldH hn] at sn
            by_cases hm : wrH l h' i m
            · rw [c.newH hwf u hm, hget] at sm
              exact (hmix m n hm hn hDn sm sn he.symm).elim
            · rw [c.oldH hm] at sm
              rw [hknown n hDn sn, hknown m hDm sm] at he
              exact I.rel.inj n m hDn hDm sn sm he
        · intro n ob hDn hob
          by_cases hn : wrH l h' i n
          · rw [c.newH hwf u hn, hget] at hob
            exact hrel.holds n ob (hDwr n hn) hob
          · rw [c.oldH hn] at hob
            have sn : (ovH l h' L ops.size n).isSome := by rw [hob]; rfl
            exact (I.rel.holds n ob hDn hob).mono hAg hsub (I.rel.known n hDn sn) (hkeep n hDn sn hn)
        · intro n hDn sn
          by_cases hn : wrH l h' i n
          · rw [c.newH hwf u hn, hget] at sn
            exact hrel.known n (hDwr n hn) sn
          · rw [c.oldH hn] at sn
            exact hsub n (I.rel.known n hDn sn)
        · exact c.putT u ho e1.symm hsz hv I.tmps hAg hsub
        · rw [← I.size]; cases o.dst <;> simp [Act.put]
        · rw [← I.defers]; cases o.dst <;> rfl
        · refine ⟨hs.agree.σ.trans I.step.agree.σ, fun n hn => ?_, fun n hn => ?_⟩
          · rw [hs.agree.φ n (fun hh => hn (c.inSpan ⟨hh.1, by rw [← hnext]; exact hh.2⟩)), I.step.agree.φ n hn]
          · rw [hs.agree.κ n (fun hh => hn (c.inSpan ⟨hh.1, by rw [← hnext]; exact hh.2⟩)), I.step.agree.κ n hn]
        -- a name of before that is written: one of the region's own, or one of the start
        have hback : ∀ m, m ∈ stW l i → m < (stH l h' i).next → ((stH l h' i).get m).isSome → D m →
            w0.heap.size ≤ ρ.φ m ∨ ∃ m0, D m0 ∧ m0 < (stH l h' 0).next ∧ ((stH l h' 0).get m0).isSome ∧ (m0 ∈ h'.wrt ∨ (stH l h' 0).base ≤ m0) ∧ ρ.φ m = ρ0.φ m0 := fun m hmW hlt sm hDm => by
          by_cases hm0 : m < (stH l h' 0).next
          · refine .inr ⟨m, hDm, hm0, (c.mono (i := 0) (j := i) (Nat.zero_le _)).dom m hm0 sm, ?_, ?_⟩
            · by_cases hb : m < (stH l h' 0).base
              · exact .inl ((c.monoE (i + 1)).wrt m ((c.mono1 i).2.2.2.1 m hmW (by rw [(c.mono (i := 0) (j := i) (Nat.zero_le _)).base]; exact hb)))
              · exact .inr (by omega)
            · exact I.step.agree.φ m (fun hh => by have := hh.1; omega)
          · obtain ⟨j, hj, hsp⟩ := c.findSpan i (by omega) hlt
            have hL : L j = true := (c.confH u (j := j) (k := m) (by have := u.lt; omega) (by omega) (.inr hsp) (.inl (hW m hmW))).2 hj
            exact I.step.fresh m ⟨j, by have := u.lt; omega, hL, hsp⟩
        · intro n hn
          rcases (SL.with1 u.lt).1 hn with hn | hn
          · obtain ⟨j, hj, hL, hsp⟩ := hn
            have : ρ'.φ n = ρ.φ n := hs.agree.φ n (fun hh => by
              have := c.disj hsp ⟨hh.1, by rw [← hnext]; exact hh.2⟩
              subst this; rw [u.not] at hL; cases hL)
            rw [this]
            exact I.step.fresh n ⟨j, hj, hL, hsp⟩
          · rcases hs.fresh n ⟨hn.1, by rw [hnext]; exact hn.2⟩ with h3 | ⟨m, g1, g2, g3, g4, g5⟩
            · exact .inl (Nat.le_trans I.step.size h3)
            · obtain ⟨q1, q2, q3⟩ := hwrt m g1 g2 g3 g4
              rw [g5]
              exact hback m q1 g2 g3 q2
        · intro k hk hno
          have hback : ∀ m, m ∈ stW l i → m < (stH l h' i).next → ((stH l h' i).get m).isSome → D m →
              w0.heap.size ≤ ρ.φ m ∨ ∃ m0, D m0 ∧ m0 < (stH l h' 0).next ∧ ((stH l h' 0).get m0).isSome ∧ (m0 ∈ h'.wrt ∨ (stH l h' 0).base ≤ m0) ∧ ρ.φ m = ρ0.φ m0 := fun m hmW hlt sm hDm => by
            by_cases hm0 : m < (stH l h' 0).next
            · refine .inr ⟨m, hDm, hm0, (c.mono (i := 0) (j := i) (Nat.zero_le _)).dom m hm0 sm, ?_, ?_⟩
              · by_cases hb : m < (stH l h' 0).base
                · exact .inl ((c.monoE (i + 1)).wrt m ((c.mono1 i).2.2.2.1 m hmW (by rw [(c.mono (i := 0) (j := i) (Nat.zero_le _)).base]; exact hb)))
                · exact .inr (by omega)
              · exact I.step.agree.φ m (fun hh => by have := hh.1; omega)
            · obtain ⟨j, hj, hsp⟩ := c.findSpan i (by omega) hlt
              have hL : L j = true := (c.confH u (j := j) (k := m) (by have := u.lt; omega) (by omega) (.inr hsp) (.inl (hW m hmW))).2 hj
              exact I.step.fresh m ⟨j, by have := u.lt; omega, hL, hsp⟩
          rw [hs.frame k (Nat.lt_of_lt_of_le hk I.step.size) ?_, I.step.frame k hk hno]
          intro m g1 g2 g3 g4 he
          obtain ⟨q1, q2, q3⟩ := hwrt m g1 g2 g3 g4
          rcases hback m q1 g2 g3 q2 with h3 | ⟨m0, p1, p2, p3, p4, p5⟩
          · omega
          · exact hno m0 p1 p2 p3 p4 (by rw [← p5]; exact he)
end
end Go.Proofs.Ytfakfnekcgkelaa
/- An evaluator of Go code whose memory has names of its own (6): a region that draws its order. -/
namespace Go.Proofs.Ytfakfnekcgkelaa
set_option linter.unusedVariables false
set_option linter.unusedSimpArgs false

/-- temporaries: those of the evaluator, those of Go's -/
structure TR (N : Nat → Prop) (ρ : Ren) (ts tm : Array Value) : Prop where
  val : ∀ t : Nat, VR N ρ (ts.getD t undef) (tm.getD t undef)
  size : tm.size = ts.size
theorem TR.mono {N N' : Nat → Prop} {ρ ρ' : Ren} {ts tm : Array Value} (h : TR N ρ ts tm) (ha : Agree N ρ ρ') (hN : ∀ n, N n → N' n) : TR N' ρ' ts tm := ⟨fun t => (h.val t).mono ha hN, h.size⟩

section
variable {P : Program} {ops : Array Oper} {f : Oper → Array Value → AM Value} {l : List Rec} {t' : Array Value} {h' : AH} {D N : Nat → Prop} {ρ0 : Ren} {a0 : Act} {w0 : World} {SQ : (Nat → Value) → Prop}
def LS (listed : Array Bool) (k : Nat) : Bool := listed.getD k false
theorem all_listed {listed : Array Bool} (hs : listed.size = ops.size) (hd : Down ops (LS listed)) (c : RC ops f l t' h') (hr : Region.ready .any ops listed = []) : ∀ k, k < ops.size → LS listed k = true := by
  intro k
  induction k using Nat.strongRecOn with
  | _ k ih =>
    intro hk
    cases hl : LS listed k with
    | true => rfl
    | false =>
      exfalso
      obtain ⟨o, ho⟩ := c.get hk
      have hlt : k < listed.size := by omega
      have : k ∈ Region.ready .any ops listed := by
        rw [mem_ready]
        refine ⟨?_, o, ho, fun e he hb => ?_⟩
        · unfold LS at hl
          simp only [Array.getD, hlt, dif_pos] at hl ⊢
          exact hl
        · have hme : e.on ∈ edges o := by
            unfold edges
            exact List.mem_map.2 ⟨e, List.mem_filter.2 ⟨by simpa using he, hb⟩, rfl⟩
          have := (c.ok1 hk).1 o ho e.on hme
          exact ih e.on this (by omega)
      rw [hr] at this
      cases this
theorem LS_set {listed : Array Bool} {i : Nat} (hi : i < listed.size) : LS (listed.setIfInBounds i true) = with1 (LS listed) i := by
  funext k
  show (listed.setIfInBounds i true).getD k false = if k = i then true else listed.getD k false
  rw [Array.getD_eq_getD_getElem?, Array.getD_eq_getD_getElem?, Array.getElem?_setIfInBounds]
  by_cases h : k = i
  · subst h; simp [hi]
  · rw [if_neg (fun e => h e.symm), if_neg h]
theorem Down.with1 {L : Nat → Bool} {i : Nat} (u : Up ops L i) : Down ops (with1 L i) := by
  intro j o ho hL e he
  unfold Go.Proofs.Ytfakfnekcgkelaa.with1 at *
  by_cases hji : j = i
  · subst hji
    have := u.edges o ho e he
    split
    · rfl
    · exact this
  · rw [if_neg hji] at hL
    have := u.down j o ho hL e he
    split
    · rfl
    · exact this
theorem RC.any (c : RC ops f l t' h') (hf : OSound P SQ ops f) (hsq : SQ ρ0.σ) (hcov : Cov D h') (hwf : WF (stH l h' 0)) (hN : New N (stH l h' 0).next h'.next) {Q : Exit → Act → World → Prop}
    (hQ : ∀ L ρ a w, (∀ k, k < ops.size → L k = true) → Inv ops l t' h' D N ρ0 a0 w0 L ρ a w → Q .normal a w) :
    ∀ (fuel : Nat) (listed : Array Bool) ρ a w, listed.size = ops.size → listed.toList.count false ≤ fuel → Down ops (LS listed) → Inv ops l t' h' D N ρ0 a0 w0 (LS listed) ρ a w → wpAny P .any ops Q fuel listed a w := by
  intro fuel
  induction fuel with
  | zero =>
    intro listed ρ a w hs hc hd I
    have hall : ∀ b ∈ listed.toList, b = true := fun b hb => by
      cases b with
      | true => rfl
      | false => have := List.count_pos_iff.2 hb; omega
    have hL : ∀ k, k < ops.size → LS listed k = true := fun k hk => by
      unfold LS
      have hlt : k < listed.size := by omega
      rw [Array.getD, dif_pos hlt]
      exact hall _ (Array.mem_toList_iff.2 (Array.getElem_mem hlt))
    refine ⟨?_, hQ _ ρ a w hL I⟩
    cases hr : Region.ready .any ops listed with
    | nil => rfl
    | cons i r =>
      have : i ∈ Region.ready .any ops listed := by rw [hr]; simp
      rw [mem_ready] at this
      obtain ⟨h1, o, ho, _⟩ := this
      have hi := (Array.getElem?_eq_some_iff.1 ho).1
      have hlt : i < listed.size := by omega
      have := hL i hi
      unfold LS at this
      simp only [Array.getD, hlt, dif_pos] at h1 this
      rw [h1] at this; cases this
  | succ fuel ih =>
    intro listed ρ a w hs hc hd I
    refine ⟨fun hr => hQ _ ρ a w (all_listed hs hd c hr) I, fun i hi => ?_⟩
    rw [mem_ready] at hi
    obtain ⟨h1, o, ho, he⟩ := hi
    have hlt := (Array.getElem?_eq_some_iff.1 ho).1
    have hlt2 : i < listed.size := by omega
    have hi0 : listed[i] = false := by rw [Array.getD, dif_pos hlt2] at h1; exact h1
    have u : Up ops (LS listed) i := ⟨hd, by unfold LS; rw [Array.getD, dif_pos hlt2]; exact hi0, hlt, fun o' ho' e hee => by
      rw [ho] at ho'; injection ho' with ho'; subst ho'
      unfold edges at hee
      obtain ⟨ed, h2, rfl⟩ := List.mem_map.1 hee
      obtain ⟨h3, h4⟩ := List.mem_filter.1 h2
      exact he ed (by simpa using h3) h4⟩
    refine c.op hf hsq hcov hwf hN u I (fun ρ' a' w' I' => ih _ ρ' a' w' (by simpa using hs) ?_ ?_ ?_)
    · rw [Array.toList_setIfInBounds, List.count_set (by simpa using hlt2)]
      have h2 : listed.toList[i]'(by simpa using hlt2) = false := by simpa using hi0
      have h3 : 0 < listed.toList.count false := List.count_pos_iff.2 (by rw [← hi0]; exact Array.mem_toList_iff.2 (Array.getElem_mem hlt2))
      rw [h2]
      have e1 : ((true : Bool) == false) = false := rfl
      have e2 : ((false : Bool) == false) = true := rfl
      rw [e1, e2, if_pos rfl, if_neg (by simp)]
      omega
    · rw [LS_set hlt2]; exact Down.with1 u
    · rw [LS_set hlt2]; exact I'
end

/-- a region that draws its order, as a program -/
def aReg (ops : Array Oper) (f : Oper → Array Value → AM Value) (ts : Array Value) : AM (Array Value) :=
  ⟨fun h => match regGo ops f ops.toList ts h with
    | some (l, t', h') => if okReg ops l t' h' = true then some (t', h') else none
    | none => none, fun h x h' e => by
    split at e
    · rename_i l t' h2 hr
      split at e
      · rename_i hok
        injection e with e; injection e with e1 e2; subst e2
        obtain ⟨a1, a2, a3, a4⟩ := regGo_spec hr
        have c : RC ops f l t' h2 := ⟨fun i o ho => a4 i o (by simpa using ho), by simpa using a1, hok⟩
        have := c.monoE 0
        rwa [a3] at this
      · cases e
    · cases e⟩

/-- what a run of a piece of code comes to -/
def QN (D N : Nat → Prop) (h : AH) (ρ : Ren) (a : Act) (w : World) (ts' : Array Value) (h' : AH) (a' : Act) (w' : World) : Prop :=
  ∃ ρ', Step D h ρ w h' ρ' w' ∧ Rel D (Grow N h.next h'.next) ρ' h'.get w' ∧ TR (Grow N h.next h'.next) ρ' ts' a'.tmps ∧ a'.defers = a.defers

theorem aReg_sound {P : Program} {SQ : (Nat → Value) → Prop} {ops : Array Oper} {f : Oper → Array Value → AM Value} (hm : P.follows .mixedOrders = true) (hf : OSound P SQ ops f) {ts ts' : Array Value} {h h' : AH} (hr : (aReg ops f ts).run h = some (ts', h'))
    {D N : Nat → Prop} {ρ : Ren} (hsq : SQ ρ.σ) {a : Act} {w : World} (hcov : Cov D h') (hwf : WF h) (hN : New N h.next h'.next) (hrel : Rel D N ρ h.get w) (ht : TR N ρ ts a.tmps) {id : Nat} {Q : Exit → Act → World → Prop}
    (hQ : ∀ a' w', QN D N h ρ a w ts' h' a' w' → Q .normal a' w') : (Code.region id ops true).wp P Q a w := by
  unfold aReg at hr
  dsimp only at hr
  split at hr
  case h_2 => cases hr
  case h_1 l t' h2 hg =>
    by_cases hok : okReg ops l t' h2 = true
    case neg => rw [if_neg hok] at hr; cases hr
    rw [if_pos hok] at hr
    injection hr with hr; injection hr with e1 e2; subst e1; subst e2
    obtain ⟨a1, a2, a3, a4⟩ := regGo_spec hg
    have c : RC ops f l t' h2 := ⟨fun i o ho => a4 i o (by simpa using ho), by simpa using a1, hok⟩
    have hL0 : ∀ k, LS (Array.replicate ops.size false) k = false := fun k => by
      unfold LS
      rw [Array.getD_eq_getD_getElem?]
      by_cases hk : k < ops.size
      · simp [hk]
      · simp [hk]
    have hov0 : ∀ {α X : Type} (s : Nat → X → α) (wr : Nat → X → Prop) [∀ i x, Decidable (wr i x)] (x : X) n, ov s wr (LS (Array.replicate ops.size false)) n x = s 0 x := by
      intro α X s wr _ x n
      induction n with
      | zero => rfl
      | succ n ih => unfold ov; rw [hL0 n]; simpa using ih
    have hSL0 : ∀ k, ¬ SL l h2 ops.size (LS (Array.replicate ops.size false)) k := fun k ⟨i, _, hh, _⟩ => by rw [hL0] at hh; cases hh
    have hNL0 : NL N l h2 ops.size (LS (Array.replicate ops.size false)) = N := funext fun k => propext ⟨fun hh => hh.elim (fun x => x) (fun x => absurd x (hSL0 k)), .inl⟩
    refine wp_region_any hm (c.any (ρ0 := ρ) (a0 := a) (w0 := w) hf hsq hcov (by rw [a3]; exact hwf) (by rw [a3]; exact hN) ?_ _ _ ρ a _ (by simp) (by simp) ?_ ?_)
    · intro L ρ' a' w' hall I
      refine hQ a' w' ⟨ρ', ?_⟩
      have hNg : NL N l h2 ops.size L = Grow N h.next h2.next := funext fun k => propext (or_congr Iff.rfl ⟨fun ⟨i, _, _, hs⟩ => by rw [← a3]; exact c.inSpan hs, fun hs => by
        have hlast : stH l h2 ops.size = h2 := (c.past (Nat.le_refl _)).2.1
        obtain ⟨j, hj, hsp⟩ := c.findSpan (k := k) ops.size (by rw [a3]; exact hs.1) (by rw [hlast]; exact hs.2)
        exact ⟨j, hj, hall j hj, hsp⟩⟩)
      have hovH : ovH l h2 L ops.size = h2.get := funext fun k => by
        classical
        unfold ovH
        rw [ov_eq (s := fun i k => (stH l h2 i).get k) (i := ops.size) (fun j hw => c.stepH (by rw [a3]; exact hwf) j k hw) ops.size (Nat.le_refl _) (fun j hj _ => ⟨fun _ => hj, fun _ => hall j hj⟩)]
        rw [(c.past (Nat.le_refl _)).2.1]
      have hovT : ∀ t, ovT ops l t' L ops.size t = t'.getD t undef := fun t => by
        classical
        unfold ovT
        rw [ov_eq (s := fun i k => (stT l t' i).getD k undef) (i := ops.size) (fun j hw => c.stepT j t hw) ops.size (Nat.le_refl _) (fun j hj _ => ⟨fun _ => hj, fun _ => hall j hj⟩)]
        rw [(c.past (Nat.le_refl _)).1]
      have hrel' := I.rel
      rw [hovH, hNg] at hrel'
      have htm := I.tmps
      rw [hNg] at htm
      have hst := I.step
      rw [a3] at hst
      refine ⟨⟨hst.agree, fun n hn => ?_, hst.os, hst.tape, hst.output, hst.size, hst.frame⟩, hrel', ⟨fun t => ?_, ?_⟩, I.defers⟩
      · refine hst.fresh n ?_
        have hlast : stH l h2 ops.size = h2 := (c.past (Nat.le_refl _)).2.1
        obtain ⟨j, hj, hsp⟩ := c.findSpan (k := n) ops.size (by rw [a3]; exact hn.1) (by rw [hlast]; exact hn.2)
        exact ⟨j, hj, hall j hj, hsp⟩
      · rw [← hovT t]; exact htm t
      · rw [I.size, a2, ← a2, ← c.sizeT ops.size, (c.past (Nat.le_refl _)).1]
    · intro j o ho hh; rw [hL0] at hh; cases hh
    · refine ⟨?_, ?_, ?_, rfl, ?_⟩
      · rw [hNL0, show ovH l h2 (LS (Array.replicate ops.size false)) ops.size = h.get from funext fun k => by
          classical
          unfold ovH
          rw [hov0, a3]]
        exact ⟨hrel.inj, fun n o hD ho => (hrel.holds n o hD ho).mono (Agree.refl _ _) (fun _ h => h) (hrel.known n hD (by rw [ho]; rfl)) rfl, hrel.known, hrel.sym, hrel.glob⟩
      · intro t
        rw [hNL0, show ovT ops l t' (LS (Array.replicate ops.size false)) ops.size t = ts.getD t undef from by
          classical
          unfold ovT
          rw [hov0, a2]]
        exact ht.val t
      · rw [a2]; exact ht.size
      · exact ⟨Agree.refl _ _, fun n hn => absurd hn (hSL0 n), rfl, rfl, rfl, Nat.le_refl _, fun _ _ _ => rfl⟩
end Go.Proofs.Ytfakfnekcgkelaa
/- An evaluator of Go code whose memory has names of its own (7): a load; code; calls. -/
namespace Go.Proofs.Ytfakfnekcgkelaa
set_option linter.unusedVariables false
set_option linter.unusedSimpArgs false

def isRowD : TypeDesc → Bool
  | .struct _ | .array _ _ => true
  | _ => false
/-- a variable of type t, of cells -/
def takeVar (P : Program) (t : TypeId) (cs : List Value) (off : Nat) : Option Value :=
  match P.info? t, P.underlying t with
  | some i, some d =>
    if isRowD d then (if off + i.size ≤ cs.length then some (.agg ((cs.drop off).take i.size).toArray) else none)
    else cs[off]?
  | _, _ => none
def aLoad (P : Program) (t : TypeId) (v : Value) : AM Value :=
  match v with
  | .pointer (some ⟨b, off, none⟩) => (AM.look b).bind fun
    | .row cs _ _ _ => AM.ofOpt (takeVar P t cs off)
    | _ => .fail
  | _ => .fail
theorem AM.look_some {n : Nat} {h h' : AH} {o : AObj} (e : (AM.look n).run h = some (o, h')) : h.get n = some o ∧ h' = { h with tch := note h.base n h.tch } := by
  unfold AM.look at e
  dsimp only at e
  split at e
  · rename_i o' ho
    injection e with e; injection e with e1 e2
    subst e1
    exact ⟨ho, e2.symm⟩
  · cases e
theorem AM.ofOpt_some {α : Type} {x : Option α} {y : α} {h h' : AH} (e : (AM.ofOpt x).run h = some (y, h')) : x = some y ∧ h' = h := by
  cases x with
  | none => cases e
  | some z => obtain ⟨rfl, rfl⟩ := AM.pure_some e; exact ⟨rfl, rfl⟩
theorem Cov.look {D : Nat → Prop} {h : AH} {n : Nat} (hc : Cov D { h with tch := note h.base n h.tch }) : D n := by
  by_cases hb : n < h.base
  · exact hc.tch n (mem_note hb)
  · exact hc.base n (by show h.base ≤ n; omega)
/-- a step in which nothing but a look was had -/
theorem look_step {D N : Nat → Prop} {h : AH} {n : Nat} {ρ : Ren} {w : World} (hr : Rel D N ρ h.get w) :
    Step D h ρ w { h with tch := note h.base n h.tch } ρ w ∧ Rel D (Grow N h.next h.next) ρ ({ h with tch := note h.base n h.tch } : AH).get w := by
  refine ⟨⟨Agree.refl _ _, fun k hk => absurd hk.1 (by have := hk.2; dsimp only at this; omega), rfl, rfl, rfl, Nat.le_refl _, fun _ _ _ => rfl⟩, ?_⟩
  rw [Grow.eq_self]; exact hr
theorem rangeAt_of {N : Nat → Prop} {ρ : Ren} {n : Nat} {w : World} {cs : List Value} {e : TypeId} {op : Nat} {mk : Bool} (h : Holds N ρ n w (.row cs e op mk)) (off : Nat) (l : List Value)
    (hl : ∀ j v, l[j]? = some v → cs[off + j]? = some v) : w.rangeAt (ρ.φ n) off (l.map (ren ρ)) := by
  obtain ⟨c, fr, h1, h2, _⟩ := h
  intro j v hv
  rw [List.getElem?_map] at hv
  cases hlj : l[j]? with
  | none => rw [hlj] at hv; cases hv
  | some u =>
    rw [hlj] at hv
    simp only [Option.map_some, Option.some.injEq] at hv
    subst hv
    obtain ⟨v', h3, h4⟩ := h2.get (hl j u hlj)
    rw [List.getElem?_take] at h3
    split at h3
    · simp only [World.cell?, h1, Option.isSome_none, Bool.false_eq_true, if_false]
      rw [← h4.eq] at h3
      rw [← h3]; simp
    · cases h3
theorem takeVar_run {P : Program} {N : Nat → Prop} {ρ : Ren} {n : Nat} {w : World} {cs : List Value} {e : TypeId} {op : Nat} {mk : Bool} {t : TypeId} {off : Nat} {v : Value}
    (hv : takeVar P t cs off = some v) (h : Holds N ρ n w (.row cs e op mk)) : ∃ v', (loadVar t ⟨ρ.φ n, off, none⟩).run P w = .ok v' w ∧ VR N ρ v v' := by
  unfold takeVar at hv
  cases hi : P.info? t with
  | none => rw [hi] at hv; cases hv
  | some i =>
    cases hu : P.underlying t with
    | none => rw [hi, hu] at hv; cases hv
    | some d =>
      rw [hi, hu] at hv
      dsimp only at hv
      cases hd : isRowD d with
      | true =>
        rw [hd, if_pos rfl] at hv
        split at hv
        · rename_i hlen
          injection hv with hv; subst hv
          have hr := rangeAt_of h off ((cs.drop off).take i.size) (fun j v hv => by
            rw [List.getElem?_take] at hv
            split at hv
            · rwa [List.getElem?_drop] at hv
            · cases hv)
          refine ⟨_, run_loadVar_mid w _ off t _ d hr hu (by cases d <;> simp_all [isRowD]) ?_, fun r hr2 => ?_⟩
          · rw [hi]; simp; omega
          · obtain ⟨c, fr, _, h2, _⟩ := h
            have e1 := h2 r hr2
            have e2 := h2.eq
            simp only [ren, List.map_toArray, Value.agg.injEq]
            congr 1
            rw [List.map_take, List.map_drop, List.map_take, List.map_drop, e1, e2]
        · cases hv
      | false =>
        rw [hd, if_neg (by simp)] at hv
        obtain ⟨c, fr, h1, h2, _⟩ := h
        obtain ⟨v', h3, h4⟩ := h2.get hv
        refine ⟨v', ?_, h4⟩
        have h5 : c[off]? = some v' := by
          rw [List.getElem?_take] at h3
          split at h3
          · simpa using h3
          · cases h3
        have hag : (isAgg t).run P w = .ok false w := by
          unfold isAgg
          rw [Sem.run_bind, run_underlying hu w]
          cases d <;> simp_all [isRowD]
        unfold loadVar
        rw [Sem.run_bind, hag]
        simp [World.cell?, h1, h5]
theorem aLoad_sound {P : Program} {t : TypeId} {v v' : Value} {h h' : AH} {x : Value} (e : (aLoad P t v).run h = some (x, h')) {D N : Nat → Prop} {ρ : Ren} {w : World} (hc : Cov D h') (hr : Rel D N ρ h.get w) (hv : VR N ρ v v') :
    ∃ a x', v' = .pointer (some a) ∧ (loadVar t a).run P w = .ok x' w ∧ VR N ρ x x' ∧ h'.next = h.next ∧ Step D h ρ w h' ρ w ∧ Rel D N ρ h'.get w := by
  unfold aLoad at e
  split at e
  case h_2 => cases e
  case h_1 b off =>
    obtain ⟨o, h1, e1, e2⟩ := AM.bind_some e
    obtain ⟨g1, rfl⟩ := AM.look_some e1
    cases o with
    | map es cl => cases e2
    | iter m s e t => cases e2
    | row cs el op mk =>
      obtain ⟨g2, rfl⟩ := AM.ofOpt_some e2
      obtain ⟨x', r1, r2⟩ := takeVar_run g2 (hr.holds b _ hc.look g1)
      have hs := look_step (n := b) hr
      rw [Grow.eq_self] at hs
      exact ⟨⟨ρ.φ b, off, none⟩, x', by rw [← hv.eq]; simp [ren, renB, renA], r1, r2, rfl, hs.1, hs.2⟩

/-- a region in its own order -/
def aSeq (ops : Array Oper) (f : Oper → Array Value → AM Value) : List Oper → Array Value → AM (Array Value)
  | [], ts => .pure ts
  | o :: r, ts => match aWanted ops o ts with
    | none => .fail
    | some false => aSeq ops f r (match o.dst with | some d => ts.setIfInBounds d undef | none => ts)
    | some true => (f o ts).bind fun v => aSeq ops f r (match o.dst with | some d => ts.setIfInBounds d v | none => ts)

inductive Way
  | normal
  | exit (id : Nat)
  | ret
def Way.exitOf : Way → Exit
  | .normal => .normal
  | .exit i => .exit i
  | .ret => .ret
def aCode (f : Oper → Array Value → AM Value) : Nat → Code → Array Value → AM (Way × Array Value)
  | 0, _, _ => .fail
  | n + 1, c, ts => match c with
    | .skip => .pure (.normal, ts)
    | .label _ => .pure (.normal, ts)
    | .region _ ops draw => (if draw then aReg ops f ts else aSeq ops f ops.toList ts).bind fun ts' => .pure (.normal, ts')
    | .seq a b => (aCode f n a ts).bind fun p => match p with
      | (.normal, ts') => aCode f n b ts'
      | (w, ts') => .pure (w, ts')
    | .cond c a b => if okOpd c then (match aEv ts c with
      | .bool t => aCode f n (if t then a else b) ts
      | _ => .fail) else .fail
    | .block id b => (aCode f n b ts).bind fun p => match p with
      | (.exit i, ts') => if i = id then .pure (.normal, ts') else .pure (.exit i, ts')
      | (w, ts') => .pure (w, ts')
    | .loop b => (aCode f n b ts).bind fun p => match p with
      | (.normal, ts') => aCode f n (.loop b) ts'
      | (w, ts') => .pure (w, ts')
    | .scope b => aCode f n b ts
    | .exit id => .pure (.exit id, ts)
    | .ret => .pure (.ret, ts)
    | _ => .fail

section
variable {P : Program} {SQ : (Nat → Value) → Prop} {f : Oper → Array Value → AM Value}
theorem QN.trans {D N : Nat → Prop} {h h1 h2 : AH} {ρ : Ren} {a a1 a2 : Act} {w w1 w2 : World} {ts2 : Array Value} {ρ1 : Ren} (hs : Step D h ρ w h1 ρ1 w1) (m1 : Mono h h1) (m2 : Mono h1 h2) (hd : a1.defers = a.defers)
    (k : QN D (Grow N h.next h1.next) h1 ρ1 a1 w1 ts2 h2 a2 w2) : QN D N h ρ a w ts2 h2 a2 w2 := by
  obtain ⟨ρ2, s2, r2, t2, d2⟩ := k
  rw [Grow.trans_eq N m1.next m2.next] at r2 t2
  exact ⟨ρ2, hs.trans s2 m1 m2, r2, t2, d2.trans hd⟩
theorem QN.self {D N : Nat → Prop} {h : AH} {ρ : Ren} {a : Act} {w : World} {ts : Array Value} (hr : Rel D N ρ h.get w) (ht : TR N ρ ts a.tmps) : QN D N h ρ a w ts h a w :=
  ⟨ρ, Step.refl _ _ _ _, by rw [Grow.eq_self]; exact hr, by rw [Grow.eq_self]; exact ht, rfl⟩
theorem New.left {N : Nat → Prop} {a b c : Nat} (h : New N a c) (hbc : b ≤ c) : New N a b := fun n hn => h n ⟨hn.1, by have := hn.2; omega⟩
theorem New.right {N : Nat → Prop} {a b c : Nat} (h : New N a c) (hab : a ≤ b) : New (Grow N a b) b c := fun n hn hh => hh.elim (h n ⟨by have := hn.1; omega, hn.2⟩) (fun hs => by have := hs.2; have := hn.1; omega)
theorem TR.put {N : Nat → Prop} {ρ : Ren} {ts : Array Value} {a : Act} (h : TR N ρ ts a.tmps) {v v' : Value} (hv : VR N ρ v v') (dst : Option Tmp) :
    TR N ρ (match dst with | some d => ts.setIfInBounds d v | none => ts) (a.put dst v').tmps := by
  cases dst with
  | none => exact h
  | some d =>
    refine ⟨fun t => ?_, by simp [Act.put, h.size]⟩
    dsimp only [Act.put]
    rw [getD_set, getD_set, h.size]
    split
    · exact hv
    · exact h.val t
theorem aSeq_sound {ops : Array Oper} (hf : OSound P SQ ops f) : ∀ (r : List Oper) (i : Nat), (∀ k o, r[k]? = some o → ops[i + k]? = some o) → i + r.length = ops.size →
    ∀ (ts ts' : Array Value) (h h' : AH), (aSeq ops f r ts).run h = some (ts', h') → ∀ (D N : Nat → Prop) (ρ : Ren) (a : Act) (w : World), SQ ρ.σ → Cov D h' → WF h → New N h.next h'.next → Rel D N ρ h.get w → TR N ρ ts a.tmps →
    ∀ (Q : Exit → Act → World → Prop), (∀ a' w', QN D N h ρ a w ts' h' a' w' → Q .normal a' w') → wpOps P ops Q (List.range' i r.length) a w := by
  intro r
  induction r with
  | nil =>
    intro i _ _ ts ts' h h' e D N ρ a w hsq hc hwf hN hr ht Q hQ
    obtain ⟨rfl, rfl⟩ := AM.pure_some e
    exact hQ a w (QN.self hr ht)
  | cons o r ih =>
    intro i hops hlen ts ts' h h' e D N ρ a w hsq hc hwf hN hr ht Q hQ
    have ho : ops[i]? = some o := hops 0 o (by simp)
    rw [List.length_cons, List.range'_succ]
    unfold wpOps
    simp only [ho]
    unfold aSeq at e
    have hops' : ∀ k o', r[k]? = some o' → ops[i + 1 + k]? = some o' := fun k o' hk => by
      have := hops (k + 1) o' (by simpa using hk)
      rwa [show i + 1 + k = i + (k + 1) from by omega]
    have hlen' : i + 1 + r.length = ops.size := by simp at hlen; omega
    cases hw : aWanted ops o ts with
    | none => rw [hw] at e; cases e
    | some b =>
      rw [wanted_of hw ht.size (fun t _ => ht.val t)]
      rw [hw] at e
      cases b with
      | false =>
        rw [if_neg (by simp)]
        refine ih (i + 1) hops' hlen' _ ts' h h' e D N ρ _ w hsq hc hwf hN hr (ht.put (VR.shut rfl) o.dst) Q (fun a' w' ⟨ρ', q1, q2, q3, q4⟩ => hQ a' w' ⟨ρ', q1, q2, q3, ?_⟩)
        rw [q4]; cases o.dst <;> rfl
      | true =>
        rw [if_pos rfl]
        refine .inl ?_
        obtain ⟨v, h1, e1, e2⟩ := AM.bind_some e
        have m1 := (f o ts).mono _ _ _ e1
        have m2 := (aSeq ops f r _).mono _ _ _ e2
        refine hf o (Array.mem_of_getElem? ho) ts N ρ a hsq (fun t _ => ht.val t) h v h1 e1 D w (hc.of m2) hwf (hN.left m2.next) hr _ Q (fun ρ' v' w' hs hr' hv => ?_)
        have hAg := agree_step hs (hN.left m2.next)
        refine ih (i + 1) hops' hlen' _ ts' h1 h' e2 D _ ρ' _ w' (by rw [hs.agree.σ]; exact hsq) hc (m1.wf hwf) (hN.right m1.next) hr' ((ht.mono hAg (fun n hn => .inl hn)).put hv o.dst) Q (fun a' w2 q => hQ a' w2 ?_)
        exact QN.trans hs m1 m2 (by cases o.dst <;> rfl) q

def CS (P : Program) (SQ : (Nat → Value) → Prop) (f : Oper → Array Value → AM Value) (n : Nat) (c : Code) (W : (Exit → Act → World → Prop) → Act → World → Prop) : Prop :=
  ∀ (ts : Array Value) (h : AH) (wy : Way) (ts' : Array Value) (h' : AH), (aCode f n c ts).run h = some ((wy, ts'), h') →
    ∀ (D N : Nat → Prop) (ρ : Ren) (a : Act) (w : World), SQ ρ.σ → Cov D h' → WF h → New N h.next h'.next → Rel D N ρ h.get w → TR N ρ ts a.tmps →
    ∀ (Q : Exit → Act → World → Prop), (∀ a' w', QN D N h ρ a w ts' h' a' w' → Q wy.exitOf a' w') → W Q a w
theorem aCode_both (hm : P.follows .mixedOrders = true) (hf : ∀ ops, OSound P SQ ops f) : ∀ (n : Nat), (∀ c, CS P SQ f n c (fun Q a w => c.wp P Q a w)) ∧ ∀ b, CS P SQ f n (.loop b) (fun Q a w => Code.rounds P b Q n a w) := by
  intro n
  induction n with
  | zero => constructor <;> (intro c ts h wy ts' h' e; cases e)
  | succ n ih0 =>
    obtain ⟨ih, ihl⟩ := ih0
    have hloop : ∀ b, CS P SQ f (n + 1) (.loop b) (fun Q a w => Code.rounds P b Q (n + 1) a w) := by
      intro b ts h wy ts' h' e D N ρ a w hsq hc hwf hN hr ht Q hQ
      unfold aCode at e
      obtain ⟨p, h1, e1, e2⟩ := AM.bind_some e
      obtain ⟨w1, ts1⟩ := p
      have m1 := (aCode f n b ts).mono _ _ _ e1
      show b.wp P (Exit.then (Code.rounds P b Q n) Q) a w
      cases w1 with
      | normal =>
        have m2 := (aCode f n (.loop b) ts1).mono _ _ _ e2
        refine ih b ts h .normal ts1 h1 e1 D N ρ a w hsq (hc.of m2) hwf (hN.left m2.next) hr ht _ (fun a' w' q => ?_)
        obtain ⟨ρ', s1, r1, t1, d1⟩ := q
        exact ihl b ts1 h1 wy ts' h' e2 D _ ρ' a' w' (by rw [s1.agree.σ]; exact hsq) hc (m1.wf hwf) (hN.right m1.next) r1 t1 Q (fun a2 w2 q2 => hQ a2 w2 (QN.trans s1 m1 m2 d1 q2))
      | exit i =>
        obtain ⟨e3, rfl⟩ := AM.pure_some e2; injection e3 with e3 e4; subst e3; subst e4
        exact ih b ts h (.exit i) ts' h' e1 D N ρ a w hsq hc hwf hN hr ht _ hQ
      | ret =>
        obtain ⟨e3, rfl⟩ := AM.pure_some e2; injection e3 with e3 e4; subst e3; subst e4
        exact ih b ts h .ret ts' h' e1 D N ρ a w hsq hc hwf hN hr ht _ hQ
    refine ⟨?_, hloop⟩
    intro c ts h wy ts' h' e D N ρ a w hsq hc hwf hN hr ht Q hQ
    have e0 := e
    unfold aCode at e
    cases c with
    | skip =>
      obtain ⟨e1, rfl⟩ := AM.pure_some e; injection e1 with e1 e2; subst e1; subst e2
      exact wp_skip (hQ a w (QN.self hr ht))
    | label l =>
      obtain ⟨e1, rfl⟩ := AM.pure_some e; injection e1 with e1 e2; subst e1; subst e2
      exact wp_label (hQ a w (QN.self hr ht))
    | region id ops draw =>
      obtain ⟨ts1, h1, e1, e2⟩ := AM.bind_some e
      obtain ⟨e3, rfl⟩ := AM.pure_some e2; injection e3 with e3 e4; subst e3; subst e4
      cases draw with
      | true => exact aReg_sound (ts' := ts') hm (hf ops) e1 hsq hc hwf hN hr ht hQ
      | false =>
        refine wp_region ?_
        rw [List.range_eq_range']
        have := aSeq_sound (hf ops) ops.toList 0 (fun k o hk => by simpa using hk) (by simp) ts ts' h h' e1 D N ρ a w hsq hc hwf hN hr ht Q hQ
        simpa using this
    | seq x y =>
      obtain ⟨p, h1, e1, e2⟩ := AM.bind_some e
      obtain ⟨w1, ts1⟩ := p
      have m1 := (aCode f n x ts).mono _ _ _ e1
      refine wp_seq ?_
      cases w1 with
      | normal =>
        have m2 := (aCode f n y ts1).mono _ _ _ e2
        refine ih x ts h .normal ts1 h1 e1 D N ρ a w hsq (hc.of m2) hwf (hN.left m2.next) hr ht _ (fun a' w' q => ?_)
        obtain ⟨ρ', s1, r1, t1, d1⟩ := q
        exact ih y ts1 h1 wy ts' h' e2 D _ ρ' a' w' (by rw [s1.agree.σ]; exact hsq) hc (m1.wf hwf) (hN.right m1.next) r1 t1 Q (fun a2 w2 q2 => hQ a2 w2 (QN.trans s1 m1 m2 d1 q2))
      | exit i =>
        obtain ⟨e3, rfl⟩ := AM.pure_some e2; injection e3 with e3 e4; subst e3; subst e4
        exact ih x ts h (.exit i) ts' h' e1 D N ρ a w hsq hc hwf hN hr ht _ hQ
      | ret =>
        obtain ⟨e3, rfl⟩ := AM.pure_some e2; injection e3 with e3 e4; subst e3; subst e4
        exact ih x ts h .ret ts' h' e1 D N ρ a w hsq hc hwf hN hr ht _ hQ
    | cond c x y =>
      dsimp only at e
      split at e
      case isFalse => cases e
      case isTrue hok =>
        cases hv : aEv ts c with
        | bool t =>
          rw [hv] at e
          have hcv : a.eval c = .bool t := by
            cases c with
            | tmp k =>
              have := (ht.val k).eq
              simp only [aEv] at hv
              rw [hv] at this
              show a.tmps.getD k undef = _
              rw [← this]; simp [ren]
            | const v => exact hv
            | global g => cases hok
            | func g => simp [aEv] at hv
          exact wp_cond hcv (ih _ ts h wy ts' h' e D N ρ a w hsq hc hwf hN hr ht Q hQ)
        | _ => rw [hv] at e; cases e
    | block id b =>
      obtain ⟨p, h1, e1, e2⟩ := AM.bind_some e
      obtain ⟨w1, ts1⟩ := p
      refine wp_block ?_
      cases w1 with
      | normal =>
        obtain ⟨e3, rfl⟩ := AM.pure_some e2; injection e3 with e3 e4; subst e3; subst e4
        exact ih b ts h .normal ts' h' e1 D N ρ a w hsq hc hwf hN hr ht _ hQ
      | ret =>
        obtain ⟨e3, rfl⟩ := AM.pure_some e2; injection e3 with e3 e4; subst e3; subst e4
        exact ih b ts h .ret ts' h' e1 D N ρ a w hsq hc hwf hN hr ht _ hQ
      | exit i =>
        dsimp only at e2
        split at e2
        · rename_i hid
          obtain ⟨e3, rfl⟩ := AM.pure_some e2; injection e3 with e3 e4; subst e3; subst e4
          exact ih b ts h (.exit i) ts' h' e1 D N ρ a w hsq hc hwf hN hr ht _ (fun a' w' q => by simp only [Way.exitOf, Exit.inBlock, hid, if_true]; exact hQ a' w' q)
        · rename_i hid
          obtain ⟨e3, rfl⟩ := AM.pure_some e2; injection e3 with e3 e4; subst e3; subst e4
          exact ih b ts h (.exit i) ts' h' e1 D N ρ a w hsq hc hwf hN hr ht _ (fun a' w' q => by simp only [Way.exitOf, Exit.inBlock, hid, if_false]; exact hQ a' w' q)
    | loop b => exact wp_loop_rounds (n + 1) (hloop b ts h wy ts' h' e0 D N ρ a w hsq hc hwf hN hr ht Q hQ)
    | scope b => exact wp_scope_straight (ih b ts h wy ts' h' e D N ρ a w hsq hc hwf hN hr ht _ (fun a' w' q => by cases wy <;> exact hQ a' w' q))
    | exit id =>
      obtain ⟨e1, rfl⟩ := AM.pure_some e; injection e1 with e1 e2; subst e1; subst e2
      exact wp_exit (hQ a w (QN.self hr ht))
    | ret =>
      obtain ⟨e1, rfl⟩ := AM.pure_some e; injection e1 with e1 e2; subst e1; subst e2
      exact wp_ret (hQ a w (QN.self hr ht))
    | rangeFunc _ _ _ _ => cases e
    | goto _ => cases e
    | refuse _ => cases e
end
end Go.Proofs.Ytfakfnekcgkelaa
/- An evaluator of Go code whose memory has names of its own (8): operations that look at no memory. -/
namespace Go.Proofs.Ytfakfnekcgkelaa
set_option linter.unusedVariables false
set_option linter.unusedSimpArgs false

def SymOk (r : Ren) : Prop := ∀ k, (r.σ k).oneCell' = true
/-- wherever names lie: it leaves out -/
def PureOK (P : Program) (ev : Operand → Value) (o : Oper) (out : Value) : Prop :=
  ∀ (r : Ren), SymOk r → ∀ w : World, (execOp (fun x => ren r (ev x)) o).run P w = .ok (.value (ren r out)) w

def pureRun {α : Type} (P : Program) : Sem α → Option α
  | .pure a => some a
  | .program k => pureRun P (k P)
  | _ => none
theorem pureRun_run {α : Type} {P : Program} : ∀ (s : Sem α) {a : α}, pureRun P s = some a → ∀ w, s.run P w = .ok a w := by
  intro s
  induction s with
  | pure a => intro b h w; simp [pureRun] at h; subst h; rfl
  | program k ih => intro b h w; simp only [pureRun] at h; simp only [Sem.run]; exact ih P h w
  | _ => intro b h w; simp [pureRun] at h
def noSel : Op → Bool
  | .select .. => false
  | _ => true
theorem noSel_ne {o : Op} (h : noSel o = true) : ∀ cs b, o ≠ .select cs b := by
  intro cs b e; subst e; cases h
def closedRun (P : Program) (ev : Operand → Value) (o : Oper) : Option Value :=
  if noSel o.op && o.op.operands.toList.all (fun x => shut (ev x)) then
    match pureRun P (execOp ev o) with
    | some (.value v) => if shut v then some v else none
    | _ => none
  else none
theorem closedRun_ok {P : Program} {ev : Operand → Value} {o : Oper} {out : Value} (h : closedRun P ev o = some out) : PureOK P ev o out := by
  unfold closedRun at h
  split at h
  case isFalse => cases h
  case isTrue hc =>
    rw [Bool.and_eq_true] at hc
    split at h
    case h_2 => cases h
    case h_1 v hv =>
      split at h
      case isFalse => cases h
      case isTrue hs =>
        injection h with h; subst h
        intro r hr w
        rw [execOp_congr (ρ := fun x => ren r (ev x)) (ρ' := ev) o (noSel_ne hc.1) (fun x hx => ren_shut r ((List.all_eq_true.1 hc.2) x (by simpa using hx)))]
        rw [ren_shut r hs]
        exact pureRun_run _ hv w

theorem cells_ren {r : Ren} (hr : SymOk r) (v : Value) : (ren r v).cells = v.cells.map (ren r) := by
  cases v with
  | agg cs => simp [ren, Value.cells]
  | chan k =>
    cases k with
    | none => simp [ren, Value.cells]
    | some k =>
      have := hr k
      have e : ren r (.chan (some k)) = r.σ k := by simp [ren]
      have e2 : (Value.chan (some k)).cells = #[.chan (some k)] := rfl
      rw [e2, show (#[Value.chan (some k)].map (ren r)) = #[r.σ k] from by simp [e], e]
      revert this
      generalize r.σ k = z
      cases z <;> simp [Value.oneCell', Value.cells]
  | pointer a => cases a <;> simp [ren, Value.cells]
  | slice a n c => cases a <;> simp [ren, Value.cells]
  | map a => cases a <;> simp [ren, Value.cells]
  | _ => simp [ren, Value.cells]
theorem oneCell_ren {r : Ren} (hr : SymOk r) (v : Value) : (ren r v).oneCell' = v.oneCell' := by
  cases v with
  | chan k =>
    cases k with
    | none => simp [ren]
    | some k => simp only [ren, hr k]; rfl
  | pointer a => cases a <;> simp [ren, Value.oneCell']
  | slice a n c => cases a <;> simp [ren, Value.oneCell']
  | map a => cases a <;> simp [ren, Value.oneCell']
  | _ => simp [ren, Value.oneCell']

/-- a part of a struct's, an array's cells -/
def aPart (P : Program) (t : TypeId) (cs : Array Value) (off : Nat) : Option Value :=
  match P.info? t, P.underlying t with
  | some i, some d => if isRowD d then some (.agg (cs.extract off (off + i.size))) else cs[off]?
  | _, _ => none
theorem aPart_run {P : Program} {t : TypeId} {cs : Array Value} {off : Nat} {v : Value} (h : aPart P t cs off = some v) (r : Ren) (w : World) :
    (part t (cs.map fun v => ren r v) off).run P w = .ok (ren r v) w := by
  unfold aPart at h
  cases hi : P.info? t with
  | none => rw [hi] at h; cases h
  | some i =>
    cases hu : P.underlying t with
    | none => rw [hi, hu] at h; cases h
    | some d =>
      rw [hi, hu] at h
      dsimp only at h
      have hag : (isAgg t).run P w = .ok (isRowD d) w := by
        unfold isAgg
        rw [Sem.run_bind, run_underlying hu w]
        cases d <;> rfl
      have hs : (sizeOf t).run P w = .ok i.size w := by simp [sizeOf, typeInfo, hi]
      unfold part
      rw [Sem.run_bind, hag]
      cases hd : isRowD d with
      | true =>
        rw [hd, if_pos rfl] at h
        injection h with h; subst h
        simp only [Result.andThen_ok, if_true, Sem.run_bind, hs, Sem.run_pure, ren, Array.map_extract]
      | false =>
        rw [hd, if_neg (by simp)] at h
        simp [h]

/-- equal, where one of both is nil -/
def nilEq : TypeDesc → Value → Value → Option Bool
  | .pointer _, .pointer none, .pointer none => some true
  | .pointer _, .pointer none, .pointer (some _) => some false
  | .pointer _, .pointer (some _), .pointer none => some false
  | .interface _, .nilIface, .iface _ _ => some false
  | .interface _, .iface _ _, .nilIface => some false
  | .slice _, .slice none _ _, .slice none _ _ => some true
  | .slice _, .slice none _ _, .slice (some _) _ _ => some false
  | .slice _, .slice (some _) _ _, .slice none _ _ => some false
  | .map _ _, .map none, .map none => some true
  | .map _ _, .map none, .map (some _) => some false
  | .map _ _, .map (some _), .map none => some false
  | .func _ _ _, .nilFunc, .nilFunc => some true
  | .func _ _ _, .nilFunc, .func _ _ _ => some false
  | .func _ _ _, .func _ _ _, .nilFunc => some false
  | _, _, _ => none
/-- a pair of which '==' is asked without more -/
inductive NilPair : Value → Value → Prop
  | ptr (a b : Option Addr) : NilPair (.pointer a) (.pointer b)
  | sl (a b : Option Addr) (n c m d : Nat) : NilPair (.slice a n c) (.slice b m d)
  | mp (a b : Option Nat) : NilPair (.map a) (.map b)
  | fn1 : NilPair .nilFunc .nilFunc
  | fn2 (f : Fn) (a b : Array Value) : NilPair .nilFunc (.func f a b)
  | fn3 (f : Fn) (a b : Array Value) : NilPair (.func f a b) .nilFunc
  | if1 (t : TypeId) (v : Value) : NilPair .nilIface (.iface t v)
  | if2 (t : TypeId) (v : Value) : NilPair (.iface t v) .nilIface
theorem NilPair.eql {P : Program} {x y : Value} (h : NilPair x y) {t : TypeId} {X Y : Operand} {w : World} {b : Bool} (he : (Op.equal t x y).run P w = .ok b w) :
    (eqGuard .eql t X Y x y).run P w = .ok () w ∧ (eqGuard .neq t X Y x y).run P w = .ok () w ∧ (binOp .eql t x y).run P w = .ok (.bool b) w ∧ (binOp .neq t x y).run P w = .ok (.bool (!b)) w := by
  cases h <;> exact ⟨rfl, rfl, by simp only [binOp, Sem.run_bind, he]; rfl, by simp only [binOp, Sem.run_bind, he]; rfl⟩
theorem nilEq_run {P : Program} {t : TypeId} {d : TypeDesc} (hu : P.underlying t = some d) {x y : Value} {b : Bool} (h : nilEq d x y = some b) (r : Ren) (w : World) :
    NilPair (ren r x) (ren r y) ∧ (Op.equal t (ren r x) (ren r y)).run P w = .ok b w := by
  have key : (Op.equal t (ren r x) (ren r y)).run P w = (Op.equalIn (9999 + 1) t (ren r x) (ren r y)).run P w := rfl
  rw [key, Op.equalIn.eq_2, Sem.run_bind, run_underlying hu w, Result.andThen_ok]
  unfold nilEq at h
  split at h
  all_goals first
    | (cases h; done)
    | (injection h with h; subst h
       simp only [ren]
       exact ⟨by constructor, rfl⟩)

/-- an operation on two ints -/
def intRun (P : Program) (op : BinOp) : Value → Value → Option Value
  | .int k a, .int l b => (match pureRun P (binOp op 0 (.int k a) (.int l b)) with
    | some v => if shut v then some v else none
    | none => none)
  | _, _ => none
theorem intRun_run {P : Program} {op : BinOp} {vx vy v : Value} (h : intRun P op vx vy = some v) (r : Ren) (t : TypeId) (x y : Operand) (w : World) :
    ((do eqGuard op t x y (ren r vx) (ren r vy); binOp op t (ren r vx) (ren r vy)) : Sem Value).run P w = .ok (ren r v) w := by
  unfold intRun at h
  split at h
  case h_2 => cases h
  case h_1 k a l b =>
    split at h
    case h_2 => cases h
    case h_1 u hu =>
      split at h
      case isFalse => cases h
      case isTrue hs =>
        injection h with h; subst h
        have hr := pureRun_run _ hu w
        have hb : binOp op t (.int k a) (.int l b) = binOp op 0 (.int k a) (.int l b) := by cases op <;> rfl
        have hg : (eqGuard op t x y (.int k a) (.int l b)).run P w = .ok () w := by
          unfold eqGuard
          cases op <;> rfl
        have e1 : ren r (.int k a) = .int k a := by simp [ren]
        have e2 : ren r (.int l b) = .int l b := by simp [ren]
        rw [e1, e2, ren_shut r hs, Sem.run_bind, hg, hb]
        exact hr
def notRun : UnOp → Value → Option Value
  | .not, .bool b => some (.bool (!b))
  | _, _ => none
def aPure (P : Program) (ev : Operand → Value) (o : Oper) : Option Value :=
  match o.op with
  | .move x => some (ev x)
  | .assign x => some (ev x)
  | .pick c a b => (match ev c with
    | .bool t => some (if t then ev a else ev b)
    | _ => none)
  | .extract t i => (match ev t with
    | .tuple vs => vs[i]?
    | _ => none)
  | .makeInterface t x => (match P.underlying t with
    | some (.interface _) => none
    | some _ => some (.iface t (ev x))
    | none => none)
  | .makeFunc fn fs cs => some (.func fn (fs.map ev) (cs.map ev))
  | .nilCheck x => (match ev x with
    | .pointer (some a) => some (.pointer (some a))
    | .func (.func f) a b => some (.func (.func f) a b)
    | .iface t v => some (.iface t v)
    | .map (some r) => some (.map (some r))
    | _ => none)
  | .fieldAddr s x f => (match ev x, P.underlying s with
    | .pointer (some a), some (.struct fields) => (match fields[f]? with
      | some fd => (match P.info? fd.type with
        | some i => if i.size = 0 then none else some (.pointer (some (a.add fd.offset)))
        | none => none)
      | none => none)
    | _, _ => none)
  | .indexAddr t x ix => (match ev ix, P.underlying t, ev x with
    | .int k i, some (.slice e), .slice (some ⟨ab, ao, none⟩) len _ => (match P.info? e with
      | some inf => if 0 ≤ i ∧ i < len then some (.pointer (some ((⟨ab, ao, none⟩ : Addr).add (i.toNat * inf.size)))) else none
      | none => none)
    | .int k i, some (.array len e), .pointer (some a) => (match P.info? e with
      | some inf => if 0 ≤ i ∧ i < len then some (.pointer (some (a.add (i.toNat * inf.size)))) else none
      | none => none)
    | _, _, _ => none)
  | .field t x f => (match P.underlying t, ev x with
    | some (.struct fields), .agg cs => (match fields[f]? with
      | some fd => aPart P fd.type cs fd.offset
      | none => none)
    | _, _ => none)
  | .index t x ix => (match ev ix, P.underlying t, ev x with
    | .int k i, some (.array len e), .agg cs => (match P.info? e with
      | some inf => if 0 ≤ i ∧ i < len then aPart P e cs (i.toNat * inf.size) else none
      | none => none)
    | _, _, _ => closedRun P ev o)
  | .typeAssert x xt asserted ok => (match P.underlying asserted, ev x with
    | some (.interface _), _ => none
    | some _, .iface t v => if t = asserted then some (if ok then .tuple #[v, .bool true] else v) else none
    | _, _ => none)
  | .binOp op t x y _ => (match intRun P op (ev x) (ev y) with
    | some v => some v
    | none => (match closedRun P ev o with
    | some v => some v
    | none => (match op, P.underlying t with
      | .eql, some d => (nilEq d (ev x) (ev y)).map .bool
      | .neq, some d => (nilEq d (ev x) (ev y)).map fun b => .bool (!b)
      | _, _ => none)))
  | .unOp op _ x => (match notRun op (ev x) with
    | some v => some v
    | none => closedRun P ev o)
  | .convert .. => closedRun P ev o
  | _ => none

theorem renA_add (r : Ren) (a : Addr) (n : Nat) : (renA r a).add n = renA r (a.add n) := by
  unfold Addr.add renA
  split <;> rfl
theorem map_comp (r : Ren) (ev : Operand → Value) (a : Array Operand) : a.map (fun x => ren r (ev x)) = (a.map ev).map fun v => ren r v := by
  rw [Array.map_map]; rfl
theorem ren_pointer_some {r : Ren} {a : Addr} : ren r (.pointer (some a)) = .pointer (some (renA r a)) := by simp [ren]
theorem ren_slice_some {r : Ren} {b o : Nat} {n c : Nat} : ren r (.slice (some ⟨b, o, none⟩) n c) = .slice (some (renA r ⟨b, o, none⟩)) n (renCap r b c) := by simp [ren, renB]
theorem ren_int {r : Ren} {k : IntKind} {n : Int} : ren r (.int k n) = .int k n := by simp [ren]
theorem ren_bool {r : Ren} {b : Bool} : ren r (.bool b) = .bool b := by simp [ren]
theorem ren_agg {r : Ren} {cs : Array Value} : ren r (.agg cs) = .agg (cs.map fun v => ren r v) := by simp [ren]
theorem ren_tuple {r : Ren} {cs : Array Value} : ren r (.tuple cs) = .tuple (cs.map fun v => ren r v) := by simp [ren]
theorem ren_iface {r : Ren} {t : TypeId} {v : Value} : ren r (.iface t v) = .iface t (ren r v) := by simp [ren]
theorem ren_map_some {r : Ren} {n : Nat} : ren r (.map (some n)) = .map (some (r.φ n)) := by simp [ren]
theorem ren_func {r : Ren} {f : Fn} {x y : Array Value} : ren r (.func f x y) = .func f (x.map fun v => ren r v) (y.map fun v => ren r v) := by simp [ren]

theorem nilBin_run {P : Program} {t : TypeId} {x y : Operand} {vx vy : Value} {d : TypeDesc} {b : Bool} (hu : P.underlying t = some d) (hn : nilEq d vx vy = some b) (r : Ren) (w : World) :
    ((do eqGuard .eql t x y (ren r vx) (ren r vy); binOp .eql t (ren r vx) (ren r vy)) : Sem Value).run P w = .ok (.bool b) w ∧
    ((do eqGuard .neq t x y (ren r vx) (ren r vy); binOp .neq t (ren r vx) (ren r vy)) : Sem Value).run P w = .ok (.bool (!b)) w := by
  obtain ⟨h1, h2⟩ := nilEq_run hu hn r w
  obtain ⟨g1, g2, g3, g4⟩ := h1.eql (X := x) (Y := y) h2
  exact ⟨by rw [Sem.run_bind, g1]; exact g3, by rw [Sem.run_bind, g2]; exact g4⟩
theorem aPure_ok {P : Program} {ev : Operand → Value} {o : Oper} {out : Value} (h : aPure P ev o = some out) : PureOK P ev o out := by
  have h0 := h
  unfold aPure at h
  split at h
  · rename_i x ho; injection h with h; subst h
    intro r hr w; unfold execOp; simp [ho]
  · rename_i x ho; injection h with h; subst h
    intro r hr w; unfold execOp; simp [ho]
  · rename_i c a b ho
    split at h
    · rename_i t ht; injection h with h; subst h
      intro r hr w; unfold execOp; simp only [ho, ht, ren_bool]
      cases t <;> simp [asBool]
    · cases h
  · rename_i t i ho
    split at h
    · rename_i vs ht
      intro r hr w; unfold execOp; simp [ho, ht, ren_tuple, Instr.extract, h]
    · cases h
  · rename_i t x ho
    split at h
    · cases h
    · rename_i d hd hu; injection h with h; subst h
      intro r hr w; unfold execOp
      simp only [ho, Instr.makeInterface, Sem.run_bind, run_underlying hu w, Result.andThen_ok, ren_iface]
      cases d <;> first
        | rfl
        | exact absurd rfl (hd _)
    · cases h
  · rename_i fn fs cs ho; injection h with h; subst h
    intro r hr w; unfold execOp
    simp only [ho, Instr.makeFunc, Sem.run_bind, Sem.run_pure, Result.andThen_ok, ren_func, map_comp]
  · rename_i x ho
    split at h
    · rename_i a ha; injection h with h; subst h
      intro r hr w; unfold execOp; simp [ho, ha, ren_pointer_some]
    · rename_i f a b ha; injection h with h; subst h
      intro r hr w; unfold execOp; simp [ho, ha, ren_func]
    · rename_i t v ha; injection h with h; subst h
      intro r hr w; unfold execOp; simp [ho, ha, ren_iface]
    · rename_i n ha; injection h with h; subst h
      intro r hr w; unfold execOp; simp [ho, ha, ren_map_some]
    · cases h
  · rename_i s x f ho
    split at h
    · rename_i a fields ha hu
      split at h
      · rename_i fd hf
        split at h
        · rename_i i hi
          split at h
          · cases h
          · rename_i hz; injection h with h; subst h
            intro r hr w; unfold execOp
            have hsz : (sizeOf fd.type).run P w = .ok i.size w := by simp [sizeOf, typeInfo, hi]
            simp [ho, ha, ren_pointer_some, Instr.fieldAt, run_underlying hu w, hf, Instr.sureAddr, fieldPlace, hsz, hz, renA_add]
        · cases h
      · cases h
    · cases h
  · rename_i t x ix ho
    split at h
    · rename_i k i e ab ao len c hix hu hx
      split at h
      · rename_i inf hi
        split at h
        · rename_i hb; injection h with h; subst h
          intro r hr w; unfold execOp
          have hsz : (sizeOf e).run P w = .ok inf.size w := by simp [sizeOf, typeInfo, hi]
          simp [ho, hix, hx, ren_int, ren_slice_some, Instr.indexAt, asIntOf, run_underlying hu w, hb.1, hb.2, hsz, renA_add, ren_pointer_some]
        · cases h
      · cases h
    · rename_i k i len e a hix hu hx
      split at h
      · rename_i inf hi
        split at h
        · rename_i hb; injection h with h; subst h
          intro r hr w; unfold execOp
          have hsz : (sizeOf e).run P w = .ok inf.size w := by simp [sizeOf, typeInfo, hi]
          simp [ho, hix, hx, ren_int, Instr.indexAt, asIntOf, run_underlying hu w, hb.1, hb.2, hsz, renA_add, ren_pointer_some, Instr.sureAddr]
        · cases h
      · cases h
    · cases h
  · rename_i t x f ho
    split at h
    · rename_i fields cs hu hx
      split at h
      · rename_i fd hf
        intro r hr w; unfold execOp
        simp [ho, hx, ren_agg, Instr.field, run_underlying hu w, hf, asAgg, aPart_run h r w]
      · cases h
    · cases h
  · rename_i t x ix ho
    split at h
    · rename_i k i len e cs hix hu hx
      split at h
      · rename_i inf hi
        split at h
        · rename_i hb
          intro r hr w; unfold execOp
          have hsz : (sizeOf e).run P w = .ok inf.size w := by simp [sizeOf, typeInfo, hi]
          simp [ho, hix, hx, ren_int, ren_agg, Instr.index, asIntOf, run_underlying hu w, hb.1, hb.2, hsz, aPart_run h r w]
        · cases h
      · cases h
    · exact closedRun_ok h
  · rename_i x xt asserted ok ho
    split at h
    · cases h
    · rename_i d t v hd hu hx
      split at h
      · rename_i hta
        injection h with h; subst h
        intro r hr w; unfold execOp
        simp only [ho, hx, ren_iface, Instr.typeAssert, Sem.run_bind, run_underlying hu w, Result.andThen_ok]
        subst hta
        cases d <;> first
          | exact absurd hu (by simpa using hd _)
          | (cases ok <;> simp [ren_tuple, ren_bool])
      · cases h
    · cases h
  · rename_i op t x y yt ho
    cases hi : intRun P op (ev x) (ev y) with
    | some v =>
     rw [hi] at h
     injection h with h; subst h
     intro r hr w
     have := intRun_run hi r t x y w
     unfold execOp
     simp only [ho]
     rw [Sem.run_bind, this]; rfl
    | none =>
    rw [hi] at h
    dsimp only at h
    cases hc : closedRun P ev o with
    | some v =>
      rw [hc] at h
      injection h with h; subst h
      exact closedRun_ok hc
    | none =>
      rw [hc] at h
      dsimp only at h
      split at h
      · rename_i d hu
        cases hn : nilEq d (ev x) (ev y) with
        | none => rw [hn] at h; cases h
        | some b =>
          rw [hn] at h; injection h with h; subst h
          intro r hr w; unfold execOp
          simp only [ho]
          rw [Sem.run_bind, (nilBin_run hu hn r w).1, ren_bool]; rfl
      · rename_i d hu
        cases hn : nilEq d (ev x) (ev y) with
        | none => rw [hn] at h; cases h
        | some b =>
          rw [hn] at h; injection h with h; subst h
          intro r hr w; unfold execOp
          simp only [ho]
          rw [Sem.run_bind, (nilBin_run hu hn r w).2, ren_bool]; rfl
      · cases h
  · rename_i op t x ho
    split at h
    · rename_i v hn
      injection h with h; subst h
      unfold notRun at hn
      split at hn
      · rename_i b hb
        injection hn with hn; subst hn
        intro r hr w
        unfold execOp
        simp [ho, hb, ren_bool, Op.unary]
      · cases hn
    · exact closedRun_ok h
  · exact closedRun_ok h
  · cases h
end Go.Proofs.Ytfakfnekcgkelaa
