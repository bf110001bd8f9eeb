/- An evaluator of Go code whose memory has names of its own (9 of 9). -/
import Derived.Test.YtllppcehncckfaaGreatDoorEwM8
/- An evaluator of Go code whose memory has names of its own: part by part: what a call leaves that nobody reaches is forgotten. -/
namespace Go.Proofs.YtllppcehncckfaaGreatDoor
set_option linter.unusedVariables false
set_option linter.unusedSimpArgs false

/-- of names below k t says what u says, of others no more; local name j of t is a * j + b -/
def LessT (k a b : Nat) (t u : Tr) : Prop := ∀ j, t.get j = u.get j ∨ (t.get j = none ∧ k ≤ a * j + b)
theorem LessT.nd {k a b : Nat} {o o' : Option AObj} {l r l' r' : Tr} (ho : o = o' ∨ (o = none ∧ k ≤ b)) (hl : LessT k (2 * a) (a + b) l l') (hr : LessT k (2 * a) (2 * a + b) r r') : LessT k a b (.nd o l r) (.nd o' l' r') := by
  intro j
  cases j with
  | zero => simpa [Tr.get] using ho
  | succ m =>
    simp only [Tr.get]
    by_cases hm : m % 2 = 0
    · simp only [hm, if_true]
      rcases hl (m / 2) with h | ⟨h, hk⟩
      · exact .inl h
      · refine .inr ⟨h, ?_⟩
        have e : 2 * a * (m / 2) = a * m := by
          rw [Nat.mul_comm 2 a, Nat.mul_assoc]; congr 1; omega
        rw [e] at hk
        rw [Nat.mul_succ]; omega
    · simp only [hm, if_false]
      rcases hr (m / 2) with h | ⟨h, hk⟩
      · exact .inl h
      · refine .inr ⟨h, ?_⟩
        have e : 2 * a * (m / 2) + a = a * m := by
          rw [Nat.mul_comm 2 a, Nat.mul_assoc, ← Nat.mul_succ]; congr 1; omega
        rw [Nat.mul_succ]; omega
theorem LessT.lf (k a b : Nat) : LessT k a b .lf .lf := fun j => .inl rfl
theorem get_leaf (j : Nat) : (Tr.nd none .lf .lf).get j = none := by
  cases j with
  | zero => rfl
  | succ m => simp only [Tr.get]; split <;> rfl
def oNone : Option AObj → Bool
  | none => true
  | some _ => false
theorem oNone_eq {o : Option AObj} (h : oNone o = true) : o = none := by cases o <;> simp_all [oNone]
/-- all that u has has names from k on -/
def aboveT (k : Nat) : Nat → Nat → Tr → Bool
  | _, _, .lf => true
  | a, b, .nd o l r => (match oNone o with
    | true => true
    | false => Nat.ble k b) && (aboveT k (2 * a) (a + b) l && aboveT k (2 * a) (2 * a + b) r)
def noneT : Tr → Bool
  | .lf => true
  | .nd o l r => oNone o && (noneT l && noneT r)
def lessT (k : Nat) : Tr → Nat → Nat → Tr → Bool
  | .lf, a, b, u => aboveT k a b u
  | .nd o l r, a, b, u => match u with
    | .lf => oNone o && (noneT l && noneT r)
    | .nd o' l' r' => (match eqO1 o o' with
      | true => true
      | false => oNone o && Nat.ble k b) && (lessT k l (2 * a) (a + b) l' && lessT k r (2 * a) (2 * a + b) r')
theorem lf_nd (j : Nat) : Tr.get .lf j = (Tr.nd none .lf .lf).get j := by rw [get_leaf, Tr.get_lf]
theorem aboveT_ok {k : Nat} : ∀ {u : Tr} {a b : Nat}, aboveT k a b u = true → LessT k a b .lf u
  | .lf, a, b, _ => LessT.lf k a b
  | .nd o l r, a, b, h => by
    simp only [aboveT, Bool.and_eq_true] at h
    have ho : none = o ∨ ((none : Option AObj) = none ∧ k ≤ b) := by
      have h1 := h.1
      split at h1
      · rename_i h2; exact .inl (oNone_eq h2).symm
      · exact .inr ⟨rfl, Nat.le_of_ble_eq_true h1⟩
    intro j
    have := LessT.nd (o := none) (o' := o) ho (aboveT_ok h.2.1) (aboveT_ok h.2.2) j
    rw [lf_nd]; exact this
theorem noneT_ok : ∀ {t : Tr}, noneT t = true → ∀ j, t.get j = none
  | .lf, _, j => Tr.get_lf j
  | .nd o l r, h, j => by
    simp only [noneT, Bool.and_eq_true] at h
    cases j with
    | zero => simpa [Tr.get] using oNone_eq h.1
    | succ m =>
      simp only [Tr.get]
      split
      · exact noneT_ok h.2.1 _
      · exact noneT_ok h.2.2 _
theorem lessT_ok {k : Nat} : ∀ {t : Tr} {a b : Nat} {u : Tr}, lessT k t a b u = true → LessT k a b t u
  | .lf, a, b, u, h => aboveT_ok h
  | .nd o l r, a, b, u, h => by
    unfold lessT at h
    split at h
    · intro j
      have := noneT_ok (t := .nd o l r) (by simpa [noneT] using h) j
      rw [this, Tr.get_lf]; exact .inl rfl
    · simp only [Bool.and_eq_true] at h
      refine LessT.nd ?_ (lessT_ok h.2.1) (lessT_ok h.2.2)
      have h1 := h.1
      split at h1
      · rename_i h2; exact .inl (eqO1_eq h2)
      · rw [Bool.and_eq_true] at h1; exact .inr ⟨oNone_eq h1.1, Nat.le_of_ble_eq_true h1.2⟩
/-- the same, but for the types of the package's two tables -/
def lessTx (k : Nat) : Tr → Tr → Bool
  | .nd o (.nd p l r) u, .nd o' (.nd p' l' r') u' => eqR o o' && (eqR p p' && (lessT k l 4 3 l' && (lessT k r 4 5 r' && lessT k u 2 2 u')))
  | _, _ => false
theorem lessTx_ok {k : Nat} {a b : Tr} (h : lessTx k a b = true) (ht : tys a = tys b) : LessT k 1 0 a b := by
  unfold lessTx at h
  split at h
  · simp only [Bool.and_eq_true] at h
    obtain ⟨x, s, s', p, m, rfl, rfl⟩ := eqR_row h.1
    obtain ⟨y, t, t', q, n, rfl, rfl⟩ := eqR_row h.2.1
    simp only [tys, Option.some.injEq, Prod.mk.injEq] at ht
    rw [ht.1, ht.2]
    exact LessT.nd (.inl rfl) (LessT.nd (.inl rfl) (lessT_ok h.2.2.1) (lessT_ok h.2.2.2.1)) (lessT_ok h.2.2.2.2)
  · cases h
/-- a heap says no more than another -/
structure LessH (k : Nat) (a b : AH) : Prop where
  next : a.next = b.next
  base : a.base = b.base
  tch : a.tch = b.tch
  wrt : a.wrt = b.wrt
  get : ∀ n, a.get n = b.get n ∨ (a.get n = none ∧ k ≤ n)
theorem LessH.of {k : Nat} {a b : AH} (h1 : a.next = b.next) (h2 : a.base = b.base) (h3 : a.tch = b.tch) (h4 : a.wrt = b.wrt) (h : LessT k 1 0 a.m b.m) : LessH k a b :=
  ⟨h1, h2, h3, h4, fun n => by simpa [AH.get] using h n⟩
def LessL (k : Nat) : List (Value × AH) → List (Value × AH) → Prop
  | [], [] => True
  | p :: r, q :: s => (p.1 = q.1 ∧ LessH k p.2 q.2) ∧ LessL k r s
  | _, _ => False
theorem LessL.left {k : Nat} : ∀ {l m : List (Value × AH)}, LessL k l m → ∀ p ∈ l, ∃ q ∈ m, p.1 = q.1 ∧ LessH k p.2 q.2
  | [], [], _, p, hp => by cases hp
  | x :: r, y :: s, h, p, hp => by
    rcases List.mem_cons.1 hp with rfl | hp
    · exact ⟨y, List.mem_cons_self, h.1⟩
    · obtain ⟨q, hq, k⟩ := h.2.left p hp; exact ⟨q, List.mem_cons_of_mem _ hq, k⟩
  | [], _ :: _, h, _, _ => h.elim
  | _ :: _, [], h, _, _ => h.elim
theorem LessL.right {k : Nat} : ∀ {l m : List (Value × AH)}, LessL k l m → ∀ q ∈ m, ∃ p ∈ l, p.1 = q.1 ∧ LessH k p.2 q.2
  | [], [], _, p, hp => by cases hp
  | x :: r, y :: s, h, p, hp => by
    rcases List.mem_cons.1 hp with rfl | hp
    · exact ⟨x, List.mem_cons_self, h.1⟩
    · obtain ⟨q, hq, k⟩ := h.2.right p hp; exact ⟨q, List.mem_cons_of_mem _ hq, k⟩
  | [], _ :: _, h, _, _ => h.elim
  | _ :: _, [], h, _, _ => h.elim
theorem LessH.mono {h a b : AH} (hl : LessH h.next a b) (hm : Mono h b) : Mono h a := by
  refine ⟨by rw [hl.next]; exact hm.next, by rw [hl.base]; exact hm.base, by rw [hl.tch]; exact hm.tch, by rw [hl.wrt]; exact hm.wrt, fun n hn hs => ?_, fun n hn hb hw => ?_, fun hwf n hn => ?_⟩
  · rcases hl.get n with e | ⟨e, hk⟩
    · rw [e] at hs; exact hm.dom n hn hs
    · omega
  · rcases hl.get n with e | ⟨e, hk⟩
    · rw [e]; rw [hl.wrt] at hw; exact hm.keep n hn hb hw
    · omega
  · rw [hl.next] at hn
    rcases hl.get n with e | ⟨e, hk⟩
    · rw [e]; exact hm.wf hwf n hn
    · exact e
theorem LessH.some {k : Nat} {a b : AH} (hl : LessH k a b) {n : Nat} {o : AObj} (h : a.get n = some o) : b.get n = some o := by
  rcases hl.get n with e | ⟨e, _⟩
  · rw [← e]; exact h
  · rw [e] at h; cases h
theorem LessH.isSome {k : Nat} {a b : AH} (hl : LessH k a b) {n : Nat} (h : (a.get n).isSome) : (b.get n).isSome := by
  cases e : a.get n with
  | none => rw [e] at h; cases h
  | some o => rw [hl.some e]; rfl
theorem Rel.less {D N : Nat → Prop} {ρ : Ren} {a b : AH} {k : Nat} {w : World} (hr : Rel D N ρ b.get w) (hl : LessH k a b) : Rel D N ρ a.get w :=
  ⟨fun n m hn hm sn sm => hr.inj n m hn hm (hl.isSome sn) (hl.isSome sm), fun n o hn ho => hr.holds n o hn (hl.some ho), fun n hn hs => hr.known n hn (hl.isSome hs), hr.sym, hr.glob⟩
theorem EnOK.less {P : Program} {SQ : (Nat → Value) → Prop} {f : FuncId} {args : List Value} {h : AH} {l m : List (Value × AH)} (he : EnOK P SQ ⟨f, args, h, m⟩) (hl : LessL h.next l m) : EnOK P SQ ⟨f, args, h, l⟩ := by
  refine ⟨fun p hp => ?_, fun hn => ?_, fun args' N ρ hsq ha D w hcov hwf hN hr => ?_⟩
  · obtain ⟨q, hq, _, k⟩ := hl.left p hp
    exact k.mono (he.mono q hq)
  · have hn : l = [] := hn
    subst hn
    cases m with
    | nil => exact he.ne rfl
    | cons _ _ => exact hl.elim
  · refine (he.ok args' N ρ hsq ha D w (fun q hq => ?_) hwf (fun q hq => ?_) hr).mono fun r w' hx => ?_
    · obtain ⟨p, hp, _, k⟩ := hl.right q hq
      have c := hcov p hp
      exact ⟨fun n hn => c.tch n (by rw [k.tch]; exact hn), fun n hn => c.base n (by rw [k.base]; exact hn)⟩
    · obtain ⟨p, hp, _, k⟩ := hl.right q hq
      have c := hN p hp
      rw [k.next] at c; exact c
    · obtain ⟨q, hq, ρ', v', e1, st, re, vr⟩ := hx
      obtain ⟨p, hp, e0, k⟩ := hl.right q hq
      refine ⟨p, hp, ρ', v', e1, ?_, ?_, ?_⟩
      · obtain ⟨s1, s2, s3, s4, s5, s6, s7⟩ := st
        exact ⟨by rw [k.next]; exact s1, by rw [k.next, k.wrt]; exact s2, s3, s4, s5, s6, by rw [k.wrt]; exact s7⟩
      · rw [k.next]; exact re.less k
      · rw [k.next, e0]; exact vr
def lessH (k : Nat) (a b : AH) : Bool := Nat.beq a.next b.next && (Nat.beq a.base b.base && (eqNs a.tch b.tch && (eqNs a.wrt b.wrt && lessT k a.m 1 0 b.m)))
def lessHx (k : Nat) (a b : AH) : Bool := Nat.beq a.next b.next && (Nat.beq a.base b.base && (eqNs a.tch b.tch && (eqNs a.wrt b.wrt && lessTx k a.m b.m)))
def lessOuts (k : Nat) : List (Value × AH) → List (Value × AH) → Bool
  | [], [] => true
  | p :: r, q :: s => eqV 20 p.1 q.1 && (lessH k p.2 q.2 && lessOuts k r s)
  | _, _ => false
def lessOutsX (k : Nat) : List (Value × AH) → List (Value × AH) → Bool
  | [], [] => true
  | p :: r, q :: s => eqV 20 p.1 q.1 && (lessHx k p.2 q.2 && lessOutsX k r s)
  | _, _ => false
theorem lessOuts_ok {k : Nat} : ∀ {l m : List (Value × AH)}, lessOuts k l m = true → LessL k l m
  | [], [], _ => trivial
  | p :: r, q :: s, h => by
    simp only [lessOuts, lessH, Bool.and_eq_true] at h
    exact ⟨⟨eqV_eq _ _ _ h.1, .of (Nat.eq_of_beq_eq_true h.2.1.1) (Nat.eq_of_beq_eq_true h.2.1.2.1) (eqNs_eq h.2.1.2.2.1) (eqNs_eq h.2.1.2.2.2.1) (lessT_ok h.2.1.2.2.2.2)⟩, lessOuts_ok h.2.2⟩
  | [], _ :: _, h => by cases h
  | _ :: _, [], h => by cases h
theorem lessOutsX_ok {k : Nat} : ∀ {l m : List (Value × AH)}, lessOutsX k l m = true → tyss l = tyss m → LessL k l m
  | [], [], _, _ => trivial
  | p :: r, q :: s, h, ht => by
    simp only [lessOutsX, lessHx, Bool.and_eq_true] at h
    simp only [tyss, List.cons.injEq] at ht
    exact ⟨⟨eqV_eq _ _ _ h.1, .of (Nat.eq_of_beq_eq_true h.2.1.1) (Nat.eq_of_beq_eq_true h.2.1.2.1) (eqNs_eq h.2.1.2.2.1) (eqNs_eq h.2.1.2.2.2.1) (lessTx_ok h.2.1.2.2.2.2 ht.1)⟩, lessOutsX_ok h.2.2 ht.2⟩
  | [], _ :: _, h, _ => by cases h
  | _ :: _, [], h, _ => by cases h
def isEnD (k : Nat) : Option (List (Value × AH)) → List (Value × AH) → Bool
  | some m, l => lessOuts k l m
  | none, _ => false
theorem EnOK.of_fastD {P : Program} (hm : P.follows .mixedOrders = true) (hn : NameOK P) {SQ : (Nat → Value) → Prop} {orc : OrcL} (ho : OrcLOK P SQ orc) {fuel : Nat} {T : FuncId → Option FF} (hT : TableOKL P T) {tab : FTab} (ht : TabOK P SQ tab) {n : Nat} {e : En}
    (h : isEnD e.h.next (fCallT P orc fuel T tab n e.f e.args e.h) e.l = true) : EnOK P SQ e := by
  unfold isEnD at h
  split at h
  case h_2 => cases h
  case h_1 l m hc => exact EnOK.less (m := m) (EnOK.of_run hm hn ho hT ht hc) (lessOuts_ok h)
def isEnXD (k : Nat) : Option (List (Value × AH)) → List (Value × AH) → Option (List (Option (TypeId × TypeId)))
  | some m, l => (match lessOutsX k l m with
    | true => some (tyss m)
    | false => none)
  | none, _ => none
theorem EnFOK.of_fastD {P : Program} (hm : P.follows .mixedOrders = true) (hn : NameOK P) {SQ : (Nat → Value) → Prop} {orc : OrcL} (ho : OrcLOK P SQ orc) {fuel : Nat} {T : FuncId → Option FF} (hT : TableOKL P T) {tab : FTab} (ht : TabOK P SQ tab) {n : Nat} {e : EnF}
    (hty : ∀ s t, tys (e s t).h.m = some (s, t)) (h : ∀ s t, isEnXD (e s t).h.next (fCallT P orc fuel T tab n (e s t).f (e s t).args (e s t).h) (e s t).l = some (tyss (e s t).l)) : EnFOK P SQ e := by
  refine ⟨fun s t => ?_, hty⟩
  have h := h s t
  unfold isEnXD at h
  split at h
  case h_2 => cases h
  case h_1 l m hc =>
    split at h
    · rename_i hx
      injection h with h
      exact EnOK.less (m := m) (EnOK.of_run hm hn ho hT ht hc) (lessOutsX_ok hx h.symm)
    · cases h
end Go.Proofs.YtllppcehncckfaaGreatDoor
