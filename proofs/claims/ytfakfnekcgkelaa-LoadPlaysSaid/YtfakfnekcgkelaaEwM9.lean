/- An evaluator of Go code whose memory has names of its own (9 of 9). -/
import Derived.Test.YtfakfnekcgkelaaEwM8
/- An evaluator of Go code whose memory has names of its own: part by part: what a call leaves that nobody reaches is forgotten. -/
namespace Go.Proofs.Ytfakfnekcgkelaa
set_option linter.unusedVariables false
set_option linter.unusedSimpArgs false

/-- of names below k t says what u says, of others no more; local name j of t is a * j + b -/
def LessT (k a b : Nat) (t u : Tr) : Prop := ∀ j, t.get j = u.get j ∨ (t.get j = none ∧ k ≤ a * j + b)
theorem LessT.nd {k a b : Nat} {o o' : Option AObj} {l r l' r' : Tr} (ho : o = o' ∨ (o = none ∧ k ≤ b)) (hl : LessT k (2 * a) (a + b) l l') (hr : LessT k (2 * a) (2 * a + b) r r') : LessT k a b (.nd o l r) (.nd o' l' r') := by
  intro j
  cases j with
  | zero => simpa [Tr.get] using ho
  | succ m =>
    simp only [Tr.get]
    by_cases hm : m % 2 = 0
    · simp only [hm, if_true]
      rcases hl (m / 2) with h | ⟨h, hk⟩
      · exact .inl h
      · refine .inr ⟨h, ?_⟩
        have e : 2 * a * (m / 2) = a * m := by
          rw [Nat.mul_comm 2 a, Nat.mul_assoc]; congr 1; omega
        rw [e] at hk
        rw [Nat.mul_succ]; omega
    · simp only [hm, if_false]
      rcases hr (m / 2) with h | ⟨h, hk⟩
      · exact .inl h
      · refine .inr ⟨h, ?_⟩
        have e : 2 * a * (m / 2) + a = a * m := by
          rw [Nat.mul_comm 2 a, Nat.mul_assoc, ← Nat.mul_succ]; congr 1; omega
        rw [Nat.mul_succ]; omega
theorem LessT.lf (k a b : Nat) : LessT k a b .lf .lf := fun j => .inl rfl
theorem get_leaf (j : Nat) : (Tr.nd none .lf .lf).get j = none := by
  cases j with
  | zero => rfl
  | succ m => simp only [Tr.get]; split <;> rfl
def oNone : Option AObj → Bool
  | none => true
  | some _ => false
theorem oNone_eq {o : Option AObj} (h : oNone o = true) : o = none := by cases o <;> simp_all [oNone]
/-- all that u has has names from k on -/
def aboveT (k : Nat) : Nat → Nat → Tr → Bool
  | _, _, .lf => true
  | a, b, .nd o l r => (match oNone o with
    | true => true
    | false => Nat.ble k b) && (aboveT k (2 * a) (a + b) l && aboveT k (2 * a) (2 * a + b) r)
def noneT : Tr → Bool
  | .lf => true
  | .nd o l r => oNone o && (noneT l && noneT r)
def lessT (k : Nat) : Tr → Nat → Nat → Tr → Bool
  | .lf, a, b, u => aboveT k a b u
  | .nd o l r, a, b, u => match u with
    | .lf => oNone o && (noneT l && noneT r)
    | .nd o' l' r' => (match eqO1 o o' with
      | true => true
      | false => oNone o && Nat.ble k b) && (lessT k l (2 * a) (a + b) l' && lessT k r (2 * a) (2 * a + b) r')
theorem lf_nd (j : Nat) : Tr.get .lf j = (Tr.nd none .lf .lf).get j := by rw [get_leaf, Tr.get_lf]
theorem aboveT_ok {k : Nat} : ∀ {u : Tr} {a b : Nat}, aboveT k a b u = true → LessT k a b .lf u
  | .lf, a, b, _ => LessT.lf k a b
  | .nd o l r, a, b, h => by
    simp only [aboveT, Bool.and_eq_true] at h
    have ho : none = o ∨ ((none : Option AObj) = none ∧ k ≤ b) := by
      have h1 := h.1
      split at h1
      · rename_i h2; exact .inl (oNone_eq h2).symm
      · exact .inr ⟨rfl, Nat.le_of_ble_eq_true h1⟩
    intro j
    have := LessT.nd (o := none) (o' := o) ho (aboveT_ok h.2.1) (aboveT_ok h.2.2) j
    rw [lf_nd]; exact this
theorem noneT_ok : ∀ {t : Tr}, noneT t = true → ∀ j, t.get j = none
  | .lf, _, j => Tr.get_lf j
  | .nd o l r, h, j => by
    simp only [noneT, Bool.and_eq_true] at h
    cases j with
    | zero => simpa [Tr.get] using oNone_eq h.1
    | succ m =>
      simp only [Tr.get]
      split
      · exact noneT_ok h.2.1 _
      · exact noneT_ok h.2.2 _
theorem lessT_ok {k : Nat} : ∀ {t : Tr} {a b : Nat} {u : Tr}, lessT k t a b u = true → LessT k a b t u
  | .lf, a, b, u, h => aboveT_ok h
  | .nd o l r, a, b, u, h => by
    unfold lessT at h
    split at h
    · intro j
      have := noneT_ok (t := .nd o l r) (by simpa [noneT] using h) j
      rw [this, Tr.get_lf]; exact .inl rfl
    · simp only [Bool.and_eq_true] at h
      refine LessT.nd ?_ (lessT_ok h.2.1) (lessT_ok h.2.2)
      have h1 := h.1
      split at h1
      · rename_i h2; exact .inl (eqO1_eq h2)
      · rw [Bool.and_eq_true] at h1; exact .inr ⟨oNone_eq h1.1, Nat.le_of_ble_eq_true h1.2⟩
/-- the same, but for the types of the package's two tables -/
def lessTx (k : Nat) : Tr → Tr → Bool
  | .nd o (.nd p l r) u, .nd o' (.nd p' l' r') u' => eqR o o' && (eqR p p' && (lessT k l 4 3 l' && (lessT k r 4 5 r' && lessT k u 2 2 u')))
  | _, _ => false
theorem lessTx_ok {k : Nat} {a b : Tr} (h : lessTx k a b = true) (ht : tys a = tys b) : LessT k 1 0 a b := by
  unfold lessTx at h
  split at h
  · simp only [Bool.and_eq_true] at h
    obtain ⟨x, s, s', p, m, rfl, rfl⟩ := eqR_row h.1
    obtain ⟨y, t, t', q, n, rfl, rfl⟩ := eqR_row h.2.1
    simp only [tys, Option.some.injEq, Prod.mk.injEq] at ht
    rw [ht.1, ht.2]
    exact LessT.nd (.inl rfl) (LessT.nd (.inl rfl) (lessT_ok h.2.2.1) (lessT_ok h.2.2.2.1)) (lessT_ok h.2.2.2.2)
  · cases h
/-- a heap says no more than another -/
structure LessH (k : Nat) (a b : AH) : Prop where
  next : a.next = b.next
  base : a.base = b.base
  tch : a.tch = b.tch
  wrt : a.wrt = b.wrt
  get : ∀ n, a.get n = b.get n ∨ (a.get n = none ∧ k ≤ n)
theorem LessH.of {k : Nat} {a b : AH} (h1 : a.next = b.next) (h2 : a.base = b.base) (h3 : a.tch = b.tch) (h4 : a.wrt = b.wrt) (h : LessT k 1 0 a.m b.m) : LessH k a b :=
  ⟨h1, h2, h3, h4, fun n => by simpa [AH.get] using h n⟩
def LessL (k : Nat) : List (Value × AH) → List (Value × AH) → Prop
  | [], [] => True
  | p :: r, q :: s => (p.1 = q.1 ∧ LessH k p.2 q.2) ∧ LessL k r s
  | _, _ => False
theorem LessL.left {k : Nat} : ∀ {l m : List (Value × AH)}, LessL k l m → ∀ p ∈ l, ∃ q ∈ m, p.1 = q.1 ∧ LessH k p.2 q.2
  | [], [], _, p, hp => by cases hp
  | x :: r, y :: s, h, p, hp => by
    rcases List.mem_cons.1 hp with rfl | hp
    · exact ⟨y, List.mem_cons_self, h.1⟩
    · obtain ⟨q, hq, k⟩ := h.2.left p hp; exact ⟨q, List.mem_cons_of_mem _ hq, k⟩
  | [], _ :: _, h, _, _ => h.elim
  | _ :: _, [], h, _, _ => h.elim
theorem LessL.right {k : Nat} : ∀ {l m : List (Value × AH)}, LessL k l m → ∀ q ∈ m, ∃ p ∈ l, p.1 = q.1 ∧ LessH k p.2 q.2
  | [], [], _, p, hp => by cases hp
  | x :: r, y :: s, h, p, hp => by
    rcases List.mem_cons.1 hp with rfl | hp
    · exact ⟨x, List.mem_cons_self, h.1⟩
    · obtain ⟨q, hq, k⟩ := h.2.right p hp; exact ⟨q, List.mem_cons_of_mem _ hq, k⟩
  | [], _ :: _, h, _, _ => h.elim
  | _ :: _, [], h, _, _ => h.elim
theorem LessH.mono {h a b : AH} (hl : LessH h.next a b) (hm : Mono h b) : Mono h a := by
  refine ⟨by rw [hl.next]; exact hm.next, by rw [hl.base]; exact hm.base, by rw [hl.tch]; exact hm.tch, by rw [hl.wrt]; exact hm.wrt, fun n hn hs => ?_, fun n hn hb hw => ?_, fun hwf n hn => ?_⟩
  · rcases hl.get n with e | ⟨e, hk⟩
    · rw [e] at hs; exact hm.dom n hn hs
    · omega
  · rcases hl.get n with e | ⟨e, hk⟩
    · rw [e]; rw [hl.wrt] at hw; exact hm.keep n hn hb hw
    · omega
  · rw [hl.next] at hn
    rcases hl.get n with e | ⟨e, hk⟩
    · rw [e]; exact hm.wf hwf n hn
    · exact e
theorem LessH.some {k : Nat} {a b : AH} (hl : LessH k a b) {n : Nat} {o : AObj} (h : a.get n = some o) : b.get n = some o := by
  rcases hl.get n with e | ⟨e, _⟩
  · rw [← e]; exact h
  · rw [e] at h; cases h
theorem LessH.isSome {k : Nat} {a b : AH} (hl : LessH k a b) {n : Nat} (h : (a.get n).isSome) : (b.get n).isSome := by
  cases e : a.get n with
  | none => rw [e] at h; cases h
  | some o => rw [hl.some e]; rfl
theorem Rel.less {D N : Nat → Prop} {ρ : Ren} {a b : AH} {k : Nat} {w : World} (hr : Rel D N ρ b.get w) (hl : LessH k a b) : Rel D N ρ a.get w :=
  ⟨fun n m hn hm sn sm => hr.inj n m hn hm (hl.isSome sn) (hl.isSome sm), fun n o hn ho => hr.holds n o hn (hl.some ho), fun n hn hs => hr.known n hn (hl.isSome hs), hr.sym, hr.glob⟩
theorem EnOK.less {P : Program} {SQ : (Nat → Value) → Prop} {f : FuncId} {args : List Value} {h : AH} {l m : List (Value × AH)} (he : EnOK P SQ ⟨f, args, h, m⟩) (hl : LessL h.next l m) : EnOK P SQ ⟨f, args, h, l⟩ := by
  refine ⟨fun p hp => ?_, fun hn => ?_, fun args' N ρ hsq ha D w hcov hwf hN hr => ?_⟩
  · obtain ⟨q, hq, _, k⟩ := hl.left p hp
    exact k.mono (he.mono q hq)
  · have hn : l = [] := hn
    subst hn
    cases m with
    | nil => exact he.ne rfl
    | cons _ _ => exact hl.elim
  · refine (he.ok args' N ρ hsq ha D w (fun q hq => ?_) hwf (fun q hq => ?_) hr).mono fun r w' hx => ?_
    · obtain ⟨p, hp, _, k⟩ := hl.right q hq
      have c := hcov p hp
      exact ⟨fun n hn => c.tch n (by rw [k.tch]; exact hn), fun n hn => c.base n (by rw [k.base]; exact hn)⟩
    · obtain ⟨p, hp, _, k⟩ := hl.right q hq
      have c := hN p hp
      rw [k.next] at c; exact c
    · obtain ⟨q, hq, ρ', v', e1, st, re, vr⟩ := hx
      obtain ⟨p, hp, e0, k⟩ := hl.right q hq
      refine ⟨p, hp, ρ', v', e1, ?_, ?_, ?_⟩
      · obtain ⟨s1, s2, s3, s4, s5, s6, s7⟩ := st
        exact ⟨by rw [k.next]; exact s1, by rw [k.next, k.wrt]; exact s2, s3, s4, s5, s6, by rw [k.wrt]; exact s7⟩
      · rw [k.next]; exact re.less k
      · rw [k.next, e0]; exact vr
def lessH (k : Nat) (a b : AH) : Bool := Nat.beq a.next b.next && (Nat.beq a.base b.base && (eqNs a.tch b.tch && (eqNs a.wrt b.wrt && lessT k a.m 1 0 b.m)))
def lessHx (k : Nat) (a b : AH) : Bool := Nat.beq a.next b.next && (Nat.beq a.base b.base && (eqNs a.tch b.tch && (eqNs a.wrt b.wrt && lessTx k a.m b.m)))
def lessOuts (k : Nat) : List (Value × AH) → List (Value × AH) → Bool
  | [], [] => true
  | p :: r, q :: s => eqV 20 p.1 q.1 && (lessH k p.2 q.2 && lessOuts k r s)
  | _, _ => false
def lessOutsX (k : Nat) : List (Value × AH) → List (Value × AH) → Bool
  | [], [] => true
  | p :: r, q :: s => eqV 20 p.1 q.1 && (lessHx k p.2 q.2 && lessOutsX k r s)
  | _, _ => false
theorem lessOuts_ok {k : Nat} : ∀ {l m : List (Value × AH)}, lessOuts k l m = true → LessL k l m
  | [], [], _ => trivial
  | p :: r, q :: s, h => by
    simp only [lessOuts, lessH, Bool.and_eq_true] at h
    exact ⟨⟨eqV_eq _ _ _ h.1, .of (Nat.eq_of_beq_eq_true h.2.1.1) (Nat.eq_of_beq_eq_true h.2.1.2.1) (eqNs_eq h.2.1.2.2.1) (eqNs_eq h.2.1.2.2.2.1) (lessT_ok h.2.1.2.2.2.2)⟩, lessOuts_ok h.2.2⟩
  | [], _ :: _, h => by cases h
  | _ :: _, [], h => by cases h
theorem lessOutsX_ok {k : Nat} : ∀ {l m : List (Value × AH)}, lessOutsX k l m = true → tyss l = tyss m → LessL k l m
  | [], [], _, _ => trivial
  | p :: r, q :: s, h, ht => by
    simp only [lessOutsX, lessHx, Bool.and_eq_true] at h
    simp only [tyss, List.cons.injEq] at ht
    exact ⟨⟨eqV_eq _ _ _ h.1, .of (Nat.eq_of_beq_eq_true h.2.1.1) (Nat.eq_of_beq_eq_true h.2.1.2.1) (eqNs_eq h.2.1.2.2.1) (eqNs_eq h.2.1.2.2.2.1) (lessTx_ok h.2.1.2.2.2.2 ht.1)⟩, lessOutsX_ok h.2.2 ht.2⟩
  | [], _ :: _, h, _ => by cases h
  | _ :: _, [], h, _ => by cases h
def isEnD (k : Nat) : Option (List (Value × AH)) → List (Value × AH) → Bool
  | some m, l => lessOuts k l m
  | none, _ => false
theorem EnOK.of_fastD {P : Program} (hm : P.follows .mixedOrders = true) (hn : NameOK P) {SQ : (Nat → Value) → Prop} {orc : OrcL} (ho : OrcLOK P SQ orc) {fuel : Nat} {T : FuncId → Option FF} (hT : TableOKL P T) {tab : FTab} (ht : TabOK P SQ tab) {n : Nat} {e : En}
    (h : isEnD e.h.next (fCallT P orc fuel T tab n e.f e.args e.h) e.l = true) : EnOK P SQ e := by
  unfold isEnD at h
  split at h
  case h_2 => cases h
  case h_1 l m hc => exact EnOK.less (m := m) (EnOK.of_run hm hn ho hT ht hc) (lessOuts_ok h)
def isEnXD (k : Nat) : Option (List (Value × AH)) → List (Value × AH) → Option (List (Option (TypeId × TypeId)))
  | some m, l => (match lessOutsX k l m with
    | true => some (tyss m)
    | false => none)
  | none, _ => none
theorem EnFOK.of_fastD {P : Program} (hm : P.follows .mixedOrders = true) (hn : NameOK P) {SQ : (Nat → Value) → Prop} {orc : OrcL} (ho : OrcLOK P SQ orc) {fuel : Nat} {T : FuncId → Option FF} (hT : TableOKL P T) {tab : FTab} (ht : TabOK P SQ tab) {n : Nat} {e : EnF}
    (hty : ∀ s t, tys (e s t).h.m = some (s, t)) (h : ∀ s t, isEnXD (e s t).h.next (fCallT P orc fuel T tab n (e s t).f (e s t).args (e s t).h) (e s t).l = some (tyss (e s t).l)) : EnFOK P SQ e := by
  refine ⟨fun s t => ?_, hty⟩
  have h := h s t
  unfold isEnXD at h
  split at h
  case h_2 => cases h
  case h_1 l m hc =>
    split at h
    · rename_i hx
      injection h with h
      exact EnOK.less (m := m) (EnOK.of_run hm hn ho hT ht hc) (lessOutsX_ok hx h.symm)
    · cases h
end Go.Proofs.Ytfakfnekcgkelaa
/- An evaluator of Go code whose memory has names of its own: trees of questions: a call that leaves what a formula on its numbers says. -/
namespace Go.Proofs.Ytfakfnekcgkelaa
set_option linter.unusedVariables false
set_option linter.unusedSimpArgs false

/-- a formula on numbers -/
inductive Fm
  | lt (k : Nat) (c : Int)
  | eq (k : Nat) (c : Int)
  | and (a b : Fm)
  | or (a b : Fm)
  | no (a : Fm)
def numOf (v : Value) : Int := match v with
  | .int _ n => n
  | _ => 0
def Fm.val (σ : Nat → Value) : Fm → Bool
  | .lt k c => decide (numOf (σ k) < c)
  | .eq k c => decide (numOf (σ k) = c)
  | .and a b => a.val σ && b.val σ
  | .or a b => a.val σ || b.val σ
  | .no a => !a.val σ
def andO : Option Bool → Option Bool → Option Bool
  | some false, _ => some false
  | some true, y => y
  | none, some false => some false
  | none, _ => none
def orO : Option Bool → Option Bool → Option Bool
  | some true, _ => some true
  | some false, y => y
  | none, some true => some true
  | none, _ => none
def Fm.ask (K : KB) : Fm → Option Bool
  | .lt k c => match K.find k with
    | some i => if i.hi < c then some true else if c ≤ i.lo then some false else none
    | none => none
  | .eq k c => match K.find k with
    | some i => if c < i.lo ∨ i.hi < c ∨ c ∈ i.ne then some false else if i.lo = c ∧ i.hi = c then some true else none
    | none => none
  | .and a b => andO (a.ask K) (b.ask K)
  | .or a b => orO (a.ask K) (b.ask K)
  | .no a => (a.ask K).map fun b => !b
theorem andO_eq {x y : Option Bool} {b : Bool} (h : andO x y = some b) : (x = some false ∧ b = false) ∨ (y = some false ∧ b = false) ∨ (x = some true ∧ y = some b) := by
  unfold andO at h
  split at h <;> simp_all
theorem orO_eq {x y : Option Bool} {b : Bool} (h : orO x y = some b) : (x = some true ∧ b = true) ∨ (y = some true ∧ b = true) ∨ (x = some false ∧ y = some b) := by
  unfold orO at h
  split at h <;> simp_all
theorem Fm.ask_ok {K : KB} {σ : Nat → Value} (hK : KOK K σ) : ∀ {f : Fm} {b : Bool}, f.ask K = some b → f.val σ = b
  | .lt k c, b, h => by
    unfold Fm.ask at h
    split at h
    case h_2 => cases h
    case h_1 i hi =>
      obtain ⟨n, h1, h2, h3, h4⟩ := hK k i hi
      simp only [Fm.val, h1, numOf]
      split at h
      · injection h with h; subst h; exact decide_eq_true (by omega)
      · split at h
        · injection h with h; subst h; exact decide_eq_false (by omega)
        · cases h
  | .eq k c, b, h => by
    unfold Fm.ask at h
    split at h
    case h_2 => cases h
    case h_1 i hi =>
      obtain ⟨n, h1, h2, h3, h4⟩ := hK k i hi
      simp only [Fm.val, h1, numOf]
      split at h
      · rename_i hc
        injection h with h; subst h
        refine decide_eq_false (fun e => ?_)
        subst e
        rcases hc with hc | hc | hc
        · omega
        · omega
        · exact h4 hc
      · split at h
        · injection h with h; subst h; exact decide_eq_true (by omega)
        · cases h
  | .and x y, b, h => by
    unfold Fm.ask at h
    unfold Fm.val
    rcases andO_eq h with ⟨h1, rfl⟩ | ⟨h1, rfl⟩ | ⟨h1, h2⟩
    · rw [Fm.ask_ok hK h1]; rfl
    · rw [Fm.ask_ok hK h1]; simp
    · rw [Fm.ask_ok hK h1, Fm.ask_ok hK h2]; rfl
  | .or x y, b, h => by
    unfold Fm.ask at h
    unfold Fm.val
    rcases orO_eq h with ⟨h1, rfl⟩ | ⟨h1, rfl⟩ | ⟨h1, h2⟩
    · rw [Fm.ask_ok hK h1]; rfl
    · rw [Fm.ask_ok hK h1]; simp
    · rw [Fm.ask_ok hK h1, Fm.ask_ok hK h2]; rfl
  | .no x, b, h => by
    unfold Fm.ask at h
    unfold Fm.val
    cases hx : x.ask K with
    | none => rw [hx] at h; cases h
    | some c => rw [hx] at h; simp only [Option.map_some, Option.some.injEq] at h; rw [Fm.ask_ok hK hx, h]
def isB (b : Bool) : Value → Bool
  | .bool c => (match b, c with
    | true, true => true
    | false, false => true
    | _, _ => false)
  | _ => false
theorem isB_eq {b : Bool} {v : Value} (h : isB b v = true) : v = .bool b := by
  unfold isB at h
  split at h
  · split at h <;> first | rfl | cases h
  · cases h
def allBW (b : Bool) : List (Value × AH) → Bool
  | [] => true
  | p :: r => isB b p.1 && (p.2.wrt.isEmpty && allBW b r)
theorem allBW_spec {b : Bool} : ∀ {l : List (Value × AH)}, allBW b l = true → ∀ p ∈ l, p.1 = .bool b ∧ p.2.wrt = []
  | [], _, p, hp => by cases hp
  | q :: r, e, p, hp => by
    simp only [allBW, Bool.and_eq_true] at e
    rcases List.mem_cons.1 hp with rfl | hp
    · exact ⟨isB_eq e.1, by simpa using e.2.1⟩
    · exact allBW_spec e.2.2 p hp
def isBL (b : Bool) : Option (List (Value × AH)) → Bool
  | some l => allBW b l
  | none => false
theorem Calls.of_fastB {P : Program} (hm : P.follows .mixedOrders = true) (hn : NameOK P) {orc : OrcL} {σ : Nat → Value} (hσ : ∀ k, (σ k).oneCell' = true) (ho : OrcLOK P (· = σ) orc) {fuel n : Nat} {f : FuncId} {args args' : Array Value} {T : FuncId → Option FF} (hT : TableOKL P T) {tab : FTab} (ht : TabOK P (· = σ) tab)
    (ha : ∀ r : Ren, r.σ = σ → args.map (ren r) = args') {b : Bool} (w : World) (hg : ∀ g, σ (gsym g) ≠ .nilFunc)
    (h : isBL b (fCallT P orc fuel T tab n f args.toList ⟨.lf, 0, 0, [], []⟩) = true) : Calls P f args' w fun e w' => e = .returned (.bool b) ∧ RowKit.Below w.heap.size w w' := by
  obtain ⟨lt, h1, h2⟩ := ht
  unfold isBL at h
  split at h
  case h_2 => cases h
  case h_1 l hc =>
    have he := fCallT_ok hT h1 n f args.toList _ _ hc
    rw [show args.toList.toArray = args from by simp] at he
    have hwr := allBW_spec h
    refine (lCallT_sound hm hn ho fuel h2 n f args args' (fun g => g < 0) ⟨fun g => g, fun _ => 0, σ⟩ rfl (fun r hr => by rw [← ha r hr.σ, Array.toList_map]) _ l he (fun _ => True) w (fun _ _ => ⟨fun _ _ => trivial, fun _ _ => trivial⟩) (fun g hge => Tr.get_lf g) (fun p _ g hs hk => by omega)
      ⟨fun a b _ _ _ _ e => e, (fun g o _ ho => by rw [show AH.get ⟨.lf, 0, 0, [], []⟩ g = none from Tr.get_lf g] at ho; cases ho), (fun g _ hs => by rw [show AH.get ⟨.lf, 0, 0, [], []⟩ g = none from Tr.get_lf g] at hs; cases hs), hσ, fun g hgl => absurd hgl (hg g)⟩).mono ?_
    rintro e w' ⟨p, hp, ρ', v', rfl, hs, hr, hvv⟩
    obtain ⟨hp1, hwp⟩ := hwr p hp
    have hv' : v' = .bool b := by rw [← hvv.eq, hp1]; exact ren_shut _ rfl
    subst hv'
    refine ⟨rfl, hs.os, hs.tape, hs.output, hs.size, fun k hk => hs.frame k hk (fun m _ hm1 hsome hor => ?_)⟩
    dsimp only at hm1
    omega
def okF (F : Fm) (P : Program) (X : Orc) (hk : FuncId → Option (Array Value → LM Value)) (c : FuncId → Bool) (S : List Nat) (E : ET) (fuel : Nat) (T : FuncId → Option FF) (tab : FTab) (n : Nat) (f : FuncId) (args : Array Value) (K : KB) : Bool :=
  match F.ask K with
  | some b => isBL b (fCallT P (orcK P X hk c S E K) fuel T tab n f args.toList ⟨.lf, 0, 0, [], []⟩)
  | none => false
theorem Calls.of_treeF {P : Program} (hm : P.follows .mixedOrders = true) (hn : NameOK P) {X : Orc} {hk : FuncId → Option (Array Value → LM Value)} {c : FuncId → Bool} {S : List Nat} {E : ET} {K : KB} {σ : Nat → Value} (hσ : ∀ k, (σ k).oneCell' = true) (hX : OrcOK P (· = σ) X) (hhk : ∀ f m, hk f = some m → FunOKL P f m)
    (hE : EqOK P E) (hK : KOK K σ) (hS : SOK S σ) {fuel n : Nat} {f : FuncId} {args args' : Array Value} {T : FuncId → Option FF} (hT : TableOKL P T) {tab : FTab} (htab : TabOK P (· = σ) tab)
    (ha : ∀ r : Ren, r.σ = σ → args.map (ren r) = args') {t : DT} {F : Fm} (ht : t.check (okF F P X hk c S E fuel T tab n f args) K = true) (w : World) (hg : ∀ g, σ (gsym g) ≠ .nilFunc) : Calls P f args' w fun e w' => e = .returned (.bool (F.val σ)) ∧ RowKit.Below w.heap.size w w' := by
  obtain ⟨K', h1, h2⟩ := DT.sound t K ht hK
  unfold okF at h2
  split at h2
  case h_2 => cases h2
  case h_1 b hb =>
    rw [Fm.ask_ok h1 hb]
    exact Calls.of_fastB hm hn hσ ⟨orcOr_ok (kOrc_ok hE h1 hS) hX, hhk⟩ hT htab ha w hg h2
end Go.Proofs.Ytfakfnekcgkelaa
