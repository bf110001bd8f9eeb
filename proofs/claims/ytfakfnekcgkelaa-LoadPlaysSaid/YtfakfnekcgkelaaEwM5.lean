/- An evaluator of Go code whose memory has names of its own (5 of 9). -/
import Derived.Test.YtfakfnekcgkelaaEwM4
/- An evaluator of Go code whose memory has names of its own (24): the same, made ready for the kernel: frames as trees, code looked at once. -/
namespace Go.Proofs.Ytfakfnekcgkelaa
set_option linter.unusedVariables false
set_option linter.unusedSimpArgs false

/-- a frame -/
inductive Fr
  | lf
  | nd (v : Value) (l r : Fr)
def Fr.get : List Bool → Fr → Value
  | [], f => (match f with
    | .nd v _ _ => v
    | .lf => undef)
  | b :: p, f => (match f with
    | .nd _ l r => (match b with
      | false => Fr.get p l
      | true => Fr.get p r)
    | .lf => undef)
def Fr.set : List Bool → Value → Fr → Fr
  | [], v, f => (match f with
    | .nd _ l r => .nd v l r
    | .lf => .nd v .lf .lf)
  | b :: p, v, f => (match f with
    | .nd u l r => (match b with
      | false => .nd u (Fr.set p v l) r
      | true => .nd u l (Fr.set p v r))
    | .lf => (match b with
      | false => .nd undef (Fr.set p v .lf) .lf
      | true => .nd undef .lf (Fr.set p v .lf)))
theorem Fr.get_lf : ∀ p, Fr.get p .lf = undef
  | [] => rfl
  | _ :: _ => rfl
theorem Fr.get_set_same : ∀ (p : List Bool) (v : Value) (f : Fr), Fr.get p (Fr.set p v f) = v
  | [], v, f => by cases f <;> rfl
  | b :: p, v, f => by
    cases f <;> cases b <;> simp only [Fr.set, Fr.get] <;> exact Fr.get_set_same p v _
theorem Fr.get_set_other : ∀ (p q : List Bool) (v : Value) (f : Fr), p ≠ q → Fr.get p (Fr.set q v f) = Fr.get p f
  | [], [], v, f, h => absurd rfl h
  | [], b :: q, v, f, h => by cases f <;> cases b <;> rfl
  | a :: p, [], v, f, h => by cases f <;> cases a <;> simp only [Fr.set, Fr.get, Fr.get_lf]
  | a :: p, b :: q, v, f, h => by
    cases f with
    | lf =>
      cases a <;> cases b <;> simp only [Fr.set, Fr.get, Fr.get_lf] <;> rw [Fr.get_set_other p q v .lf (fun e => h (by rw [e])), Fr.get_lf]
    | nd u l r =>
      cases a <;> cases b <;> simp only [Fr.set, Fr.get]
      · exact Fr.get_set_other p q v l (fun e => h (by rw [e]))
      · exact Fr.get_set_other p q v r (fun e => h (by rw [e]))

def pathOf : Nat → Nat → List Bool
  | 0, _ => []
  | f + 1, n => match n with
    | 0 => []
    | k + 1 => (Nat.beq (k % 2) 1) :: pathOf f (k / 2)
def natOf' : List Bool → Nat
  | [] => 0
  | b :: p => 2 * natOf' p + (if b then 2 else 1)
theorem natOf_pathOf : ∀ (f n : Nat), n < 2 ^ f → natOf' (pathOf f n) = n
  | 0, n, h => by simp at h; subst h; rfl
  | f + 1, 0, h => rfl
  | f + 1, k + 1, h => by
    have hp : 2 ^ (f + 1) = 2 * 2 ^ f := by rw [Nat.pow_succ, Nat.mul_comm]
    have ih := natOf_pathOf f (k / 2) (by omega)
    simp only [pathOf, natOf', ih]
    have hb : Nat.beq (k % 2) 1 = decide (k % 2 = 1) := by
      rcases Nat.mod_two_eq_zero_or_one k with h | h <;> rw [h] <;> rfl
    rw [hb]
    by_cases hk : k % 2 = 1
    · simp [hk]; omega
    · simp [hk]; omega
def pth (t : Nat) : List Bool := pathOf 32 t
def frTop : Nat := 4294967296
theorem pth_inj {t u : Nat} (ht : t < frTop) (hu : u < frTop) (h : pth t = pth u) : t = u := by
  have h1 := natOf_pathOf 32 t (by simpa [frTop] using ht)
  have h2 := natOf_pathOf 32 u (by simpa [frTop] using hu)
  unfold pth at h
  rw [← h1, h, h2]

structure FrOK (n : Nat) (fr : Fr) (ts : Array Value) : Prop where
  size : ts.size = n
  lim : n ≤ frTop
  get : ∀ t, t < n → fr.get (pth t) = ts.getD t undef
theorem FrOK.set {n : Nat} {fr : Fr} {ts : Array Value} (h : FrOK n fr ts) {d : Nat} (hd : d < n) (v : Value) : FrOK n (Fr.set (pth d) v fr) (ts.setIfInBounds d v) := by
  refine ⟨by simp [h.size], h.lim, fun t ht => ?_⟩
  rw [getD_set, h.size]
  have hl := h.lim
  by_cases e : t = d
  · subst e; rw [Fr.get_set_same]; simp [hd]
  · rw [Fr.get_set_other _ _ _ _ (fun e2 => e (pth_inj (by omega) (by omega) e2)), h.get t ht]
    simp; intro e2; exact absurd (by omega) e

def fEv (n : Nat) (fr : Fr) : Operand → Value
  | .tmp t => if t < n then fr.get (pth t) else undef
  | .const v => v
  | .global g => .pointer (some ⟨g, 0, none⟩)
  | .func f => .func (.func f) #[] #[]
theorem fEv_eq {n : Nat} {fr : Fr} {ts : Array Value} (h : FrOK n fr ts) : fEv n fr = aEv ts := by
  funext x
  cases x with
  | tmp t =>
    simp only [fEv, aEv]
    by_cases ht : t < n
    · rw [if_pos ht]; exact h.get t ht
    · have hs := h.size
      have h3 : ts[t]? = none := Array.getElem?_eq_none (Nat.le_trans (Nat.le_of_eq hs) (Nat.le_of_not_lt ht))
      rw [if_neg ht, Array.getD_eq_getD_getElem?, h3]; rfl
  | _ => rfl

inductive FOpd
  | tmp (p : List Bool)
  | val (v : Value)
def FOpd.get (fr : Fr) : FOpd → Value
  | .tmp p => fr.get p
  | .val v => v
def cOpd (n : Nat) : Operand → Option FOpd
  | .tmp t => if t < n then some (.tmp (pth t)) else none
  | .const v => if shut v then some (.val v) else none
  | .func f => some (.val (.func (.func f) #[] #[]))
  | .global _ => none
theorem cOpd_ok {n : Nat} {fr : Fr} {ts : Array Value} (h : FrOK n fr ts) {x : Operand} {y : FOpd} (e : cOpd n x = some y) : y.get fr = aEv ts x ∧ okOpd x = true := by
  cases x with
  | tmp t =>
    simp only [cOpd] at e
    split at e
    · rename_i ht; injection e with e; subst e; exact ⟨h.get t ht, rfl⟩
    · cases e
  | const v =>
    simp only [cOpd] at e
    split at e
    · rename_i hs; injection e with e; subst e; exact ⟨rfl, hs⟩
    · cases e
  | func f => simp only [cOpd] at e; injection e with e; subst e; exact ⟨rfl, rfl⟩
  | global g => simp only [cOpd] at e; cases e
def cOpds (n : Nat) : List Operand → Option (List FOpd)
  | [] => some []
  | x :: r => match cOpd n x with
    | some y => (match cOpds n r with
      | some l => some (y :: l)
      | none => none)
    | none => none
theorem cOpds_ok {n : Nat} {fr : Fr} {ts : Array Value} (h : FrOK n fr ts) : ∀ {l : List Operand} {m : List FOpd}, cOpds n l = some m → m.map (·.get fr) = l.map (aEv ts) ∧ l.all okOpd = true
  | [], m, e => by simp only [cOpds] at e; injection e with e; subst e; exact ⟨rfl, rfl⟩
  | x :: r, m, e => by
    simp only [cOpds] at e
    split at e
    · rename_i y hy
      split at e
      · rename_i l hl
        injection e with e; subst e
        obtain ⟨h1, h2⟩ := cOpd_ok h hy
        obtain ⟨h3, h4⟩ := cOpds_ok h hl
        exact ⟨by simp only [List.map_cons, h1, h3], by simp only [List.all_cons, h2, h4, Bool.and_self]⟩
      · cases e
    · cases e

inductive FK
  | mv (x : FOpd)
  | pick (c a b : FOpd)
  | ext (x : FOpd) (i : Nat)
  | fa (x : FOpd) (off : Nat)
  | ia (x ix : FOpd) (size : Nat)
  | nc (x : FOpd)
  | bin (op : BinOp) (x y : FOpd)
  | un (op : UnOp) (x : FOpd)
  | ld (t : TypeId) (x : FOpd)
  | st (t : TypeId) (a x : FOpd)
  | call (f : FuncId) (args : List FOpd)
  | slow
/-- one that touches no memory, if it can be had at all -/
def FK.quiet : FK → Bool
  | .mv _ | .pick .. | .ext .. | .fa .. | .ia .. | .nc _ => true
  | _ => false
/-- an operation, looked at -/
def cK (P : Program) (n : Nat) (o : Oper) : FK :=
  match o.op with
  | .move x => (match cOpd n x with
    | some x => .mv x
    | none => .slow)
  | .assign x => (match cOpd n x with
    | some x => .mv x
    | none => .slow)
  | .pick c a b => (match cOpds n [c, a, b] with
    | some [c, a, b] => .pick c a b
    | _ => .slow)
  | .extract x i => (match cOpd n x with
    | some x => .ext x i
    | none => .slow)
  | .fieldAddr s x f => (match cOpd n x, P.underlying s with
    | some x, some (.struct fields) => (match fields[f]? with
      | some fd => (match P.info? fd.type with
        | some i => if i.size = 0 then .slow else .fa x fd.offset
        | none => .slow)
      | none => .slow)
    | _, _ => .slow)
  | .indexAddr t x ix => (match cOpds n [x, ix], P.underlying t with
    | some [x, ix], some (.slice e) => (match P.info? e with
      | some i => .ia x ix i.size
      | none => .slow)
    | _, _ => .slow)
  | .nilCheck x => (match cOpd n x with
    | some x => .nc x
    | none => .slow)
  | .binOp op _ x y _ => (match cOpds n [x, y] with
    | some [x, y] => .bin op x y
    | _ => .slow)
  | .unOp op _ x => (match cOpd n x with
    | some x => .un op x
    | none => .slow)
  | .load t x => (match cOpd n x with
    | some x => .ld t x
    | none => .slow)
  | .store t a x => (match cOpds n [a, x] with
    | some [a, x] => .st t a x
    | _ => .slow)
  | .call c => (match staticCallee c, cOpds n c.args.toList with
    | some f, some args => (match P.funcs[f]? with
      | some fn => if fn.body.isSome then .call f args else .slow
      | none => .slow)
    | _, _ => .slow)
  | _ => .slow
def fPure (P : Program) (fr : Fr) : FK → Option Value
  | .mv x => some (x.get fr)
  | .pick c a b => (match c.get fr with
    | .bool t => some (if t then a.get fr else b.get fr)
    | _ => none)
  | .ext x i => (match x.get fr with
    | .tuple vs => vs[i]?
    | _ => none)
  | .fa x off => (match x.get fr with
    | .pointer (some a) => some (.pointer (some (a.add off)))
    | _ => none)
  | .ia x ix size => (match ix.get fr with
    | .int _ i => (match x.get fr with
      | .slice (some ⟨b, o, none⟩) len _ => if 0 ≤ i ∧ i < len then some (.pointer (some ((⟨b, o, none⟩ : Addr).add (i.toNat * size)))) else none
      | _ => none)
    | _ => none)
  | .nc x => (match x.get fr with
    | .pointer (some a) => some (.pointer (some a))
    | .func (.func f) a b => some (.func (.func f) a b)
    | .iface t v => some (.iface t v)
    | .map (some r) => some (.map (some r))
    | _ => none)
  | .bin op x y => intRun P op (x.get fr) (y.get fr)
  | .un op x => notRun op (x.get fr)
  | _ => none
theorem aOper_pure {P : Program} {orc : Orc} {call : FuncId → Array Value → AM Value} {o : Oper} {ts : Array Value} (hok : o.op.operands.toList.all okOpd = true) {v : Value} (hp : aPure P (aEv ts) o = some v)
    (hne : aExecF P orc (aEv ts) o = aExec P orc (aEv ts) o) (h : AH) : (aOper P orc call o ts).run h = some (v, h) := by
  have hok' : o.op.operands.toList.all (okOpdG orc.glob) = true := by rw [List.all_eq_true] at hok ⊢; exact fun x hx => okOpdG_of (hok x hx)
  unfold aOper
  rw [if_pos hok', hne]
  unfold aExec
  rw [hp]
  rfl
theorem fPure_ok {P : Program} {orc : Orc} {call : FuncId → Array Value → AM Value} {n : Nat} {o : Oper} {fr : Fr} {ts : Array Value} (h : FrOK n fr ts) {v : Value} (e : fPure P fr (cK P n o) = some v) (a : AH) :
    (aOper P orc call o ts).run a = some (v, a) := by
  unfold cK at e
  split at e
  · rename_i x ho
    split at e
    · rename_i y hy
      obtain ⟨h1, h2⟩ := cOpd_ok h hy
      simp only [fPure] at e
      exact aOper_pure (by rw [ho]; simp [Op.operands, h2]) (by unfold aPure; rw [ho]; dsimp only; rw [← h1]; exact e) (by unfold aExecF; rw [ho]) a
    · cases e
  · rename_i x ho
    split at e
    · rename_i y hy
      obtain ⟨h1, h2⟩ := cOpd_ok h hy
      simp only [fPure] at e
      exact aOper_pure (by rw [ho]; simp [Op.operands, h2]) (by unfold aPure; rw [ho]; dsimp only; rw [← h1]; exact e) (by unfold aExecF; rw [ho]) a
    · cases e
  · rename_i c x y ho
    split at e
    · rename_i c' x' y' hy
      obtain ⟨h1, h2⟩ := cOpds_ok h hy
      simp only [List.map_cons, List.map_nil, List.cons.injEq, and_true] at h1
      simp only [fPure] at e
      exact aOper_pure (by rw [ho]; simpa [Op.operands] using h2) (by unfold aPure; rw [ho]; dsimp only; rw [← h1.1, ← h1.2.1, ← h1.2.2]; exact e) (by unfold aExecF; rw [ho]) a
    · cases e
  · rename_i x i ho
    split at e
    · rename_i y hy
      obtain ⟨h1, h2⟩ := cOpd_ok h hy
      simp only [fPure] at e
      exact aOper_pure (by rw [ho]; simp [Op.operands, h2]) (by unfold aPure; rw [ho]; dsimp only; rw [← h1]; exact e) (by unfold aExecF; rw [ho]) a
    · cases e
  · rename_i s x f ho
    split at e
    · rename_i y fields hy hu
      split at e
      · rename_i fd hfd
        split at e
        · rename_i i hi
          split at e
          · cases e
          · rename_i hz
            obtain ⟨h1, h2⟩ := cOpd_ok h hy
            simp only [fPure] at e
            refine aOper_pure (by rw [ho]; simp [Op.operands, h2]) ?_ (by unfold aExecF; rw [ho]) a
            unfold aPure; rw [ho]
            dsimp only
            rw [← h1]
            split at e
            · rename_i ad had
              rw [had, hu]
              dsimp only
              rw [hfd]
              dsimp only
              rw [hi]
              dsimp only
              rw [if_neg hz]; exact e
            · cases e
        · cases e
      · cases e
    · cases e
  · rename_i t x ix ho
    split at e
    · rename_i x' ix' el hy hu
      split at e
      · rename_i i hi
        obtain ⟨h1, h2⟩ := cOpds_ok h hy
        simp only [List.map_cons, List.map_nil, List.cons.injEq, and_true] at h1
        simp only [fPure] at e
        refine aOper_pure (by rw [ho]; simpa [Op.operands] using h2) ?_ (by unfold aExecF; rw [ho]) a
        unfold aPure; rw [ho]
        dsimp only
        rw [← h1.1, ← h1.2]
        split at e
        · rename_i k z hz
          split at e
          · rename_i b off len cap hs
            rw [hz, hs, hu]
            dsimp only
            rw [hi]
            exact e
          · cases e
        · cases e
      · cases e
    · cases e
  · rename_i x ho
    split at e
    · rename_i y hy
      obtain ⟨h1, h2⟩ := cOpd_ok h hy
      simp only [fPure] at e
      exact aOper_pure (by rw [ho]; simp [Op.operands, h2]) (by unfold aPure; rw [ho]; dsimp only; rw [← h1]; exact e) (by unfold aExecF; rw [ho]) a
    · cases e
  · rename_i op t x y yt ho
    split at e
    · rename_i x' y' hy
      obtain ⟨h1, h2⟩ := cOpds_ok h hy
      simp only [List.map_cons, List.map_nil, List.cons.injEq, and_true] at h1
      simp only [fPure] at e
      exact aOper_pure (by rw [ho]; simpa [Op.operands] using h2) (by unfold aPure; rw [ho]; dsimp only; rw [← h1.1, ← h1.2, e]) (by unfold aExecF; rw [ho]) a
    · cases e
  · rename_i op t x ho
    split at e
    · rename_i y hy
      obtain ⟨h1, h2⟩ := cOpd_ok h hy
      simp only [fPure] at e
      exact aOper_pure (by rw [ho]; simp [Op.operands, h2]) (by unfold aPure; rw [ho]; dsimp only; rw [← h1, e]) (by unfold aExecF; rw [ho]) a
    · cases e
  · rename_i t x ho
    split at e <;> cases e
  · rename_i t a' x ho
    split at e <;> cases e
  · rename_i c ho
    split at e
    · split at e
      · split at e <;> cases e
      · cases e
    · cases e
  · cases e

/-- what an operation that touches memory, or calls, comes to -/
def fMem (P : Program) (orc : Orc) (call : FuncId → List Value → AH → Option (Value × AH)) (n : Nat) (o : Oper) (fr : Fr) (h : AH) : FK → Option (Value × AH)
  | .ld t x => (aLoad P t (x.get fr)).run h
  | .st t a x => (match (aStore P t (a.get fr) (x.get fr)).run h with
    | some (_, h1) => some (undef, h1)
    | none => none)
  | .call f args => call f (args.map (·.get fr)) h
  | _ => if o.op.operands.toList.all (okOpdG orc.glob) then (match (aExecF P orc (fEv n fr) o).run h with
    | some (.value v, h1) => some (v, h1)
    | some (.skip, h1) => some (undef, h1)
    | some (.enter f args, h1) => call f args.toList h1
    | none => none) else none
/-- what a call of the one is, a call of the other is -/
def CallF (call : FuncId → List Value → AH → Option (Value × AH)) (acall : FuncId → Array Value → AM Value) : Prop :=
  ∀ f args h r, call f args h = some r → (acall f args.toArray).run h = some r
theorem fSlow_ok {P : Program} {orc : Orc} {call : FuncId → List Value → AH → Option (Value × AH)} {acall : FuncId → Array Value → AM Value} (hc : CallF call acall) {n : Nat} {o : Oper} {fr : Fr} {ts : Array Value} (h : FrOK n fr ts) {a : AH} {r : Value × AH}
    (e : (if o.op.operands.toList.all (okOpdG orc.glob) then (match (aExecF P orc (fEv n fr) o).run a with
    | some (.value v, h1) => some (v, h1)
    | some (.skip, h1) => some (undef, h1)
    | some (.enter f args, h1) => call f args.toList h1
    | none => none) else none) = some r) : (aOper P orc acall o ts).run a = some r := by
  rw [fEv_eq h] at e
  unfold aOper
  split at e
  case isFalse => cases e
  case isTrue hok =>
    rw [if_pos hok]
    unfold AM.bind
    dsimp only
    split at e
    · rename_i v h1 h2; rw [h2]; exact e
    · rename_i h1 h2; rw [h2]; exact e
    · rename_i f args h1 h2; rw [h2]; exact hc f args.toList h1 r e
    · cases e
theorem fMem_ok {P : Program} {orc : Orc} {call : FuncId → List Value → AH → Option (Value × AH)} {acall : FuncId → Array Value → AM Value} (hc : CallF call acall) {n : Nat} {o : Oper} {fr : Fr} {ts : Array Value} (h : FrOK n fr ts) {a : AH} {r : Value × AH}
    (e : fMem P orc call n o fr a (cK P n o) = some r) : (aOper P orc acall o ts).run a = some r := by
  have slow : ∀ k, k = cK P n o → (∀ t x, k ≠ .ld t x) → (∀ t x y, k ≠ .st t x y) → (∀ f l, k ≠ .call f l) → (aOper P orc acall o ts).run a = some r := fun k hk h1 h2 h3 => by
    rw [← hk] at e
    refine fSlow_ok (call := call) hc h ?_
    unfold fMem at e
    split at e
    · exact absurd rfl (h1 _ _)
    · exact absurd rfl (h2 _ _ _)
    · exact absurd rfl (h3 _ _)
    · exact e
  cases hk : cK P n o with
  | ld t x =>
    rw [hk] at e
    simp only [fMem] at e
    unfold cK at hk
    split at hk
    case h_10 t' x' ho =>
      split at hk
      · rename_i y hy
        injection hk with k1 k2; subst k1; subst k2
        obtain ⟨h1, h2⟩ := cOpd_ok h hy
        unfold aOper
        rw [if_pos (by rw [ho]; simp [Op.operands, okOpdG_of h2])]
        unfold aExecF
        rw [ho]
        dsimp only
        rw [← h1]
        obtain ⟨v, h'⟩ := r
        simp only [AM.bind, e, AM.pure]
      · cases hk
    all_goals exfalso
    all_goals (repeat' split at hk) <;> cases hk
  | st t x y =>
    rw [hk] at e
    simp only [fMem] at e
    unfold cK at hk
    split at hk
    case h_11 t' x' y' ho =>
      split at hk
      · rename_i x2 y2 hy
        injection hk with k1 k2 k3; subst k1; subst k2; subst k3
        obtain ⟨h1, h2⟩ := cOpds_ok h hy
        simp only [List.map_cons, List.map_nil, List.cons.injEq, and_true] at h1
        unfold aOper
        rw [if_pos (by rw [ho]; simp only [List.all_cons, List.all_nil, Bool.and_true, Bool.and_eq_true] at h2; simp [Op.operands, okOpdG_of h2.1, okOpdG_of h2.2])]
        unfold aExecF
        rw [ho]
        dsimp only
        rw [← h1.1, ← h1.2]
        split at e
        · rename_i u h' hs
          injection e with e; subst e
          simp only [AM.bind, hs, AM.pure]
        · cases e
      · cases hk
    all_goals exfalso
    all_goals (repeat' split at hk) <;> cases hk
  | call f l =>
    rw [hk] at e
    simp only [fMem] at e
    unfold cK at hk
    split at hk
    case h_12 c ho =>
      split at hk
      · rename_i f' args hf hargs
        split at hk
        · rename_i fn hfn
          split at hk
          · rename_i hb
            injection hk with k1 k2; subst k1; subst k2
            obtain ⟨h1, h2⟩ := cOpds_ok h hargs
            have hcal : c.callee = .value (.func f') := by
              unfold staticCallee at hf
              split at hf
              · rename_i g2 hc; injection hf with hf; subst hf; exact hc
              · cases hf
            have hall : o.op.operands.toList.all okOpd = true := by
              rw [ho]
              simp only [Op.operands, Call.operands, hcal]
              simpa [okOpd] using h2
            have hall' : o.op.operands.toList.all (okOpdG orc.glob) = true := by rw [List.all_eq_true] at hall ⊢; exact fun x hx => okOpdG_of (hall x hx)
            unfold aOper
            rw [if_pos hall']
            unfold aExecF
            rw [ho]
            dsimp only
            rw [hf]
            dsimp only
            unfold aEnter
            rw [hfn]
            dsimp only
            rw [if_pos hb]
            have := hc f' _ a r e
            rw [h1] at this
            simp only [AM.bind, AM.pure]
            rw [show Array.map (aEv ts) c.args = (List.map (aEv ts) c.args.toList).toArray from by apply Array.ext'; simp]
            exact this
          · cases hk
        · cases hk
      · cases hk
    all_goals exfalso
    all_goals (repeat' split at hk) <;> cases hk
  | _ => exact slow _ hk.symm (fun _ _ e => by cases e) (fun _ _ _ e => by cases e) (fun _ _ e => by cases e)
end Go.Proofs.Ytfakfnekcgkelaa
/- An evaluator of Go code whose memory has names of its own (25): made ready for the kernel: regions, code, calls. -/
namespace Go.Proofs.Ytfakfnekcgkelaa
set_option linter.unusedVariables false
set_option linter.unusedSimpArgs false

structure FO where
  k : FK
  o : Oper
  dst : Option (List Bool)
  g : Option (List Bool × Bool)
def cDst (n : Nat) : Option Tmp → Option (Option (List Bool))
  | none => some none
  | some d => if d < n then some (some (pth d)) else none
def cGuard (n : Nat) (ops : Array Oper) : Option (Nat × Bool) → Option (Option (List Bool × Bool))
  | none => some none
  | some (j, want) => match (ops[j]?).bind (·.dst) with
    | some t => if t < n then some (some (pth t, want)) else none
    | none => none
def cO (P : Program) (n : Nat) (ops : Array Oper) (o : Oper) : Option FO :=
  match cDst n o.dst, cGuard n ops o.guard with
  | some d, some g => some ⟨cK P n o, o, d, g⟩
  | _, _ => none
def cOs (P : Program) (n : Nat) (ops : Array Oper) : List Oper → Option (List FO)
  | [] => some []
  | o :: r => match cO P n ops o with
    | some x => (match cOs P n ops r with
      | some l => some (x :: l)
      | none => none)
    | none => none
def fPut (d : Option (List Bool)) (v : Value) (fr : Fr) : Fr :=
  match d with
  | none => fr
  | some p => fr.set p v
theorem fPut_ok {n : Nat} {fr : Fr} {ts : Array Value} (h : FrOK n fr ts) {dst : Option Tmp} {d : Option (List Bool)} (v : Value) : FrOK n fr ts → cDst n dst = some d → FrOK n (fPut d v fr) (match dst with | some d => ts.setIfInBounds d v | none => ts) := by
  intro _ e
  cases dst with
  | none => simp only [cDst] at e; injection e with e; subst e; exact h
  | some t =>
    simp only [cDst] at e
    split at e
    · rename_i ht; injection e with e; subst e; exact h.set ht v
    · cases e
def wantIs : Option Bool → Bool → Bool
  | some true, true => true
  | some false, false => true
  | _, _ => false
theorem wantIs_eq (x : Option Bool) (b : Bool) : wantIs x b = (x == some b) := by
  cases x with
  | none => cases b <;> rfl
  | some c => cases c <;> cases b <;> rfl
def fWant (g : Option (List Bool × Bool)) (fr : Fr) : Option Bool :=
  match g with
  | none => some true
  | some (p, want) => match boolOf (fr.get p) with
    | some x => some (wantIs x want)
    | none => none
theorem fWant_ok {n : Nat} {fr : Fr} {ts : Array Value} (h : FrOK n fr ts) {ops : Array Oper} {o : Oper} {g : Option (List Bool × Bool)} (e : cGuard n ops o.guard = some g) : fWant g fr = aWanted ops o ts := by
  unfold aWanted
  cases hg : o.guard with
  | none => rw [hg] at e; simp only [cGuard] at e; injection e with e; subst e; rfl
  | some jw =>
    obtain ⟨j, want⟩ := jw
    rw [hg] at e
    simp only [cGuard] at e
    dsimp only
    split at e
    · rename_i t ht
      split at e
      · rename_i hlt
        injection e with e; subst e
        rw [ht]
        dsimp only [fWant]
        rw [if_pos (by rw [h.size]; exact hlt), h.get t hlt]
        cases boolOf (ts.getD t undef) with
        | none => rfl
        | some x => simp only [wantIs_eq]
      · cases e
    · cases e

def fOne (P : Program) (orc : Orc) (call : FuncId → List Value → AH → Option (Value × AH)) (n : Nat) (fo : FO) (fr : Fr) (h : AH) : Option (Fr × AH × List Nat × List Nat) :=
  match fWant fo.g fr with
  | some false => some (fPut fo.dst undef fr, h, [], [])
  | some true => (match fPure P fr fo.k with
    | some v => some (fPut fo.dst v fr, h, [], [])
    | none => (match fMem P orc call n fo.o fr { h with base := h.next, tch := [], wrt := [] } fo.k with
      | some (v, h1) => if fo.k.quiet && !((h1.wrt ++ h1.tch).isEmpty && Nat.beq h1.next h.next) then none else
          some (fPut fo.dst v fr, { h1 with base := h.base, tch := noteAll h.base (h1.wrt ++ h1.tch) h.tch, wrt := noteAll h.base h1.wrt h.wrt }, h1.wrt ++ h1.tch, h1.wrt)
      | none => none))
  | none => none
theorem fOne_ok {P : Program} {orc : Orc} {call : FuncId → List Value → AH → Option (Value × AH)} {acall : FuncId → Array Value → AM Value} (hc : CallF call acall) {n : Nat} {ops : Array Oper} {o : Oper} {fo : FO} (ho : cO P n ops o = some fo)
    {fr : Fr} {ts : Array Value} (h : FrOK n fr ts) {a a1 : AH} {fr1 : Fr} {F W : List Nat} (e : fOne P orc call n fo fr a = some (fr1, a1, F, W)) :
    ∃ ts1, one ops (aOper P orc acall) o ts a = some (ts1, a1, F, W) ∧ FrOK n fr1 ts1 ∧ (fo.k.quiet = true → F = [] ∧ W = [] ∧ a1.next = a.next) := by
  unfold cO at ho
  split at ho
  case h_2 => cases ho
  case h_1 d g hd hg =>
    injection ho with ho; subst ho
    unfold fOne at e
    dsimp only at e
    unfold one
    rw [fWant_ok h hg] at e
    split at e
    · rename_i hw
      rw [hw]
      simp only [Option.some.injEq, Prod.mk.injEq] at e
      obtain ⟨rfl, rfl, rfl, rfl⟩ := e
      exact ⟨_, rfl, fPut_ok h _ h hd, fun _ => ⟨rfl, rfl, rfl⟩⟩
    · rename_i hw
      rw [hw]
      dsimp only
      split at e
      · rename_i v hv
        rw [fPure_ok (orc := orc) (call := acall) h hv]
        simp only [Option.some.injEq, Prod.mk.injEq] at e
        obtain ⟨rfl, rfl, rfl, rfl⟩ := e
        exact ⟨_, rfl, fPut_ok h _ h hd, fun _ => ⟨rfl, rfl, rfl⟩⟩
      · split at e
        · rename_i v h1 hm
          rw [fMem_ok hc h hm]
          split at e
          · cases e
          · rename_i hq
            simp only [Option.some.injEq, Prod.mk.injEq] at e
            obtain ⟨rfl, rfl, rfl, rfl⟩ := e
            refine ⟨_, rfl, fPut_ok h _ h hd, fun hk => ?_⟩
            rw [hk] at hq
            simp only [Bool.true_and, Bool.not_eq_true', Bool.and_eq_false_iff, not_or, Bool.not_eq_false, List.isEmpty_iff, List.append_eq_nil_iff] at hq
            refine ⟨by rw [hq.1.1, hq.1.2]; rfl, hq.1.1, Nat.eq_of_beq_eq_true hq.2⟩
        · cases e
    · cases e

structure FRec where
  n0 : Nat
  n1 : Nat
  F : List Nat
  W : List Nat
def allLt (n : Nat) : List Nat → Bool
  | [] => true
  | k :: r => Nat.blt k n && allLt n r
theorem allLt_spec {n : Nat} : ∀ {l : List Nat}, allLt n l = true → ∀ k ∈ l, k < n
  | [], _, k, hk => by cases hk
  | x :: r, h, k, hk => by
    simp only [allLt, Bool.and_eq_true] at h
    rcases List.mem_cons.1 hk with rfl | hk
    · have h1 := h.1; rw [Nat.blt_eq] at h1; exact h1
    · exact allLt_spec h.2 k hk
def fReg (P : Program) (orc : Orc) (call : FuncId → List Value → AH → Option (Value × AH)) (n : Nat) : List FO → Fr → AH → Option (List FRec × Fr × AH)
  | [], fr, h => some ([], fr, h)
  | fo :: r, fr, h => match fOne P orc call n fo fr h with
    | none => none
    | some (fr1, h1, F, W) => (match allLt h.next F with
      | true => (match fReg P orc call n r fr1 h1 with
        | none => none
        | some (l, fr', h') => some (⟨h.next, h1.next, F, W⟩ :: l, fr', h'))
      | false => none)
/-- without the notes, where nobody asks for them -/
def fRegN (P : Program) (orc : Orc) (call : FuncId → List Value → AH → Option (Value × AH)) (n : Nat) : List FO → Fr → AH → Option (Fr × AH)
  | [], fr, h => some (fr, h)
  | fo :: r, fr, h => match fOne P orc call n fo fr h with
    | none => none
    | some (fr1, h1, F, W) => (match allLt h.next F with
      | true => fRegN P orc call n r fr1 h1
      | false => none)
theorem fRegN_ok {P : Program} {orc : Orc} {call : FuncId → List Value → AH → Option (Value × AH)} {n : Nat} : ∀ {l : List FO} {fr fr' : Fr} {h h' : AH}, fRegN P orc call n l fr h = some (fr', h') → ∃ rs, fReg P orc call n l fr h = some (rs, fr', h')
  | [], fr, fr', h, h', e => by
    simp only [fRegN, Option.some.injEq, Prod.mk.injEq] at e
    obtain ⟨rfl, rfl⟩ := e
    exact ⟨[], rfl⟩
  | fo :: r, fr, fr', h, h', e => by
    simp only [fRegN] at e
    simp only [fReg]
    split at e
    · cases e
    · rename_i fr1 h1 F W h2
      split at e
      · rename_i h3
        obtain ⟨rs, h4⟩ := fRegN_ok e
        rw [h4]
        exact ⟨_, rfl⟩
      · cases e
def quietAt (l : List FO) (i : Nat) : Bool :=
  match l[i]? with
  | some fo => fo.k.quiet
  | none => false
theorem regGo_stH0 {ops : Array Oper} {f : Oper → Array Value → AM Value} {r : List Oper} {ts ts' : Array Value} {h h' : AH} {l : List Rec} (e : regGo ops f r ts h = some (l, ts', h')) : stH l h' 0 = h := by
  cases r with
  | nil => simp only [regGo, Option.some.injEq, Prod.mk.injEq] at e; obtain ⟨rfl, rfl, rfl⟩ := e; rfl
  | cons o r =>
    simp only [regGo] at e
    split at e
    · cases e
    · split at e
      · cases e
      · simp only [Option.some.injEq, Prod.mk.injEq] at e; obtain ⟨rfl, rfl, rfl⟩ := e; rfl
theorem fReg_ok {P : Program} {orc : Orc} {call : FuncId → List Value → AH → Option (Value × AH)} {acall : FuncId → Array Value → AM Value} (hc : CallF call acall) {n : Nat} {ops : Array Oper} :
    ∀ {r : List Oper} {fos : List FO}, cOs P n ops r = some fos → ∀ {fr fr' : Fr} {ts : Array Value} {h h' : AH} {rs : List FRec}, FrOK n fr ts → fReg P orc call n fos fr h = some (rs, fr', h') →
    ∃ l ts', regGo ops (aOper P orc acall) r ts h = some (l, ts', h') ∧ FrOK n fr' ts' ∧ rs.length = r.length ∧
      ∀ j x, rs[j]? = some x → stF l j = x.F ∧ stW l j = x.W ∧ (stH l h' j).next = x.n0 ∧ (stH l h' (j + 1)).next = x.n1 ∧ (∀ k ∈ x.F, k < x.n0) ∧ (quietAt fos j = true → x.F = [] ∧ x.W = [] ∧ x.n1 = x.n0)
  | [], fos, hf, fr, fr', ts, h, h', rs, hfr, e => by
    simp only [cOs] at hf; injection hf with hf; subst hf
    simp only [fReg, Option.some.injEq, Prod.mk.injEq] at e
    obtain ⟨rfl, rfl, rfl⟩ := e
    exact ⟨[], ts, rfl, hfr, rfl, fun j x hx => by simp at hx⟩
  | o :: r, fos, hf, fr, fr', ts, h, h', rs, hfr, e => by
    simp only [cOs] at hf
    split at hf
    case h_2 => cases hf
    case h_1 fo hfo =>
      split at hf
      case h_2 => cases hf
      case h_1 fl hfl =>
        injection hf with hf; subst hf
        simp only [fReg] at e
        split at e
        case h_1 => cases e
        case h_2 fr1 h1 F W h2 =>
          split at e
          case h_2 => cases e
          case h_1 hlt =>
            split at e
            case h_1 => cases e
            case h_2 l2 fr2 h3 h4 =>
              simp only [Option.some.injEq, Prod.mk.injEq] at e
              obtain ⟨rfl, rfl, rfl⟩ := e
              obtain ⟨ts1, q1, q2, q3⟩ := fOne_ok hc hfo hfr h2
              obtain ⟨l, ts', p1, p2, p3, p4⟩ := fReg_ok hc hfl q2 h4
              refine ⟨⟨ts, h, F, W⟩ :: l, ts', ?_, p2, by simp [p3], fun j x hx => ?_⟩
              · simp only [regGo, q1, p1]
              · cases j with
                | zero =>
                  simp only [List.getElem?_cons_zero, Option.some.injEq] at hx
                  subst hx
                  refine ⟨rfl, rfl, rfl, ?_, allLt_spec hlt, fun hq => q3 (by simpa [quietAt] using hq)⟩
                  have := regGo_stH0 p1
                  show (stH l h3 0).next = _
                  rw [this]
                | succ j =>
                  simp only [List.getElem?_cons_succ] at hx
                  obtain ⟨a1, a2, a3, a4, a5, a6⟩ := p4 j x hx
                  exact ⟨by simpa [stF] using a1, by simpa [stW] using a2, by simpa [stH] using a3, by simpa [stH] using a4, a5, fun hq => a6 (by simpa [quietAt] using hq)⟩

def regOK (ops : Array Oper) (fos : List FO) (pairs : List (Nat × Nat)) : Bool :=
  let clo := closeGo ops.toList []
  (List.range ops.size).all fun j =>
    (match ops[j]? with
     | some o => (edges o).all (fun e => decide (e < j))
     | none => false) &&
    (List.range j).all fun i => (clo.getD j []).contains i ||
      ((match ops[i]?, ops[j]? with
        | some x, some y => x.apart ops y
        | _, _ => false) && (quietAt fos i || quietAt fos j || pairs.contains (i, j)))
def pairsOf (ops : Array Oper) (fos : List FO) : List (Nat × Nat) :=
  let clo := closeGo ops.toList []
  (List.range ops.size).flatMap fun j => if quietAt fos j then [] else
    ((List.range j).filter fun i => !((clo.getD j []).contains i || quietAt fos i)).map fun i => (i, j)
def dynOK (rs : List FRec) (pairs : List (Nat × Nat)) : Bool :=
  pairs.all fun p => match rs[p.1]?, rs[p.2]? with
    | some a, some b => b.F.all (fun k => !a.W.contains k && !(decide (a.n0 ≤ k) && decide (k < a.n1))) && a.F.all (fun k => !b.W.contains k)
    | _, _ => false
theorem okReg_of {ops : Array Oper} {fos : List FO} {pairs : List (Nat × Nat)} {rs : List FRec} {l : List Rec} {ts' : Array Value} {h' : AH} (h1 : regOK ops fos pairs = true) (h2 : dynOK rs pairs = true) (hlen : rs.length = ops.size)
    (h3 : ∀ j x, rs[j]? = some x → stF l j = x.F ∧ stW l j = x.W ∧ (stH l h' j).next = x.n0 ∧ (stH l h' (j + 1)).next = x.n1 ∧ (∀ k ∈ x.F, k < x.n0) ∧ (quietAt fos j = true → x.F = [] ∧ x.W = [] ∧ x.n1 = x.n0)) : okReg ops l ts' h' = true := by
  unfold okReg
  unfold regOK at h1
  dsimp only at h1 ⊢
  rw [List.all_eq_true] at h1 ⊢
  have hx : ∀ j, j < ops.size → ∃ x, rs[j]? = some x := fun j hj => by
    exact ⟨_, List.getElem?_eq_getElem (by omega)⟩
  intro j hj
  have hjs : j < ops.size := by simpa using hj
  have h4 := h1 j hj
  rw [Bool.and_eq_true] at h4
  obtain ⟨y, hy⟩ := hx j hjs
  obtain ⟨b1, b2, b3, b4, b5, b6⟩ := h3 j y hy
  rw [Bool.and_eq_true, Bool.and_eq_true]
  refine ⟨⟨h4.1, ?_⟩, ?_⟩
  · rw [List.all_eq_true]
    intro k hk
    rw [b1] at hk
    rw [b3]
    exact decide_eq_true (b5 k hk)
  · rw [List.all_eq_true] at h4 ⊢
    intro i hi
    have hij : i < j := by simpa using hi
    have h5 := h4.2 i hi
    unfold noMeet
    rw [Bool.or_eq_true] at h5 ⊢
    rcases h5 with h5 | h5
    · exact .inl h5
    · right
      rw [Bool.and_eq_true] at h5
      obtain ⟨x, hxi⟩ := hx i (by omega)
      obtain ⟨a1, a2, a3, a4, a5, a6⟩ := h3 i x hxi
      rw [Bool.and_eq_true, Bool.and_eq_true, a1, a2, a3, a4, b1, b2]
      have h6 := h5.2
      rw [Bool.or_eq_true, Bool.or_eq_true] at h6
      rcases h6 with (h6 | h6) | h6
      · obtain ⟨c1, c2, c3⟩ := a6 h6
        refine ⟨⟨h5.1, ?_⟩, ?_⟩
        · rw [c2, c3, List.all_eq_true]
          intro k _
          simp
          omega
        · rw [c1]; rfl
      · obtain ⟨c1, c2, c3⟩ := b6 h6
        refine ⟨⟨h5.1, ?_⟩, ?_⟩
        · rw [c1]; rfl
        · rw [c2, List.all_eq_true]
          intro k _
          rfl
      · unfold dynOK at h2
        rw [List.all_eq_true] at h2
        have h7 := h2 (i, j) (by simpa using h6)
        dsimp only at h7
        rw [hxi, hy] at h7
        dsimp only at h7
        rw [Bool.and_eq_true] at h7
        exact ⟨⟨h5.1, h7.1⟩, h7.2⟩
end Go.Proofs.Ytfakfnekcgkelaa
/- An evaluator of Go code whose memory has names of its own (26): made ready for the kernel: code, calls, and that it says what the other says. -/
namespace Go.Proofs.Ytfakfnekcgkelaa
set_option linter.unusedVariables false
set_option linter.unusedSimpArgs false

inductive FC
  | skip
  | reg (fos : List FO) (pairs : List (Nat × Nat))
  | seqr (fos : List FO)
  | seq (a b : FC)
  | cond (c : FOpd) (a b : FC)
  | block (id : Nat) (b : FC)
  | loop (b : FC)
  | scope (b : FC)
  | exit (id : Nat)
  | ret
  | bad
def cReg (P : Program) (n : Nat) (ops : Array Oper) (draw : Bool) : FC :=
  match cOs P n ops ops.toList with
  | some fos => (match draw with
    | true => if regOK ops fos (pairsOf ops fos) then .reg fos (pairsOf ops fos) else .bad
    | false => .seqr fos)
  | none => .bad
def cCode (P : Program) (n : Nat) : Code → FC
  | .skip => .skip
  | .label _ => .skip
  | .region _ ops draw => cReg P n ops draw
  | .seq a b => .seq (cCode P n a) (cCode P n b)
  | .cond c a b => (match cOpd n c with
    | some c => .cond c (cCode P n a) (cCode P n b)
    | none => .bad)
  | .block id b => .block id (cCode P n b)
  | .loop b => .loop (cCode P n b)
  | .scope b => .scope (cCode P n b)
  | .exit id => .exit id
  | .ret => .ret
  | _ => .bad

def fSeqR (P : Program) (orc : Orc) (call : FuncId → List Value → AH → Option (Value × AH)) (n : Nat) : List FO → Fr → AH → Option (Fr × AH)
  | [], fr, h => some (fr, h)
  | fo :: r, fr, h => match fWant fo.g fr with
    | some false => fSeqR P orc call n r (fPut fo.dst undef fr) h
    | some true => (match fPure P fr fo.k with
      | some v => fSeqR P orc call n r (fPut fo.dst v fr) h
      | none => (match fMem P orc call n fo.o fr h fo.k with
        | some (v, h1) => fSeqR P orc call n r (fPut fo.dst v fr) h1
        | none => none))
    | none => none
theorem fSeqR_ok {P : Program} {orc : Orc} {call : FuncId → List Value → AH → Option (Value × AH)} {acall : FuncId → Array Value → AM Value} (hc : CallF call acall) {n : Nat} {ops : Array Oper} :
    ∀ {r : List Oper} {fos : List FO}, cOs P n ops r = some fos → ∀ {fr fr' : Fr} {ts : Array Value} {h h' : AH}, FrOK n fr ts → fSeqR P orc call n fos fr h = some (fr', h') →
    ∃ ts', (aSeq ops (aOper P orc acall) r ts).run h = some (ts', h') ∧ FrOK n fr' ts'
  | [], fos, hf, fr, fr', ts, h, h', hfr, e => by
    simp only [cOs] at hf; injection hf with hf; subst hf
    simp only [fSeqR, Option.some.injEq, Prod.mk.injEq] at e
    obtain ⟨rfl, rfl⟩ := e
    exact ⟨ts, rfl, hfr⟩
  | o :: r, fos, hf, fr, fr', ts, h, h', hfr, e => by
    simp only [cOs] at hf
    split at hf
    case h_2 => cases hf
    case h_1 fo hfo =>
      split at hf
      case h_2 => cases hf
      case h_1 fl hfl =>
        injection hf with hf; subst hf
        simp only [fSeqR] at e
        unfold cO at hfo
        split at hfo
        case h_2 => cases hfo
        case h_1 d g hd hg =>
          injection hfo with hfo; subst hfo
          dsimp only at e
          rw [fWant_ok hfr hg] at e
          simp only [aSeq]
          split at e
          · rename_i hw
            rw [hw]
            exact fSeqR_ok hc hfl (fPut_ok hfr _ hfr hd) e
          · rename_i hw
            rw [hw]
            dsimp only
            split at e
            · rename_i v hv
              obtain ⟨ts', q1, q2⟩ := fSeqR_ok hc hfl (fPut_ok hfr _ hfr hd) e
              refine ⟨ts', ?_, q2⟩
              unfold AM.bind
              dsimp only
              rw [fPure_ok (orc := orc) (call := acall) hfr hv]
              exact q1
            · split at e
              · rename_i v h1 hm
                obtain ⟨ts', q1, q2⟩ := fSeqR_ok hc hfl (fPut_ok hfr _ hfr hd) e
                refine ⟨ts', ?_, q2⟩
                unfold AM.bind
                dsimp only
                rw [fMem_ok hc hfr hm]
                exact q1
              · cases e
          · cases e

def fCode (P : Program) (orc : Orc) (call : FuncId → List Value → AH → Option (Value × AH)) (n : Nat) : Nat → FC → Fr → AH → Option (Way × Fr × AH)
  | 0, _, _, _ => none
  | m + 1, c, fr, h => match c with
    | .skip => some (.normal, fr, h)
    | .reg fos pairs => (match pairs with
      | [] => (match fRegN P orc call n fos fr h with
        | some (fr', h') => some (.normal, fr', h')
        | none => none)
      | _ :: _ => (match fReg P orc call n fos fr h with
        | some (rs, fr', h') => if dynOK rs pairs then some (.normal, fr', h') else none
        | none => none))
    | .seqr fos => (match fSeqR P orc call n fos fr h with
      | some (fr', h') => some (.normal, fr', h')
      | none => none)
    | .seq a b => (match fCode P orc call n m a fr h with
      | some (.normal, fr', h') => fCode P orc call n m b fr' h'
      | x => x)
    | .cond c a b => (match c.get fr with
      | .bool true => fCode P orc call n m a fr h
      | .bool false => fCode P orc call n m b fr h
      | _ => none)
    | .block id b => (match fCode P orc call n m b fr h with
      | some (.exit i, fr', h') => if i = id then some (.normal, fr', h') else some (.exit i, fr', h')
      | x => x)
    | .loop b => (match fCode P orc call n m b fr h with
      | some (.normal, fr', h') => fCode P orc call n m (.loop b) fr' h'
      | x => x)
    | .scope b => fCode P orc call n m b fr h
    | .exit id => some (.exit id, fr, h)
    | .ret => some (.ret, fr, h)
    | .bad => none
theorem cReg_ok {P : Program} {orc : Orc} {call : FuncId → List Value → AH → Option (Value × AH)} {acall : FuncId → Array Value → AM Value} (hc : CallF call acall) {n m : Nat} {ops : Array Oper} {draw : Bool} {fr fr' : Fr} {ts : Array Value} {h h' : AH} {w : Way}
    (hfr : FrOK n fr ts) (e : fCode P orc call n (m + 1) (cReg P n ops draw) fr h = some (w, fr', h')) :
    ∃ ts', ((if draw then aReg ops (aOper P orc acall) ts else aSeq ops (aOper P orc acall) ops.toList ts).bind fun ts' => AM.pure (Way.normal, ts')).run h = some ((w, ts'), h') ∧ FrOK n fr' ts' := by
  unfold cReg at e
  cases hfos : cOs P n ops ops.toList with
  | none => rw [hfos] at e; simp only [fCode] at e; cases e
  | some fos =>
    rw [hfos] at e
    dsimp only at e
    cases draw with
    | false =>
      simp only [fCode] at e
      split at e
      · rename_i fr1 h1 h2
        simp only [Option.some.injEq, Prod.mk.injEq] at e
        obtain ⟨rfl, rfl, rfl⟩ := e
        obtain ⟨ts', q1, q2⟩ := fSeqR_ok hc hfos hfr h2
        refine ⟨ts', ?_, q2⟩
        simp only [Bool.false_eq_true, if_false]
        unfold AM.bind
        dsimp only
        rw [q1]; rfl
      · cases e
    | true =>
      dsimp only at e
      split at e
      case isFalse => simp only [fCode] at e; cases e
      case isTrue hok =>
        have key : ∀ rs fr1 h1, fReg P orc call n fos fr h = some (rs, fr1, h1) → dynOK rs (pairsOf ops fos) = true → ∃ ts', (aReg ops (aOper P orc acall) ts).run h = some (ts', h1) ∧ FrOK n fr1 ts' := fun rs fr1 h1 h2 h3 => by
          obtain ⟨l, ts', q1, q2, q3, q4⟩ := fReg_ok hc hfos hfr h2
          refine ⟨ts', ?_, q2⟩
          have hk := okReg_of (ts' := ts') hok h3 (by rw [q3]; simp) q4
          unfold aReg
          dsimp only
          rw [q1]
          dsimp only
          rw [if_pos hk]
        simp only [fCode] at e
        have fin : ∀ fr1 h1, (∃ ts', (aReg ops (aOper P orc acall) ts).run h = some (ts', h1) ∧ FrOK n fr1 ts') → some (Way.normal, fr1, h1) = some (w, fr', h') →
            ∃ ts', ((if true = true then aReg ops (aOper P orc acall) ts else aSeq ops (aOper P orc acall) ops.toList ts).bind fun ts' => AM.pure (Way.normal, ts')).run h = some ((w, ts'), h') ∧ FrOK n fr' ts' := fun fr1 h1 hh e => by
          simp only [Option.some.injEq, Prod.mk.injEq] at e
          obtain ⟨rfl, rfl, rfl⟩ := e
          obtain ⟨ts', q1, q2⟩ := hh
          refine ⟨ts', ?_, q2⟩
          rw [if_pos rfl]
          unfold AM.bind
          dsimp only
          rw [q1]; rfl
        split at e
        · rename_i hp
          split at e
          · rename_i fr1 h1 h2
            obtain ⟨rs, h3⟩ := fRegN_ok h2
            exact fin fr1 h1 (key rs fr1 h1 h3 (by rw [hp]; rfl)) e
          · cases e
        · rename_i x y hp
          split at e
          · rename_i rs fr1 h1 h2
            split at e
            · rename_i h3
              exact fin fr1 h1 (key rs fr1 h1 h2 h3) e
            · cases e
          · cases e
theorem fCode_ok {P : Program} {orc : Orc} {call : FuncId → List Value → AH → Option (Value × AH)} {acall : FuncId → Array Value → AM Value} (hc : CallF call acall) {n : Nat} : ∀ (m : Nat) (c : Code) (fr fr' : Fr) (ts : Array Value) (h h' : AH) (w : Way), FrOK n fr ts →
    fCode P orc call n m (cCode P n c) fr h = some (w, fr', h') → ∃ ts', (aCode (aOper P orc acall) m c ts).run h = some ((w, ts'), h') ∧ FrOK n fr' ts' := by
  intro m
  induction m with
  | zero => intro c fr fr' ts h h' w _ e; simp only [fCode] at e; cases e
  | succ m ih =>
    intro c fr fr' ts h h' w hfr e
    have bad : fCode P orc call n (m + 1) .bad fr h = some (w, fr', h') → False := fun e => by simp only [fCode] at e; cases e
    cases c with
    | skip =>
      simp only [cCode, fCode, Option.some.injEq, Prod.mk.injEq] at e
      obtain ⟨rfl, rfl, rfl⟩ := e
      exact ⟨ts, rfl, hfr⟩
    | label l =>
      simp only [cCode, fCode, Option.some.injEq, Prod.mk.injEq] at e
      obtain ⟨rfl, rfl, rfl⟩ := e
      exact ⟨ts, rfl, hfr⟩
    | region id ops draw =>
      simp only [cCode] at e
      obtain ⟨ts', q1, q2⟩ := cReg_ok hc hfr e
      exact ⟨ts', by simpa only [aCode] using q1, q2⟩
    | seq a b =>
      simp only [cCode, fCode] at e
      simp only [aCode]
      unfold AM.bind
      dsimp only
      cases ha : fCode P orc call n m (cCode P n a) fr h with
      | none => rw [ha] at e; cases e
      | some p =>
        obtain ⟨w1, fr1, h1⟩ := p
        obtain ⟨ts1, q1, q2⟩ := ih a fr fr1 ts h h1 w1 hfr ha
        rw [ha] at e
        rw [q1]
        cases w1 with
        | normal =>
          dsimp only at e ⊢
          exact ih b fr1 fr' ts1 h1 h' w q2 e
        | exit i =>
          simp only [Option.some.injEq, Prod.mk.injEq] at e
          obtain ⟨rfl, rfl, rfl⟩ := e
          exact ⟨ts1, rfl, q2⟩
        | ret =>
          simp only [Option.some.injEq, Prod.mk.injEq] at e
          obtain ⟨rfl, rfl, rfl⟩ := e
          exact ⟨ts1, rfl, q2⟩
    | cond c a b =>
      simp only [cCode] at e
      cases hcp : cOpd n c with
      | none => rw [hcp] at e; exact (bad e).elim
      | some y =>
        rw [hcp] at e
        obtain ⟨h1, h2⟩ := cOpd_ok hfr hcp
        simp only [fCode] at e
        simp only [aCode]
        rw [if_pos h2, ← h1]
        split at e
        · rename_i hb; rw [hb]; exact ih a fr fr' ts h h' w hfr e
        · rename_i hb; rw [hb]; exact ih b fr fr' ts h h' w hfr e
        · cases e
    | block id b =>
      simp only [cCode, fCode] at e
      simp only [aCode]
      unfold AM.bind
      dsimp only
      cases ha : fCode P orc call n m (cCode P n b) fr h with
      | none => rw [ha] at e; cases e
      | some p =>
        obtain ⟨w1, fr1, h1⟩ := p
        obtain ⟨ts1, q1, q2⟩ := ih b fr fr1 ts h h1 w1 hfr ha
        rw [ha] at e
        rw [q1]
        cases w1 with
        | exit i =>
          dsimp only at e ⊢
          split at e
          · rename_i hi
            simp only [Option.some.injEq, Prod.mk.injEq] at e
            obtain ⟨rfl, rfl, rfl⟩ := e
            rw [if_pos hi]
            exact ⟨ts1, rfl, q2⟩
          · rename_i hi
            simp only [Option.some.injEq, Prod.mk.injEq] at e
            obtain ⟨rfl, rfl, rfl⟩ := e
            rw [if_neg hi]
            exact ⟨ts1, rfl, q2⟩
        | normal =>
          simp only [Option.some.injEq, Prod.mk.injEq] at e
          obtain ⟨rfl, rfl, rfl⟩ := e
          exact ⟨ts1, rfl, q2⟩
        | ret =>
          simp only [Option.some.injEq, Prod.mk.injEq] at e
          obtain ⟨rfl, rfl, rfl⟩ := e
          exact ⟨ts1, rfl, q2⟩
    | loop b =>
      simp only [cCode, fCode] at e
      simp only [aCode]
      unfold AM.bind
      dsimp only
      cases ha : fCode P orc call n m (cCode P n b) fr h with
      | none => rw [ha] at e; cases e
      | some p =>
        obtain ⟨w1, fr1, h1⟩ := p
        obtain ⟨ts1, q1, q2⟩ := ih b fr fr1 ts h h1 w1 hfr ha
        rw [ha] at e
        rw [q1]
        cases w1 with
        | normal =>
          dsimp only at e ⊢
          exact ih (.loop b) fr1 fr' ts1 h1 h' w q2 e
        | exit i =>
          simp only [Option.some.injEq, Prod.mk.injEq] at e
          obtain ⟨rfl, rfl, rfl⟩ := e
          exact ⟨ts1, rfl, q2⟩
        | ret =>
          simp only [Option.some.injEq, Prod.mk.injEq] at e
          obtain ⟨rfl, rfl, rfl⟩ := e
          exact ⟨ts1, rfl, q2⟩
    | scope b =>
      simp only [cCode, fCode] at e
      simp only [aCode]
      exact ih b fr fr' ts h h' w hfr e
    | exit id =>
      simp only [cCode, fCode, Option.some.injEq, Prod.mk.injEq] at e
      obtain ⟨rfl, rfl, rfl⟩ := e
      exact ⟨ts, rfl, hfr⟩
    | ret =>
      simp only [cCode, fCode, Option.some.injEq, Prod.mk.injEq] at e
      obtain ⟨rfl, rfl, rfl⟩ := e
      exact ⟨ts, rfl, hfr⟩
    | _ => exact (bad (by simpa only [cCode] using e)).elim

def frInit : Nat → List Value → Fr → Fr
  | i, v :: vs, fr => frInit (i + 1) vs (fr.set (pth i) v)
  | _, [], fr => fr
theorem frInit_get : ∀ (vs : List Value) (i : Nat) (fr : Fr), i + vs.length ≤ frTop → ∀ t, t < frTop → (frInit i vs fr).get (pth t) = if i ≤ t ∧ t < i + vs.length then vs.getD (t - i) undef else fr.get (pth t)
  | [], i, fr, h, t, ht => by
    rw [if_neg (by simp)]
    rfl
  | v :: vs, i, fr, h, t, ht => by
    simp only [List.length_cons] at h ⊢
    rw [frInit, frInit_get vs (i + 1) _ (by omega) t ht]
    by_cases e : t = i
    · subst e
      rw [if_neg (by omega), if_pos (by omega), Fr.get_set_same]; simp
    · rw [Fr.get_set_other _ _ _ _ (fun e2 => e (pth_inj ht (by omega) e2))]
      by_cases h2 : i + 1 ≤ t ∧ t < i + 1 + vs.length
      · rw [if_pos h2, if_pos (by omega)]
        have : t - i = (t - (i + 1)) + 1 := by omega
        rw [this]; simp
      · rw [if_neg h2, if_neg (by omega)]
theorem frInit_ok {n : Nat} {args : List Value} (hn : n ≤ frTop) (ha : args.length ≤ n) : FrOK n (frInit 0 args .lf) (args.toArray ++ Array.replicate (n - args.toArray.size) undef) := by
  refine ⟨by simp; omega, hn, fun t ht => ?_⟩
  rw [frInit_get args 0 .lf (by omega) t (by omega), Fr.get_lf]
  rw [Array.getD_eq_getD_getElem?, ← Array.getElem?_toList]
  simp only [Array.toList_append, Array.toList_replicate, Nat.zero_le, true_and, Nat.zero_add, Nat.sub_zero]
  by_cases h : t < args.length
  · rw [if_pos h, List.getElem?_append_left h]; simp [List.getD]
  · rw [if_neg h, List.getElem?_append_right (by omega), List.getElem?_replicate]
    split <;> rfl

inductive FRes
  | tmp (p : List Bool)
  | cell (p : List Bool) (t : TypeId)
def cRes (n : Nat) : List ResultVar → Option (List FRes)
  | [] => some []
  | .tmp t :: r => if t < n then (match cRes n r with
    | some l => some (.tmp (pth t) :: l)
    | none => none) else none
  | .cell a t :: r => if a < n then (match cRes n r with
    | some l => some (.cell (pth a) t :: l)
    | none => none) else none
def fResL (P : Program) (fr : Fr) : List FRes → AH → Option (List Value × AH)
  | [], h => some ([], h)
  | .tmp p :: r, h => (match fResL P fr r h with
    | some (l, h') => some (fr.get p :: l, h')
    | none => none)
  | .cell p t :: r, h => (match (aLoad P t (fr.get p)).run h with
    | some (v, h1) => (match fResL P fr r h1 with
      | some (l, h') => some (v :: l, h')
      | none => none)
    | none => none)
theorem fResL_ok {P : Program} {n : Nat} {fr : Fr} {ts : Array Value} (hfr : FrOK n fr ts) : ∀ {rs : List ResultVar} {fs : List FRes}, cRes n rs = some fs → ∀ {h : AH} {r : List Value × AH}, fResL P fr fs h = some r → (aResL P ts rs).run h = some r
  | [], fs, e, h, r, e2 => by
    simp only [cRes] at e; injection e with e; subst e
    simp only [fResL] at e2
    exact e2
  | .tmp t :: rs, fs, e, h, r, e2 => by
    simp only [cRes] at e
    split at e
    · rename_i ht
      split at e
      · rename_i l hl
        injection e with e; subst e
        simp only [fResL] at e2
        split at e2
        · rename_i l2 h2 hl2
          injection e2 with e2; subst e2
          have := fResL_ok hfr hl hl2
          simp only [aResL]
          unfold AM.bind
          dsimp only
          rw [this, hfr.get t ht]; rfl
        · cases e2
      · cases e
    · cases e
  | .cell a t :: rs, fs, e, h, r, e2 => by
    simp only [cRes] at e
    split at e
    · rename_i ht
      split at e
      · rename_i l hl
        injection e with e; subst e
        simp only [fResL] at e2
        rw [hfr.get a ht] at e2
        split at e2
        · rename_i v h1 hv
          split at e2
          · rename_i l2 h2 hl2
            injection e2 with e2; subst e2
            have := fResL_ok hfr hl hl2
            simp only [aResL]
            unfold AM.bind
            dsimp only
            rw [hv]
            dsimp only
            rw [this]; rfl
          · cases e2
        · cases e2
      · cases e
    · cases e

structure FF where
  n : Nat
  code : FC
  res : List FRes
def cFn (P : Program) (f : FuncId) : Option FF :=
  match P.funcs[f]? with
  | some fn => (match fn.body with
    | some c => (match cRes fn.ntmps fn.results.toList with
      | some rs => if fn.ntmps ≤ frTop then some ⟨fn.ntmps, cCode P fn.ntmps c, rs⟩ else none
      | none => none)
    | none => none)
  | none => none
def lenLe : List Value → Nat → Bool
  | [], _ => true
  | _ :: _, 0 => false
  | _ :: r, n + 1 => lenLe r n
theorem lenLe_spec : ∀ {l : List Value} {n : Nat}, lenLe l n = true → l.length ≤ n
  | [], _, _ => Nat.zero_le _
  | _ :: _, 0, h => by cases h
  | _ :: r, n + 1, h => by simp only [List.length_cons]; exact Nat.succ_le_succ (lenLe_spec h)
def oneOf : List Value → Value
  | [v] => v
  | l => .tuple l.toArray
def fFn (P : Program) (orc : Orc) (fuel : Nat) (T : FuncId → Option FF) (call : FuncId → List Value → AH → Option (Value × AH)) (f : FuncId) (args : List Value) (h : AH) : Option (Value × AH) :=
  match orc.hook f with
  | some m => (m args.toArray).run h
  | none => match T f with
  | some ff => (match lenLe args ff.n with
    | true => (match fCode P orc call ff.n fuel ff.code (frInit 0 args .lf) h with
      | some (.exit _, _, _) => none
      | some (_, fr, h1) => (match fResL P fr ff.res h1 with
        | some (l, h2) => some (oneOf l, h2)
        | none => none)
      | none => none)
    | false => none)
  | none => none
def TableOK (P : Program) (T : FuncId → Option FF) : Prop := ∀ f ff, T f = some ff → cFn P f = some ff
theorem fFn_ok {P : Program} {orc : Orc} {fuel : Nat} {T : FuncId → Option FF} (hT : TableOK P T) {call : FuncId → List Value → AH → Option (Value × AH)} {acall : FuncId → Array Value → AM Value} (hc : CallF call acall) : CallF (fFn P orc fuel T call) (aFn P orc fuel acall) := by
  intro f args h r e
  unfold fFn at e
  unfold aFn
  cases hhk : orc.hook f with
  | some m => rw [hhk] at e; exact e
  | none =>
  rw [hhk] at e
  dsimp only at e ⊢
  split at e
  case h_2 => cases e
  case h_1 ff hff =>
    have hcf := hT f ff hff
    unfold cFn at hcf
    split at hcf
    case h_2 => cases hcf
    case h_1 fn hfn =>
      split at hcf
      case h_2 => cases hcf
      case h_1 c hb =>
        split at hcf
        case h_2 => cases hcf
        case h_1 rs hrs =>
          split at hcf
          case isFalse => cases hcf
          case isTrue hlim =>
            injection hcf with hcf; subst hcf
            dsimp only at e
            split at e
            case h_2 => cases e
            case h_1 hlen =>
              have hfr := frInit_ok hlim (lenLe_spec hlen)
              rw [hfn]
              dsimp only
              rw [hb]
              dsimp only
              split at e
              · cases e
              · rename_i w fr h1 hw hcode
                obtain ⟨ts', q1, q2⟩ := fCode_ok hc fuel c _ fr _ h h1 w hfr hcode
                unfold AM.bind
                dsimp only
                rw [q1]
                dsimp only
                split at e
                case h_2 => cases e
                case h_1 l h2 hl =>
                  injection e with e; subst e
                  have hr := fResL_ok q2 hrs hl
                  have hres : (aRes P fn ts').run h1 = some (oneOf l, h2) := by
                    unfold aRes AM.bind
                    dsimp only
                    rw [hr]
                    match l with
                    | [] => rfl
                    | [v] => rfl
                    | _ :: _ :: _ => rfl
                  cases w with
                  | normal => exact hres
                  | ret => exact hres
                  | exit i => exact (hw i rfl).elim
              · cases e
def fCall (P : Program) (orc : Orc) (fuel : Nat) (T : FuncId → Option FF) : Nat → FuncId → List Value → AH → Option (Value × AH)
  | 0, _, _, _ => none
  | n + 1, f, args, h => fFn P orc fuel T (fCall P orc fuel T n) f args h
theorem fCall_ok {P : Program} {orc : Orc} {fuel : Nat} {T : FuncId → Option FF} (hT : TableOK P T) : ∀ n, CallF (fCall P orc fuel T n) (aCall P orc fuel n)
  | 0 => fun f args h r e => by cases e
  | n + 1 => fFn_ok hT (fCall_ok hT n)
theorem table_self (P : Program) : TableOK P (cFn P) := fun _ _ h => h
end Go.Proofs.Ytfakfnekcgkelaa
