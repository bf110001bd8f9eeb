/- An evaluator of Go code whose memory has names of its own (24): the same, made ready for the kernel: frames as trees, code looked at once. -/
import Derived.Test.YtljhlnpbomehkaaEwQ
namespace Go.Proofs.Ytljhlnpbomehkaa
set_option linter.unusedVariables false
set_option linter.unusedSimpArgs false

/-- a frame -/
inductive Fr
  | lf
  | nd (v : Value) (l r : Fr)
def Fr.get : List Bool → Fr → Value
  | [], f => (match f with
    | .nd v _ _ => v
    | .lf => undef)
  | b :: p, f => (match f with
    | .nd _ l r => (match b with
      | false => Fr.get p l
      | true => Fr.get p r)
    | .lf => undef)
def Fr.set : List Bool → Value → Fr → Fr
  | [], v, f => (match f with
    | .nd _ l r => .nd v l r
    | .lf => .nd v .lf .lf)
  | b :: p, v, f => (match f with
    | .nd u l r => (match b with
      | false => .nd u (Fr.set p v l) r
      | true => .nd u l (Fr.set p v r))
    | .lf => (match b with
      | false => .nd undef (Fr.set p v .lf) .lf
      | true => .nd undef .lf (Fr.set p v .lf)))
theorem Fr.get_lf : ∀ p, Fr.get p .lf = undef
  | [] => rfl
  | _ :: _ => rfl
theorem Fr.get_set_same : ∀ (p : List Bool) (v : Value) (f : Fr), Fr.get p (Fr.set p v f) = v
  | [], v, f => by cases f <;> rfl
  | b :: p, v, f => by
    cases f <;> cases b <;> simp only [Fr.set, Fr.get] <;> exact Fr.get_set_same p v _
theorem Fr.get_set_other : ∀ (p q : List Bool) (v : Value) (f : Fr), p ≠ q → Fr.get p (Fr.set q v f) = Fr.get p f
  | [], [], v, f, h => absurd rfl h
  | [], b :: q, v, f, h => by cases f <;> cases b <;> rfl
  | a :: p, [], v, f, h => by cases f <;> cases a <;> simp only [Fr.set, Fr.get, Fr.get_lf]
  | a :: p, b :: q, v, f, h => by
    cases f with
    | lf =>
      cases a <;> cases b <;> simp only [Fr.set, Fr.get, Fr.get_lf] <;> rw [Fr.get_set_other p q v .lf (fun e => h (by rw [e])), Fr.get_lf]
    | nd u l r =>
      cases a <;> cases b <;> simp only [Fr.set, Fr.get]
      · exact Fr.get_set_other p q v l (fun e => h (by rw [e]))
      · exact Fr.get_set_other p q v r (fun e => h (by rw [e]))

def pathOf : Nat → Nat → List Bool
  | 0, _ => []
  | f + 1, n => match n with
    | 0 => []
    | k + 1 => (Nat.beq (k % 2) 1) :: pathOf f (k / 2)
def natOf' : List Bool → Nat
  | [] => 0
  | b :: p => 2 * natOf' p + (if b then 2 else 1)
theorem natOf_pathOf : ∀ (f n : Nat), n < 2 ^ f → natOf' (pathOf f n) = n
  | 0, n, h => by simp at h; subst h; rfl
  | f + 1, 0, h => rfl
  | f + 1, k + 1, h => by
    have hp : 2 ^ (f + 1) = 2 * 2 ^ f := by rw [Nat.pow_succ, Nat.mul_comm]
    have ih := natOf_pathOf f (k / 2) (by omega)
    simp only [pathOf, natOf', ih]
    have hb : Nat.beq (k % 2) 1 = decide (k % 2 = 1) := by
      rcases Nat.mod_two_eq_zero_or_one k with h | h <;> rw [h] <;> rfl
    rw [hb]
    by_cases hk : k % 2 = 1
    · simp [hk]; omega
    · simp [hk]; omega
def pth (t : Nat) : List Bool := pathOf 32 t
def frTop : Nat := 4294967296
theorem pth_inj {t u : Nat} (ht : t < frTop) (hu : u < frTop) (h : pth t = pth u) : t = u := by
  have h1 := natOf_pathOf 32 t (by simpa [frTop] using ht)
  have h2 := natOf_pathOf 32 u (by simpa [frTop] using hu)
  unfold pth at h
  rw [← h1, h, h2]

structure FrOK (n : Nat) (fr : Fr) (ts : Array Value) : Prop where
  size : ts.size = n
  lim : n ≤ frTop
  get : ∀ t, t < n → fr.get (pth t) = ts.getD t undef
theorem FrOK.set {n : Nat} {fr : Fr} {ts : Array Value} (h : FrOK n fr ts) {d : Nat} (hd : d < n) (v : Value) : FrOK n (Fr.set (pth d) v fr) (ts.setIfInBounds d v) := by
  refine ⟨by simp [h.size], h.lim, fun t ht => ?_⟩
  rw [getD_set, h.size]
  have hl := h.lim
  by_cases e : t = d
  · subst e; rw [Fr.get_set_same]; simp [hd]
  · rw [Fr.get_set_other _ _ _ _ (fun e2 => e (pth_inj (by omega) (by omega) e2)), h.get t ht]
    simp; intro e2; exact absurd (by omega) e

def fEv (n : Nat) (fr : Fr) : Operand → Value
  | .tmp t => if t < n then fr.get (pth t) else undef
  | .const v => v
  | .global g => .pointer (some ⟨g, 0, none⟩)
  | .func f => .func (.func f) #[] #[]
theorem fEv_eq {n : Nat} {fr : Fr} {ts : Array Value} (h : FrOK n fr ts) : fEv n fr = aEv ts := by
  funext x
  cases x with
  | tmp t =>
    simp only [fEv, aEv]
    by_cases ht : t < n
    · rw [if_pos ht]; exact h.get t ht
    · have hs := h.size
      have h3 : ts[t]? = none := Array.getElem?_eq_none (Nat.le_trans (Nat.le_of_eq hs) (Nat.le_of_not_lt ht))
      rw [if_neg ht, Array.getD_eq_getD_getElem?, h3]; rfl
  | _ => rfl

inductive FOpd
  | tmp (p : List Bool)
  | val (v : Value)
def FOpd.get (fr : Fr) : FOpd → Value
  | .tmp p => fr.get p
  | .val v => v
def cOpd (n : Nat) : Operand → Option FOpd
  | .tmp t => if t < n then some (.tmp (pth t)) else none
  | .const v => if shut v then some (.val v) else none
  | .func f => some (.val (.func (.func f) #[] #[]))
  | .global _ => none
theorem cOpd_ok {n : Nat} {fr : Fr} {ts : Array Value} (h : FrOK n fr ts) {x : Operand} {y : FOpd} (e : cOpd n x = some y) : y.get fr = aEv ts x ∧ okOpd x = true := by
  cases x with
  | tmp t =>
    simp only [cOpd] at e
    split at e
    · rename_i ht; injection e with e; subst e; exact ⟨h.get t ht, rfl⟩
    · cases e
  | const v =>
    simp only [cOpd] at e
    split at e
    · rename_i hs; injection e with e; subst e; exact ⟨rfl, hs⟩
    · cases e
  | func f => simp only [cOpd] at e; injection e with e; subst e; exact ⟨rfl, rfl⟩
  | global g => simp only [cOpd] at e; cases e
def cOpds (n : Nat) : List Operand → Option (List FOpd)
  | [] => some []
  | x :: r => match cOpd n x with
    | some y => (match cOpds n r with
      | some l => some (y :: l)
      | none => none)
    | none => none
theorem cOpds_ok {n : Nat} {fr : Fr} {ts : Array Value} (h : FrOK n fr ts) : ∀ {l : List Operand} {m : List FOpd}, cOpds n l = some m → m.map (·.get fr) = l.map (aEv ts) ∧ l.all okOpd = true
  | [], m, e => by simp only [cOpds] at e; injection e with e; subst e; exact ⟨rfl, rfl⟩
  | x :: r, m, e => by
    simp only [cOpds] at e
    split at e
    · rename_i y hy
      split at e
      · rename_i l hl
        injection e with e; subst e
        obtain ⟨h1, h2⟩ := cOpd_ok h hy
        obtain ⟨h3, h4⟩ := cOpds_ok h hl
        exact ⟨by simp only [List.map_cons, h1, h3], by simp only [List.all_cons, h2, h4, Bool.and_self]⟩
      · cases e
    · cases e

inductive FK
  | mv (x : FOpd)
  | pick (c a b : FOpd)
  | ext (x : FOpd) (i : Nat)
  | fa (x : FOpd) (off : Nat)
  | ia (x ix : FOpd) (size : Nat)
  | nc (x : FOpd)
  | bin (op : BinOp) (x y : FOpd)
  | un (op : UnOp) (x : FOpd)
  | ld (t : TypeId) (x : FOpd)
  | st (t : TypeId) (a x : FOpd)
  | call (f : FuncId) (args : List FOpd)
  | slow
/-- one that touches no memory, if it can be had at all -/
def FK.quiet : FK → Bool
  | .mv _ | .pick .. | .ext .. | .fa .. | .ia .. | .nc _ => true
  | _ => false
/-- an operation, looked at -/
def cK (P : Program) (n : Nat) (o : Oper) : FK :=
  match o.op with
  | .move x => (match cOpd n x with
    | some x => .mv x
    | none => .slow)
  | .assign x => (match cOpd n x with
    | some x => .mv x
    | none => .slow)
  | .pick c a b => (match cOpds n [c, a, b] with
    | some [c, a, b] => .pick c a b
    | _ => .slow)
  | .extract x i => (match cOpd n x with
    | some x => .ext x i
    | none => .slow)
  | .fieldAddr s x f => (match cOpd n x, P.underlying s with
    | some x, some (.struct fields) => (match fields[f]? with
      | some fd => (match P.info? fd.type with
        | some i => if i.size = 0 then .slow else .fa x fd.offset
        | none => .slow)
      | none => .slow)
    | _, _ => .slow)
  | .indexAddr t x ix => (match cOpds n [x, ix], P.underlying t with
    | some [x, ix], some (.slice e) => (match P.info? e with
      | some i => .ia x ix i.size
      | none => .slow)
    | _, _ => .slow)
  | .nilCheck x => (match cOpd n x with
    | some x => .nc x
    | none => .slow)
  | .binOp op _ x y _ => (match cOpds n [x, y] with
    | some [x, y] => .bin op x y
    | _ => .slow)
  | .unOp op _ x => (match cOpd n x with
    | some x => .un op x
    | none => .slow)
  | .load t x => (match cOpd n x with
    | some x => .ld t x
    | none => .slow)
  | .store t a x => (match cOpds n [a, x] with
    | some [a, x] => .st t a x
    | _ => .slow)
  | .call c => (match staticCallee c, cOpds n c.args.toList with
    | some f, some args => (match P.funcs[f]? with
      | some fn => if fn.body.isSome then .call f args else .slow
      | none => .slow)
    | _, _ => .slow)
  | _ => .slow
def fPure (P : Program) (fr : Fr) : FK → Option Value
  | .mv x => some (x.get fr)
  | .pick c a b => (match c.get fr with
    | .bool t => some (if t then a.get fr else b.get fr)
    | _ => none)
  | .ext x i => (match x.get fr with
    | .tuple vs => vs[i]?
    | _ => none)
  | .fa x off => (match x.get fr with
    | .pointer (some a) => some (.pointer (some (a.add off)))
    | _ => none)
  | .ia x ix size => (match ix.get fr with
    | .int _ i => (match x.get fr with
      | .slice (some ⟨b, o, none⟩) len _ => if 0 ≤ i ∧ i < len then some (.pointer (some ((⟨b, o, none⟩ : Addr).add (i.toNat * size)))) else none
      | _ => none)
    | _ => none)
  | .nc x => (match x.get fr with
    | .pointer (some a) => some (.pointer (some a))
    | .func (.func f) a b => some (.func (.func f) a b)
    | .iface t v => some (.iface t v)
    | .map (some r) => some (.map (some r))
    | _ => none)
  | .bin op x y => intRun P op (x.get fr) (y.get fr)
  | .un op x => notRun op (x.get fr)
  | _ => none
theorem aOper_pure {P : Program} {orc : Orc} {call : FuncId → Array Value → AM Value} {o : Oper} {ts : Array Value} (hok : o.op.operands.toList.all okOpd = true) {v : Value} (hp : aPure P (aEv ts) o = some v)
    (hne : aExecF P orc (aEv ts) o = aExec P orc (aEv ts) o) (h : AH) : (aOper P orc call o ts).run h = some (v, h) := by
  have hok' : o.op.operands.toList.all (okOpdG orc.glob) = true := by rw [List.all_eq_true] at hok ⊢; exact fun x hx => okOpdG_of (hok x hx)
  unfold aOper
  rw [if_pos hok', hne]
  unfold aExec
  rw [hp]
  rfl
theorem fPure_ok {P : Program} {orc : Orc} {call : FuncId → Array Value → AM Value} {n : Nat} {o : Oper} {fr : Fr} {ts : Array Value} (h : FrOK n fr ts) {v : Value} (e : fPure P fr (cK P n o) = some v) (a : AH) :
    (aOper P orc call o ts).run a = some (v, a) := by
  unfold cK at e
  split at e
  · rename_i x ho
    split at e
    · rename_i y hy
      obtain ⟨h1, h2⟩ := cOpd_ok h hy
      simp only [fPure] at e
      exact aOper_pure (by rw [ho]; simp [Op.operands, h2]) (by unfold aPure; rw [ho]; dsimp only; rw [← h1]; exact e) (by unfold aExecF; rw [ho]) a
    · cases e
  · rename_i x ho
    split at e
    · rename_i y hy
      obtain ⟨h1, h2⟩ := cOpd_ok h hy
      simp only [fPure] at e
      exact aOper_pure (by rw [ho]; simp [Op.operands, h2]) (by unfold aPure; rw [ho]; dsimp only; rw [← h1]; exact e) (by unfold aExecF; rw [ho]) a
    · cases e
  · rename_i c x y ho
    split at e
    · rename_i c' x' y' hy
      obtain ⟨h1, h2⟩ := cOpds_ok h hy
      simp only [List.map_cons, List.map_nil, List.cons.injEq, and_true] at h1
      simp only [fPure] at e
      exact aOper_pure (by rw [ho]; simpa [Op.operands] using h2) (by unfold aPure; rw [ho]; dsimp only; rw [← h1.1, ← h1.2.1, ← h1.2.2]; exact e) (by unfold aExecF; rw [ho]) a
    · cases e
  · rename_i x i ho
    split at e
    · rename_i y hy
      obtain ⟨h1, h2⟩ := cOpd_ok h hy
      simp only [fPure] at e
      exact aOper_pure (by rw [ho]; simp [Op.operands, h2]) (by unfold aPure; rw [ho]; dsimp only; rw [← h1]; exact e) (by unfold aExecF; rw [ho]) a
    · cases e
  · rename_i s x f ho
    split at e
    · rename_i y fields hy hu
      split at e
      · rename_i fd hfd
        split at e
        · rename_i i hi
          split at e
          · cases e
          · rename_i hz
            obtain ⟨h1, h2⟩ := cOpd_ok h hy
            simp only [fPure] at e
            refine aOper_pure (by rw [ho]; simp [Op.operands, h2]) ?_ (by unfold aExecF; rw [ho]) a
            unfold aPure; rw [ho]
            dsimp only
            rw [← h1]
            split at e
            · rename_i ad had
              rw [had, hu]
              dsimp only
              rw [hfd]
              dsimp only
              rw [hi]
              dsimp only
              rw [if_neg hz]; exact e
            · cases e
        · cases e
      · cases e
    · cases e
  · rename_i t x ix ho
    split at e
    · rename_i x' ix' el hy hu
      split at e
      · rename_i i hi
        obtain ⟨h1, h2⟩ := cOpds_ok h hy
        simp only [List.map_cons, List.map_nil, List.cons.injEq, and_true] at h1
        simp only [fPure] at e
        refine aOper_pure (by rw [ho]; simpa [Op.operands] using h2) ?_ (by unfold aExecF; rw [ho]) a
        unfold aPure; rw [ho]
        dsimp only
        rw [← h1.1, ← h1.2]
        split at e
        · rename_i k z hz
          split at e
          · rename_i b off len cap hs
            rw [hz, hs, hu]
            dsimp only
            rw [hi]
            exact e
          · cases e
        · cases e
      · cases e
    · cases e
  · rename_i x ho
    split at e
    · rename_i y hy
      obtain ⟨h1, h2⟩ := cOpd_ok h hy
      simp only [fPure] at e
      exact aOper_pure (by rw [ho]; simp [Op.operands, h2]) (by unfold aPure; rw [ho]; dsimp only; rw [← h1]; exact e) (by unfold aExecF; rw [ho]) a
    · cases e
  · rename_i op t x y yt ho
    split at e
    · rename_i x' y' hy
      obtain ⟨h1, h2⟩ := cOpds_ok h hy
      simp only [List.map_cons, List.map_nil, List.cons.injEq, and_true] at h1
      simp only [fPure] at e
      exact aOper_pure (by rw [ho]; simpa [Op.operands] using h2) (by unfold aPure; rw [ho]; dsimp only; rw [← h1.1, ← h1.2, e]) (by unfold aExecF; rw [ho]) a
    · cases e
  · rename_i op t x ho
    split at e
    · rename_i y hy
      obtain ⟨h1, h2⟩ := cOpd_ok h hy
      simp only [fPure] at e
      exact aOper_pure (by rw [ho]; simp [Op.operands, h2]) (by unfold aPure; rw [ho]; dsimp only; rw [← h1, e]) (by unfold aExecF; rw [ho]) a
    · cases e
  · rename_i t x ho
    split at e <;> cases e
  · rename_i t a' x ho
    split at e <;> cases e
  · rename_i c ho
    split at e
    · split at e
      · split at e <;> cases e
      · cases e
    · cases e
  · cases e

/-- what an operation that touches memory, or calls, comes to -/
def fMem (P : Program) (orc : Orc) (call : FuncId → List Value → AH → Option (Value × AH)) (n : Nat) (o : Oper) (fr : Fr) (h : AH) : FK → Option (Value × AH)
  | .ld t x => (aLoad P t (x.get fr)).run h
  | .st t a x => (match (aStore P t (a.get fr) (x.get fr)).run h with
    | some (_, h1) => some (undef, h1)
    | none => none)
  | .call f args => call f (args.map (·.get fr)) h
  | _ => if o.op.operands.toList.all (okOpdG orc.glob) then (match (aExecF P orc (fEv n fr) o).run h with
    | some (.value v, h1) => some (v, h1)
    | some (.skip, h1) => some (undef, h1)
    | some (.enter f args, h1) => call f args.toList h1
    | none => none) else none
/-- what a call of the one is, a call of the other is -/
def CallF (call : FuncId → List Value → AH → Option (Value × AH)) (acall : FuncId → Array Value → AM Value) : Prop :=
  ∀ f args h r, call f args h = some r → (acall f args.toArray).run h = some r
theorem fSlow_ok {P : Program} {orc : Orc} {call : FuncId → List Value → AH → Option (Value × AH)} {acall : FuncId → Array Value → AM Value} (hc : CallF call acall) {n : Nat} {o : Oper} {fr : Fr} {ts : Array Value} (h : FrOK n fr ts) {a : AH} {r : Value × AH}
    (e : (if o.op.operands.toList.all (okOpdG orc.glob) then (match (aExecF P orc (fEv n fr) o).run a with
    | some (.value v, h1) => some (v, h1)
    | some (.skip, h1) => some (undef, h1)
    | some (.enter f args, h1) => call f args.toList h1
    | none => none) else none) = some r) : (aOper P orc acall o ts).run a = some r := by
  rw [fEv_eq h] at e
  unfold aOper
  split at e
  case isFalse => cases e
  case isTrue hok =>
    rw [if_pos hok]
    unfold AM.bind
    dsimp only
    split at e
    · rename_i v h1 h2; rw [h2]; exact e
    · rename_i h1 h2; rw [h2]; exact e
    · rename_i f args h1 h2; rw [h2]; exact hc f args.toList h1 r e
    · cases e
theorem fMem_ok {P : Program} {orc : Orc} {call : FuncId → List Value → AH → Option (Value × AH)} {acall : FuncId → Array Value → AM Value} (hc : CallF call acall) {n : Nat} {o : Oper} {fr : Fr} {ts : Array Value} (h : FrOK n fr ts) {a : AH} {r : Value × AH}
    (e : fMem P orc call n o fr a (cK P n o) = some r) : (aOper P orc acall o ts).run a = some r := by
  have slow : ∀ k, k = cK P n o → (∀ t x, k ≠ .ld t x) → (∀ t x y, k ≠ .st t x y) → (∀ f l, k ≠ .call f l) → (aOper P orc acall o ts).run a = some r := fun k hk h1 h2 h3 => by
    rw [← hk] at e
    refine fSlow_ok (call := call) hc h ?_
    unfold fMem at e
    split at e
    · exact absurd rfl (h1 _ _)
    · exact absurd rfl (h2 _ _ _)
    · exact absurd rfl (h3 _ _)
    · exact e
  cases hk : cK P n o with
  | ld t x =>
    rw [hk] at e
    simp only [fMem] at e
    unfold cK at hk
    split at hk
    case h_10 t' x' ho =>
      split at hk
      · rename_i y hy
        injection hk with k1 k2; subst k1; subst k2
        obtain ⟨h1, h2⟩ := cOpd_ok h hy
        unfold aOper
        rw [if_pos (by rw [ho]; simp [Op.operands, okOpdG_of h2])]
        unfold aExecF
        rw [ho]
        dsimp only
        rw [← h1]
        obtain ⟨v, h'⟩ := r
        simp only [AM.bind, e, AM.pure]
      · cases hk
    all_goals exfalso
    all_goals (repeat' split at hk) <;> cases hk
  | st t x y =>
    rw [hk] at e
    simp only [fMem] at e
    unfold cK at hk
    split at hk
    case h_11 t' x' y' ho =>
      split at hk
      · rename_i x2 y2 hy
        injection hk with k1 k2 k3; subst k1; subst k2; subst k3
        obtain ⟨h1, h2⟩ := cOpds_ok h hy
        simp only [List.map_cons, List.map_nil, List.cons.injEq, and_true] at h1
        unfold aOper
        rw [if_pos (by rw [ho]; simp only [List.all_cons, List.all_nil, Bool.and_true, Bool.and_eq_true] at h2; simp [Op.operands, okOpdG_of h2.1, okOpdG_of h2.2])]
        unfold aExecF
        rw [ho]
        dsimp only
        rw [← h1.1, ← h1.2]
        split at e
        · rename_i u h' hs
          injection e with e; subst e
          simp only [AM.bind, hs, AM.pure]
        · cases e
      · cases hk
    all_goals exfalso
    all_goals (repeat' split at hk) <;> cases hk
  | call f l =>
    rw [hk] at e
    simp only [fMem] at e
    unfold cK at hk
    split at hk
    case h_12 c ho =>
      split at hk
      · rename_i f' args hf hargs
        split at hk
        · rename_i fn hfn
          split at hk
          · rename_i hb
            injection hk with k1 k2; subst k1; subst k2
            obtain ⟨h1, h2⟩ := cOpds_ok h hargs
            have hcal : c.callee = .value (.func f') := by
              unfold staticCallee at hf
              split at hf
              · rename_i g2 hc; injection hf with hf; subst hf; exact hc
              · cases hf
            have hall : o.op.operands.toList.all okOpd = true := by
              rw [ho]
              simp only [Op.operands, Call.operands, hcal]
              simpa [okOpd] using h2
            have hall' : o.op.operands.toList.all (okOpdG orc.glob) = true := by rw [List.all_eq_true] at hall ⊢; exact fun x hx => okOpdG_of (hall x hx)
            unfold aOper
            rw [if_pos hall']
            unfold aExecF
            rw [ho]
            dsimp only
            rw [hf]
            dsimp only
            unfold aEnter
            rw [hfn]
            dsimp only
            rw [if_pos hb]
            have := hc f' _ a r e
            rw [h1] at this
            simp only [AM.bind, AM.pure]
            rw [show Array.map (aEv ts) c.args = (List.map (aEv ts) c.args.toList).toArray from by apply Array.ext'; simp]
            exact this
          · cases hk
        · cases hk
      · cases hk
    all_goals exfalso
    all_goals (repeat' split at hk) <;> cases hk
  | _ => exact slow _ hk.symm (fun _ _ e => by cases e) (fun _ _ _ e => by cases e) (fun _ _ e => by cases e)
end Go.Proofs.Ytljhlnpbomehkaa
