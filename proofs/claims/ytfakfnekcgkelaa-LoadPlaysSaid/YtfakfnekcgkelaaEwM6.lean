/- An evaluator of Go code whose memory has names of its own (6 of 9). -/
import Derived.Test.YtfakfnekcgkelaaEwM5
/- An evaluator of Go code whose memory has names of its own: made ready for the kernel: calls that come to more than one end. -/
namespace Go.Proofs.Ytfakfnekcgkelaa
set_option linter.unusedVariables false
set_option linter.unusedSimpArgs false

def R2 {α β : Type} (R : α → β → Prop) : List α → List β → Prop
  | [], [] => True
  | x :: r, y :: s => R x y ∧ R2 R r s
  | _, _ => False
theorem R2.app {α β : Type} {R : α → β → Prop} : ∀ {a : List α} {b : List β} {c : List α} {d : List β}, R2 R a b → R2 R c d → R2 R (a ++ c) (b ++ d)
  | [], [], _, _, _, k => k
  | x :: r, y :: s, _, _, h, k => ⟨h.1, R2.app h.2 k⟩
  | [], _ :: _, _, _, h, _ => h.elim
  | _ :: _, [], _, _, h, _ => h.elim
theorem R2.one {α β : Type} {R : α → β → Prop} {x : α} {y : β} (h : R x y) : R2 R [x] [y] := ⟨h, trivial⟩
theorem gather_eq {α β : Type} {f : α → Option (List β)} {x : α} {r : List α} : gather f (x :: r) = (match f x with
    | some a => (match gather f r with
      | some b => some (a ++ b)
      | none => none)
    | none => none) := by
  cases r with
  | nil => simp only [gather]; cases f x <;> simp
  | cons y r => rfl
theorem gather_R2 {α β γ δ : Type} {R : α → β → Prop} {S : γ → δ → Prop} {f : α → Option (List γ)} {g : β → Option (List δ)} (h : ∀ a b, R a b → ∀ x, f a = some x → ∃ y, g b = some y ∧ R2 S x y) :
    ∀ {l : List α} {m : List β} {x : List γ}, R2 R l m → gather f l = some x → ∃ y, gather g m = some y ∧ R2 S x y
  | [], [], x, _, e => by simp only [gather, Option.some.injEq] at e; subst e; exact ⟨[], rfl, trivial⟩
  | [], _ :: _, _, k, _ => k.elim
  | _ :: _, [], _, k, _ => k.elim
  | a :: r, b :: s, x, k, e => by
    obtain ⟨x1, x2, h1, h2, rfl⟩ := gather_cons e
    obtain ⟨y1, q1, q2⟩ := h a b k.1 x1 h1
    obtain ⟨y2, q3, q4⟩ := gather_R2 h k.2 h2
    exact ⟨y1 ++ y2, by rw [gather_eq, q1, q3], q2.app q4⟩

def oneL (call : FuncId → List Value → AH → Option (List (Value × AH))) (f : FuncId) (args : List Value) (h : AH) : Option (Value × AH) :=
  match call f args h with
  | some [p] => some p
  | _ => none
def CallFL (call : FuncId → List Value → AH → Option (List (Value × AH))) (lcall : FuncId → Array Value → LM Value) : Prop :=
  ∀ f args h r, call f args h = some r → (lcall f args.toArray).run h = some r
theorem LM.one_of {α : Type} {m : LM α} {h : AH} {p : α × AH} (e : m.run h = some [p]) : m.one.run h = some p := by
  unfold LM.one
  dsimp only
  rw [e]
theorem CallFL.one {call : FuncId → List Value → AH → Option (List (Value × AH))} {lcall : FuncId → Array Value → LM Value} (h : CallFL call lcall) : CallF (oneL call) (fun f args => (lcall f args).one) := by
  intro f args a r e
  unfold oneL at e
  split at e
  · rename_i p hp
    injection e with e; subst e
    exact LM.one_of (h f args a _ hp)
  · cases e
theorem LM.bind_one {α β : Type} {m : AM α} {f : α → LM β} {h h1 : AH} {x : α} {l : List (β × AH)} (e1 : m.run h = some (x, h1)) (e2 : (f x).run h1 = some l) : ((LM.ofA m).bind f).run h = some l := by
  unfold LM.bind LM.ofA
  dsimp only
  rw [e1]
  exact e2
/-- an operation that comes to one end -/
theorem lOper_of {P : Program} {orc : OrcL} {lcall : FuncId → Array Value → LM Value} {o : Oper} {ts : Array Value} (hn : nextOf o = none) {h : AH} {r : Value × AH}
    (e : (aOper P orc.base (fun f args => (lcall f args).one) o ts).run h = some r) : ((lOper P orc lcall o ts).one).run h = some r := by
  refine LM.one_of ?_
  unfold aOper at e
  unfold lOper
  split at e
  case isFalse => cases e
  case isTrue hok =>
    rw [if_pos hok, hn]
    dsimp only
    obtain ⟨v, h'⟩ := r
    obtain ⟨x, h1, e1, e2⟩ := AM.bind_some e
    refine LM.bind_one e1 ?_
    cases x with
    | value v0 => obtain ⟨rfl, rfl⟩ := AM.pure_some e2; rfl
    | skip => obtain ⟨rfl, rfl⟩ := AM.pure_some e2; rfl
    | enter f args => exact LM.one_some e2
theorem regGo_le {ops : Array Oper} {f g : Oper → Array Value → AM Value} : ∀ {L : List Oper}, (∀ o ∈ L, ∀ ts h r, (f o ts).run h = some r → (g o ts).run h = some r) → ∀ {ts : Array Value} {h : AH} {x : List Rec × Array Value × AH}, regGo ops f L ts h = some x → regGo ops g L ts h = some x
  | [], _, ts, h, x, e => e
  | o :: r, hl, ts, h, x, e => by
    unfold regGo at e ⊢
    have h1 : ∀ y, one ops f o ts h = some y → one ops g o ts h = some y := fun y ey => by
      unfold one at ey ⊢
      cases hw : aWanted ops o ts with
      | none => rw [hw] at ey; cases ey
      | some b =>
        rw [hw] at ey
        cases b with
        | false => exact ey
        | true =>
          dsimp only at ey ⊢
          split at ey
          · rename_i v h2 hr
            rw [hl o List.mem_cons_self _ _ _ hr]; exact ey
          · cases ey
    split at e
    · cases e
    · rename_i ts1 a1 F W he
      rw [h1 _ he]
      dsimp only
      split at e
      · cases e
      · rename_i l2 t2 h2 hr
        rw [regGo_le (fun o ho => hl o (List.mem_cons_of_mem _ ho)) hr]
        exact e
theorem aReg_le {ops : Array Oper} {f g : Oper → Array Value → AM Value} (hl : ∀ o ∈ ops.toList, ∀ ts h r, (f o ts).run h = some r → (g o ts).run h = some r) {ts : Array Value} {h : AH} {x : Array Value × AH} (e : (aReg ops f ts).run h = some x) : (aReg ops g ts).run h = some x := by
  unfold aReg at e ⊢
  dsimp only at e ⊢
  split at e
  · rename_i l t' h' hr
    rw [regGo_le hl hr]; exact e
  · cases e

def fOpL (P : Program) (orc : OrcL) (call : FuncId → List Value → AH → Option (List (Value × AH))) (n : Nat) (o : Oper) (fr : Fr) (h : AH) (k : FK) : Option (List (Value × AH)) :=
  match k with
  | .ld t x => (match (aLoad P t (x.get fr)).run h with
    | some p => some [p]
    | none => none)
  | .st t a x => (match (aStore P t (a.get fr) (x.get fr)).run h with
    | some (_, h1) => some [(undef, h1)]
    | none => none)
  | .call f args => call f (args.map (·.get fr)) h
  | _ => if o.op.operands.toList.all (okOpdG orc.base.glob) then (match nextOf o with
    | some x => nexts (fEv n fr x) (max 1 (candCount h (fEv n fr x))) h
    | none => (match (aExecF P orc.base (fEv n fr) o).run h with
      | some (.value v, h1) => some [(v, h1)]
      | some (.skip, h1) => some [(undef, h1)]
      | some (.enter f args, h1) => call f args.toList h1
      | none => none)) else none
theorem fOpL_slow {P : Program} {orc : OrcL} {call : FuncId → List Value → AH → Option (List (Value × AH))} {lcall : FuncId → Array Value → LM Value} (hc : CallFL call lcall) {n : Nat} {o : Oper} {fr : Fr} {ts : Array Value} (h : FrOK n fr ts) {a : AH} {r : List (Value × AH)}
    (e : (if o.op.operands.toList.all (okOpdG orc.base.glob) then (match nextOf o with
    | some x => nexts (fEv n fr x) (max 1 (candCount a (fEv n fr x))) a
    | none => (match (aExecF P orc.base (fEv n fr) o).run a with
      | some (.value v, h1) => some [(v, h1)]
      | some (.skip, h1) => some [(undef, h1)]
      | some (.enter f args, h1) => call f args.toList h1
      | none => none)) else none) = some r) : (lOper P orc lcall o ts).run a = some r := by
  rw [fEv_eq h] at e
  unfold lOper
  split at e
  case isFalse => cases e
  case isTrue hok =>
    rw [if_pos hok]
    cases hn : nextOf o with
    | some x => rw [hn] at e; exact e
    | none =>
      rw [hn] at e
      dsimp only at e ⊢
      split at e
      · rename_i v h1 h2; injection e with e; subst e; exact LM.bind_one h2 rfl
      · rename_i h1 h2; injection e with e; subst e; exact LM.bind_one h2 rfl
      · rename_i f args h1 h2; exact LM.bind_one h2 (hc f args.toList h1 r e)
      · cases e
theorem nextOf_none {P : Program} {n : Nat} {o : Oper} {k : FK} (hk : cK P n o = k) (h : match k with | .slow => False | _ => True) : nextOf o = none := by
  cases hn : nextOf o with
  | none => rfl
  | some x =>
    exfalso
    have ho := nextOf_spec hn
    unfold cK at hk
    rw [ho] at hk
    dsimp only at hk
    subst hk
    exact h
theorem fOpL_ok {P : Program} {orc : OrcL} {call : FuncId → List Value → AH → Option (List (Value × AH))} {lcall : FuncId → Array Value → LM Value} (hc : CallFL call lcall) {n : Nat} {o : Oper} {fr : Fr} {ts : Array Value} (h : FrOK n fr ts) {a : AH} {r : List (Value × AH)}
    (e : fOpL P orc call n o fr a (cK P n o) = some r) : (lOper P orc lcall o ts).run a = some r := by
  have slow : ∀ k, k = cK P n o → (∀ t x, k ≠ .ld t x) → (∀ t x y, k ≠ .st t x y) → (∀ f l, k ≠ .call f l) → (lOper P orc lcall o ts).run a = some r := fun k hk h1 h2 h3 => by
    rw [← hk] at e
    refine fOpL_slow (call := call) hc h ?_
    unfold fOpL at e
    split at e
    · exact absurd rfl (h1 _ _)
    · exact absurd rfl (h2 _ _ _)
    · exact absurd rfl (h3 _ _)
    · exact e
  have viaOne : ∀ {p}, nextOf o = none → fMem P orc.base (oneL call) n o fr a (cK P n o) = some p → (lOper P orc lcall o ts).run a = some [p] := fun {p} hn he => by
    have := fMem_ok (orc := orc.base) hc.one h he
    exact LM.one_some (lOper_of hn this)
  cases hk : cK P n o with
  | ld t x =>
    have hn := nextOf_none hk trivial
    rw [hk] at e
    simp only [fOpL] at e
    split at e
    · rename_i p hp
      injection e with e; subst e
      exact viaOne hn (by rw [hk]; simp only [fMem]; exact hp)
    · cases e
  | st t x y =>
    have hn := nextOf_none hk trivial
    rw [hk] at e
    simp only [fOpL] at e
    split at e
    · rename_i u h1 hp
      injection e with e; subst e
      exact viaOne hn (by rw [hk]; simp only [fMem]; rw [hp])
    · cases e
  | call f l =>
    have hn := nextOf_none hk trivial
    rw [hk] at e
    simp only [fOpL] at e
    unfold cK at hk
    split at hk
    case h_12 c ho =>
      split at hk
      · rename_i f' args hf hargs
        split at hk
        · rename_i fn hfn
          split at hk
          · rename_i hb
            injection hk with k1 k2; subst k1; subst k2
            obtain ⟨h1, h2⟩ := cOpds_ok h hargs
            have hcal : c.callee = .value (.func f') := by
              unfold staticCallee at hf
              split at hf
              · rename_i g2 hc; injection hf with hf; subst hf; exact hc
              · cases hf
            have hall : o.op.operands.toList.all okOpd = true := by
              rw [ho]
              simp only [Op.operands, Call.operands, hcal]
              simpa [okOpd] using h2
            have hall' : o.op.operands.toList.all (okOpdG orc.base.glob) = true := by rw [List.all_eq_true] at hall ⊢; exact fun x hx => okOpdG_of (hall x hx)
            unfold lOper
            rw [if_pos hall', hn]
            dsimp only
            refine LM.bind_one (x := .enter f' (c.args.map (aEv ts))) (h1 := a) ?_ ?_
            · unfold aExecF
              rw [ho]
              dsimp only
              rw [hf]
              dsimp only
              unfold aEnter
              rw [hfn]
              dsimp only
              rw [if_pos hb]
              rfl
            · have := hc f' _ a r e
              rw [h1] at this
              rw [show Array.map (aEv ts) c.args = (List.map (aEv ts) c.args.toList).toArray from by apply Array.ext'; simp]
              exact this
          · cases hk
        · cases hk
      · cases hk
    all_goals exfalso
    all_goals (repeat' split at hk) <;> cases hk
  | _ => exact slow _ hk.symm (fun _ _ e => by cases e) (fun _ _ _ e => by cases e) (fun _ _ e => by cases e)
/-- an operation that touches no memory -/
theorem fPure_okL {P : Program} {orc : OrcL} {lcall : FuncId → Array Value → LM Value} {n : Nat} {o : Oper} {fr : Fr} {ts : Array Value} (h : FrOK n fr ts) {v : Value} (e : fPure P fr (cK P n o) = some v) (a : AH) :
    (lOper P orc lcall o ts).run a = some [(v, a)] := by
  have hn : nextOf o = none := by
    cases hk : cK P n o with
    | slow => rw [hk] at e; simp only [fPure] at e; cases e
    | _ => exact nextOf_none hk trivial
  exact LM.one_some (lOper_of hn (fPure_ok (orc := orc.base) (call := fun f args => (lcall f args).one) h e a))

def fSeqL (P : Program) (orc : OrcL) (call : FuncId → List Value → AH → Option (List (Value × AH))) (n : Nat) : List FO → Fr → AH → Option (List (Fr × AH))
  | [], fr, h => some [(fr, h)]
  | fo :: r, fr, h => match fWant fo.g fr with
    | some false => fSeqL P orc call n r (fPut fo.dst undef fr) h
    | some true => (match fPure P fr fo.k with
      | some v => fSeqL P orc call n r (fPut fo.dst v fr) h
      | none => (match fOpL P orc call n fo.o fr h fo.k with
        | some l => gather (fun p => fSeqL P orc call n r (fPut fo.dst p.1 fr) p.2) l
        | none => none))
    | none => none
abbrev FrsOK (n : Nat) : List (Fr × AH) → List (Array Value × AH) → Prop := R2 fun p q => FrOK n p.1 q.1 ∧ q.2 = p.2
theorem fSeqL_ok {P : Program} {orc : OrcL} {call : FuncId → List Value → AH → Option (List (Value × AH))} {lcall : FuncId → Array Value → LM Value} (hc : CallFL call lcall) {n : Nat} {ops : Array Oper} :
    ∀ {r : List Oper} {fos : List FO}, cOs P n ops r = some fos → ∀ {fr : Fr} {ts : Array Value} {h : AH} {l : List (Fr × AH)}, FrOK n fr ts → fSeqL P orc call n fos fr h = some l →
    ∃ l', (lSeq ops (lOper P orc lcall) r ts).run h = some l' ∧ FrsOK n l l'
  | [], fos, hf, fr, ts, h, l, hfr, e => by
    simp only [cOs] at hf; injection hf with hf; subst hf
    simp only [fSeqL, Option.some.injEq] at e
    subst e
    exact ⟨[(ts, h)], rfl, R2.one ⟨hfr, rfl⟩⟩
  | o :: r, fos, hf, fr, ts, h, l, hfr, e => by
    simp only [cOs] at hf
    split at hf
    case h_2 => cases hf
    case h_1 fo hfo =>
      split at hf
      case h_2 => cases hf
      case h_1 fl hfl =>
        injection hf with hf; subst hf
        simp only [fSeqL] at e
        unfold cO at hfo
        split at hfo
        case h_2 => cases hfo
        case h_1 d g hd hg =>
          injection hfo with hfo; subst hfo
          dsimp only at e
          rw [fWant_ok hfr hg] at e
          simp only [lSeq]
          split at e
          · rename_i hw
            rw [hw]
            exact fSeqL_ok hc hfl (fPut_ok hfr _ hfr hd) e
          · rename_i hw
            rw [hw]
            dsimp only
            split at e
            · rename_i v hv
              obtain ⟨l', q1, q2⟩ := fSeqL_ok hc hfl (fPut_ok hfr _ hfr hd) e
              refine ⟨l', ?_, q2⟩
              unfold LM.bind
              dsimp only
              rw [fPure_okL (lcall := lcall) hfr hv]
              exact q1
            · split at e
              · rename_i l1 hm
                have h1 := fOpL_ok hc hfr hm
                obtain ⟨y, q1, q2⟩ := gather_R2 (R := fun p q => q = p) (S := fun p q => FrOK n p.1 q.1 ∧ q.2 = p.2) (g := fun p => (lSeq ops (lOper P orc lcall) r (match o.dst with | some d => ts.setIfInBounds d p.1 | none => ts)).run p.2) (m := l1)
                  (fun p q hpq x hx => by subst hpq; exact fSeqL_ok hc hfl (fPut_ok hfr _ hfr hd) hx) (by clear e hm h1; induction l1 with
                    | nil => trivial
                    | cons a r ih => exact ⟨rfl, ih⟩) e
                refine ⟨y, ?_, q2⟩
                unfold LM.bind
                dsimp only
                rw [h1]
                exact q1
              · cases e
          · cases e
abbrev FOuts := List (Way × Fr × AH)
abbrev OutsOK (n : Nat) : FOuts → Outs → Prop := R2 fun p q => q.1.1 = p.1 ∧ FrOK n p.2.1 q.1.2 ∧ q.2 = p.2.2
def noNext (ops : Array Oper) : Bool := ops.toList.all fun o => (nextOf o).isNone
/-- code, looked at: a region that draws has no step of a range -/
def cCodeL (P : Program) (n : Nat) : Code → FC
  | .skip => .skip
  | .label _ => .skip
  | .region _ ops draw => (match draw with
    | true => if noNext ops then cReg P n ops true else .bad
    | false => cReg P n ops false)
  | .seq a b => .seq (cCodeL P n a) (cCodeL P n b)
  | .cond c a b => (match cOpd n c with
    | some c => .cond c (cCodeL P n a) (cCodeL P n b)
    | none => .bad)
  | .block id b => .block id (cCodeL P n b)
  | .loop b => .loop (cCodeL P n b)
  | .scope b => .scope (cCodeL P n b)
  | .exit id => .exit id
  | .ret => .ret
  | _ => .bad
def fCodeL (P : Program) (orc : OrcL) (call : FuncId → List Value → AH → Option (List (Value × AH))) (n : Nat) : Nat → FC → Fr → AH → Option FOuts
  | 0, _, _, _ => none
  | m + 1, c, fr, h => match c with
    | .skip => some [(.normal, fr, h)]
    | .reg fos pairs => (match pairs with
      | [] => (match fRegN P orc.base (oneL call) n fos fr h with
        | some (fr', h') => some [(.normal, fr', h')]
        | none => none)
      | _ :: _ => (match fReg P orc.base (oneL call) n fos fr h with
        | some (rs, fr', h') => if dynOK rs pairs then some [(.normal, fr', h')] else none
        | none => none))
    | .seqr fos => (match fSeqL P orc call n fos fr h with
      | some l => some (l.map fun p => (.normal, p.1, p.2))
      | none => none)
    | .seq a b => (match fCodeL P orc call n m a fr h with
      | some l => gather (fun p => match p.1 with
        | .normal => fCodeL P orc call n m b p.2.1 p.2.2
        | _ => some [p]) l
      | none => none)
    | .cond c a b => (match c.get fr with
      | .bool true => fCodeL P orc call n m a fr h
      | .bool false => fCodeL P orc call n m b fr h
      | _ => none)
    | .block id b => (match fCodeL P orc call n m b fr h with
      | some l => gather (fun p => match p.1 with
        | .exit i => if i = id then some [(.normal, p.2)] else some [p]
        | _ => some [p]) l
      | none => none)
    | .loop b => (match fCodeL P orc call n m b fr h with
      | some l => gather (fun p => match p.1 with
        | .normal => fCodeL P orc call n m (.loop b) p.2.1 p.2.2
        | _ => some [p]) l
      | none => none)
    | .scope b => fCodeL P orc call n m b fr h
    | .exit id => some [(.exit id, fr, h)]
    | .ret => some [(.ret, fr, h)]
    | .bad => none
theorem outs_map {n : Nat} : ∀ {l : List (Fr × AH)} {l' : List (Array Value × AH)}, FrsOK n l l' → ∃ y, gather (fun p => (LM.pure (Way.normal, p.1)).run p.2) l' = some y ∧ OutsOK n (l.map fun p => (.normal, p.1, p.2)) y
  | [], [], _ => ⟨[], rfl, trivial⟩
  | [], _ :: _, h => h.elim
  | _ :: _, [], h => h.elim
  | p :: r, q :: s, h => by
    obtain ⟨y, q1, q2⟩ := outs_map h.2
    refine ⟨((.normal, q.1), q.2) :: y, ?_, ⟨rfl, h.1.1, h.1.2⟩, q2⟩
    rw [gather_eq, q1]
    rfl
theorem cRegL_ok {P : Program} {orc : OrcL} {call : FuncId → List Value → AH → Option (List (Value × AH))} {lcall : FuncId → Array Value → LM Value} (hc : CallFL call lcall) {n m : Nat} {ops : Array Oper} {draw : Bool} (hnn : draw = true → noNext ops = true) {fr : Fr} {ts : Array Value} {h : AH} {l : FOuts}
    (hfr : FrOK n fr ts) (e : fCodeL P orc call n (m + 1) (cReg P n ops draw) fr h = some l) :
    ∃ l', ((if draw then LM.ofA (aReg ops (fun o ts => (lOper P orc lcall o ts).one) ts) else lSeq ops (lOper P orc lcall) ops.toList ts).bind fun ts' => LM.pure (Way.normal, ts')).run h = some l' ∧ OutsOK n l l' := by
  cases draw with
  | false =>
    unfold cReg at e
    cases hfos : cOs P n ops ops.toList with
    | none => rw [hfos] at e; simp only [fCodeL] at e; cases e
    | some fos =>
      rw [hfos] at e
      dsimp only at e
      simp only [fCodeL] at e
      split at e
      · rename_i l0 h0
        injection e with e; subst e
        obtain ⟨l1, q1, q2⟩ := fSeqL_ok hc hfos hfr h0
        obtain ⟨y, q3, q4⟩ := outs_map q2
        refine ⟨y, ?_, q4⟩
        simp only [Bool.false_eq_true, if_false]
        unfold LM.bind
        dsimp only
        rw [q1]
        exact q3
      · cases e
  | true =>
    have key : ∀ w fr' h', fCode P orc.base (oneL call) n (m + 1) (cReg P n ops true) fr h = some (w, fr', h') → l = [(w, fr', h')] →
        ∃ l', ((if true then LM.ofA (aReg ops (fun o ts => (lOper P orc lcall o ts).one) ts) else lSeq ops (lOper P orc lcall) ops.toList ts).bind fun ts' => LM.pure (Way.normal, ts')).run h = some l' ∧ OutsOK n l l' := fun w fr' h' he hl => by
      obtain ⟨ts', q1, q2⟩ := cReg_ok (orc := orc.base) hc.one (draw := true) hfr he
      rw [if_pos rfl] at q1
      obtain ⟨x, h1, e1, e2⟩ := AM.bind_some q1
      obtain ⟨e3, rfl⟩ := AM.pure_some e2
      injection e3 with e3 e4; subst e3; subst e4
      have hnn := hnn rfl
      have e5 := aReg_le (g := fun o ts => (lOper P orc lcall o ts).one) (fun o ho ts h r hr => by
        refine lOper_of ?_ hr
        have := (List.all_eq_true.1 hnn) o ho
        cases hno : nextOf o with
        | none => rfl
        | some x => rw [hno] at this; cases this) e1
      refine ⟨[((.normal, ts'), h')], ?_, by rw [hl]; exact R2.one ⟨rfl, q2, rfl⟩⟩
      rw [if_pos rfl]
      exact LM.bind_one e5 rfl
    unfold cReg at e key
    cases hfos : cOs P n ops ops.toList with
    | none => rw [hfos] at e; simp only [fCodeL] at e; cases e
    | some fos =>
      rw [hfos] at e key
      dsimp only at e key
      split at e
      case isFalse => simp only [fCodeL] at e; cases e
      case isTrue hok =>
        rw [if_pos hok] at key
        simp only [fCodeL] at e
        simp only [fCode] at key
        split at e
        · rename_i hp
          rw [hp] at key
          dsimp only at key
          split at e
          · rename_i fr1 h1 h2
            injection e with e
            rw [h2] at key
            exact key .normal fr1 h1 rfl e.symm
          · cases e
        · rename_i x y hp
          rw [hp] at key
          dsimp only at key
          split at e
          · rename_i rs fr1 h1 h2
            split at e
            · rename_i h3
              injection e with e
              rw [h2] at key
              dsimp only at key
              rw [hp] at h3
              rw [if_pos h3] at key
              exact key .normal fr1 h1 rfl e.symm
            · cases e
          · cases e
theorem fCodeL_ok {P : Program} {orc : OrcL} {call : FuncId → List Value → AH → Option (List (Value × AH))} {lcall : FuncId → Array Value → LM Value} (hc : CallFL call lcall) {n : Nat} : ∀ (m : Nat) (c : Code) (fr : Fr) (ts : Array Value) (h : AH) (l : FOuts), FrOK n fr ts →
    fCodeL P orc call n m (cCodeL P n c) fr h = some l → ∃ l', (lCode (lOper P orc lcall) m c ts).run h = some l' ∧ OutsOK n l l' := by
  intro m
  induction m with
  | zero => intro c fr ts h l _ e; simp only [fCodeL] at e; cases e
  | succ m ih =>
    intro c fr ts h l hfr e
    have bad : fCodeL P orc call n (m + 1) .bad fr h = some l → False := fun e => by simp only [fCodeL] at e; cases e
    have bnd : ∀ {α : Type} {x : LM α} {g : α → LM (Way × Array Value)} {l1 : List (α × AH)} {y : Outs}, x.run h = some l1 → gather (fun p => (g p.1).run p.2) l1 = some y → (x.bind g).run h = some y := fun {α x g l1 y} e1 e2 => by
      unfold LM.bind
      dsimp only
      rw [e1]; exact e2
    cases c with
    | skip =>
      simp only [cCodeL, fCodeL, Option.some.injEq] at e
      subst e
      exact ⟨[((.normal, ts), h)], rfl, R2.one ⟨rfl, hfr, rfl⟩⟩
    | label lb =>
      simp only [cCodeL, fCodeL, Option.some.injEq] at e
      subst e
      exact ⟨[((.normal, ts), h)], rfl, R2.one ⟨rfl, hfr, rfl⟩⟩
    | region id ops draw =>
      simp only [cCodeL] at e
      cases draw with
      | false =>
        obtain ⟨l', q1, q2⟩ := cRegL_ok hc (fun h => by cases h) hfr e
        exact ⟨l', by simpa only [lCode] using q1, q2⟩
      | true =>
        dsimp only at e
        split at e
        · rename_i hnn
          obtain ⟨l', q1, q2⟩ := cRegL_ok hc (fun _ => hnn) hfr e
          exact ⟨l', by simpa only [lCode] using q1, q2⟩
        · exact (bad e).elim
    | seq a b =>
      simp only [cCodeL, fCodeL] at e
      simp only [lCode]
      split at e
      case h_2 => cases e
      case h_1 l0 h0 =>
        obtain ⟨l1, q1, q2⟩ := ih a fr ts h l0 hfr h0
        obtain ⟨y, q3, q4⟩ := gather_R2 (S := fun (p : Way × Fr × AH) (q : (Way × Array Value) × AH) => q.1.1 = p.1 ∧ FrOK n p.2.1 q.1.2 ∧ q.2 = p.2.2)
          (g := fun (q : (Way × Array Value) × AH) => ((match q.1 with
            | (.normal, ts') => lCode (lOper P orc lcall) m b ts'
            | (w, ts') => LM.pure (w, ts')) : LM (Way × Array Value)).run q.2) (fun p q hpq x hx => by
          obtain ⟨w, fr1, h1⟩ := p
          obtain ⟨⟨w', ts1⟩, h1'⟩ := q
          obtain ⟨k1, k2, k3⟩ := hpq
          dsimp only at k1 k2 k3
          subst k1; subst k3
          cases w' with
          | normal => exact ih b fr1 ts1 h1' x k2 hx
          | exit i => injection hx with hx; subst hx; exact ⟨[((.exit i, ts1), h1')], rfl, R2.one ⟨rfl, k2, rfl⟩⟩
          | ret => injection hx with hx; subst hx; exact ⟨[((.ret, ts1), h1')], rfl, R2.one ⟨rfl, k2, rfl⟩⟩) q2 e
        exact ⟨y, bnd q1 q3, q4⟩
    | cond c a b =>
      simp only [cCodeL] at e
      cases hcp : cOpd n c with
      | none => rw [hcp] at e; exact (bad e).elim
      | some y =>
        rw [hcp] at e
        obtain ⟨h1, h2⟩ := cOpd_ok hfr hcp
        simp only [fCodeL] at e
        simp only [lCode]
        rw [if_pos h2, ← h1]
        split at e
        · rename_i hb; rw [hb]; exact ih a fr ts h l hfr e
        · rename_i hb; rw [hb]; exact ih b fr ts h l hfr e
        · cases e
    | block id b =>
      simp only [cCodeL, fCodeL] at e
      simp only [lCode]
      split at e
      case h_2 => cases e
      case h_1 l0 h0 =>
        obtain ⟨l1, q1, q2⟩ := ih b fr ts h l0 hfr h0
        obtain ⟨y, q3, q4⟩ := gather_R2 (S := fun (p : Way × Fr × AH) (q : (Way × Array Value) × AH) => q.1.1 = p.1 ∧ FrOK n p.2.1 q.1.2 ∧ q.2 = p.2.2)
          (g := fun (q : (Way × Array Value) × AH) => ((match q.1 with
            | (.exit i, ts') => if i = id then LM.pure (Way.normal, ts') else LM.pure (Way.exit i, ts')
            | (w, ts') => LM.pure (w, ts')) : LM (Way × Array Value)).run q.2) (fun p q hpq x hx => by
          obtain ⟨w, fr1, h1⟩ := p
          obtain ⟨⟨w', ts1⟩, h1'⟩ := q
          obtain ⟨k1, k2, k3⟩ := hpq
          dsimp only at k1 k2 k3
          subst k1; subst k3
          cases w' with
          | normal => injection hx with hx; subst hx; exact ⟨[((.normal, ts1), h1')], rfl, R2.one ⟨rfl, k2, rfl⟩⟩
          | exit i =>
            dsimp only at hx ⊢
            split at hx
            · rename_i hi
              injection hx with hx; subst hx
              rw [if_pos hi]
              exact ⟨[((.normal, ts1), h1')], rfl, R2.one ⟨rfl, k2, rfl⟩⟩
            · rename_i hi
              injection hx with hx; subst hx
              rw [if_neg hi]
              exact ⟨[((.exit i, ts1), h1')], rfl, R2.one ⟨rfl, k2, rfl⟩⟩
          | ret => injection hx with hx; subst hx; exact ⟨[((.ret, ts1), h1')], rfl, R2.one ⟨rfl, k2, rfl⟩⟩) q2 e
        exact ⟨y, bnd q1 q3, q4⟩
    | loop b =>
      simp only [cCodeL, fCodeL] at e
      simp only [lCode]
      split at e
      case h_2 => cases e
      case h_1 l0 h0 =>
        obtain ⟨l1, q1, q2⟩ := ih b fr ts h l0 hfr h0
        obtain ⟨y, q3, q4⟩ := gather_R2 (S := fun (p : Way × Fr × AH) (q : (Way × Array Value) × AH) => q.1.1 = p.1 ∧ FrOK n p.2.1 q.1.2 ∧ q.2 = p.2.2)
          (g := fun (q : (Way × Array Value) × AH) => ((match q.1 with
            | (.normal, ts') => lCode (lOper P orc lcall) m (.loop b) ts'
            | (w, ts') => LM.pure (w, ts')) : LM (Way × Array Value)).run q.2) (fun p q hpq x hx => by
          obtain ⟨w, fr1, h1⟩ := p
          obtain ⟨⟨w', ts1⟩, h1'⟩ := q
          obtain ⟨k1, k2, k3⟩ := hpq
          dsimp only at k1 k2 k3
          subst k1; subst k3
          cases w' with
          | normal => exact ih (.loop b) fr1 ts1 h1' x k2 hx
          | exit i => injection hx with hx; subst hx; exact ⟨[((.exit i, ts1), h1')], rfl, R2.one ⟨rfl, k2, rfl⟩⟩
          | ret => injection hx with hx; subst hx; exact ⟨[((.ret, ts1), h1')], rfl, R2.one ⟨rfl, k2, rfl⟩⟩) q2 e
        exact ⟨y, bnd q1 q3, q4⟩
    | scope b =>
      simp only [cCodeL, fCodeL] at e
      simp only [lCode]
      exact ih b fr ts h l hfr e
    | exit id =>
      simp only [cCodeL, fCodeL, Option.some.injEq] at e
      subst e
      exact ⟨[((.exit id, ts), h)], rfl, R2.one ⟨rfl, hfr, rfl⟩⟩
    | ret =>
      simp only [cCodeL, fCodeL, Option.some.injEq] at e
      subst e
      exact ⟨[((.ret, ts), h)], rfl, R2.one ⟨rfl, hfr, rfl⟩⟩
    | _ => exact (bad (by simpa only [cCodeL] using e)).elim

def cFnL (P : Program) (f : FuncId) : Option FF :=
  match P.funcs[f]? with
  | some fn => (match fn.body with
    | some c => (match cRes fn.ntmps fn.results.toList with
      | some rs => if fn.ntmps ≤ frTop then some ⟨fn.ntmps, cCodeL P fn.ntmps c, rs⟩ else none
      | none => none)
    | none => none)
  | none => none
def TableOKL (P : Program) (T : FuncId → Option FF) : Prop := ∀ f ff, T f = some ff → cFnL P f = some ff
def fFn0L (P : Program) (orc : OrcL) (fuel : Nat) (T : FuncId → Option FF) (call : FuncId → List Value → AH → Option (List (Value × AH))) (f : FuncId) (args : List Value) (h : AH) : Option (List (Value × AH)) :=
  match T f with
  | some ff => (match lenLe args ff.n with
    | true => (match fCodeL P orc call ff.n fuel ff.code (frInit 0 args .lf) h with
      | some l => gather (fun p => match p.1 with
        | .exit _ => none
        | _ => (match fResL P p.2.1 ff.res p.2.2 with
          | some (l, h2) => some [(oneOf l, h2)]
          | none => none)) l
      | none => none)
    | false => none)
  | none => none
theorem fFn0L_ok {P : Program} {orc : OrcL} {fuel : Nat} {T : FuncId → Option FF} (hT : TableOKL P T) {call : FuncId → List Value → AH → Option (List (Value × AH))} {lcall : FuncId → Array Value → LM Value} (hc : CallFL call lcall) : CallFL (fFn0L P orc fuel T call) (lFn0 P orc fuel lcall) := by
  intro f args h r e
  unfold fFn0L at e
  unfold lFn0
  split at e
  case h_2 => cases e
  case h_1 ff hff =>
    have hcf := hT f ff hff
    unfold cFnL at hcf
    split at hcf
    case h_2 => cases hcf
    case h_1 fn hfn =>
      split at hcf
      case h_2 => cases hcf
      case h_1 c hb =>
        split at hcf
        case h_2 => cases hcf
        case h_1 rs hrs =>
          split at hcf
          case isFalse => cases hcf
          case isTrue hlim =>
            injection hcf with hcf; subst hcf
            dsimp only at e
            split at e
            case h_2 => cases e
            case h_1 hlen =>
              have hfr := frInit_ok hlim (lenLe_spec hlen)
              rw [hfn]
              dsimp only
              rw [hb]
              dsimp only
              split at e
              case h_2 => cases e
              case h_1 l hcode =>
                obtain ⟨l1, q1, q2⟩ := fCodeL_ok hc fuel c _ _ h l hfr hcode
                obtain ⟨y, q3, q4⟩ := gather_R2 (S := fun (p q : Value × AH) => q = p) (g := fun (q : (Way × Array Value) × AH) => ((match q.1 with
                    | (.normal, ts) => LM.ofA (aRes P fn ts)
                    | (.ret, ts) => LM.ofA (aRes P fn ts)
                    | _ => LM.fail) : LM Value).run q.2) (fun p q hpq x hx => by
                  obtain ⟨w, fr1, h1⟩ := p
                  obtain ⟨⟨w', ts1⟩, h1'⟩ := q
                  obtain ⟨k1, k2, k3⟩ := hpq
                  dsimp only at k1 k2 k3
                  subst k1; subst k3
                  have fin : ∀ x, (match fResL P fr1 rs h1' with
                      | some (l, h2) => some [(oneOf l, h2)]
                      | none => none) = some x → ∃ y, (LM.ofA (aRes P fn ts1)).run h1' = some y ∧ R2 (fun (p q : Value × AH) => q = p) x y := fun x hx => by
                    split at hx
                    case h_2 => cases hx
                    case h_1 l h2 hl =>
                      injection hx with hx; subst hx
                      have hr := fResL_ok k2 hrs hl
                      have hres : (aRes P fn ts1).run h1' = some (oneOf l, h2) := by
                        unfold aRes AM.bind
                        dsimp only
                        rw [hr]
                        match l with
                        | [] => rfl
                        | [v] => rfl
                        | _ :: _ :: _ => rfl
                      refine ⟨[(oneOf l, h2)], ?_, R2.one rfl⟩
                      unfold LM.ofA
                      dsimp only
                      rw [hres]
                  cases w' with
                  | normal => exact fin x hx
                  | ret => exact fin x hx
                  | exit i => cases hx) q2 e
                have hy : y = r := by
                  clear q3 e
                  induction r generalizing y with
                  | nil => cases y with
                    | nil => rfl
                    | cons a s => exact q4.elim
                  | cons b t iht => cases y with
                    | nil => exact q4.elim
                    | cons a s => rw [q4.1, iht s q4.2]
                subst hy
                unfold LM.bind
                dsimp only
                rw [q1]
                exact q3
def fFnL (P : Program) (orc : OrcL) (fuel : Nat) (T : FuncId → Option FF) (call : FuncId → List Value → AH → Option (List (Value × AH))) (f : FuncId) (args : List Value) (h : AH) : Option (List (Value × AH)) :=
  match orc.hook f with
  | some m => (m args.toArray).run h
  | none => match orc.cut f with
    | true => if h.base ≤ h.next then (match fFn0L P orc fuel T call f args (alone h) with
      | some l => some ((mergeO h.next l).map fun p => (p.1, backTo h p.2))
      | none => none) else none
    | false => fFn0L P orc fuel T call f args h
theorem fFnL_ok {P : Program} {orc : OrcL} {fuel : Nat} {T : FuncId → Option FF} (hT : TableOKL P T) {call : FuncId → List Value → AH → Option (List (Value × AH))} {lcall : FuncId → Array Value → LM Value} (hc : CallFL call lcall) : CallFL (fFnL P orc fuel T call) (lFn P orc fuel lcall) := by
  intro f args h r e
  unfold fFnL at e
  unfold lFn
  cases hhk : orc.hook f with
  | some m => rw [hhk] at e; exact e
  | none =>
    rw [hhk] at e
    dsimp only at e ⊢
    cases hcu : orc.cut f with
    | false => rw [hcu] at e; exact fFn0L_ok hT hc f args h r e
    | true =>
      rw [hcu] at e
      dsimp only at e ⊢
      unfold lCut
      dsimp only
      split at e
      case isFalse => cases e
      case isTrue hb =>
        rw [if_pos hb]
        split at e
        case h_2 => cases e
        case h_1 l h0 => rw [fFn0L_ok hT hc f args _ l h0]; exact e
def fCallL (P : Program) (orc : OrcL) (fuel : Nat) (T : FuncId → Option FF) : Nat → FuncId → List Value → AH → Option (List (Value × AH))
  | 0, _, _, _ => none
  | n + 1, f, args, h => fFnL P orc fuel T (fCallL P orc fuel T n) f args h
theorem fCallL_ok {P : Program} {orc : OrcL} {fuel : Nat} {T : FuncId → Option FF} (hT : TableOKL P T) : ∀ n, CallFL (fCallL P orc fuel T n) (lCall P orc fuel n)
  | 0 => fun f args h r e => by cases e
  | n + 1 => fFnL_ok hT (fCallL_ok hT n)
theorem tableL_self (P : Program) : TableOKL P (cFnL P) := fun _ _ h => h
end Go.Proofs.Ytfakfnekcgkelaa
