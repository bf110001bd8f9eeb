/- An evaluator of Go code whose memory has names of its own (3 of 9). -/
import Derived.Test.YtfakfnekcgkelaaEwM2
/- An evaluator of Go code whose memory has names of its own (15): operations, calls. -/
namespace Go.Proofs.Ytfakfnekcgkelaa
set_option linter.unusedVariables false
set_option linter.unusedSimpArgs false

inductive ANext
  | value (v : Value)
  | skip
  | enter (f : FuncId) (args : Array Value)
def NR (N : Nat → Prop) (ρ : Ren) : ANext → Next → Prop
  | .value v, .value v' => VR N ρ v v'
  | .skip, .skip => True
  | .enter f a, .enter f' a' => f' = f ∧ LR N ρ a.toList a'.toList
  | _, _ => False
/-- no function bears the name of the one that the model answers by itself -/
def NameOK (P : Program) : Prop := ∀ (f : FuncId) (fn : Func), P.funcs[f]? = some fn → (fn.name == "runtime.NumGoroutine") = false
def aEnter (P : Program) (f : FuncId) (args : Array Value) : AM ANext :=
  match P.funcs[f]? with
  | some fn => if fn.body.isSome then .pure (.enter f args) else .fail
  | none => .fail
theorem aEnter_sound {P : Program} (hn : NameOK P) {N : Nat → Prop} {ρ : Ren} {f : FuncId} {args args' : Array Value} (ha : LR N ρ args.toList args'.toList) : Sim P N ρ (aEnter P f args) (callFunc f args') NR := by
  unfold aEnter
  cases hf : P.funcs[f]? with
  | none => exact Sim.fail
  | some fn =>
    dsimp only
    split
    case isFalse => exact Sim.fail
    case isTrue hb =>
      intro h x h' he D w hcov hwf hN hr
      obtain ⟨rfl, rfl⟩ := AM.pure_some he
      refine ⟨ρ, .enter f args', w, ?_, Step.refl _ _ _ _, by rw [Grow.eq_self]; exact hr, by rw [Grow.eq_self]; exact ⟨rfl, ha⟩⟩
      have h1 := hn f fn hf
      have h2 : fn.body.isNone = false := by cases hfb : fn.body <;> simp_all
      unfold callFunc
      simp only [Sem.run_bind, run_program, Result.andThen_ok, hf, h1, h2, Bool.false_eq_true, if_false, Sem.run_pure]
/-- the method of that name, and its receiver -/
def aMethod (P : Program) (t : TypeId) (v : Value) (name : String) : AM (FuncId × Value) :=
  match P.info? t with
  | some i => (match i.methods.find? (·.name == name) with
    | some m => (match m.path.toList, m.func, P.underlying t with
      | [], some (f, true), some (.pointer _) => .pure (f, v)
      | [], some (f, false), some (.pointer e) => (match v with
        | .pointer (some _) => (aLoad P e v).bind fun x => .pure (f, x)
        | _ => .fail)
      | [], some (f, false), some d => .pure (f, v)
      | _, _, _ => .fail)
    | none => .fail)
  | none => .fail
theorem aMethod_sound {P : Program} {N : Nat → Prop} {ρ : Ren} {t : TypeId} {v v' : Value} {name : String} (hv : VR N ρ v v') (fuel : Nat) :
    Sim P N ρ (aMethod P t v name) (method (fuel + 1) t v' name) (fun N ρ p p' => p'.1 = p.1 ∧ VR N ρ p.2 p'.2) := by
  intro h x h' he D w hcov hwf hN hr
  unfold aMethod at he
  cases hi : P.info? t with
  | none => rw [hi] at he; cases he
  | some i =>
    rw [hi] at he
    dsimp only at he
    cases hm : i.methods.find? (·.name == name) with
    | none => rw [hm] at he; cases he
    | some m =>
      rw [hm] at he
      dsimp only at he
      have hfirst : (method (fuel + 1) t v' name).run P w = ((do
          let (xt, x) ← follow m.path.toList t (.val v')
          match m.func with
          | none =>
            match ← x.get xt with
            | .iface t' v' => method fuel t' v' name
            | .nilIface => runtimePanic .nilDeref
            | _ => stuck "method row: interface value expected"
          | some (f, pointerReceiver) =>
            pure (f, ← receiverAt xt x pointerReceiver (if m.path.isEmpty then some ((name.splitOn ".").getLastD name) else none))) : Sem (FuncId × Value)).run P w := by
        rw [method.eq_2]
        simp only [Sem.run_bind, typeInfo, run_program, Result.andThen_ok, hi, Sem.run_pure, hm]
        rfl
      split at he
      case h_1 f e hp hf hu =>
        obtain ⟨rfl, rfl⟩ := AM.pure_some he
        refine ⟨ρ, (f, v'), w, ?_, Step.refl _ _ _ _, by rw [Grow.eq_self]; exact hr, by rw [Grow.eq_self]; exact ⟨rfl, hv⟩⟩
        rw [hfirst, hp, hf]
        simp [follow, receiverAt, run_underlying hu w, Place.get]
      case h_2 f e hp hf hu =>
        split at he
        case h_2 => cases he
        case h_1 a =>
          obtain ⟨x1, h1, e1, e2⟩ := AM.bind_some he
          obtain ⟨rfl, rfl⟩ := AM.pure_some e2
          obtain ⟨a', x', q1, q2, q3, q4, q5, q6⟩ := aLoad_sound e1 hcov hr hv
          have hG : Grow N h.next h'.next = N := by rw [q4]; exact Grow.eq_self _ _
          refine ⟨ρ, (f, x'), w, ?_, q5, by rw [hG]; exact q6, by rw [hG]; exact ⟨rfl, q3⟩⟩
          subst q1
          have hpe : m.path.isEmpty = true := by
            have : m.path = #[] := by apply Array.ext'; simpa using hp
            rw [this]; rfl
          rw [hfirst, hp, hf]
          have hwrap : ∀ (nm : String), (Builtin.ssaWrapNilChk_ #[t] t #[.pointer (some a'), strVal "", strVal nm]).run P w = .ok (.pointer (some a')) w := fun nm => rfl
          simp only [follow, receiverAt, Sem.run_bind, Sem.run_pure, run_underlying hu w, Result.andThen_ok, Place.get, hpe, if_true, hwrap, asAddr, q2]
      case h_3 f d hd hp hf hu =>
        obtain ⟨rfl, rfl⟩ := AM.pure_some he
        refine ⟨ρ, (f, v'), w, ?_, Step.refl _ _ _ _, by rw [Grow.eq_self]; exact hr, by rw [Grow.eq_self]; exact ⟨rfl, hv⟩⟩
        rw [hfirst, hp, hf]
        have hd' : ∀ e, d ≠ .pointer e := fun e h => hd e h
        cases d <;> first
          | exact absurd rfl (hd' _)
          | simp [follow, receiverAt, run_underlying hu w, Place.get]
      case h_4 => cases he
end Go.Proofs.Ytfakfnekcgkelaa
/- An evaluator of Go code whose memory has names of its own (16): calls of methods, of builtins. -/
namespace Go.Proofs.Ytfakfnekcgkelaa
set_option linter.unusedVariables false
set_option linter.unusedSimpArgs false

def aCallMethod (P : Program) (recv : Value) (name : String) (args : Array Value) : AM ANext :=
  match recv with
  | .iface t v => (aMethod P t v name).bind fun p => aEnter P p.1 (#[p.2] ++ args)
  | _ => .fail
theorem aCallMethod_sound {P : Program} (hn : NameOK P) {N : Nat → Prop} {ρ : Ren} {recv recv' : Value} {name : String} {args args' : Array Value} (hrv : VR N ρ recv recv') (ha : LR N ρ args.toList args'.toList) :
    Sim P N ρ (aCallMethod P recv name args) (callMethod recv' name args') NR := by
  unfold aCallMethod
  split
  case h_2 => exact Sim.fail
  case h_1 t v =>
    have hr' : recv' = .iface t (ren ρ v) := by rw [← hrv.eq]; simp [ren]
    subst hr'
    have hv : VR N ρ v (ren ρ v) := fun r hr => by
      have := hrv r hr
      simp only [ren, Value.iface.injEq] at this
      exact this.2
    obtain ⟨k, hk⟩ : ∃ k, P.types.size + Made.depth = k + 1 := ⟨P.types.size + 99, rfl⟩
    have := (aMethod_sound (P := P) (t := t) (name := name) hv k).bind (f := fun p => aEnter P p.1 (#[p.2] ++ args)) (g := fun p => callFunc p.1 (#[p.2] ++ args')) (R2 := NR) (fun N' ρ' x y hN hA hR => by
      rw [hR.1]
      refine aEnter_sound hn ?_
      rw [Array.toList_append, Array.toList_append]
      refine LR.append ?_ (ha.mono hA hN)
      intro r hr
      simp [hR.2 r hr])
    intro h x h' he D w hcov hwf hN hr
    obtain ⟨ρ', y, w', q1, q2⟩ := this h x h' he D w hcov hwf hN hr
    refine ⟨ρ', y, w', ?_, q2⟩
    unfold callMethod
    simp only [Sem.run_bind, run_program, Result.andThen_ok, hk]
    rw [Sem.run_bind'] at q1
    exact q1

def bothSlices (P : Program) (t t2 : TypeId) : Bool :=
  match P.underlying t, P.underlying t2 with
  | some (.slice _), some (.slice _) => true
  | _, _ => false
theorem append_types {P : Program} {t t2 ty : TypeId} (h : bothSlices P t t2 = true) (s x : Value) (w : World) : (Builtin.append_ #[t, t2] ty #[s, x]).run P w = (Builtin.append_ #[t, t] ty #[s, x]).run P w := by
  unfold bothSlices at h
  split at h
  · rename_i e e2 h1 h2
    unfold Builtin.append_
    simp only [List.getElem?_toArray, List.getElem?_cons_zero, List.getElem?_cons_succ, Sem.run_bind, run_underlying h1, Result.andThen_ok]
    cases s with
    | slice b l c => 
      simp only [Sem.run_bind, run_underlying h1, run_underlying h2, Result.andThen_ok, sizeOf, typeInfo, run_program]
    | _ => rfl
  · cases h
def aBuiltin (P : Program) (b : Builtin) (ts : Array TypeId) (args : Array Value) : AM ANext :=
  match b, ts.toList, args.toList with
  | .append, [t, t2], [s, x] => if t = t2 then (aAppend P t s x).bind fun v => .pure (.value v) else
    if bothSlices P t t2 then (aAppend P t s x).bind fun v => .pure (.value v) else .fail
  | .copy, [t, t2], [d, x] => (aCopy P t d x).bind fun v => .pure (.value v)
  | .len, [t], [.slice _ n _] => (match P.underlying t with
    | some (.slice _) => .pure (.value (.int .i64 n))
    | _ => .fail)
  | .clear, [t], [x] => (aClear P t x).bind fun v => .pure (.value v)
  | _, _, _ => .fail
theorem simValue {P : Program} {N : Nat → Prop} {ρ : Ren} {m : AM Value} {s : Sem Value} (h : Sim P N ρ m s VRel) : Sim P N ρ (m.bind fun v => AM.pure (ANext.value v)) (Sem.bind s fun v => Sem.pure (Next.value v)) NR :=
  h.bind fun N' ρ' x y _ _ hR => Sim.pure hR
theorem LR.two {N : Nat → Prop} {ρ : Ren} {a b : Value} {l : List Value} (h : LR N ρ [a, b] l) : ∃ a' b', l = [a', b'] ∧ VR N ρ a a' ∧ VR N ρ b b' := by
  have hl := h.length
  match l, hl with
  | [a', b'], _ =>
    refine ⟨a', b', rfl, fun r hr => ?_, fun r hr => ?_⟩ <;> (have := h r hr; simp at this)
    · exact this.1
    · exact this.2
theorem LR.one {N : Nat → Prop} {ρ : Ren} {a : Value} {l : List Value} (h : LR N ρ [a] l) : ∃ a', l = [a'] ∧ VR N ρ a a' := by
  have hl := h.length
  match l, hl with
  | [a'], _ =>
    refine ⟨a', rfl, fun r hr => ?_⟩
    have := h r hr; simpa using this
theorem aBuiltin_sound {P : Program} {N : Nat → Prop} {ρ : Ren} {b : Builtin} {ts : Array TypeId} {ty : TypeId} {consts : Array Bool} {args args' : Array Value} (ha : LR N ρ args.toList args'.toList) :
    Sim P N ρ (aBuiltin P b ts args) (builtin b ts ty consts args') NR := by
  unfold aBuiltin
  split
  case h_1 t t2 s x hts hargs =>
    split
    case isFalse =>
      split
      case isFalse => exact Sim.fail
      case isTrue hb =>
        rw [hargs] at ha
        obtain ⟨s', x', h1, h2, h3⟩ := ha.two
        have e1 : ts = #[t, t2] := by apply Array.ext'; simpa using hts
        have e2 : args' = #[s', x'] := by apply Array.ext'; simpa using h1
        subst e1; subst e2
        exact simValue (Sim.congr' (aAppend_sound (ty := ty) h2 h3) (fun w => append_types hb s' x' w))
    case isTrue he =>
      subst he
      rw [hargs] at ha
      obtain ⟨s', x', h1, h2, h3⟩ := ha.two
      have e1 : ts = #[t, t] := by apply Array.ext'; simpa using hts
      have e2 : args' = #[s', x'] := by apply Array.ext'; simpa using h1
      subst e1; subst e2
      exact simValue (aAppend_sound h2 h3)
  case h_2 t t2 d x hts hargs =>
    rw [hargs] at ha
    obtain ⟨s', x', h1, h2, h3⟩ := ha.two
    have e1 : ts = #[t, t2] := by apply Array.ext'; simpa using hts
    have e2 : args' = #[s', x'] := by apply Array.ext'; simpa using h1
    subst e1; subst e2
    exact simValue (aCopy_sound h2 h3)
  case h_3 t a n c hts hargs =>
    split
    case h_2 => exact Sim.fail
    case h_1 e hu =>
      rw [hargs] at ha
      obtain ⟨s', h1, h2⟩ := ha.one
      have e1 : ts = #[t] := by apply Array.ext'; simpa using hts
      have e2 : args' = #[s'] := by apply Array.ext'; simpa using h1
      subst e1; subst e2
      intro h x h' he D w hcov hwf hN hr
      obtain ⟨rfl, rfl⟩ := AM.pure_some he
      refine ⟨ρ, .value (.int .i64 n), w, ?_, Step.refl _ _ _ _, by rw [Grow.eq_self]; exact hr, VR.shut rfl⟩
      rw [← h2.eq]
      cases a <;> simp [builtin, Builtin.len_, ren, run_underlying hu w, goInt]
  case h_4 t x hts hargs =>
    rw [hargs] at ha
    obtain ⟨x', h1, h2⟩ := ha.one
    have e1 : ts = #[t] := by apply Array.ext'; simpa using hts
    have e2 : args' = #[x'] := by apply Array.ext'; simpa using h1
    subst e1; subst e2
    exact simValue (aClear_sound (ty := ty) h2)
  case h_5 => exact Sim.fail
theorem cons_get (a : Value) (X : Array Value) : (#[a] ++ X)[0]? = some a := by
  rw [Array.getElem?_append_left (by simp)]; rfl
theorem cons_rest (a : Value) (X : Array Value) : (#[a] ++ X).extract 1 (#[a] ++ X).size = X := by
  apply Array.ext'
  rw [Array.toList_extract, Array.toList_append]
  simp
  rw [← Array.length_toList, List.take_length]
def aCallOp (P : Program) (ev : Operand → Value) (c : Call) : AM ANext :=
  match c.callee with
  | .builtin b => aBuiltin P b c.argTypes (c.args.map ev)
  | .invoke recv name => aCallMethod P (ev recv) name (c.args.map ev)
  | .value f => (match ev f with
    | .func (.func g) first captured => aEnter P g (first ++ c.args.map ev ++ captured)
    | .func (.method name) first captured => (match (first ++ c.args.map ev).toList with
      | recv :: rest => aCallMethod P recv name rest.toArray
      | [] => .fail)
    | _ => .fail)
theorem LR.mapEv {N : Nat → Prop} {ρ : Ren} {ev ev' : Operand → Value} : ∀ {l : List Operand}, (∀ x ∈ l, VR N ρ (ev x) (ev' x)) → LR N ρ (l.map ev) (l.map ev')
  | [], _ => fun r hr => rfl
  | x :: l, h => fun r hr => by
    simp only [List.map_cons]
    rw [h x (by simp) r hr, LR.mapEv (l := l) (fun y hy => h y (List.mem_cons_of_mem _ hy)) r hr]
theorem aCallOp_sound {P : Program} (hn : NameOK P) {N : Nat → Prop} {ρ : Ren} {ev ev' : Operand → Value} {c : Call} {ty : TypeId} (hev : ∀ x ∈ c.operands, VR N ρ (ev x) (ev' x)) :
    Sim P N ρ (aCallOp P ev c) (do let d ← resolve ev' c ty; invoke d.target d.args) NR := by
  have hargs : LR N ρ (c.args.map ev).toList (c.args.map ev').toList := by
    rw [Array.toList_map, Array.toList_map]
    exact LR.mapEv (fun x hx => hev x (by simp [Call.operands]; right; simpa using hx))
  unfold aCallOp
  cases hc : c.callee with
  | builtin b =>
    have := aBuiltin_sound (P := P) (b := b) (ts := c.argTypes) (ty := ty) (consts := c.args.map fun | .const _ => true | _ => false) hargs
    intro h x h' he D w hcov hwf hN hr
    obtain ⟨ρ', y, w', q1, q2⟩ := this h x h' he D w hcov hwf hN hr
    refine ⟨ρ', y, w', ?_, q2⟩
    unfold resolve
    simp only [hc, Sem.run_bind, Sem.run_pure, Result.andThen_ok, invoke]
    exact q1
  | invoke recv name =>
    have hrv : VR N ρ (ev recv) (ev' recv) := hev recv (by simp [Call.operands, hc])
    have := aCallMethod_sound hn (name := name) hrv hargs
    intro h x h' he D w hcov hwf hN hr
    obtain ⟨ρ', y, w', q1, q2⟩ := this h x h' he D w hcov hwf hN hr
    refine ⟨ρ', y, w', ?_, q2⟩
    unfold resolve
    simp only [hc, Sem.run_bind, Sem.run_pure, Result.andThen_ok, invoke]
    have e0 := cons_get (ev' recv) (c.args.map ev')
    have e1 := cons_rest (ev' recv) (c.args.map ev')
    rw [e0, e1]
    exact q1
  | value f =>
    have hf : VR N ρ (ev f) (ev' f) := hev f (by simp [Call.operands, hc])
    dsimp only
    split
    case h_3 => exact Sim.fail
    case h_1 g first captured hg =>
      have hfe : ∀ r, Agree N ρ r → ev' f = .func (.func g) (first.map fun v => ren r v) (captured.map fun v => ren r v) := fun r hr => by rw [← hf r hr, hg]; simp [ren]
      have h0 := hfe ρ (Agree.refl _ _)
      have hfc : LR N ρ first.toList (first.map fun v => ren ρ v).toList ∧ LR N ρ captured.toList (captured.map fun v => ren ρ v).toList := by
        constructor <;> (intro r hr; have h1 := hfe r hr; rw [h0] at h1; injection h1 with _ h2 h3; rw [← Array.toList_map])
        · rw [h2]
        · rw [h3]
      have := aEnter_sound (P := P) hn (f := g) (args := first ++ c.args.map ev ++ captured) (args' := (first.map fun v => ren ρ v) ++ c.args.map ev' ++ (captured.map fun v => ren ρ v)) (by
        simp only [Array.toList_append]
        exact (hfc.1.append hargs).append hfc.2)
      intro h x h' he D w hcov hwf hN hr
      obtain ⟨ρ', y, w', q1, q2⟩ := this h x h' he D w hcov hwf hN hr
      refine ⟨ρ', y, w', ?_, q2⟩
      unfold resolve
      simp only [hc, h0, Deferred.ofValue, Sem.run_bind, Sem.run_pure, Result.andThen_ok, invoke]
      exact q1
    case h_2 name first captured hg =>
      have hfe : ∀ r, Agree N ρ r → ev' f = .func (.method name) (first.map fun v => ren r v) (captured.map fun v => ren r v) := fun r hr => by rw [← hf r hr, hg]; simp [ren]
      have h0 := hfe ρ (Agree.refl _ _)
      have hfc : LR N ρ first.toList (first.map fun v => ren ρ v).toList := by
        intro r hr; have h1 := hfe r hr; rw [h0] at h1; injection h1 with _ h2 h3; rw [← Array.toList_map, h2]
      have hall : LR N ρ (first ++ c.args.map ev).toList ((first.map fun v => ren ρ v) ++ c.args.map ev').toList := by
        simp only [Array.toList_append]; exact hfc.append hargs
      split
      case h_2 => exact Sim.fail
      case h_1 recv rest hl =>
        rw [hl] at hall
        cases hl' : ((first.map fun v => ren ρ v) ++ c.args.map ev').toList with
        | nil => have := hall.length; rw [hl'] at this; simp at this
        | cons recv' rest' =>
          rw [hl'] at hall
          have hrv : VR N ρ recv recv' := fun r hr => by have := hall r hr; simp at this; exact this.1
          have hrs : LR N ρ rest.toArray.toList rest'.toArray.toList := fun r hr => by have := hall r hr; simp at this; simpa using this.2
          have := aCallMethod_sound (P := P) hn (name := name) hrv hrs
          intro h x h' he D w hcov hwf hN hr
          obtain ⟨ρ', y, w', q1, q2⟩ := this h x h' he D w hcov hwf hN hr
          refine ⟨ρ', y, w', ?_, q2⟩
          unfold resolve
          simp only [hc, h0, Deferred.ofValue, Sem.run_bind, Sem.run_pure, Result.andThen_ok, invoke]
          have e2 : (first.map fun v => ren ρ v) ++ c.args.map ev' = (recv' :: rest').toArray := by apply Array.ext'; rw [hl']
          rw [e2]
          have e0 : (recv' :: rest').toArray[0]? = some recv' := by simp
          have e1 : (recv' :: rest').toArray.extract 1 (recv' :: rest').toArray.size = rest'.toArray := by apply Array.ext'; simp
          rw [e0, e1]
          exact q1
end Go.Proofs.Ytfakfnekcgkelaa
/- An evaluator of Go code whose memory has names of its own: maps. -/
namespace Go.Proofs.Ytfakfnekcgkelaa
set_option linter.unusedVariables false
set_option linter.unusedSimpArgs false

def nowK (d : TypeDesc) (k : Value) : List Value → Option (Option Nat)
  | [] => some none
  | e :: r => match Instr.sameNow d k e with
    | some true => some (some 0)
    | some false => (nowK d k r).map fun o => o.map (· + 1)
    | none => none
def askK (P : Program) (kt : TypeId) (k : Value) : List Value → Option (Option Nat)
  | [] => some none
  | e :: r => match pureRun P (Op.equal kt k e) with
    | some true => some (some 0)
    | some false => (askK P kt k r).map fun o => o.map (· + 1)
    | none => none
def entryAt (es : List MapEntry) (i j : Nat) : Option (Nat × Value) := (es[j]?).map fun e => (i + j, e.val)
theorem findNow_K (d : TypeDesc) (k : Value) : ∀ (es : List MapEntry) (i : Nat), Instr.findNow d k es i = (nowK d k (es.map (·.key))).map fun o => o.bind (entryAt es i)
  | [], i => rfl
  | e :: r, i => by
    simp only [Instr.findNow, List.map_cons, nowK]
    cases hs : Instr.sameNow d k e.key with
    | none => rfl
    | some b =>
      cases b with
      | true => simp [entryAt]
      | false =>
        simp only
        rw [findNow_K d k r (i + 1)]
        cases nowK d k (r.map (·.key)) with
        | none => rfl
        | some o =>
          cases o with
          | none => rfl
          | some j =>
            simp only [Option.map_some, Option.bind_some, entryAt, List.getElem?_cons_succ]
            rw [show i + 1 + j = i + (j + 1) from by omega]
theorem findAsking_K {P : Program} (kt : TypeId) (k : Value) : ∀ (es : List MapEntry) (i : Nat) (o : Option Nat), askK P kt k (es.map (·.key)) = some o → ∀ w, (Instr.findAsking kt k es i).run P w = .ok (o.bind (entryAt es i)) w
  | [], i, o, h, w => by simp [askK] at h; subst h; rfl
  | e :: r, i, o, h, w => by
    simp only [List.map_cons, askK] at h
    cases hp : pureRun P (Op.equal kt k e.key) with
    | none => rw [hp] at h; cases h
    | some b =>
      rw [hp] at h
      have hrun := pureRun_run _ hp w
      simp only [Instr.findAsking, Sem.run_bind, hrun, Result.andThen_ok]
      cases b with
      | true => simp at h; subst h; simp [entryAt]
      | false =>
        simp only at h
        cases ha : askK P kt k (r.map (·.key)) with
        | none => rw [ha] at h; cases h
        | some o' =>
          rw [ha] at h
          simp only [Option.map_some, Option.some.injEq] at h
          subst h
          have := findAsking_K kt k r (i + 1) o' ha w
          simp only [Bool.false_eq_true, if_false, this]
          cases o' with
          | none => rfl
          | some j =>
            simp only [Option.map_some, Option.bind_some, entryAt, List.getElem?_cons_succ]
            rw [show i + 1 + j = i + (j + 1) from by omega]
def okKey (P : Program) (kt : TypeId) (k : Value) (e : Bool) : Bool := match pureRun P (Instr.checkKey e 10000 kt k) with
  | some _ => true
  | none => false
theorem okKey_run {P : Program} {kt : TypeId} {k : Value} {e : Bool} (h : okKey P kt k e = true) (w : World) : (Instr.checkKey e 10000 kt k).run P w = .ok () w := by
  unfold okKey at h
  cases hp : pureRun P (Instr.checkKey e 10000 kt k) with
  | none => rw [hp] at h; cases h
  | some u => exact pureRun_run _ hp w
/-- where a key is, of keys that are no symbols -/
def keyIdx (P : Program) (kt : TypeId) (k : Value) (keys : List Value) : Option (Option Nat) :=
  if shut k && keys.all shut && (okKey P kt k keys.isEmpty && okKey P kt k false) then
    match P.underlying kt with
    | some d => (match nowK d k keys with
      | some o => some o
      | none => askK P kt k keys)
    | none => none
  else none
/-- the entries of a heap by names, those of the world's -/
structure EsR (N : Nat → Prop) (ρ : Ren) (es : List MapEntry) (es' : List MapEntry) : Prop where
  len : es'.length = es.length
  at_ : ∀ (i : Nat) (e : MapEntry), es[i]? = some e → ∃ e', es'[i]? = some e' ∧ ER N ρ e e'
theorem EsR.keys {N : Nat → Prop} {ρ : Ren} : ∀ {es es' : List MapEntry}, EsR N ρ es es' → (es.map (·.key)).all shut = true → es'.map (·.key) = es.map (·.key)
  | [], [], _, _ => rfl
  | [], _ :: _, h, _ => by have := h.len; simp at this
  | _ :: _, [], h, _ => by have := h.len; simp at this
  | e :: r, e' :: r', h, hs => by
    simp only [List.map_cons, List.all_cons, Bool.and_eq_true] at hs
    obtain ⟨x, hx, hR⟩ := h.at_ 0 e rfl
    simp at hx; subst hx
    have hk : e'.key = e.key := by rw [← hR.key.eq]; exact ren_shut _ hs.1
    have ht : EsR N ρ r r' := ⟨by have := h.len; simp at this; exact this, fun i e hi => h.at_ (i + 1) e hi⟩
    simp only [List.map_cons, hk, ht.keys hs.2]
theorem keyIdx_run {P : Program} {kt : TypeId} {k : Value} {N : Nat → Prop} {ρ : Ren} {es es' : List MapEntry} {o : Option Nat} (h : keyIdx P kt k (es.map (·.key)) = some o) (hr : EsR N ρ es es') (w : World) :
    shut k = true ∧ (∀ b, b = es'.isEmpty ∨ b = false → (Instr.checkKey b 10000 kt k).run P w = .ok () w) ∧ (Instr.findKey kt k es').run P w = .ok (o.bind (entryAt es' 0)) w := by
  unfold keyIdx at h
  split at h
  case isFalse => cases h
  case isTrue hc =>
    simp only [Bool.and_eq_true] at hc
    obtain ⟨⟨hk, hks⟩, hck1, hck2⟩ := hc
    have hkeys := hr.keys hks
    have hemp : es'.isEmpty = (es.map (·.key)).isEmpty := by rw [← hkeys]; cases es' <;> rfl
    refine ⟨hk, fun b hb => ?_, ?_⟩
    · rcases hb with rfl | rfl
      · rw [hemp]; exact okKey_run hck1 w
      · exact okKey_run hck2 w
    · cases hu : P.underlying kt with
      | none => rw [hu] at h; cases h
      | some d =>
        rw [hu] at h
        dsimp only at h
        unfold Instr.findKey
        simp only [Sem.run_bind, run_underlying hu w, Result.andThen_ok]
        rw [findNow_K, hkeys]
        cases hn : nowK d k (es.map (·.key)) with
        | some o' =>
          rw [hn] at h
          injection h with h; subst h
          rfl
        | none =>
          rw [hn] at h
          simp only [Option.map_none]
          exact findAsking_K kt k es' 0 o (by rw [hkeys]; exact h) w
theorem ER.mono {N N' : Nat → Prop} {ρ ρ' : Ren} {e e' : MapEntry} (h : ER N ρ e e') (ha : Agree N ρ ρ') (hN : ∀ n, N n → N' n) : ER N' ρ' e e' := ⟨h.key.mono ha hN, h.val.mono ha hN, h.born⟩
/-- what lies behind a map -/
theorem look_map {D N : Nat → Prop} {h h' : AH} {n : Nat} {es : List MapEntry} {cl : Nat} {ρ : Ren} {w : World} (e : (AM.look n).run h = some (.map es cl, h')) (hc : Cov D h') (hr : Rel D N ρ h.get w) :
    ∃ es', w.heap[ρ.φ n]? = some (.map es' cl) ∧ EsR N ρ es es'.toList ∧ h'.m = h.m ∧ h'.next = h.next ∧ Step D h ρ w h' ρ w ∧ Rel D N ρ h'.get w ∧ D n ∧ h.get n = some (.map es cl) := by
  obtain ⟨g1, rfl⟩ := AM.look_some e
  obtain ⟨es', q1, q2, q3⟩ := hr.holds n _ hc.look g1
  have hls := look_step (n := n) hr
  rw [Grow.eq_self] at hls
  refine ⟨es', q1, ⟨by simpa using q2, fun i e hi => ?_⟩, rfl, rfl, hls.1, hls.2, hc.look, g1⟩
  obtain ⟨e', h1, h2⟩ := q3 i e hi
  exact ⟨e', by simpa using h1, h2⟩

def zeroVal (P : Program) (t : TypeId) : Option Value :=
  match P.info? t with
  | some i => match i.zero with
    | some z => if shut z then some z else none
    | none => none
  | none => none
theorem zeroVal_run {P : Program} {t : TypeId} {z : Value} (h : zeroVal P t = some z) (w : World) : (zeroValue t).run P w = .ok z w ∧ shut z = true := by
  unfold zeroVal at h
  cases hi : P.info? t with
  | none => rw [hi] at h; cases h
  | some i =>
    rw [hi] at h
    dsimp only at h
    cases hz : i.zero with
    | none => rw [hz] at h; cases h
    | some z' =>
      rw [hz] at h
      dsimp only at h
      split at h
      · rename_i hs
        injection h with h; subst h
        exact ⟨by simp [zeroValue, typeInfo, hi, hz], hs⟩
      · cases h

def aLookup (P : Program) (t : TypeId) (m k : Value) (ok : Bool) : AM Value :=
  match P.underlying t with
  | some (.map kt et) => (match zeroVal P et with
    | some z => (match m with
      | .map none => (match keyIdx P kt k [] with
        | some _ => .pure (if ok then .tuple #[z, .bool false] else z)
        | none => .fail)
      | .map (some r) => (AM.look r).bind fun
        | .map es _ => (match keyIdx P kt k (es.map (·.key)) with
          | some (some j) => (match es[j]? with
            | some e => .pure (if ok then .tuple #[e.val, .bool true] else e.val)
            | none => .fail)
          | some none => .pure (if ok then .tuple #[z, .bool false] else z)
          | none => .fail)
        | _ => .fail
      | _ => .fail)
    | none => .fail)
  | _ => .fail
theorem VR_ok {N : Nat → Prop} {ρ : Ren} {v v' : Value} {b ok : Bool} (h : VR N ρ v v') : VR N ρ (if ok then .tuple #[v, .bool b] else v) (if ok then .tuple #[v', .bool b] else v') := by
  cases ok with
  | false => exact h
  | true => intro r hr; simp [ren, h r hr]
theorem aLookup_sound {P : Program} {N : Nat → Prop} {ρ : Ren} {t : TypeId} {m m' k k' : Value} {ok : Bool} (hm : VR N ρ m m') (hk : VR N ρ k k') : Sim P N ρ (aLookup P t m k ok) (Instr.lookup t m' k' ok) VRel := by
  intro h x h' he D w hcov hwf hN hr
  unfold aLookup at he
  split at he
  case h_2 => cases he
  case h_1 kt et hu =>
    split at he
    case h_2 => cases he
    case h_1 z hz =>
      obtain ⟨z1, z2⟩ := zeroVal_run hz w
      split at he
      case h_3 => cases he
      case h_1 =>
        have hm' : m' = .map none := by rw [← hm.eq]; simp [ren]
        subst hm'
        split at he
        case h_2 => cases he
        case h_1 o ho =>
          obtain ⟨rfl, rfl⟩ := AM.pure_some he
          obtain ⟨q1, q2, q3⟩ := keyIdx_run (es := []) (es' := []) (N := N) (ρ := ρ) ho ⟨rfl, fun i e hi => by simp at hi⟩ w
          have hk' : k' = k := by rw [← hk.eq]; exact ren_shut _ q1
          subst hk'
          have ho' : o.bind (entryAt [] 0) = none := by cases o <;> simp [entryAt]
          rw [ho'] at q3
          refine ⟨ρ, _, w, ?_, Step.refl _ _ _ _, by rw [Grow.eq_self]; exact hr, VR_ok (VR.shut z2)⟩
          unfold Instr.lookup
          simp only [Sem.run_bind, run_underlying hu w, Result.andThen_ok, Sem.run_pure, q2 true (.inl rfl), q3, z1, Array.isEmpty_empty, show (#[] : Array MapEntry).toList = [] from rfl]
      case h_2 r =>
        obtain ⟨ob, h1, e1, e2⟩ := AM.bind_some he
        cases ob with
        | row => cases e2
        | iter => cases e2
        | map es cl =>
          have hm' : m' = .map (some (ρ.φ r)) := by rw [← hm.eq]; simp [ren]
          subst hm'
          have cov1 : Cov D h1 := hcov.of (AM.mono _ _ _ _ e2)
          obtain ⟨es', p1, p2, p3, p4, p5, p6, p7, p8⟩ := look_map e1 cov1 hr
          have hG : Grow N h.next h1.next = N := by rw [p4]; exact Grow.eq_self _ _
          have hobj : (getObj (ρ.φ r)).run P w = .ok (.map es' cl) w := by simp [getObj, Sem.run, p1]
          have hemp : es'.isEmpty = es'.toList.isEmpty := by simp
          dsimp only at e2
          split at e2
          case h_3 => cases e2
          case h_1 j hj =>
            split at e2
            case h_2 => cases e2
            case h_1 e hej =>
              obtain ⟨rfl, rfl⟩ := AM.pure_some e2
              obtain ⟨q1, q2, q3⟩ := keyIdx_run hj p2 w
              have hk' : k' = k := by rw [← hk.eq]; exact ren_shut _ q1
              subst hk'
              obtain ⟨e', r1, r2⟩ := p2.at_ j e hej
              refine ⟨ρ, _, w, ?_, p5, by rw [hG]; exact p6, by rw [hG]; exact VR_ok r2.val⟩
              unfold Instr.lookup
              simp only [Sem.run_bind, run_underlying hu w, Result.andThen_ok, hobj, Sem.run_pure, q2 es'.isEmpty (.inl hemp), q3, Option.bind_some, entryAt, r1, Option.map_some]
          case h_2 hj =>
            obtain ⟨rfl, rfl⟩ := AM.pure_some e2
            obtain ⟨q1, q2, q3⟩ := keyIdx_run hj p2 w
            have hk' : k' = k := by rw [← hk.eq]; exact ren_shut _ q1
            subst hk'
            refine ⟨ρ, _, w, ?_, p5, by rw [hG]; exact p6, VR_ok (VR.shut z2)⟩
            unfold Instr.lookup
            simp only [Sem.run_bind, run_underlying hu w, Result.andThen_ok, hobj, Sem.run_pure, q2 es'.isEmpty (.inl hemp), q3, Option.bind_none, z1]
end Go.Proofs.Ytfakfnekcgkelaa
/- An evaluator of Go code whose memory has names of its own: maps that are written. -/
namespace Go.Proofs.Ytfakfnekcgkelaa
set_option linter.unusedVariables false
set_option linter.unusedSimpArgs false

def aSetMap (r : Nat) (es : List MapEntry) (cl : Nat) : AM Unit := if r < 4611686018427387904 then AM.put r (some (.map es cl)) else .fail
theorem aSetMap_run {P : Program} {D N : Nat → Prop} {h h' : AH} {r cl cl0 : Nat} {es : List MapEntry} {es0 es' : Array MapEntry} {ρ : Ren} {w : World} {u : Unit} (e : (aSetMap r es cl).run h = some (u, h')) (hwf : WF h) (hD : D r) (hr : Rel D N ρ h.get w)
    (h0 : w.heap[ρ.φ r]? = some (.map es0 cl0)) (he : EsR N ρ es es'.toList) :
    ∃ w', (setObj (ρ.φ r) (.map es' cl)).run P w = .ok () w' ∧ Step D h ρ w h' ρ w' ∧ Rel D N ρ h'.get w' ∧ h'.next = h.next := by
  unfold aSetMap at e
  split at e
  case isFalse => cases e
  case isTrue hlt =>
    obtain ⟨⟨o', ho'⟩, rfl⟩ := AM.put_some e
    have hrn : r < h.next := by
      rcases Nat.lt_or_ge r h.next with hh | hh
      · exact hh
      · rw [hwf r hh] at ho'; cases ho'
    have hsz : ρ.φ r < w.heap.size := (Array.getElem?_eq_some_iff.1 h0).1
    have hset := put_step (D := D) (w' := { w with heap := w.heap.setIfInBounds (ρ.φ r) (.map es' cl) }) (o := .map es cl) hlt hD (by rw [ho']; rfl) hrn hr
      ⟨es', by simp [hsz], by rw [← Array.length_toList]; exact he.len, fun i e hi => by obtain ⟨e', h1, h2⟩ := he.at_ i e hi; exact ⟨e', by simpa using h1, h2⟩⟩ rfl rfl rfl (by simp) (fun i _ hne => by simp [Array.getElem?_setIfInBounds_ne (Ne.symm hne)])
    exact ⟨_, by simp [setObj, Sem.run, h0], hset.1, hset.2, rfl⟩
def modL (es : List MapEntry) (j : Nat) (f : MapEntry → MapEntry) : List MapEntry := es.modify j f
theorem EsR.modify {N : Nat → Prop} {ρ : Ren} {es es' : List MapEntry} (h : EsR N ρ es es') (j : Nat) {f f' : MapEntry → MapEntry} (hf : ∀ e e', ER N ρ e e' → ER N ρ (f e) (f' e')) : EsR N ρ (es.modify j f) (es'.modify j f') := by
  refine ⟨by simp [h.len], fun i e hi => ?_⟩
  rw [List.getElem?_modify] at hi
  cases hei : es[i]? with
  | none => rw [hei] at hi; cases hi
  | some e0 =>
    rw [hei] at hi
    obtain ⟨e0', g1, g2⟩ := h.at_ i e0 hei
    refine ⟨if j = i then f' e0' else e0', by rw [List.getElem?_modify, g1]; split <;> rfl, ?_⟩
    simp only [Option.map_eq_map, Option.map_some, Option.some.injEq] at hi
    subst hi
    split
    · exact hf _ _ g2
    · exact g2
theorem EsR.push {N : Nat → Prop} {ρ : Ren} {es es' : List MapEntry} (h : EsR N ρ es es') {e e' : MapEntry} (he : ER N ρ e e') : EsR N ρ (es ++ [e]) (es' ++ [e']) := by
  refine ⟨by simp [h.len], fun i x hi => ?_⟩
  by_cases hlt : i < es.length
  · rw [List.getElem?_append_left hlt] at hi
    obtain ⟨x', g1, g2⟩ := h.at_ i x hi
    exact ⟨x', by rw [List.getElem?_append_left (by rw [h.len]; exact hlt)]; exact g1, g2⟩
  · have hie : i = es.length := by
      have := (List.getElem?_eq_some_iff.1 hi).1
      simp at this; omega
    subst hie
    rw [List.getElem?_append_right (Nat.le_refl _)] at hi
    simp at hi
    subst hi
    exact ⟨e', by rw [List.getElem?_append_right (by rw [h.len]; exact Nat.le_refl _), h.len]; simp, he⟩
theorem EsR.erase {N : Nat → Prop} {ρ : Ren} {es es' : List MapEntry} (h : EsR N ρ es es') (j : Nat) : EsR N ρ (es.eraseIdx j) (es'.eraseIdx j) := by
  refine ⟨by simp [List.length_eraseIdx, h.len], fun i x hi => ?_⟩
  rw [List.getElem?_eraseIdx] at hi ⊢
  split at hi
  · rename_i hlt; exact (h.at_ i x hi).imp fun x' hx => ⟨by rw [if_pos hlt]; exact hx.1, hx.2⟩
  · rename_i hlt; exact (h.at_ (i + 1) x hi).imp fun x' hx => ⟨by rw [if_neg hlt]; exact hx.1, hx.2⟩

/-- the key that stays, where it is the same -/
def staysOk (P : Program) (old new : Value) : Bool := shut old && shut new && (match pureRun P (Instr.keyThatStays old new) with
  | some _ => true
  | none => false)
def aMapUpdate (P : Program) (t : TypeId) (m k v : Value) : AM Unit :=
  match P.underlying t, m with
  | some (.map kt _), .map (some r) => (AM.look r).bind fun
    | .map es cl => (match keyIdx P kt k (es.map (·.key)) with
      | some (some j) => (match es[j]? with
        | some e => (match pureRun P (Instr.keyThatStays e.key k) with
          | some k2 => if shut k2 && shut e.key then aSetMap r (es.modify j fun e => { e with key := k2, val := v }) cl else .fail
          | none => .fail)
        | none => .fail)
      | some none => aSetMap r (es ++ [{ key := k, val := v, born := cl }]) (cl + 1)
      | none => .fail)
    | _ => .fail
  | _, _ => .fail
theorem aMapUpdate_sound {P : Program} {N : Nat → Prop} {ρ : Ren} {t : TypeId} {m m' k k' v v' : Value} (hm : VR N ρ m m') (hk : VR N ρ k k') (hv : VR N ρ v v') : Sim P N ρ (aMapUpdate P t m k v) (Instr.mapUpdate t m' k' v') (fun _ _ _ _ => True) := by
  intro h x h' he D w hcov hwf hN hr
  unfold aMapUpdate at he
  split at he
  case h_2 => cases he
  case h_1 kt et r hu =>
    have hm' : m' = .map (some (ρ.φ r)) := by rw [← hm.eq]; simp [ren]
    subst hm'
    obtain ⟨ob, h1, e1, e2⟩ := AM.bind_some he
    have m1 := (AM.look r).mono _ _ _ e1
    have m2 := AM.mono _ _ _ _ e2
    cases ob with
    | row => cases e2
    | iter => cases e2
    | map es cl =>
      obtain ⟨es', p1, p2, p3, p4, p5, p6, p7, p8⟩ := look_map e1 (hcov.of m2) hr
      have hobj : (getObj (ρ.φ r)).run P w = .ok (.map es' cl) w := by simp [getObj, Sem.run, p1]
      dsimp only at e2
      split at e2
      case h_3 => cases e2
      case h_1 j hj =>
        split at e2
        case h_2 => cases e2
        case h_1 e hej =>
          split at e2
          case h_2 => cases e2
          case h_1 k2 hst =>
            split at e2
            case isFalse => cases e2
            case isTrue hsh =>
              rw [Bool.and_eq_true] at hsh
              obtain ⟨q1, q2, q3⟩ := keyIdx_run hj p2 w
              have hk' : k' = k := by rw [← hk.eq]; exact ren_shut _ q1
              subst hk'
              obtain ⟨e', r1, r2⟩ := p2.at_ j e hej
              have hek : e'.key = e.key := by rw [← r2.key.eq]; exact ren_shut _ hsh.2
              obtain ⟨w', s1, s2, s3, s4⟩ := aSetMap_run (P := P) (es' := es'.modify j fun e => { e with key := k2, val := v' }) e2 (m1.wf hwf) p7 p6 p1 (by
                rw [Array.toList_modify]
                exact p2.modify j (fun a b hab => ⟨VR.shut hsh.1, hv, hab.born⟩))
              have hG : Grow N h.next h'.next = N := by rw [s4, p4]; exact Grow.eq_self _ _
              refine ⟨ρ, (), w', ?_, p5.trans s2 m1 m2, by rw [hG]; exact s3, trivial⟩
              have hst' := pureRun_run _ hst w
              have r1' : es'[j]? = some e' := by simpa using r1
              unfold Instr.mapUpdate
              simp only [Sem.run_bind, run_underlying hu w, Result.andThen_ok, hobj, q2 false (.inr rfl), q3, Option.bind_some, entryAt, r1, Option.map_some, Nat.zero_add, r1', Option.getD_some, hek, hst', s1]
      case h_2 hj =>
        obtain ⟨q1, q2, q3⟩ := keyIdx_run hj p2 w
        have hk' : k' = k := by rw [← hk.eq]; exact ren_shut _ q1
        subst hk'
        obtain ⟨w', s1, s2, s3, s4⟩ := aSetMap_run (P := P) (es' := es'.push { key := k', val := v', born := cl }) e2 (m1.wf hwf) p7 p6 p1 (by
          rw [Array.toList_push]
          exact p2.push ⟨VR.shut q1, hv, rfl⟩)
        have hG : Grow N h.next h'.next = N := by rw [s4, p4]; exact Grow.eq_self _ _
        refine ⟨ρ, (), w', ?_, p5.trans s2 m1 m2, by rw [hG]; exact s3, trivial⟩
        unfold Instr.mapUpdate
        simp only [Sem.run_bind, run_underlying hu w, Result.andThen_ok, hobj, q2 false (.inr rfl), q3, Option.bind_none, s1]
def aMapEntry (P : Program) (t : TypeId) (m k : Value) : AM Value :=
  match P.underlying t, m with
  | some (.map kt et), .map (some r) => (AM.look r).bind fun
    | .map es cl => (match keyIdx P kt k (es.map (·.key)) with
      | some (some j) => (match es[j]? with
        | some e => (match pureRun P (Instr.keyThatStays e.key k) with
          | some k2 => if shut k2 && shut e.key then (aSetMap r (es.modify j fun e => { e with key := k2 }) cl).bind fun _ => .pure (.tuple #[e.val, .int .i64 e.born]) else .fail
          | none => .fail)
        | none => .fail)
      | some none => (match zeroVal P et with
        | some z => (aSetMap r (es ++ [{ key := k, val := z, born := cl }]) (cl + 1)).bind fun _ => .pure (.tuple #[z, .int .i64 cl])
        | none => .fail)
      | none => .fail)
    | _ => .fail
  | _, _ => .fail
theorem VR_pair {N : Nat → Prop} {ρ : Ren} {v v' u : Value} (h : VR N ρ v v') (hu : shut u = true) : VR N ρ (.tuple #[v, u]) (.tuple #[v', u]) := fun r hr => by simp [ren, h r hr, ren_shut r hu]
theorem aMapEntry_sound {P : Program} {N : Nat → Prop} {ρ : Ren} {t : TypeId} {m m' k k' : Value} (hm : VR N ρ m m') (hk : VR N ρ k k') : Sim P N ρ (aMapEntry P t m k) (Instr.mapEntry t m' k') VRel := by
  intro h x h' he D w hcov hwf hN hr
  unfold aMapEntry at he
  split at he
  case h_2 => cases he
  case h_1 kt et r hu =>
    have hm' : m' = .map (some (ρ.φ r)) := by rw [← hm.eq]; simp [ren]
    subst hm'
    obtain ⟨ob, h1, e1, e2⟩ := AM.bind_some he
    have m1 := (AM.look r).mono _ _ _ e1
    have m2 := AM.mono _ _ _ _ e2
    cases ob with
    | row => cases e2
    | iter => cases e2
    | map es cl =>
      obtain ⟨es', p1, p2, p3, p4, p5, p6, p7, p8⟩ := look_map e1 (hcov.of m2) hr
      have hobj : (getObj (ρ.φ r)).run P w = .ok (.map es' cl) w := by simp [getObj, Sem.run, p1]
      dsimp only at e2
      split at e2
      case h_3 => cases e2
      case h_1 j hj =>
        split at e2
        case h_2 => cases e2
        case h_1 e hej =>
          split at e2
          case h_2 => cases e2
          case h_1 k2 hst =>
            split at e2
            case isFalse => cases e2
            case isTrue hsh =>
              rw [Bool.and_eq_true] at hsh
              obtain ⟨u, h2, e3, e4⟩ := AM.bind_some e2
              obtain ⟨rfl, rfl⟩ := AM.pure_some e4
              obtain ⟨q1, q2, q3⟩ := keyIdx_run hj p2 w
              have hk' : k' = k := by rw [← hk.eq]; exact ren_shut _ q1
              subst hk'
              obtain ⟨e', r1, r2⟩ := p2.at_ j e hej
              have hek : e'.key = e.key := by rw [← r2.key.eq]; exact ren_shut _ hsh.2
              obtain ⟨w', s1, s2, s3, s4⟩ := aSetMap_run (P := P) (es' := es'.modify j fun e => { e with key := k2 }) e3 (m1.wf hwf) p7 p6 p1 (by
                rw [Array.toList_modify]
                exact p2.modify j (fun a b hab => ⟨VR.shut hsh.1, hab.val, hab.born⟩))
              have hG : Grow N h.next h'.next = N := by rw [s4, p4]; exact Grow.eq_self _ _
              refine ⟨ρ, .tuple #[e'.val, .int .i64 e.born], w', ?_, p5.trans s2 m1 m2, by rw [hG]; exact s3, by rw [hG]; exact VR_pair r2.val rfl⟩
              have hst' := pureRun_run _ hst w
              have r1' : es'[j]? = some e' := by simpa using r1
              unfold Instr.mapEntry
              simp only [Sem.run_bind, run_underlying hu w, Result.andThen_ok, hobj, q2 false (.inr rfl), q3, Option.bind_some, entryAt, r1, Option.map_some, Nat.zero_add, r1', Option.getD_some, hek, hst', s1, r2.born, goInt, Sem.run_pure]
      case h_2 hj =>
        split at e2
        case h_2 => cases e2
        case h_1 z hz =>
          obtain ⟨z1, z2⟩ := zeroVal_run hz w
          obtain ⟨u, h2, e3, e4⟩ := AM.bind_some e2
          obtain ⟨rfl, rfl⟩ := AM.pure_some e4
          obtain ⟨q1, q2, q3⟩ := keyIdx_run hj p2 w
          have hk' : k' = k := by rw [← hk.eq]; exact ren_shut _ q1
          subst hk'
          obtain ⟨w', s1, s2, s3, s4⟩ := aSetMap_run (P := P) (es' := es'.push { key := k', val := z, born := cl }) e3 (m1.wf hwf) p7 p6 p1 (by
            rw [Array.toList_push]
            exact p2.push ⟨VR.shut q1, VR.shut z2, rfl⟩)
          have hG : Grow N h.next h'.next = N := by rw [s4, p4]; exact Grow.eq_self _ _
          refine ⟨ρ, .tuple #[z, .int .i64 cl], w', ?_, p5.trans s2 m1 m2, by rw [hG]; exact s3, VR_pair (VR.shut z2) rfl⟩
          unfold Instr.mapEntry
          simp only [Sem.run_bind, run_underlying hu w, Result.andThen_ok, hobj, q2 false (.inr rfl), q3, Option.bind_none, z1, s1, goInt, Sem.run_pure]
def bornIdx (es : List MapEntry) (b : Int) : Option Nat := es.findIdx? fun e => (e.born : Int) == b
def aEntryStore (m s v : Value) : AM Unit :=
  match m, s with
  | .map (some r), .int _ b => (AM.look r).bind fun
    | .map es cl => (match bornIdx es b with
      | some j => aSetMap r (es.modify j fun e => { e with val := v }) cl
      | none => .fail)
    | _ => .fail
  | _, _ => .fail
theorem EsR.born {N : Nat → Prop} {ρ : Ren} (b : Int) : ∀ {es es' : List MapEntry}, EsR N ρ es es' → bornIdx es' b = bornIdx es b
  | [], [], _ => rfl
  | [], _ :: _, h => by have := h.len; simp at this
  | _ :: _, [], h => by have := h.len; simp at this
  | e :: r, e' :: r', h => by
    obtain ⟨x, hx, hR⟩ := h.at_ 0 e rfl
    simp at hx; subst hx
    have ht : EsR N ρ r r' := ⟨by have := h.len; simp at this; exact this, fun i e hi => h.at_ (i + 1) e hi⟩
    have := ht.born b
    unfold bornIdx at this ⊢
    simp only [List.findIdx?_cons, hR.born, this]
theorem aEntryStore_sound {P : Program} {N : Nat → Prop} {ρ : Ren} {t : TypeId} {m m' s s' v v' : Value} (hm : VR N ρ m m') (hs : VR N ρ s s') (hv : VR N ρ v v') : Sim P N ρ (aEntryStore m s v) (Instr.entryStore t m' s' v') (fun _ _ _ _ => True) := by
  intro h x h' he D w hcov hwf hN hr
  unfold aEntryStore at he
  split at he
  case h_2 => cases he
  case h_1 r k b =>
    have hm' : m' = .map (some (ρ.φ r)) := by rw [← hm.eq]; simp [ren]
    have hs' : s' = .int k b := by rw [← hs.eq]; simp [ren]
    subst hm'; subst hs'
    obtain ⟨ob, h1, e1, e2⟩ := AM.bind_some he
    have m1 := (AM.look r).mono _ _ _ e1
    have m2 := AM.mono _ _ _ _ e2
    cases ob with
    | row => cases e2
    | iter => cases e2
    | map es cl =>
      obtain ⟨es', p1, p2, p3, p4, p5, p6, p7, p8⟩ := look_map e1 (hcov.of m2) hr
      have hobj : (getObj (ρ.φ r)).run P w = .ok (.map es' cl) w := by simp [getObj, Sem.run, p1]
      dsimp only at e2
      cases hj : bornIdx es b with
      | none => rw [hj] at e2; cases e2
      | some j =>
        rw [hj] at e2
        obtain ⟨w', s1, s2, s3, s4⟩ := aSetMap_run (P := P) (es' := es'.modify j fun e => { e with val := v' }) e2 (m1.wf hwf) p7 p6 p1 (by
          rw [Array.toList_modify]
          exact p2.modify j (fun a b hab => ⟨hab.key, hv, hab.born⟩))
        have hG : Grow N h.next h'.next = N := by rw [s4, p4]; exact Grow.eq_self _ _
        refine ⟨ρ, (), w', ?_, p5.trans s2 m1 m2, by rw [hG]; exact s3, trivial⟩
        have hj' : es'.findIdx? (fun e => (e.born : Int) == b) = some j := by
          have := p2.born b
          rw [hj] at this
          unfold bornIdx at this
          have e0 : es' = es'.toList.toArray := by simp
          rw [e0, List.findIdx?_toArray]; exact this
        unfold Instr.entryStore
        simp only [Sem.run_bind, Result.andThen_ok, hobj, asInt, asIntOf, Sem.run_pure, hj', s1]
def aDelete (P : Program) (t : TypeId) (m k : Value) : AM Value :=
  match P.underlying t, m with
  | some (.map kt _), .map none => if okKey P kt k true && shut k then .pure (.tuple #[]) else .fail
  | some (.map kt _), .map (some r) => (AM.look r).bind fun
    | .map es cl => (match keyIdx P kt k (es.map (·.key)) with
      | some (some j) => (match es[j]? with
        | some _ => (aSetMap r (es.eraseIdx j) cl).bind fun _ => .pure (.tuple #[])
        | none => .fail)
      | some none => (aSetMap r es cl).bind fun _ => .pure (.tuple #[])
      | none => .fail)
    | _ => .fail
  | _, _ => .fail
theorem aDelete_sound {P : Program} {N : Nat → Prop} {ρ : Ren} {t t2 ty : TypeId} {m m' k k' : Value} (hm : VR N ρ m m') (hk : VR N ρ k k') : Sim P N ρ (aDelete P t m k) (Builtin.delete_ #[t, t2] ty #[m', k']) VRel := by
  intro h x h' he D w hcov hwf hN hr
  unfold aDelete at he
  split at he
  case h_3 => cases he
  case h_1 kt et hu =>
    have hm' : m' = .map none := by rw [← hm.eq]; simp [ren]
    subst hm'
    split at he
    case isFalse => cases he
    case isTrue hc =>
      rw [Bool.and_eq_true] at hc
      obtain ⟨rfl, rfl⟩ := AM.pure_some he
      have hk' : k' = k := by rw [← hk.eq]; exact ren_shut _ hc.2
      subst hk'
      refine ⟨ρ, .tuple #[], w, ?_, Step.refl _ _ _ _, by rw [Grow.eq_self]; exact hr, VR.shut rfl⟩
      simp [Builtin.delete_, run_underlying hu w, okKey_run hc.1 w]
  case h_2 kt et r hu =>
    have hm' : m' = .map (some (ρ.φ r)) := by rw [← hm.eq]; simp [ren]
    subst hm'
    obtain ⟨ob, h1, e1, e2⟩ := AM.bind_some he
    have m1 := (AM.look r).mono _ _ _ e1
    have m2 := AM.mono _ _ _ _ e2
    cases ob with
    | row => cases e2
    | iter => cases e2
    | map es cl =>
      obtain ⟨es', p1, p2, p3, p4, p5, p6, p7, p8⟩ := look_map e1 (hcov.of m2) hr
      have hobj : (getObj (ρ.φ r)).run P w = .ok (.map es' cl) w := by simp [getObj, Sem.run, p1]
      have hemp : es'.isEmpty = es'.toList.isEmpty := by simp
      dsimp only at e2
      split at e2
      case h_3 => cases e2
      case h_1 j hj =>
        split at e2
        case h_2 => cases e2
        case h_1 e hej =>
          obtain ⟨u, h2, e3, e4⟩ := AM.bind_some e2
          obtain ⟨rfl, rfl⟩ := AM.pure_some e4
          obtain ⟨q1, q2, q3⟩ := keyIdx_run hj p2 w
          have hk' : k' = k := by rw [← hk.eq]; exact ren_shut _ q1
          subst hk'
          obtain ⟨e', r1, r2⟩ := p2.at_ j e hej
          obtain ⟨w', s1, s2, s3, s4⟩ := aSetMap_run (P := P) (es' := es'.eraseIdxIfInBounds j) e3 (m1.wf hwf) p7 p6 p1 (by
            rw [Array.toList_eraseIdxIfInBounds]
            exact p2.erase j)
          have hG : Grow N h.next h'.next = N := by rw [s4, p4]; exact Grow.eq_self _ _
          refine ⟨ρ, .tuple #[], w', ?_, p5.trans s2 m1 m2, by rw [hG]; exact s3, VR.shut rfl⟩
          have h0 : (#[t, t2] : Array TypeId)[0]? = some t := rfl
          have h1' : (#[Value.map (some (ρ.φ r)), k'] : Array Value)[0]? = some (.map (some (ρ.φ r))) := rfl
          have h2' : (#[Value.map (some (ρ.φ r)), k'] : Array Value)[1]? = some k' := rfl
          unfold Builtin.delete_
          simp only [h0, h1', h2', Sem.run_bind, run_underlying hu w, Result.andThen_ok, hobj, q2 es'.isEmpty (.inl hemp), q3, Option.bind_some, entryAt, r1, Option.map_some, Nat.zero_add, s1, Sem.run_pure]
      case h_2 hj =>
        obtain ⟨u, h2, e3, e4⟩ := AM.bind_some e2
        obtain ⟨rfl, rfl⟩ := AM.pure_some e4
        obtain ⟨q1, q2, q3⟩ := keyIdx_run hj p2 w
        have hk' : k' = k := by rw [← hk.eq]; exact ren_shut _ q1
        subst hk'
        obtain ⟨w', s1, s2, s3, s4⟩ := aSetMap_run (P := P) (es' := es') e3 (m1.wf hwf) p7 p6 p1 p2
        have hG : Grow N h.next h'.next = N := by rw [s4, p4]; exact Grow.eq_self _ _
        refine ⟨ρ, .tuple #[], w', ?_, p5.trans s2 m1 m2, by rw [hG]; exact s3, VR.shut rfl⟩
        have h0 : (#[t, t2] : Array TypeId)[0]? = some t := rfl
        have h1' : (#[Value.map (some (ρ.φ r)), k'] : Array Value)[0]? = some (.map (some (ρ.φ r))) := rfl
        have h2' : (#[Value.map (some (ρ.φ r)), k'] : Array Value)[1]? = some k' := rfl
        unfold Builtin.delete_
        simp only [h0, h1', h2', Sem.run_bind, run_underlying hu w, Result.andThen_ok, hobj, q2 es'.isEmpty (.inl hemp), q3, Option.bind_none, s1, Sem.run_pure]
def aMakeMap (P : Program) (t : TypeId) (res : Option Value) : AM Value :=
  match res with
  | none => (AM.new (.map [] 0)).bind fun n => .pure (.map (some n))
  | some v => (match P.underlying t, v with
    | some (.map _ _), .int _ _ => (AM.new (.map [] 0)).bind fun n => .pure (.map (some n))
    | _, _ => .fail)
theorem newMap_sound {P : Program} {N : Nat → Prop} {ρ : Ren} : Sim P N ρ ((AM.new (.map [] 0)).bind fun n => .pure (.map (some n))) (do pure (Value.map (some (← newObj (.map #[] 0))))) VRel := by
  intro h x h' he D w hcov hwf hN hr
  obtain ⟨n, h1, e1, e2⟩ := AM.bind_some he
  obtain ⟨rfl, hl, rfl⟩ := AM.new_some e1
  obtain ⟨rfl, rfl⟩ := AM.pure_some e2
  have hNn : ¬ N h.next := hN h.next ⟨Nat.le_refl _, Nat.lt_succ_self _⟩
  have hst := new_step (D := D) (w' := { w with heap := w.heap.push (.map #[] 0) }) (o := .map [] 0) hl hwf hNn hr w.heap.size 0 (Nat.le_refl _)
    ⟨#[], by rw [Ren.at_φ]; simp, rfl, fun i e hi => by simp at hi⟩ rfl rfl rfl (by simp) (fun i hi => by
      show (w.heap.push _)[i]? = _
      rw [Array.getElem?_push, if_neg (by omega)])
  exact ⟨_, _, _, rfl, hst.1, hst.2, VR_map⟩
theorem aMakeMap_sound {P : Program} {N : Nat → Prop} {ρ : Ren} {t : TypeId} {res res' : Option Value} (h : res' = res.map (ren ρ)) : Sim P N ρ (aMakeMap P t res) (Instr.makeMap t res') VRel := by
  cases res with
  | none =>
    subst h
    intro h0 x h' he D w hcov hwf hN hr
    obtain ⟨ρ', y, w', q1, q2⟩ := newMap_sound (P := P) h0 x h' he D w hcov hwf hN hr
    exact ⟨ρ', y, w', by unfold Instr.makeMap; simpa using q1, q2⟩
  | some v =>
    unfold aMakeMap
    dsimp only
    split
    case h_2 => exact Sim.fail
    case h_1 kt et k n hu =>
      subst h
      intro h0 x h' he D w hcov hwf hN hr
      obtain ⟨ρ', y, w', q1, q2⟩ := newMap_sound (P := P) h0 x h' he D w hcov hwf hN hr
      refine ⟨ρ', y, w', ?_, q2⟩
      unfold Instr.makeMap
      simp [run_underlying hu w, ren, asInt, asIntOf]
      simpa using q1
def aLenMap (P : Program) (t : TypeId) (m : Value) : AM Value :=
  match P.underlying t, m with
  | some (.map _ _), .map none => .pure (.int .i64 0)
  | some (.map _ _), .map (some r) => (AM.look r).bind fun
    | .map es _ => .pure (.int .i64 es.length)
    | _ => .fail
  | _, _ => .fail
theorem aLenMap_sound {P : Program} {N : Nat → Prop} {ρ : Ren} {t ty : TypeId} {m m' : Value} (hm : VR N ρ m m') : Sim P N ρ (aLenMap P t m) (Builtin.len_ #[t] ty #[m']) VRel := by
  intro h x h' he D w hcov hwf hN hr
  unfold aLenMap at he
  split at he
  case h_3 => cases he
  case h_1 kt et hu =>
    have hm' : m' = .map none := by rw [← hm.eq]; simp [ren]
    subst hm'
    obtain ⟨rfl, rfl⟩ := AM.pure_some he
    refine ⟨ρ, .int .i64 0, w, ?_, Step.refl _ _ _ _, by rw [Grow.eq_self]; exact hr, VR.shut rfl⟩
    simp [Builtin.len_, run_underlying hu w, goInt]
  case h_2 kt et r hu =>
    have hm' : m' = .map (some (ρ.φ r)) := by rw [← hm.eq]; simp [ren]
    subst hm'
    obtain ⟨ob, h1, e1, e2⟩ := AM.bind_some he
    cases ob with
    | row => cases e2
    | iter => cases e2
    | map es cl =>
      obtain ⟨rfl, rfl⟩ := AM.pure_some e2
      obtain ⟨es', p1, p2, p3, p4, p5, p6, p7, p8⟩ := look_map e1 hcov hr
      have hobj : (getObj (ρ.φ r)).run P w = .ok (.map es' cl) w := by simp [getObj, Sem.run, p1]
      have hG : Grow N h.next h'.next = N := by rw [p4]; exact Grow.eq_self _ _
      have hlen : es'.size = es.length := by rw [← Array.length_toList]; exact p2.len
      refine ⟨ρ, .int .i64 es.length, w, ?_, p5, by rw [hG]; exact p6, VR.shut rfl⟩
      simp [Builtin.len_, run_underlying hu w, goInt, hobj, hlen]
end Go.Proofs.Ytfakfnekcgkelaa
/- An evaluator of Go code whose memory has names of its own: ranges over maps. -/
namespace Go.Proofs.Ytfakfnekcgkelaa
set_option linter.unusedVariables false
set_option linter.unusedSimpArgs false

theorem EsR.tail {N : Nat → Prop} {ρ : Ren} {e e' : MapEntry} {r r' : List MapEntry} (h : EsR N ρ (e :: r) (e' :: r')) : ER N ρ e e' ∧ EsR N ρ r r' := by
  obtain ⟨x, hx, hR⟩ := h.at_ 0 e rfl
  simp at hx; subst hx
  exact ⟨hR, ⟨by have := h.len; simp at this; exact this, fun i e hi => h.at_ (i + 1) e hi⟩⟩
theorem EsR.nil {N : Nat → Prop} {ρ : Ren} : EsR N ρ [] [] := ⟨rfl, fun i e hi => by simp at hi⟩
theorem EsR.cons {N : Nat → Prop} {ρ : Ren} {e e' : MapEntry} {r r' : List MapEntry} (h : ER N ρ e e') (k : EsR N ρ r r') : EsR N ρ (e :: r) (e' :: r') :=
  ⟨by simp [k.len], fun i x hi => by
    cases i with
    | zero => simp at hi; subst hi; exact ⟨e', rfl, h⟩
    | succ i => simpa using k.at_ i x (by simpa using hi)⟩
theorem EsR.filter {N : Nat → Prop} {ρ : Ren} (p : Nat → Bool) : ∀ {es es' : List MapEntry}, EsR N ρ es es' → EsR N ρ (es.filter fun e => p e.born) (es'.filter fun e => p e.born)
  | [], [], _ => EsR.nil
  | [], _ :: _, h => by have := h.len; simp at this
  | _ :: _, [], h => by have := h.len; simp at this
  | e :: r, e' :: r', h => by
    obtain ⟨h1, h2⟩ := h.tail
    simp only [List.filter_cons, h1.born]
    split
    · exact EsR.cons h1 (EsR.filter p h2)
    · exact EsR.filter p h2
theorem EsR.app {N : Nat → Prop} {ρ : Ren} : ∀ {es es' fs fs' : List MapEntry}, EsR N ρ es es' → EsR N ρ fs fs' → EsR N ρ (es ++ fs) (es' ++ fs')
  | [], [], _, _, _, k => k
  | [], _ :: _, _, _, h, _ => by have := h.len; simp at this
  | _ :: _, [], _, _, h, _ => by have := h.len; simp at this
  | e :: r, e' :: r', fs, fs', h, k => by
    obtain ⟨h1, h2⟩ := h.tail
    exact EsR.cons h1 (EsR.app h2 k)
theorem EsR.allB {N : Nat → Prop} {ρ : Ren} (p : Nat → Bool) : ∀ {es es' : List MapEntry}, EsR N ρ es es' → (es'.all fun e => p e.born) = (es.all fun e => p e.born)
  | [], [], _ => rfl
  | [], _ :: _, h => by have := h.len; simp at this
  | _ :: _, [], h => by have := h.len; simp at this
  | e :: r, e' :: r', h => by
    obtain ⟨h1, h2⟩ := h.tail
    simp only [List.all_cons, h1.born, EsR.allB p h2]
theorem EsR.emptyB {N : Nat → Prop} {ρ : Ren} : ∀ {es es' : List MapEntry}, EsR N ρ es es' → es'.isEmpty = es.isEmpty
  | [], [], _ => rfl
  | [], _ :: _, h => by have := h.len; simp at this
  | _ :: _, [], h => by have := h.len; simp at this
  | _ :: _, _ :: _, _ => rfl

def aRange (P : Program) (t : TypeId) (x : Value) : AM Value :=
  match P.underlying t, x with
  | some (.map _ _), .map none => (AM.new (.iter none 0 [] 0)).bind fun n => .pure (.pointer (some ⟨n, 0, none⟩))
  | some (.map _ _), .map (some r) => (AM.look r).bind fun
    | .map _ cl => (AM.new (.iter (some r) cl [] cl)).bind fun n => .pure (.pointer (some ⟨n, 0, none⟩))
    | _ => .fail
  | _, _ => .fail
theorem newIter_step {P : Program} {D N : Nat → Prop} {h : AH} {ρ : Ren} {w : World} (m : Option Nat) (since st : Nat) (hl : h.next < 4611686018427387904) (hwf : WF h) (hN : ¬ N h.next) (hm : ∀ r, m = some r → N r) (hr : Rel D N ρ h.get w) :
    ∃ ρ' w', (newObj (.mapIter (m.map ρ.φ) since #[] st)).run P w = .ok w.heap.size w' ∧ Step D h ρ w { h with m := h.m.set 64 h.next (some (.iter m since [] st)), next := h.next + 1 } ρ' w' ∧
      Rel D (Grow N h.next (h.next + 1)) ρ' ({ h with m := h.m.set 64 h.next (some (.iter m since [] st)), next := h.next + 1 } : AH).get w' ∧ VR (Grow N h.next (h.next + 1)) ρ' (.pointer (some ⟨h.next, 0, none⟩)) (.pointer (some ⟨w.heap.size, 0, none⟩)) := by
  have hag : Agree N ρ (ρ.at h.next w.heap.size 0) := Ren.at_agree ρ hN
  have hst := new_step (D := D) (w' := { w with heap := w.heap.push (.mapIter (m.map ρ.φ) since #[] st) }) (o := .iter m since [] st) hl hwf hN hr w.heap.size 0 (Nat.le_refl _)
    ⟨m.map ρ.φ, by rw [Ren.at_φ]; simp, fun r hr2 => by
      cases m with
      | none => rfl
      | some k =>
        have hk := hm k rfl
        simp only [Option.map_some]
        rw [hr2.φ k (.inl hk), hag.φ k hk]⟩ rfl rfl rfl (by simp) (fun i hi => by
      show (w.heap.push _)[i]? = _
      rw [Array.getElem?_push, if_neg (by omega)])
  refine ⟨_, _, rfl, hst.1, hst.2, fun r hr2 => ?_⟩
  simp only [ren, renA]
  rw [hr2.φ h.next (.inr ⟨Nat.le_refl _, Nat.lt_succ_self _⟩), Ren.at_φ]
theorem aRange_sound {P : Program} {N : Nat → Prop} {ρ : Ren} {t : TypeId} {x x' : Value} (hx : VR N ρ x x') : Sim P N ρ (aRange P t x) (Instr.range t x') VRel := by
  intro h v h' he D w hcov hwf hN hr
  unfold aRange at he
  split at he
  case h_3 => cases he
  case h_1 kt et hu =>
    have hx' : x' = .map none := by rw [← hx.eq]; simp [ren]
    subst hx'
    obtain ⟨n, h1, e1, e2⟩ := AM.bind_some he
    obtain ⟨rfl, hl, rfl⟩ := AM.new_some e1
    obtain ⟨rfl, rfl⟩ := AM.pure_some e2
    obtain ⟨ρ', w', q1, q2, q3, q4⟩ := newIter_step (P := P) none 0 0 hl hwf (hN h.next ⟨Nat.le_refl _, Nat.lt_succ_self _⟩) (fun r e => by cases e) hr
    refine ⟨ρ', _, w', ?_, q2, q3, q4⟩
    unfold Instr.range
    simp only [Sem.run_bind, run_underlying hu w, Result.andThen_ok, Sem.run_pure]
    simp only [Option.map_none] at q1
    simp only [q1, Result.andThen_ok]
  case h_2 kt et r hu =>
    have hx' : x' = .map (some (ρ.φ r)) := by rw [← hx.eq]; simp [ren]
    subst hx'
    obtain ⟨ob, h1, e1, e2⟩ := AM.bind_some he
    have m1 := (AM.look r).mono _ _ _ e1
    have m2 := AM.mono _ _ _ _ e2
    cases ob with
    | row => cases e2
    | iter => cases e2
    | map es cl =>
      dsimp only at e2
      obtain ⟨n, h2, e3, e4⟩ := AM.bind_some e2
      obtain ⟨rfl, hl, rfl⟩ := AM.new_some e3
      obtain ⟨rfl, rfl⟩ := AM.pure_some e4
      have cov1 : Cov D h1 := hcov.of m2
      obtain ⟨es', p1, p2, p3, p4, p5, p6, p7, p8⟩ := look_map e1 cov1 hr
      have hnr : N r := hr.known r p7 (by rw [p8]; rfl)
      have hobj : (getObj (ρ.φ r)).run P w = .ok (.map es' cl) w := by simp [getObj, Sem.run, p1]
      have hNn : ¬ N h1.next := by rw [p4]; exact hN h.next ⟨Nat.le_refl _, by show h.next < h1.next + 1; omega⟩
      obtain ⟨ρ', w', q1, q2, q3, q4⟩ := newIter_step (P := P) (some r) cl cl hl (m1.wf hwf) hNn (fun k e => by injection e with e; subst e; exact hnr) p6
      refine ⟨ρ', .pointer (some ⟨w.heap.size, 0, none⟩), w', ?_, p5.trans q2 m1 m2, ?_, ?_⟩
      · unfold Instr.range
        simp only [Sem.run_bind, run_underlying hu w, Result.andThen_ok, Sem.run_pure, hobj]
        simp only [Option.map_some] at q1
        simp only [q1, Result.andThen_ok]
      · rw [← p4]; exact q3
      · rw [← p4]; exact q4

def olds (es : List MapEntry) (since : Nat) (seen : List Nat) : List MapEntry := (es.filter fun e => !seen.contains e.born).filter fun e => decide (e.born < since)
def news (es : List MapEntry) (since : Nat) (seen : List Nat) : List MapEntry := (es.filter fun e => !seen.contains e.born).filter fun e => decide (e.born ≥ since)
def candHd (es : List MapEntry) (since : Nat) (seen : List Nat) : List (Option MapEntry) := if (olds es since seen).isEmpty then [none] else []
def cands (es : List MapEntry) (since : Nat) (seen : List Nat) : List (Option MapEntry) := candHd es since seen ++ (olds es since seen ++ news es since seen).map some
/-- the next entry: candidate c of at most k -/
def aNext (c k : Nat) (it : Value) : AM Value :=
  match it with
  | .pointer (some ⟨r, 0, none⟩) => (AM.look r).bind fun
    | .iter none _ _ _ => .pure (.tuple #[.bool false])
    | .iter (some m) since seen last => (AM.look m).bind fun
      | .map es cl => if !seen.isEmpty && !es.isEmpty && es.all (fun e => decide (e.born ≥ last)) then .fail else
        if (cands es since seen).length ≤ k then (match (cands es since seen)[min c ((cands es since seen).length - 1)]? with
          | some (some e) => if r < 4611686018427387904 then (AM.put r (some (.iter (some m) since (seen ++ [e.born]) cl))).bind fun _ => .pure (.tuple #[.bool true, e.key, e.val]) else .fail
          | some none => .pure (.tuple #[.bool false])
          | none => .fail)
        else .fail
      | _ => .fail
    | _ => .fail
  | _ => .fail
theorem choose_run {P : Program} {n : Nat} (hn : 1 ≤ n) (w : World) : ∃ i w', i < n ∧ (choose (.mapNext n)).run P w = .ok i w' ∧ w'.heap = w.heap ∧ w'.os = w.os ∧ w'.tape = w.tape ∧ w'.output = w.output := by
  unfold choose
  simp only [Sem.run]
  by_cases h : Question.forced (.mapNext n) = true
  · exact ⟨0, w, hn, by rw [if_pos h], rfl, rfl, rfl, rfl⟩
  · refine ⟨_, { w with drawn := w.drawn + 1 }, ?_, by rw [if_neg h], rfl, rfl, rfl, rfl⟩
    show w.tape w.drawn (.mapNext n) % n < n
    exact Nat.mod_lt _ hn
/-- a step in which a draw was had -/
theorem Rel.heap {D N : Nat → Prop} {ρ : Ren} {h : Nat → Option AObj} {w w' : World} (hr : Rel D N ρ h w) (e : w'.heap = w.heap) : Rel D N ρ h w' :=
  ⟨hr.inj, fun n o hD ho => (hr.holds n o hD ho).mono (Agree.refl _ _) (fun _ h => h) (hr.known n hD (by rw [ho]; rfl)) (by rw [e]), hr.known, hr.sym, hr.glob⟩
theorem Step.heap {D : Nat → Prop} {h h' : AH} {ρ ρ' : Ren} {w w1 w' : World} (hs : Step D h ρ w h' ρ' w1) (e : w'.heap = w1.heap) (e1 : w'.os = w1.os) (e2 : w'.tape = w1.tape) (e3 : w'.output = w1.output) : Step D h ρ w h' ρ' w' :=
  ⟨hs.agree, hs.fresh, e1.trans hs.os, e2.trans hs.tape, e3.trans hs.output, by rw [e]; exact hs.size, fun k hk hn => by rw [e]; exact hs.frame k hk hn⟩
theorem candsA {N : Nat → Prop} {ρ : Ren} {es : List MapEntry} {es' : Array MapEntry} (h : EsR N ρ es es'.toList) (since : Nat) (seen : List Nat) :
    ∃ fs' : List MapEntry, ((let left : Array MapEntry := es'.filter fun e => !seen.toArray.contains e.born
      let old : Array MapEntry := left.filter (·.born < since)
      let new : Array MapEntry := left.filter (·.born ≥ since)
      (if old.isEmpty then #[none] else #[]) ++ (old ++ new).map some) : Array (Option MapEntry)).toList = candHd es since seen ++ fs'.map some ∧
      EsR N ρ (olds es since seen ++ news es since seen) fs' := by
  have hl := h.filter (fun b => !seen.contains b)
  have ho := hl.filter (fun b => decide (b < since))
  have hn := hl.filter (fun b => decide (b ≥ since))
  refine ⟨_, ?_, ho.app hn⟩
  have hemp := ho.emptyB
  have e1 : (Array.filter (fun e => decide (e.born < since)) (Array.filter (fun e => !seen.toArray.contains e.born) es')).isEmpty = (olds es since seen).isEmpty := by
    unfold olds
    rw [← hemp, ← Array.isEmpty_toList]
    simp
  unfold candHd
  simp only [e1]
  split <;> simp
theorem candsAt {N : Nat → Prop} {ρ : Ren} {es : List MapEntry} {fs' : List MapEntry} {since : Nat} {seen : List Nat} (hc : EsR N ρ (olds es since seen ++ news es since seen) fs') :
    (candHd es since seen ++ fs'.map some).length = (cands es since seen).length ∧ ∀ i, i < (cands es since seen).length → ∃ o o', (cands es since seen)[i]? = some o ∧ (candHd es since seen ++ fs'.map some)[i]? = some o' ∧
      (match o, o' with
       | none, none => True
       | some e, some e' => ER N ρ e e'
       | _, _ => False) := by
  unfold cands
  refine ⟨by simp [hc.len], fun i hi => ?_⟩
  by_cases h : i < (candHd es since seen).length
  · rw [List.getElem?_append_left h, List.getElem?_append_left h]
    unfold candHd at h ⊢
    split at h
    · rename_i he
      rw [if_pos he]
      obtain rfl : i = 0 := by simp at h; omega
      exact ⟨none, none, rfl, rfl, trivial⟩
    · simp at h
  · rw [List.getElem?_append_right (by omega), List.getElem?_append_right (by omega)]
    have hj : i - (candHd es since seen).length < (olds es since seen ++ news es since seen).length := by
      simp only [List.length_append, List.length_map] at hi ⊢; omega
    obtain ⟨e', q1, q2⟩ := hc.at_ _ _ (List.getElem?_eq_getElem hj)
    exact ⟨_, _, by rw [List.getElem?_map, List.getElem?_eq_getElem hj]; rfl, by rw [List.getElem?_map, q1]; rfl, q2⟩
def nextTail (r m since : Nat) (seen : Array Nat) (cl : Nat) : Option MapEntry → Sem Value
  | some e' => do
    setObj r (.mapIter (some m) since (seen.push e'.born) cl)
    pure (.tuple #[.bool true, e'.key, e'.val])
  | none => pure (.tuple #[.bool false])
theorem aNext_run {P : Program} {N : Nat → Prop} {ρ : Ren} {ty : TypeId} {it it' : Value} (hv : VR N ρ it it') {k : Nat} (hk : 1 ≤ k) {h : AH} {xs : Nat → Value} {hs : Nat → AH} (hall : ∀ c, c < k → (aNext c k it).run h = some (xs c, hs c))
    {D : Nat → Prop} {w : World} (hcov : ∀ c, c < k → Cov D (hs c)) (hwf : WF h) (hr : Rel D N ρ h.get w) :
    ∃ c, c < k ∧ ∃ y w', (Instr.next it' false ty).run P w = .ok y w' ∧ Step D h ρ w (hs c) ρ w' ∧ Rel D N ρ (hs c).get w' ∧ VR N ρ (xs c) y ∧ (hs c).next = h.next := by
  have h0 := hall 0 hk
  unfold aNext at h0
  split at h0
  case h_2 => cases h0
  case h_1 r =>
    have hit' : it' = .pointer (some ⟨ρ.φ r, 0, none⟩) := by rw [← hv.eq]; simp [ren, renA]
    subst hit'
    obtain ⟨ob, h1, e1, e2⟩ := AM.bind_some h0
    have m2 := AM.mono _ _ _ _ e2
    have cov1 : Cov D h1 := (hcov 0 hk).of m2
    have e1' := e1
    obtain ⟨g1, rfl⟩ := AM.look_some e1
    have hls := look_step (n := r) hr
    rw [Grow.eq_self] at hls
    cases ob with
    | row => cases e2
    | map => cases e2
    | iter m since seen last =>
      obtain ⟨m', i1, i2⟩ := hr.holds r _ cov1.look g1
      have hobj : (getObj (ρ.φ r)).run P w = .ok (.mapIter m' since seen.toArray last) w := by simp [getObj, Sem.run, i1]
      have hm' : m.map ρ.φ = m' := i2 ρ (Agree.refl _ _)
      cases m with
      | none =>
        obtain ⟨e3, e4⟩ := AM.pure_some e2
        simp only [Option.map_none] at hm'
        subst hm'
        refine ⟨0, hk, .tuple #[.bool false], w, ?_, by rw [e4]; exact hls.1, by rw [e4]; exact hls.2, by rw [e3]; exact VR.shut rfl, by rw [e4]⟩
        unfold Instr.next
        simp only [Sem.run_bind, hobj, Result.andThen_ok, Sem.run_pure]
      | some m =>
        simp only [Option.map_some] at hm'
        subst hm'
        dsimp only at e2
        obtain ⟨ob2, h2, e3, e4⟩ := AM.bind_some e2
        have m1 := (AM.look r).mono _ _ _ e1'
        have m3 := (AM.look m).mono _ _ _ e3
        have m4 := AM.mono _ _ _ _ e4
        have cov2 : Cov D h2 := (hcov 0 hk).of m4
        cases ob2 with
        | row => cases e4
        | iter => cases e4
        | map es cl =>
          obtain ⟨es', p1, p2, p3, p4, p5, p6, p7, p8⟩ := look_map e3 cov2 hls.2
          have hobj2 : (getObj (ρ.φ m)).run P w = .ok (.map es' cl) w := by simp [getObj, Sem.run, p1]
          have hst2 := hls.1.trans p5 m1 m3
          have hwf2 := m3.wf (m1.wf hwf)
          have hD2 : D r := cov1.look
          have hr2 : (h2.get r) = some (.iter (some m) since seen last) := by
            have : h2.get = h.get := by funext q; show h2.m.get q = h.m.get q; rw [p3]
            rw [this]; exact g1
          dsimp only at e4
          split at e4
          case isTrue => cases e4
          case isFalse hno =>
            split at e4
            case isFalse => cases e4
            case isTrue hlen =>
              -- every candidate
              have hallc : ∀ c, c < k → ∀ o, (cands es since seen)[min c ((cands es since seen).length - 1)]? = some o →
                  (match o with
                   | some e => if r < 4611686018427387904 then (AM.put r (some (.iter (some m) since (seen ++ [e.born]) cl))).bind fun _ => AM.pure (Value.tuple #[.bool true, e.key, e.val]) else .fail
                   | none => AM.pure (Value.tuple #[.bool false])).run h2 = some (xs c, hs c) := fun c hc o ho => by
                have := hall c hc
                simp only [aNext] at this
                obtain ⟨ob3, h3, f1, f2⟩ := AM.bind_some this
                obtain ⟨f3, rfl⟩ := AM.look_some f1
                rw [g1] at f3; injection f3 with f3; subst f3
                dsimp only at f2
                obtain ⟨ob4, h4, f4, f5⟩ := AM.bind_some f2
                rw [e3] at f4
                injection f4 with f4; injection f4 with f4 f6; subst f4; subst f6
                dsimp only at f5
                rw [if_neg hno, if_pos hlen, ho] at f5
                cases o <;> exact f5
              obtain ⟨fs', hc1, hc2⟩ := candsA p2 since seen
              have hpos : 1 ≤ (cands es since seen).length := by
                rcases Nat.eq_zero_or_pos (cands es since seen).length with h0 | h0
                · exfalso
                  have : (cands es since seen) = [] := List.eq_nil_of_length_eq_zero h0
                  rw [this] at e4
                  simp at e4
                  cases e4
                · exact h0
              obtain ⟨hclen, hsame⟩ := candsAt hc2
              obtain ⟨i, w1, hi, hrun, hw1, hw2, hw3, hw4⟩ := choose_run (P := P) hpos w
              obtain ⟨o, o', q1, q2, q3⟩ := hsame i hi
              have hmin : min i ((cands es since seen).length - 1) = i := by omega
              have hres := hallc i (by omega) o (by rw [hmin]; exact q1)
              have hcond : (!seen.toArray.isEmpty && !es'.isEmpty && es'.all fun e => decide (e.born ≥ last)) = false := by
                have a1 := p2.emptyB
                have a2 := p2.allB (fun b => decide (b ≥ last))
                rw [Array.isEmpty_toList] at a1
                have a3 : (!seen.isEmpty && !es.isEmpty && es.all fun e => decide (e.born ≥ last)) = false := by simpa using hno
                rw [← a3, ← a2, a1]
                simp
              have hsz : ∀ (A : Array (Option MapEntry)), A.toList = candHd es since seen ++ fs'.map some → A.size = (cands es since seen).length ∧ A[i]? = some o' := fun A hA => by
                refine ⟨by rw [← Array.length_toList, hA, hclen], ?_⟩
                rw [← Array.getElem?_toList, hA]; exact q2
              obtain ⟨s1, s2⟩ := hsz _ hc1
              dsimp only at s1 s2
              have hgo : (Instr.next (.pointer (some ⟨ρ.φ r, 0, none⟩)) false ty).run P w = (nextTail (ρ.φ r) (ρ.φ m) since seen.toArray cl o').run P w1 := by
                unfold Instr.next
                simp only [Sem.run_bind, hobj, Result.andThen_ok, Sem.run_pure, hobj2, hcond, Bool.false_eq_true, if_false]
                rw [s1, hrun]
                simp only [Result.andThen_ok, s2]
                cases o' <;> rfl
              refine ⟨i, by omega, ?_⟩
              cases o with
              | none =>
                cases o' with
                | some _ => exact q3.elim
                | none =>
                  obtain ⟨e5, e6⟩ := AM.pure_some hres
                  refine ⟨_, w1, (by rw [hgo]; rfl), ?_, ?_, by rw [e5]; exact VR.shut rfl, by rw [e6]; exact p4⟩
                  · rw [e6]; exact hst2.heap hw1 hw2 hw3 hw4
                  · rw [e6]; exact p6.heap hw1
              | some e =>
                cases o' with
                | none => exact q3.elim
                | some e' =>
                  dsimp only at hres
                  split at hres
                  case isFalse => cases hres
                  case isTrue hlt =>
                    obtain ⟨u, h5, f1, f2⟩ := AM.bind_some hres
                    have m5 := (AM.put r _).mono _ _ _ f1
                    obtain ⟨f3, f4⟩ := AM.pure_some f2
                    obtain ⟨_, rfl⟩ := AM.put_some f1
                    have hrn : r < h2.next := by
                      rcases Nat.lt_or_ge r h2.next with hh | hh
                      · exact hh
                      · rw [hwf2 r hh] at hr2; cases hr2
                    have hb1 : w1.heap[ρ.φ r]? = some (.mapIter (some (ρ.φ m)) since seen.toArray last) := by rw [hw1]; exact i1
                    have hszr : ρ.φ r < w1.heap.size := (Array.getElem?_eq_some_iff.1 hb1).1
                    have hrel1 := p6.heap hw1
                    have hput := put_step (D := D) (w' := { w1 with heap := w1.heap.setIfInBounds (ρ.φ r) (.mapIter (some (ρ.φ m)) since (seen.toArray.push e'.born) cl) }) (o := .iter (some m) since (seen ++ [e.born]) cl) hlt hD2 (by rw [hr2]; rfl) hrn hrel1
                      ⟨some (ρ.φ m), by simp [hszr, q3.born], i2⟩ rfl rfl rfl (by simp) (fun j _ hne => by simp [Array.getElem?_setIfInBounds_ne (Ne.symm hne)])
                    refine ⟨.tuple #[.bool true, e'.key, e'.val], { w1 with heap := w1.heap.setIfInBounds (ρ.φ r) (.mapIter (some (ρ.φ m)) since (seen.toArray.push e'.born) cl) }, ?_, ?_, ?_, ?_, ?_⟩
                    · rw [hgo]
                      simp [nextTail, setObj, Sem.run, hb1]
                    · rw [f4]
                      exact (hst2.heap hw1 hw2 hw3 hw4).trans hput.1 (m1.trans m3) m5
                    · rw [f4]; exact hput.2
                    · rw [f3]
                      intro r2 hr3
                      simp [ren, q3.key r2 hr3, q3.val r2 hr3]
                    · rw [f4]; exact p4
def aEntryOf (it : Value) : AM Value :=
  match it with
  | .pointer (some ⟨r, 0, none⟩) => (AM.look r).bind fun
    | .iter (some m) _ seen st => (match seen.reverse with
      | b :: _ => (AM.look m).bind fun
        | .map es cl => if cl = st then (match es.find? fun e => e.born == b with
          | some e => .pure (.tuple #[e.key, e.val])
          | none => .fail) else .fail
        | _ => .fail
      | [] => .fail)
    | _ => .fail
  | _ => .fail
theorem EsR.findB {N : Nat → Prop} {ρ : Ren} (b : Nat) : ∀ {es es' : List MapEntry} {e : MapEntry}, EsR N ρ es es' → es.find? (fun e => e.born == b) = some e → ∃ e', es'.find? (fun e => e.born == b) = some e' ∧ ER N ρ e e'
  | [], [], _, _, h => by cases h
  | [], _ :: _, _, h, _ => by have := h.len; simp at this
  | _ :: _, [], _, h, _ => by have := h.len; simp at this
  | x :: r, x' :: r', e, h, hf => by
    obtain ⟨h1, h2⟩ := h.tail
    simp only [List.find?_cons, h1.born] at hf ⊢
    split at hf
    · injection hf with hf; subst hf; exact ⟨x', rfl, h1⟩
    · exact h2.findB b hf
theorem aEntryOf_sound {P : Program} {N : Nat → Prop} {ρ : Ren} {it it' : Value} (hv : VR N ρ it it') : Sim P N ρ (aEntryOf it) (Instr.entry it') VRel := by
  intro h v h' he D w hcov hwf hN hr
  unfold aEntryOf at he
  split at he
  case h_2 => cases he
  case h_1 r =>
    have hit' : it' = .pointer (some ⟨ρ.φ r, 0, none⟩) := by rw [← hv.eq]; simp [ren, renA]
    subst hit'
    obtain ⟨ob, h1, e1, e2⟩ := AM.bind_some he
    have m1 := (AM.look r).mono _ _ _ e1
    have m2 := AM.mono _ _ _ _ e2
    have cov1 : Cov D h1 := hcov.of m2
    obtain ⟨g1, rfl⟩ := AM.look_some e1
    have hls := look_step (n := r) hr
    rw [Grow.eq_self] at hls
    split at e2
    case h_2 => cases e2
    case h_1 m since seen st =>
      split at e2
      case h_2 => cases e2
      case h_1 b rest hrev =>
        obtain ⟨ob2, h2, e3, e4⟩ := AM.bind_some e2
        have m3 := (AM.look m).mono _ _ _ e3
        have m4 := AM.mono _ _ _ _ e4
        have cov2 : Cov D h2 := hcov.of m4
        cases ob2 with
        | row => cases e4
        | iter => cases e4
        | map es cl =>
          obtain ⟨es', p1, p2, p3, p4, p5, p6, p7, p8⟩ := look_map e3 cov2 hls.2
          obtain ⟨m', i1, i2⟩ := hr.holds r _ cov1.look g1
          have hm' : some (ρ.φ m) = m' := i2 ρ (Agree.refl _ _)
          subst hm'
          have hobj : (getObj (ρ.φ r)).run P w = .ok (.mapIter (some (ρ.φ m)) since seen.toArray st) w := by simp [getObj, Sem.run, i1]
          have hobj2 : (getObj (ρ.φ m)).run P w = .ok (.map es' cl) w := by simp [getObj, Sem.run, p1]
          dsimp only at e4
          split at e4
          case isFalse => cases e4
          case isTrue hcl =>
            split at e4
            case h_2 => cases e4
            case h_1 e hfe =>
              obtain ⟨rfl, rfl⟩ := AM.pure_some e4
              obtain ⟨e', q1, q2⟩ := p2.findB b hfe
              have hG : Grow N h.next h'.next = N := by rw [p4]; exact Grow.eq_self _ _
              have hback : seen.toArray.back? = some b := by
                have : seen = rest.reverse ++ [b] := by
                  have := congrArg List.reverse hrev
                  simpa using this
                rw [this]; simp
              refine ⟨ρ, .tuple #[e'.key, e'.val], w, ?_, hls.1.trans p5 m1 m3, by rw [hG]; exact p6, ?_⟩
              · unfold Instr.entry
                have hf : es'.find? (fun e => e.born == b) = some e' := by rw [← Array.find?_toList]; exact q1
                simp only [Sem.run_bind, hobj, Result.andThen_ok, hback, Sem.run_pure, hobj2, hcl, bne_self_eq_false, Bool.false_eq_true, if_false, hf]
              · rw [hG]
                intro r2 hr2
                simp [ren, q2.key r2 hr2, q2.val r2 hr2]
end Go.Proofs.Ytfakfnekcgkelaa
/- An evaluator of Go code whose memory has names of its own (17): the evaluator, and that it tells the truth. -/
namespace Go.Proofs.Ytfakfnekcgkelaa
set_option linter.unusedVariables false
set_option linter.unusedSimpArgs false

/-- what is known of operations on symbols -/
abbrev OrcF : Type := (Operand → Value) → Oper → Option Value
/-- .. and which of the package's variables are names -/
structure Orc where
  ask : OrcF
  glob : List Nat
  /-- functions that are taken as one step -/
  hook : FuncId → Option (Array Value → AM Value)
/-- one function, as a step of the evaluator -/
def FunOK (P : Program) (f : FuncId) (m : Array Value → AM Value) : Prop :=
  ∀ (args args' : Array Value) (N : Nat → Prop) (ρ : Ren), LR N ρ args.toList args'.toList → ∀ h v h', (m args).run h = some (v, h') → ∀ (D : Nat → Prop) (w : World), Cov D h' → WF h → New N h.next h'.next → Rel D N ρ h.get w →
    Calls P f args' w fun e w' => ∃ ρ' v', e = .returned v' ∧ Step D h ρ w h' ρ' w' ∧ Rel D (Grow N h.next h'.next) ρ' h'.get w' ∧ VR (Grow N h.next h'.next) ρ' v v'
instance : CoeFun Orc fun _ => OrcF := ⟨Orc.ask⟩
def AskOK (P : Program) (SQ : (Nat → Value) → Prop) (orc : OrcF) : Prop := ∀ ev o v, orc ev o = some v → noSel o.op = true ∧ ∀ (r : Ren), SQ r.σ → SymOk r → ∀ w : World, (execOp (fun x => ren r (ev x)) o).run P w = .ok (.value (ren r v)) w
def OrcOK (P : Program) (SQ : (Nat → Value) → Prop) (orc : Orc) : Prop := AskOK P SQ orc.ask ∧ (∀ g ∈ orc.glob, ∀ σ, SQ σ → σ (gsym g) = .nilFunc) ∧ ∀ f m, orc.hook f = some m → FunOK P f m
/-- len of one argument, delete of two -/
def mapCall (c : Call) : Option (Builtin × TypeId × TypeId × Operand × Operand) :=
  match c.callee, c.argTypes.toList, c.args.toList with
  | .builtin .len, [t], [m] => some (.len, t, t, m, m)
  | .builtin .delete, [t, t2], [m, k] => some (.delete, t, t2, m, k)
  | _, _, _ => none
theorem mapCall_spec {c : Call} {b : Builtin} {t t2 : TypeId} {m k : Operand} (h : mapCall c = some (b, t, t2, m, k)) :
    (b = .len ∧ c.callee = .builtin .len ∧ c.argTypes = #[t] ∧ c.args = #[m]) ∨ (b = .delete ∧ c.callee = .builtin .delete ∧ c.argTypes = #[t, t2] ∧ c.args = #[m, k]) := by
  unfold mapCall at h
  split at h
  · rename_i t' m' h1 h2 h3
    simp only [Option.some.injEq, Prod.mk.injEq] at h
    obtain ⟨rfl, rfl, _, rfl, _⟩ := h
    exact .inl ⟨rfl, h1, by apply Array.ext'; simpa using h2, by apply Array.ext'; simpa using h3⟩
  · rename_i t' t2' m' k' h1 h2 h3
    simp only [Option.some.injEq, Prod.mk.injEq] at h
    obtain ⟨rfl, rfl, rfl, rfl, rfl⟩ := h
    exact .inr ⟨rfl, h1, by apply Array.ext'; simpa using h2, by apply Array.ext'; simpa using h3⟩
  · cases h
def aExec (P : Program) (orc : Orc) (ev : Operand → Value) (o : Oper) : AM ANext :=
  match aPure P ev o with
  | some v => .pure (.value v)
  | none => match orc ev o with
  | some v => .pure (.value v)
  | none => match o.op with
    | .load t a => (aLoad P t (ev a)).bind fun v => .pure (.value v)
    | .store t a x => (aStore P t (ev a) (ev x)).bind fun _ => .pure .skip
    | .alloc t => (aAlloc P t).bind fun v => .pure (.value v)
    | .box t x => (aBox t (ev x)).bind fun v => .pure (.value v)
    | .build t parts => (AM.ofOpt (aBuild P t (parts.toList.map fun p => (p.1, ev p.2)))).bind fun v => .pure (.value v)
    | .buildSlice t n parts => (aBuildSlice P t n (parts.toList.map fun p => (p.1, ev p.2))).bind fun v => .pure (.value v)
    | .makeSlice t l c => (aMakeSlice P t (ev l) (ev c)).bind fun v => .pure (.value v)
    | .slice t x lo hi mx => (match closedRun P ev o with
      | some v => .pure (.value v)
      | none => (match mx with
        | none => if spotted (ev x) then (aSlice0 P t (ev x) (lo.map ev) (hi.map ev)).bind fun v => .pure (.value v) else (aSliceOp P t (ev x) (lo.map ev) (hi.map ev) none).bind fun v => .pure (.value v)
        | some mx => (match hi with
          | some hi => (aSlice3 P t (ev x) (lo.map ev) (ev hi) (ev mx)).bind fun v => .pure (.value v)
          | none => .fail)))
    | .convert s d x => if bothSlices P s d then (aMarkRow P s d (ev x)).bind fun v => .pure (.value v) else (aConv P s d (ev x)).bind fun v => .pure (.value v)
    | .lookup t m k ok => (aLookup P t (ev m) (ev k) ok).bind fun v => .pure (.value v)
    | .mapUpdate t m k x => (aMapUpdate P t (ev m) (ev k) (ev x)).bind fun _ => .pure .skip
    | .insert t m k x => (aMapUpdate P t (ev m) (ev k) (ev x)).bind fun _ => .pure .skip
    | .mapEntry t m k => (aMapEntry P t (ev m) (ev k)).bind fun v => .pure (.value v)
    | .entryStore _ m s x => (aEntryStore (ev m) (ev s) (ev x)).bind fun _ => .pure .skip
    | .makeMap t r => (aMakeMap P t (r.map ev)).bind fun v => .pure (.value v)
    | .range t x => (aRange P t (ev x)).bind fun v => .pure (.value v)
    | .entry x => (aEntryOf (ev x)).bind fun v => .pure (.value v)
    | .next x b => if b then .fail else (aNext 0 1 (ev x)).bind fun v => .pure (.value v)
    | .call c => (match mapCall c with
      | some (.len, t, _, m, _) => (match ev m with
        | .map _ => (aLenMap P t (ev m)).bind fun v => .pure (.value v)
        | _ => (match closedRun P ev o with
          | some v => .pure (.value v)
          | none => aCallOp P ev c))
      | some (.delete, t, _, m, k) => (aDelete P t (ev m) (ev k)).bind fun v => .pure (.value v)
      | _ => (match closedRun P ev o with
        | some v => .pure (.value v)
        | none => aCallOp P ev c))
    | _ => .fail
theorem pure_sim {P : Program} {N : Nat → Prop} {ρ : Ren} {ev ev' : Operand → Value} {o : Oper} {v : Value} (hs : noSel o.op = true) (hp : ∀ r, Agree N ρ r → SymOk r → ∀ w : World, (execOp (fun x => ren r (ev x)) o).run P w = .ok (.value (ren r v)) w) (hev : ∀ x ∈ o.op.operands, VR N ρ (ev x) (ev' x)) :
    Sim P N ρ (AM.pure (ANext.value v)) (execOp ev' o) NR := by
  intro h x h' he D w hcov hwf hN hr
  obtain ⟨rfl, rfl⟩ := AM.pure_some he
  have hrun : ∀ r, Agree N ρ r → (execOp ev' o).run P w = .ok (.value (ren r v)) w := fun r ha => by
    rw [execOp_congr (ρ := ev') (ρ' := fun x => ren r (ev x)) o (noSel_ne hs) (fun x hx => (hev x hx r ha).symm)]
    exact hp r ha (fun k => by rw [ha.σ]; exact hr.sym k) w
  refine ⟨ρ, .value (ren ρ v), w, hrun ρ (Agree.refl _ _), Step.refl _ _ _ _, by rw [Grow.eq_self]; exact hr, ?_⟩
  rw [Grow.eq_self]
  intro r ha
  have h1 := hrun r ha
  rw [hrun ρ (Agree.refl _ _)] at h1
  injection h1 with h1; injection h1 with h1
  exact h1.symm
theorem aPure_noSel {P : Program} {ev : Operand → Value} {o : Oper} {v : Value} (h : aPure P ev o = some v) : noSel o.op = true := by
  cases hop : o.op with
  | select cs b => unfold aPure at h; rw [hop] at h; cases h
  | _ => rfl
theorem map_opt {N : Nat → Prop} {ρ : Ren} {ev ev' : Operand → Value} {x : Option Operand} (h : ∀ y, x = some y → VR N ρ (ev y) (ev' y)) : x.map ev' = (x.map ev).map (ren ρ) := by
  cases x with
  | none => rfl
  | some y => simp [(h y rfl).eq]
theorem Sim.congr {P : Program} {α β : Type} {N : Nat → Prop} {ρ : Ren} {m : AM α} {s s' : Sem β} {R : (Nat → Prop) → Ren → α → β → Prop} (h : Sim P N ρ m s R) (he : ∀ w, s'.run P w = s.run P w) : Sim P N ρ m s' R := by
  intro h0 x h' e D w hc hwf hN hr
  rw [he]
  exact h h0 x h' e D w hc hwf hN hr
theorem aExec_sound {P : Program} (hn : NameOK P) {SQ : (Nat → Value) → Prop} {orc : Orc} (ho : OrcOK P SQ orc) {N : Nat → Prop} {ρ : Ren} (hsq : SQ ρ.σ) {ev ev' : Operand → Value} {o : Oper} (hev : ∀ x ∈ o.op.operands, VR N ρ (ev x) (ev' x)) : Sim P N ρ (aExec P orc ev o) (execOp ev' o) NR := by
  unfold aExec
  cases hp : aPure P ev o with
  | some v => exact pure_sim (aPure_noSel hp) (fun r _ => aPure_ok hp r) hev
  | none =>
    dsimp only
    cases hor : orc ev o with
    | some v => exact pure_sim (ho.1 ev o v hor).1 (fun r ha hs w => (ho.1 ev o v hor).2 r (by rw [ha.σ]; exact hsq) hs w) hev
    | none =>
    dsimp only
    clear ho
    split
    case h_1 t a ho =>
      refine Sim.congr (simValue (s := Instr.loadAt t (ev' a)) ?_) (fun w => by unfold execOp; rw [ho]; rfl)
      intro h x h' he D w hcov hwf hN hr
      obtain ⟨a', x', q1, q2, q3, q4, q5, q6⟩ := aLoad_sound he hcov hr (hev a (by simp [ho, Op.operands]))
      have hG : Grow N h.next h'.next = N := by rw [q4]; exact Grow.eq_self _ _
      refine ⟨ρ, x', w, ?_, q5, by rw [hG]; exact q6, by rw [hG]; exact q3⟩
      rw [q1]
      simp [Instr.loadAt, Instr.sureAddr, q2]
    case h_2 t a x ho =>
      have := (aStore_sound (P := P) (t := t) (hev a (by simp [ho, Op.operands])) (hev x (by simp [ho, Op.operands]))).bind (f := fun _ => AM.pure ANext.skip) (g := fun _ => Sem.pure Next.skip) (R2 := NR) (fun _ _ _ _ _ _ _ => Sim.pure trivial)
      exact this.congr (fun w => by unfold execOp; rw [ho]; rfl)
    case h_3 t ho => exact (simValue aAlloc_sound).congr (fun w => by unfold execOp; rw [ho]; rfl)
    case h_4 t x ho => exact Sim.withSym fun hs => (simValue (aBox_sound hs (hev x (by simp [ho, Op.operands])))).congr (fun w => by unfold execOp; rw [ho]; rfl)
    case h_5 t parts ho =>
      have hps : ∀ r, Agree N ρ r → (parts.map fun p => (p.1, ev' p.2)).toList = (parts.toList.map fun p => (p.1, ev p.2)).map fun p => (p.1, ren r p.2) := fun r ha => by
        rw [Array.toList_map, List.map_map]
        refine List.map_congr_left fun p hp => ?_
        have := hev p.2 (by simp [ho, Op.operands]; exact ⟨p.1, by simpa using hp⟩) r ha
        simp [this]
      refine Sim.congr (simValue (s := Instr.build t (parts.map fun p => (p.1, ev' p.2))) ?_) (fun w => by unfold execOp; rw [ho]; rfl)
      intro h x h' he D w hcov hwf hN hr
      obtain ⟨he2, rfl⟩ := AM.ofOpt_some he
      have hrun : ∀ r, Agree N ρ r → (Instr.build t (parts.map fun p => (p.1, ev' p.2))).run P w = .ok (ren r x) w := fun r ha =>
        aBuild_run he2 (fun k => by rw [ha.σ]; exact hr.sym k) w _ (hps r ha)
      refine ⟨ρ, ren ρ x, w, hrun ρ (Agree.refl _ _), Step.refl _ _ _ _, by rw [Grow.eq_self]; exact hr, ?_⟩
      rw [Grow.eq_self]
      intro r ha
      have h1 := hrun r ha
      rw [hrun ρ (Agree.refl _ _)] at h1
      injection h1 with h1
      exact h1.symm
    case h_6 t n parts ho =>
      have hps : ∀ r, Agree N ρ r → (parts.map fun p => (p.1, ev' p.2)).toList = (parts.toList.map fun p => (p.1, ev p.2)).map fun p => (p.1, ren r p.2) := fun r ha => by
        rw [Array.toList_map, List.map_map]
        refine List.map_congr_left fun p hp => ?_
        have := hev p.2 (by simp [ho, Op.operands]; exact ⟨p.1, by simpa using hp⟩) r ha
        simp [this]
      exact (simValue (aBuildSlice_sound hps)).congr (fun w => by unfold execOp; rw [ho]; rfl)
    case h_7 t l c ho => exact (simValue (aMakeSlice_sound (hev l (by simp [ho, Op.operands])) (hev c (by simp [ho, Op.operands])))).congr (fun w => by unfold execOp; rw [ho]; rfl)
    case h_8 t x lo hi mx ho =>
      cases hc : closedRun P ev o with
      | some v => exact pure_sim (by rw [ho]; rfl) (fun r _ => closedRun_ok hc r) hev
      | none =>
        dsimp only
        split
        case h_1 =>
          split
          case isTrue => exact (simValue (aSlice0_sound (lo' := lo.map ev') (hi' := hi.map ev') (hev x (by simp [ho, Op.operands])) (map_opt fun y hy => hev y (by simp [ho, Op.operands, hy])) (map_opt fun y hy => hev y (by simp [ho, Op.operands, hy])))).congr (fun w => by unfold execOp; rw [ho]; rfl)
          case isFalse => exact (simValue (aSliceOp_sound (mx' := none) (hev x (by simp [ho, Op.operands])) (map_opt fun y hy => hev y (by simp [ho, Op.operands, hy])) (map_opt fun y hy => hev y (by simp [ho, Op.operands, hy])) (fun _ => rfl))).congr (fun w => by unfold execOp; rw [ho]; rfl)
        case h_2 mx =>
          split
          case h_2 => exact Sim.fail
          case h_1 hi => exact (simValue (aSlice3_sound (lo' := lo.map ev') (hi' := some (ev' hi)) (mx' := some (ev' mx)) (hev x (by simp [ho, Op.operands])) (map_opt fun y hy => hev y (by simp [ho, Op.operands, hy])) (by rw [(hev hi (by simp [ho, Op.operands])).eq]) (by rw [(hev mx (by simp [ho, Op.operands])).eq]))).congr (fun w => by unfold execOp; rw [ho]; rfl)
    case h_9 s d x ho =>
      split
      case isTrue => exact (simValue (aMarkRow_sound (hev x (by simp [ho, Op.operands])))).congr (fun w => by unfold execOp; rw [ho]; rfl)
      case isFalse => exact (simValue (aConv_sound (hev x (by simp [ho, Op.operands])))).congr (fun w => by unfold execOp; rw [ho]; rfl)
    case h_10 t m k ok ho => exact (simValue (aLookup_sound (hev m (by simp [ho, Op.operands])) (hev k (by simp [ho, Op.operands])))).congr (fun w => by unfold execOp; rw [ho]; rfl)
    case h_11 t m k x ho =>
      have := (aMapUpdate_sound (P := P) (t := t) (hev m (by simp [ho, Op.operands])) (hev k (by simp [ho, Op.operands])) (hev x (by simp [ho, Op.operands]))).bind (f := fun _ => AM.pure ANext.skip) (g := fun _ => Sem.pure Next.skip) (R2 := NR) (fun _ _ _ _ _ _ _ => Sim.pure trivial)
      exact this.congr (fun w => by unfold execOp; rw [ho]; rfl)
    case h_12 t m k x ho =>
      have := (aMapUpdate_sound (P := P) (t := t) (hev m (by simp [ho, Op.operands])) (hev k (by simp [ho, Op.operands])) (hev x (by simp [ho, Op.operands]))).bind (f := fun _ => AM.pure ANext.skip) (g := fun _ => Sem.pure Next.skip) (R2 := NR) (fun _ _ _ _ _ _ _ => Sim.pure trivial)
      exact this.congr (fun w => by unfold execOp; rw [ho]; rfl)
    case h_13 t m k ho => exact (simValue (aMapEntry_sound (hev m (by simp [ho, Op.operands])) (hev k (by simp [ho, Op.operands])))).congr (fun w => by unfold execOp; rw [ho]; rfl)
    case h_14 t m s x ho =>
      have := (aEntryStore_sound (P := P) (t := t) (hev m (by simp [ho, Op.operands])) (hev s (by simp [ho, Op.operands])) (hev x (by simp [ho, Op.operands]))).bind (f := fun _ => AM.pure ANext.skip) (g := fun _ => Sem.pure Next.skip) (R2 := NR) (fun _ _ _ _ _ _ _ => Sim.pure trivial)
      exact this.congr (fun w => by unfold execOp; rw [ho]; rfl)
    case h_15 t r ho => exact (simValue (aMakeMap_sound (map_opt fun y hy => hev y (by simp [ho, Op.operands, hy])))).congr (fun w => by unfold execOp; rw [ho]; rfl)
    case h_16 t x ho => exact (simValue (aRange_sound (hev x (by simp [ho, Op.operands])))).congr (fun w => by unfold execOp; rw [ho]; rfl)
    case h_17 x ho => exact (simValue (aEntryOf_sound (hev x (by simp [ho, Op.operands])))).congr (fun w => by unfold execOp; rw [ho]; rfl)
    case h_18 x b ho =>
      split
      case isTrue => exact Sim.fail
      case isFalse hb =>
        have hb : b = false := by simpa using hb
        subst hb
        refine (simValue (s := Instr.next (ev' x) false o.type) ?_).congr (fun w => by unfold execOp; rw [ho]; rfl)
        intro h v h' he D w hcov hwf hN hr
        obtain ⟨c, hc, y, w', q1, q2, q3, q4, q5⟩ := aNext_run (P := P) (ty := o.type) (hev x (by simp [ho, Op.operands])) (k := 1) (Nat.le_refl _) (xs := fun _ => v) (hs := fun _ => h') (fun c hc => by rw [Nat.lt_one_iff.1 hc]; exact he) (D := D) (w := w) (fun _ _ => hcov) hwf hr
        have hG : Grow N h.next h'.next = N := by rw [q5]; exact Grow.eq_self _ _
        exact ⟨ρ, y, w', q1, q2, by rw [hG]; exact q3, by rw [hG]; exact q4⟩
    case h_19 c ho =>
      have hcall : Sim P N ρ (match closedRun P ev o with
          | some v => AM.pure (ANext.value v)
          | none => aCallOp P ev c) (execOp ev' o) NR := by
        cases hc : closedRun P ev o with
        | some v => exact pure_sim (by rw [ho]; rfl) (fun r _ => closedRun_ok hc r) hev
        | none => exact (aCallOp_sound hn (ty := o.type) (fun x hx => hev x (by simp [ho, Op.operands]; simpa using hx))).congr (fun w => by unfold execOp; rw [ho])
      split
      case h_1 t t2 m k hmc =>
        rcases mapCall_spec hmc with ⟨_, h1, h2, h3⟩ | ⟨h0, _⟩
        · split
          case h_1 mm hm =>
            refine (simValue (aLenMap_sound (ty := o.type) (hev m (by simp [ho, Op.operands, Call.operands, h3])))).congr (fun w => ?_)
            unfold execOp; rw [ho]
            simp only [resolve, h1, h2, h3, Sem.run_bind, Sem.run_pure, Result.andThen_ok, invoke, builtin]
            rw [Sem.run_bind', show Array.map ev' #[m] = #[ev' m] from by simp]
            rfl
          case h_2 => exact hcall
        · cases h0
      case h_2 t t2 m k hmc =>
        rcases mapCall_spec hmc with ⟨h0, _⟩ | ⟨_, h1, h2, h3⟩
        · cases h0
        · refine (simValue (aDelete_sound (t2 := t2) (ty := o.type) (hev m (by simp [ho, Op.operands, Call.operands, h3])) (hev k (by simp [ho, Op.operands, Call.operands, h3])))).congr (fun w => ?_)
          unfold execOp; rw [ho]
          simp only [resolve, h1, h2, h3, Sem.run_bind, Sem.run_pure, Result.andThen_ok, invoke, builtin]
          rw [Sem.run_bind', show Array.map ev' #[m, k] = #[ev' m, ev' k] from by simp]
          rfl
      case h_3 => exact hcall
    case h_20 => exact Sim.fail

/-- a call of a function that is named -/
def staticCallee (c : Call) : Option FuncId :=
  match c.callee with
  | .value (.func g) => some g
  | _ => none
/-- loads, stores, calls of named functions without more ado -/
def aExecF (P : Program) (orc : Orc) (ev : Operand → Value) (o : Oper) : AM ANext :=
  match o.op with
  | .load t a => (aLoad P t (ev a)).bind fun v => .pure (.value v)
  | .store t a x => (aStore P t (ev a) (ev x)).bind fun _ => .pure .skip
  | .call c => (match staticCallee c with
    | some g => aEnter P g (c.args.map ev)
    | none => aExec P orc ev o)
  | _ => aExec P orc ev o
theorem aExecF_sound {P : Program} (hn : NameOK P) {SQ : (Nat → Value) → Prop} {orc : Orc} (hO : OrcOK P SQ orc) {N : Nat → Prop} {ρ : Ren} (hsq : SQ ρ.σ) {ev ev' : Operand → Value} {o : Oper} (hfun : ∀ g, ev (.func g) = .func (.func g) #[] #[]) (hev : ∀ x ∈ o.op.operands, VR N ρ (ev x) (ev' x)) :
    Sim P N ρ (aExecF P orc ev o) (execOp ev' o) NR := by
  unfold aExecF
  split
  case h_1 t a ho =>
    refine Sim.congr (simValue (s := Instr.loadAt t (ev' a)) ?_) (fun w => by unfold execOp; rw [ho]; rfl)
    intro h x h' he D w hcov hwf hN hr
    obtain ⟨a', x', q1, q2, q3, q4, q5, q6⟩ := aLoad_sound he hcov hr (hev a (by simp [ho, Op.operands]))
    have hG : Grow N h.next h'.next = N := by rw [q4]; exact Grow.eq_self _ _
    refine ⟨ρ, x', w, ?_, q5, by rw [hG]; exact q6, by rw [hG]; exact q3⟩
    rw [q1]
    simp [Instr.loadAt, Instr.sureAddr, q2]
  case h_2 t a x ho =>
    have := (aStore_sound (P := P) (t := t) (hev a (by simp [ho, Op.operands])) (hev x (by simp [ho, Op.operands]))).bind (f := fun _ => AM.pure ANext.skip) (g := fun _ => Sem.pure Next.skip) (R2 := NR) (fun _ _ _ _ _ _ _ => Sim.pure trivial)
    exact this.congr (fun w => by unfold execOp; rw [ho]; rfl)
  case h_3 c ho =>
    split
    case h_2 => exact aExec_sound hn hO hsq hev
    case h_1 g hg =>
          have hc : c.callee = .value (.func g) := by
            unfold staticCallee at hg
            split at hg
            · rename_i g2 hc; injection hg with hg; subst hg; exact hc
            · cases hg
          have h1 := aCallOp_sound (P := P) hn (ty := o.type) (c := c) (ev := ev) (ev' := ev') (N := N) (ρ := ρ) (fun x hx => hev x (by simp [ho, Op.operands]; simpa using hx))
          have h2 : aCallOp P ev c = aEnter P g (c.args.map ev) := by
            unfold aCallOp
            rw [hc]
            dsimp only
            rw [hfun g]
            simp
          rw [h2] at h1
          exact h1.congr (fun w => by unfold execOp; rw [ho])
  case h_4 => exact aExec_sound hn hO hsq hev

/-- what a call is held to -/
def CallOK (P : Program) (SQ : (Nat → Value) → Prop) (call : FuncId → Array Value → AM Value) : Prop :=
  ∀ (f : FuncId) (args args' : Array Value) (N : Nat → Prop) (ρ : Ren), SQ ρ.σ → LR N ρ args.toList args'.toList → ∀ h v h', (call f args).run h = some (v, h') → ∀ (D : Nat → Prop) (w : World), Cov D h' → WF h → New N h.next h'.next → Rel D N ρ h.get w →
    Calls P f args' w fun e w' => ∃ ρ' v', e = .returned v' ∧ Step D h ρ w h' ρ' w' ∧ Rel D (Grow N h.next h'.next) ρ' h'.get w' ∧ VR (Grow N h.next h'.next) ρ' v v'
def aOper (P : Program) (orc : Orc) (call : FuncId → Array Value → AM Value) (o : Oper) (ts : Array Value) : AM Value :=
  if o.op.operands.toList.all (okOpdG orc.glob) then
    (aExecF P orc (aEv ts) o).bind fun
      | .value v => .pure v
      | .skip => .pure undef
      | .enter f args => call f args
  else .fail
theorem aOper_sound {P : Program} (hn : NameOK P) {SQ : (Nat → Value) → Prop} {orc : Orc} (ho : OrcOK P SQ orc) {call : FuncId → Array Value → AM Value} (hc : CallOK P SQ call) (ops : Array Oper) : OSound P SQ ops (aOper P orc call) := by
  intro o _ ts N ρ a hsq hlook h v h' he D w hcov hwf hN hr K Q hK
  unfold aOper at he
  split at he
  case isFalse => cases he
  case isTrue hok =>
    obtain ⟨x, h1, e1, e2⟩ := AM.bind_some he
    have hev : ∀ x ∈ o.op.operands, VR N ρ (aEv ts x) (a.eval x) := fun x hx => by
      have hox := (List.all_eq_true.1 hok) x (by simpa using hx)
      cases x with
      | tmp t => exact hlook t (List.mem_append_left _ (List.mem_filterMap.2 ⟨.tmp t, by simpa using hx, rfl⟩))
      | const v => exact VR.shut hox
      | global g =>
        have hg := hr.glob g (ho.2.1 g (by simpa [okOpdG] using hox) _ hsq)
        intro r hr2
        show ren r (.pointer (some ⟨g, 0, none⟩)) = .pointer (some ⟨g, 0, none⟩)
        simp only [ren, renA]
        rw [hr2.φ g hg.1, hg.2]
      | func f => exact VR.shut rfl
    have m1 := (aExecF P orc (aEv ts) o).mono _ _ _ e1
    have m2 := AM.mono _ _ _ _ e2
    obtain ⟨ρ1, y, w1, r1, s1, q1, p1⟩ := aExecF_sound hn ho hsq (fun _ => rfl) hev h x h1 e1 D w (hcov.of m2) hwf (hN.left m2.next) hr
    unfold Oper.wp
    rw [r1]
    cases x with
    | value v0 =>
      obtain ⟨rfl, rfl⟩ := AM.pure_some e2
      cases y with
      | value v' => exact hK ρ1 v' w1 s1 q1 p1
      | _ => exact p1.elim
    | skip =>
      obtain ⟨rfl, rfl⟩ := AM.pure_some e2
      cases y with
      | skip => exact hK ρ1 undef w1 s1 q1 (VR.shut rfl)
      | _ => exact p1.elim
    | enter f args =>
      cases y with
      | enter f' args' =>
        obtain ⟨rfl, p1⟩ := p1
        refine Calls.mono (hc f' args args' _ ρ1 (by rw [s1.agree.σ]; exact hsq) p1 h1 v h' e2 D w1 hcov (m1.wf hwf) (hN.right m1.next) q1) ?_
        rintro e w2 ⟨ρ2, v2, rfl, s2, q2, p2⟩
        rw [Grow.trans_eq N m1.next m2.next] at q2 p2
        exact hK ρ2 v2 w2 (s1.trans s2 m1 m2) q2 p2
      | _ => exact p1.elim

/-- what a function leaves -/
def aResL (P : Program) (ts : Array Value) : List ResultVar → AM (List Value)
  | [] => .pure []
  | .tmp t :: r => (aResL P ts r).bind fun l => .pure (ts.getD t undef :: l)
  | .cell a t :: r => (aLoad P t (ts.getD a undef)).bind fun v => (aResL P ts r).bind fun l => .pure (v :: l)
def resF (tm : Array Value) : ResultVar → Sem Value
  | .tmp t => pure (tm.getD t undef)
  | .cell a t => do loadVar t (← asAddr (tm.getD a undef))
theorem aResL_sound {P : Program} {ts tm : Array Value} {D N : Nat → Prop} {ρ : Ren} {w : World} (ht : TR N ρ ts tm) : ∀ (rs : List ResultVar) (h : AH) (l : List Value) (h' : AH), (aResL P ts rs).run h = some (l, h') → Cov D h' → Rel D N ρ h.get w →
    ∃ l', (rs.mapM (resF tm)).run P w = .ok l' w ∧ LR N ρ l l' ∧ h'.next = h.next ∧ Step D h ρ w h' ρ w ∧ Rel D N ρ h'.get w
  | [], h, l, h', e, hc, hr => by
    obtain ⟨rfl, rfl⟩ := AM.pure_some e
    exact ⟨[], rfl, fun r _ => rfl, rfl, Step.refl _ _ _ _, hr⟩
  | .tmp t :: r, h, l, h', e, hc, hr => by
    obtain ⟨l1, h1, e1, e2⟩ := AM.bind_some e
    obtain ⟨rfl, rfl⟩ := AM.pure_some e2
    obtain ⟨l', q1, q2, q3, q4, q5⟩ := aResL_sound ht r h l1 h' e1 hc hr
    refine ⟨tm.getD t undef :: l', ?_, fun r hr => by simp only [List.map_cons, ht.val t r hr, q2 r hr], q3, q4, q5⟩
    rw [List.mapM_cons]
    simp [resF, q1]
  | .cell a t :: r, h, l, h', e, hc, hr => by
    obtain ⟨v, h1, e1, e2⟩ := AM.bind_some e
    obtain ⟨l1, h2, e3, e4⟩ := AM.bind_some e2
    obtain ⟨rfl, rfl⟩ := AM.pure_some e4
    have m1 := (aLoad P t _).mono _ _ _ e1
    have m2 := (aResL P ts r).mono _ _ _ e3
    obtain ⟨a', x', p1, p2, p3, p4, p5, p6⟩ := aLoad_sound e1 (hc.of m2) hr (ht.val a)
    obtain ⟨l', q1, q2, q3, q4, q5⟩ := aResL_sound ht r h1 l1 h' e3 hc p6
    refine ⟨x' :: l', ?_, fun r hr => by simp only [List.map_cons, p3 r hr, q2 r hr], q3.trans p4, p5.trans q4 m1 m2, q5⟩
    rw [List.mapM_cons]
    have hf : (resF tm (.cell a t)).run P w = .ok x' w := by
      show (asAddr (tm.getD a undef) >>= fun x => loadVar t x).run P w = _
      rw [p1]
      simp [asAddr, p2]
    simp [hf, q1]
def aRes (P : Program) (fn : Func) (ts : Array Value) : AM Value :=
  (aResL P ts fn.results.toList).bind fun l => match l with
    | [v] => .pure v
    | l => .pure (.tuple l.toArray)
theorem results_run {P : Program} {fn : Func} {tm : Array Value} {w : World} {l' : List Value} (h : (fn.results.toList.mapM (resF tm)).run P w = .ok l' w) :
    (results fn tm).run P w = .ok (match l' with | [v] => v | l => .tuple l.toArray) w := by
  have h1 : (fn.results.mapM (resF tm)).run P w = .ok l'.toArray w := by
    rw [Array.mapM_eq_mapM_toList]
    simp [h]
  have h2 : results fn tm = (fn.results.mapM (resF tm) >>= fun vs => pure (if h : vs.size = 1 then vs[0] else .tuple vs)) := by
    unfold results
    congr 1
  rw [h2, Sem.run_bind, h1]
  match l' with
  | [] => rfl
  | [v] => rfl
  | a :: b :: r => simp
theorem aRes_sound {P : Program} {fn : Func} {ts tm : Array Value} {D N : Nat → Prop} {ρ : Ren} {w : World} (ht : TR N ρ ts tm) {h h' : AH} {v : Value} (e : (aRes P fn ts).run h = some (v, h')) (hc : Cov D h') (hr : Rel D N ρ h.get w) :
    ∃ v', (results fn tm).run P w = .ok v' w ∧ VR N ρ v v' ∧ h'.next = h.next ∧ Step D h ρ w h' ρ w ∧ Rel D N ρ h'.get w := by
  obtain ⟨l, h1, e1, e2⟩ := AM.bind_some e
  have hh : h1 = h' := by
    split at e2 <;> exact (AM.pure_some e2).2.symm
  subst hh
  obtain ⟨l', q1, q2, q3, q4, q5⟩ := aResL_sound ht _ h l h1 e1 hc hr
  refine ⟨_, results_run q1, ?_, q3, q4, q5⟩
  have hlen := q2.length
  match l, l' with
  | [], [] => obtain ⟨rfl, _⟩ := AM.pure_some e2; exact fun r _ => by simp [ren]
  | [a], [b] => obtain ⟨rfl, _⟩ := AM.pure_some e2; exact fun r hr => by have := q2 r hr; simpa using this
  | a :: b :: m, a' :: b' :: m' =>
    obtain ⟨rfl, _⟩ := AM.pure_some e2
    intro r hr
    have := q2 r hr
    simp only [ren, List.map_toArray, Value.tuple.injEq]
    rw [← this]
  | [], _ :: _ => simp at hlen
  | [_], [] => simp at hlen
  | [_], _ :: _ :: _ => simp at hlen
  | _ :: _ :: _, [] => simp at hlen
  | _ :: _ :: _, [_] => simp at hlen

def aFn (P : Program) (orc : Orc) (fuel : Nat) (call : FuncId → Array Value → AM Value) (f : FuncId) (args : Array Value) : AM Value :=
  match orc.hook f with
  | some m => m args
  | none => match P.funcs[f]? with
  | some fn => (match fn.body with
    | some c => (aCode (aOper P orc call) fuel c (args ++ Array.replicate (fn.ntmps - args.size) undef)).bind fun p => match p with
      | (.normal, ts) => aRes P fn ts
      | (.ret, ts) => aRes P fn ts
      | _ => .fail
    | none => .fail)
  | none => .fail
theorem aFn_sound {P : Program} (hm : P.follows .mixedOrders = true) (hn : NameOK P) {SQ : (Nat → Value) → Prop} {orc : Orc} (ho : OrcOK P SQ orc) (fuel : Nat) {call : FuncId → Array Value → AM Value} (hc : CallOK P SQ call) : CallOK P SQ (aFn P orc fuel call) := by
  intro f args args' N ρ hsq ha h v h' he D w hcov hwf hN hr
  unfold aFn at he
  cases hhk : orc.hook f with
  | some m => rw [hhk] at he; exact ho.2.2 f m hhk args args' N ρ ha h v h' he D w hcov hwf hN hr
  | none =>
  rw [hhk] at he
  dsimp only at he
  cases hf : P.funcs[f]? with
  | none => rw [hf] at he; cases he
  | some fn =>
    rw [hf] at he
    dsimp only at he
    cases hb : fn.body with
    | none => rw [hb] at he; cases he
    | some c =>
      rw [hb] at he
      obtain ⟨p, h1, e1, e2⟩ := AM.bind_some he
      obtain ⟨wy, ts⟩ := p
      have m1 := (aCode _ _ _ _).mono _ _ _ e1
      have m2 := AM.mono _ _ _ _ e2
      have hsz : args'.size = args.size := by rw [← Array.length_toList, ha.length, Array.length_toList]
      have ht : TR N ρ (args ++ Array.replicate (fn.ntmps - args.size) undef) (args' ++ Array.replicate (fn.ntmps - args'.size) undef) := by
        refine ⟨fun t => ?_, by simp [hsz]⟩
        rw [Array.getD_eq_getD_getElem?, Array.getD_eq_getD_getElem?, ← Array.getElem?_toList, ← Array.getElem?_toList]
        have hl : LR N ρ (args ++ Array.replicate (fn.ntmps - args.size) undef).toList (args' ++ Array.replicate (fn.ntmps - args'.size) undef).toList := by
          rw [Array.toList_append, Array.toList_append, hsz]
          refine ha.append (LR.shut ?_)
          simp [Array.toList_replicate]
          exact .inr rfl
        cases hx : (args ++ Array.replicate (fn.ntmps - args.size) undef).toList[t]? with
        | none =>
          have : (args' ++ Array.replicate (fn.ntmps - args'.size) undef).toList[t]? = none := by
            rw [List.getElem?_eq_none_iff] at hx ⊢
            rw [hl.length]; exact hx
          rw [this]; exact VR.shut rfl
        | some u =>
          obtain ⟨u', h3, h4⟩ := hl.get hx
          rw [h3]; exact h4
      refine calls_of_wp hf hb ?_
      refine (aCode_both hm (aOper_sound hn ho hc) fuel).1 c _ h wy ts h1 e1 D N ρ _ w hsq (hcov.of m2) hwf (hN.left m2.next) hr ht _ ?_
      rintro a' w' ⟨ρ1, s1, r1, t1, d1⟩
      have fin : ∀ (e : (aRes P fn ts).run h1 = some (v, h')), a'.defers = [] ∧ ∃ v', (results fn a'.tmps).run P w' = .ok v' w' ∧ ∃ ρ' v'', Ending.returned v' = .returned v'' ∧ Step D h ρ w h' ρ' w' ∧ Rel D (Grow N h.next h'.next) ρ' h'.get w' ∧ VR (Grow N h.next h'.next) ρ' v v'' := fun e => by
        obtain ⟨v', q1, q2, q3, q4, q5⟩ := aRes_sound t1 e hcov r1
        refine ⟨d1, v', q1, ρ1, v', rfl, s1.trans q4 m1 m2, ?_, ?_⟩
        · rw [q3]; exact q5
        · rw [q3]; exact q2
      cases wy with
      | normal => exact fin e2
      | ret => exact fin e2
      | exit i => cases e2
def aCall (P : Program) (orc : Orc) (fuel : Nat) : Nat → FuncId → Array Value → AM Value
  | 0, _, _ => .fail
  | n + 1, f, args => aFn P orc fuel (aCall P orc fuel n) f args
theorem aCall_sound {P : Program} (hm : P.follows .mixedOrders = true) (hn : NameOK P) {SQ : (Nat → Value) → Prop} {orc : Orc} (ho : OrcOK P SQ orc) (fuel : Nat) : ∀ n, CallOK P SQ (aCall P orc fuel n)
  | 0 => fun f args args' N ρ _ _ h v h' he => by cases he
  | n + 1 => aFn_sound hm hn ho fuel (aCall_sound hm hn ho fuel n)
def noOrc : Orc := ⟨fun _ _ => none, [], fun _ => none⟩
theorem noOrc_ok (P : Program) (SQ : (Nat → Value) → Prop) : OrcOK P SQ noOrc := ⟨(fun _ _ _ h => nomatch h), (fun g hg => nomatch hg), fun _ _ h => nomatch h⟩
/-- nothing but that these variables are names -/
def globOrc (G : List Nat) : Orc := ⟨fun _ _ => none, G, fun _ => none⟩
theorem globOrc_ok (P : Program) {G : List Nat} {σ : Nat → Value} (h : ∀ g ∈ G, σ (gsym g) = .nilFunc) : OrcOK P (· = σ) (globOrc G) := ⟨(fun _ _ _ h => nomatch h), (fun g hg s hs => by cases hs; exact h g hg), fun _ _ h => nomatch h⟩
/-- nothing but that these functions are taken as one step -/
def hookOrc (H : FuncId → Option (Array Value → AM Value)) : Orc := ⟨fun _ _ => none, [], H⟩
theorem hookOrc_ok (P : Program) (SQ : (Nat → Value) → Prop) {H : FuncId → Option (Array Value → AM Value)} (h : ∀ f m, H f = some m → FunOK P f m) : OrcOK P SQ (hookOrc H) := ⟨(fun _ _ _ h => nomatch h), (fun g hg => nomatch hg), h⟩

/-- a function of symbols -/
def symF (l : List (Nat × Value)) (k : Nat) : Value :=
  match l with
  | [] => .bool false
  | p :: r => if p.1 = k then p.2 else symF r k
theorem symF_glob : ∀ {l : List (Nat × Value)}, (l.all fun p => decide (p.1 < 5000000)) = true → ∀ g, symF l (gsym g) ≠ .nilFunc
  | [], _, g, e => by cases e
  | p :: r, h, g, e => by
    simp only [List.all_cons, Bool.and_eq_true, decide_eq_true_eq] at h
    unfold symF at e
    rw [if_neg (by unfold gsym; omega)] at e
    exact symF_glob h.2 g e
/-- a call that looks at no memory of before: what it leaves, and that nothing of before is changed -/
theorem Calls.of_eval {P : Program} (hm : P.follows .mixedOrders = true) (hn : NameOK P) {orc : Orc} {σ : Nat → Value} (hσ : ∀ k, (σ k).oneCell' = true) (ho : OrcOK P (· = σ) orc) {fuel n : Nat} {f : FuncId} {args args' : Array Value}
    (ha : ∀ r : Ren, r.σ = σ → args.map (ren r) = args') {v : Value}
    (he : ((aCall P orc fuel n f args).run ⟨.lf, 0, 0, [], []⟩).map (·.1) = some v) (hv : shut v = true) (w : World) (hg : ∀ g, σ (gsym g) ≠ .nilFunc := by first | exact fun g => symF_glob rfl g | (intro g h; cases h; done)) : Calls P f args' w fun e w' => e = .returned v ∧ RowKit.Below w.heap.size w w' := by
  have h0 : ∀ n, (⟨.lf, 0, 0, [], []⟩ : AH).get n = none := fun n => Tr.get_lf n
  cases hrun : (aCall P orc fuel n f args).run ⟨.lf, 0, 0, [], []⟩ with
  | none => rw [hrun] at he; cases he
  | some p =>
    obtain ⟨v0, h'⟩ := p
    rw [hrun] at he
    simp only [Option.map_some, Option.some.injEq] at he
    subst he
    refine (aCall_sound hm hn ho fuel n f args args' (fun _ => False) ⟨fun _ => 0, fun _ => 0, σ⟩ rfl (fun r hr => by rw [← ha r hr.σ, Array.toList_map]) _ v0 h' hrun (fun _ => True) w ⟨fun _ _ => trivial, fun _ _ => trivial⟩ (fun n _ => h0 n) (fun _ _ h => h)
      (by
        refine ⟨?_, ?_, ?_, hσ, fun g h => absurd h (hg g)⟩
        · intro n m _ _ hs; rw [h0] at hs; cases hs
        · intro n o _ ho; rw [h0] at ho; cases ho
        · intro n _ hs; rw [h0] at hs; cases hs)).mono ?_
    rintro e w' ⟨ρ', v', rfl, hs, hr, hvv⟩
    have hv' : v' = v0 := by rw [← hvv.eq]; exact ren_shut _ hv
    subst hv'
    exact ⟨rfl, hs.os, hs.tape, hs.output, hs.size, fun k hk => hs.frame k hk (fun m _ _ hsome => by rw [h0] at hsome; cases hsome)⟩
/-- a call that looks at the package's variables alone: what it leaves, and that nothing of before is changed -/
theorem Calls.of_evalG {P : Program} (hm : P.follows .mixedOrders = true) (hn : NameOK P) {orc : Orc} {σ : Nat → Value} (hσ : ∀ k, (σ k).oneCell' = true) (ho : OrcOK P (· = σ) orc) {fuel n : Nat} {f : FuncId} {args args' : Array Value}
    (ha : ∀ r : Ren, r.σ = σ → args.map (ren r) = args') {v : Value} {m0 : Tr} {n0 : Nat} (w : World) (hg : ∀ g, σ (gsym g) = .nilFunc → g < n0) (hw0 : ∀ g, n0 ≤ g → m0.get g = none)
    (hh : ∀ g o, m0.get g = some o → Holds (fun g => g < n0) ⟨fun g => g, fun _ => 0, σ⟩ g w o) {h' : AH}
    (he : (aCall P orc fuel n f args).run ⟨m0, n0, n0, [], []⟩ = some (v, h')) (hwr : h'.wrt = []) (hv : shut v = true) : Calls P f args' w fun e w' => e = .returned v ∧ RowKit.Below w.heap.size w w' := by
  have hlt : ∀ g, (m0.get g).isSome → g < n0 := fun g hs => by
    rcases Nat.lt_or_ge g n0 with h | h
    · exact h
    · rw [hw0 g h] at hs; cases hs
  refine (aCall_sound hm hn ho fuel n f args args' (fun g => g < n0) ⟨fun g => g, fun _ => 0, σ⟩ rfl (fun r hr => by rw [← ha r hr.σ, Array.toList_map]) _ v h' he (fun _ => True) w ⟨fun _ _ => trivial, fun _ _ => trivial⟩ (fun g hge => hw0 g hge) (fun g hs hk => by have := hs.1; dsimp only at this; omega)
    ⟨fun a b _ _ _ _ e => e, fun g o _ ho => hh g o ho, fun g _ hs => hlt g hs, hσ, fun g hgl => ⟨hg g hgl, rfl⟩⟩).mono ?_
  rintro e w' ⟨ρ', v', rfl, hs, hr, hvv⟩
  have hv' : v' = v := by rw [← hvv.eq]; exact ren_shut _ hv
  subst hv'
  refine ⟨rfl, hs.os, hs.tape, hs.output, hs.size, fun k hk => hs.frame k hk (fun m _ hm1 hsome hor => ?_)⟩
  rcases hor with h1 | h1
  · rw [hwr] at h1; cases h1
  · dsimp only at h1 hm1; omega
end Go.Proofs.Ytfakfnekcgkelaa
