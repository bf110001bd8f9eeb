/- An evaluator of Go code whose memory has names of its own (16): calls of methods, of builtins. -/
import Derived.Test.YtljhlnpbomehkaaEwO
namespace Go.Proofs.Ytljhlnpbomehkaa
set_option linter.unusedVariables false
set_option linter.unusedSimpArgs false

def aCallMethod (P : Program) (recv : Value) (name : String) (args : Array Value) : AM ANext :=
  match recv with
  | .iface t v => (aMethod P t v name).bind fun p => aEnter P p.1 (#[p.2] ++ args)
  | _ => .fail
theorem aCallMethod_sound {P : Program} (hn : NameOK P) {N : Nat → Prop} {ρ : Ren} {recv recv' : Value} {name : String} {args args' : Array Value} (hrv : VR N ρ recv recv') (ha : LR N ρ args.toList args'.toList) :
    Sim P N ρ (aCallMethod P recv name args) (callMethod recv' name args') NR := by
  unfold aCallMethod
  split
  case h_2 => exact Sim.fail
  case h_1 t v =>
    have hr' : recv' = .iface t (ren ρ v) := by rw [← hrv.eq]; simp [ren]
    subst hr'
    have hv : VR N ρ v (ren ρ v) := fun r hr => by
      have := hrv r hr
      simp only [ren, Value.iface.injEq] at this
      exact this.2
    obtain ⟨k, hk⟩ : ∃ k, P.types.size + Made.depth = k + 1 := ⟨P.types.size + 99, rfl⟩
    have := (aMethod_sound (P := P) (t := t) (name := name) hv k).bind (f := fun p => aEnter P p.1 (#[p.2] ++ args)) (g := fun p => callFunc p.1 (#[p.2] ++ args')) (R2 := NR) (fun N' ρ' x y hN hA hR => by
      rw [hR.1]
      refine aEnter_sound hn ?_
      rw [Array.toList_append, Array.toList_append]
      refine LR.append ?_ (ha.mono hA hN)
      intro r hr
      simp [hR.2 r hr])
    intro h x h' he D w hcov hwf hN hr
    obtain ⟨ρ', y, w', q1, q2⟩ := this h x h' he D w hcov hwf hN hr
    refine ⟨ρ', y, w', ?_, q2⟩
    unfold callMethod
    simp only [Sem.run_bind, run_program, Result.andThen_ok, hk]
    rw [Sem.run_bind'] at q1
    exact q1

def bothSlices (P : Program) (t t2 : TypeId) : Bool :=
  match P.underlying t, P.underlying t2 with
  | some (.slice _), some (.slice _) => true
  | _, _ => false
theorem append_types {P : Program} {t t2 ty : TypeId} (h : bothSlices P t t2 = true) (s x : Value) (w : World) : (Builtin.append_ #[t, t2] ty #[s, x]).run P w = (Builtin.append_ #[t, t] ty #[s, x]).run P w := by
  unfold bothSlices at h
  split at h
  · rename_i e e2 h1 h2
    unfold Builtin.append_
    simp only [List.getElem?_toArray, List.getElem?_cons_zero, List.getElem?_cons_succ, Sem.run_bind, run_underlying h1, Result.andThen_ok]
    cases s with
    | slice b l c => 
      simp only [Sem.run_bind, run_underlying h1, run_underlying h2, Result.andThen_ok, sizeOf, typeInfo, run_program]
    | _ => rfl
  · cases h
def aBuiltin (P : Program) (b : Builtin) (ts : Array TypeId) (args : Array Value) : AM ANext :=
  match b, ts.toList, args.toList with
  | .append, [t, t2], [s, x] => if t = t2 then (aAppend P t s x).bind fun v => .pure (.value v) else
    if bothSlices P t t2 then (aAppend P t s x).bind fun v => .pure (.value v) else .fail
  | .copy, [t, t2], [d, x] => (aCopy P t d x).bind fun v => .pure (.value v)
  | .len, [t], [.slice _ n _] => (match P.underlying t with
    | some (.slice _) => .pure (.value (.int .i64 n))
    | _ => .fail)
  | .clear, [t], [x] => (aClear P t x).bind fun v => .pure (.value v)
  | _, _, _ => .fail
theorem simValue {P : Program} {N : Nat → Prop} {ρ : Ren} {m : AM Value} {s : Sem Value} (h : Sim P N ρ m s VRel) : Sim P N ρ (m.bind fun v => AM.pure (ANext.value v)) (Sem.bind s fun v => Sem.pure (Next.value v)) NR :=
  h.bind fun N' ρ' x y _ _ hR => Sim.pure hR
theorem LR.two {N : Nat → Prop} {ρ : Ren} {a b : Value} {l : List Value} (h : LR N ρ [a, b] l) : ∃ a' b', l = [a', b'] ∧ VR N ρ a a' ∧ VR N ρ b b' := by
  have hl := h.length
  match l, hl with
  | [a', b'], _ =>
    refine ⟨a', b', rfl, fun r hr => ?_, fun r hr => ?_⟩ <;> (have := h r hr; simp at this)
    · exact this.1
    · exact this.2
theorem LR.one {N : Nat → Prop} {ρ : Ren} {a : Value} {l : List Value} (h : LR N ρ [a] l) : ∃ a', l = [a'] ∧ VR N ρ a a' := by
  have hl := h.length
  match l, hl with
  | [a'], _ =>
    refine ⟨a', rfl, fun r hr => ?_⟩
    have := h r hr; simpa using this
theorem aBuiltin_sound {P : Program} {N : Nat → Prop} {ρ : Ren} {b : Builtin} {ts : Array TypeId} {ty : TypeId} {consts : Array Bool} {args args' : Array Value} (ha : LR N ρ args.toList args'.toList) :
    Sim P N ρ (aBuiltin P b ts args) (builtin b ts ty consts args') NR := by
  unfold aBuiltin
  split
  case h_1 t t2 s x hts hargs =>
    split
    case isFalse =>
      split
      case isFalse => exact Sim.fail
      case isTrue hb =>
        rw [hargs] at ha
        obtain ⟨s', x', h1, h2, h3⟩ := ha.two
        have e1 : ts = #[t, t2] := by apply Array.ext'; simpa using hts
        have e2 : args' = #[s', x'] := by apply Array.ext'; simpa using h1
        subst e1; subst e2
        exact simValue (Sim.congr' (aAppend_sound (ty := ty) h2 h3) (fun w => append_types hb s' x' w))
    case isTrue he =>
      subst he
      rw [hargs] at ha
      obtain ⟨s', x', h1, h2, h3⟩ := ha.two
      have e1 : ts = #[t, t] := by apply Array.ext'; simpa using hts
      have e2 : args' = #[s', x'] := by apply Array.ext'; simpa using h1
      subst e1; subst e2
      exact simValue (aAppend_sound h2 h3)
  case h_2 t t2 d x hts hargs =>
    rw [hargs] at ha
    obtain ⟨s', x', h1, h2, h3⟩ := ha.two
    have e1 : ts = #[t, t2] := by apply Array.ext'; simpa using hts
    have e2 : args' = #[s', x'] := by apply Array.ext'; simpa using h1
    subst e1; subst e2
    exact simValue (aCopy_sound h2 h3)
  case h_3 t a n c hts hargs =>
    split
    case h_2 => exact Sim.fail
    case h_1 e hu =>
      rw [hargs] at ha
      obtain ⟨s', h1, h2⟩ := ha.one
      have e1 : ts = #[t] := by apply Array.ext'; simpa using hts
      have e2 : args' = #[s'] := by apply Array.ext'; simpa using h1
      subst e1; subst e2
      intro h x h' he D w hcov hwf hN hr
      obtain ⟨rfl, rfl⟩ := AM.pure_some he
      refine ⟨ρ, .value (.int .i64 n), w, ?_, Step.refl _ _ _ _, by rw [Grow.eq_self]; exact hr, VR.shut rfl⟩
      rw [← h2.eq]
      cases a <;> simp [builtin, Builtin.len_, ren, run_underlying hu w, goInt]
  case h_4 t x hts hargs =>
    rw [hargs] at ha
    obtain ⟨x', h1, h2⟩ := ha.one
    have e1 : ts = #[t] := by apply Array.ext'; simpa using hts
    have e2 : args' = #[x'] := by apply Array.ext'; simpa using h1
    subst e1; subst e2
    exact simValue (aClear_sound (ty := ty) h2)
  case h_5 => exact Sim.fail
theorem cons_get (a : Value) (X : Array Value) : (#[a] ++ X)[0]? = some a := by
  rw [Array.getElem?_append_left (by simp)]; rfl
theorem cons_rest (a : Value) (X : Array Value) : (#[a] ++ X).extract 1 (#[a] ++ X).size = X := by
  apply Array.ext'
  rw [Array.toList_extract, Array.toList_append]
  simp
  rw [← Array.length_toList, List.take_length]
def aCallOp (P : Program) (ev : Operand → Value) (c : Call) : AM ANext :=
  match c.callee with
  | .builtin b => aBuiltin P b c.argTypes (c.args.map ev)
  | .invoke recv name => aCallMethod P (ev recv) name (c.args.map ev)
  | .value f => (match ev f with
    | .func (.func g) first captured => aEnter P g (first ++ c.args.map ev ++ captured)
    | .func (.method name) first captured => (match (first ++ c.args.map ev).toList with
      | recv :: rest => aCallMethod P recv name rest.toArray
      | [] => .fail)
    | _ => .fail)
theorem LR.mapEv {N : Nat → Prop} {ρ : Ren} {ev ev' : Operand → Value} : ∀ {l : List Operand}, (∀ x ∈ l, VR N ρ (ev x) (ev' x)) → LR N ρ (l.map ev) (l.map ev')
  | [], _ => fun r hr => rfl
  | x :: l, h => fun r hr => by
    simp only [List.map_cons]
    rw [h x (by simp) r hr, LR.mapEv (l := l) (fun y hy => h y (List.mem_cons_of_mem _ hy)) r hr]
theorem aCallOp_sound {P : Program} (hn : NameOK P) {N : Nat → Prop} {ρ : Ren} {ev ev' : Operand → Value} {c : Call} {ty : TypeId} (hev : ∀ x ∈ c.operands, VR N ρ (ev x) (ev' x)) :
    Sim P N ρ (aCallOp P ev c) (do let d ← resolve ev' c ty; invoke d.target d.args) NR := by
  have hargs : LR N ρ (c.args.map ev).toList (c.args.map ev').toList := by
    rw [Array.toList_map, Array.toList_map]
    exact LR.mapEv (fun x hx => hev x (by simp [Call.operands]; right; simpa using hx))
  unfold aCallOp
  cases hc : c.callee with
  | builtin b =>
    have := aBuiltin_sound (P := P) (b := b) (ts := c.argTypes) (ty := ty) (consts := c.args.map fun | .const _ => true | _ => false) hargs
    intro h x h' he D w hcov hwf hN hr
    obtain ⟨ρ', y, w', q1, q2⟩ := this h x h' he D w hcov hwf hN hr
    refine ⟨ρ', y, w', ?_, q2⟩
    unfold resolve
    simp only [hc, Sem.run_bind, Sem.run_pure, Result.andThen_ok, invoke]
    exact q1
  | invoke recv name =>
    have hrv : VR N ρ (ev recv) (ev' recv) := hev recv (by simp [Call.operands, hc])
    have := aCallMethod_sound hn (name := name) hrv hargs
    intro h x h' he D w hcov hwf hN hr
    obtain ⟨ρ', y, w', q1, q2⟩ := this h x h' he D w hcov hwf hN hr
    refine ⟨ρ', y, w', ?_, q2⟩
    unfold resolve
    simp only [hc, Sem.run_bind, Sem.run_pure, Result.andThen_ok, invoke]
    have e0 := cons_get (ev' recv) (c.args.map ev')
    have e1 := cons_rest (ev' recv) (c.args.map ev')
    rw [e0, e1]
    exact q1
  | value f =>
    have hf : VR N ρ (ev f) (ev' f) := hev f (by simp [Call.operands, hc])
    dsimp only
    split
    case h_3 => exact Sim.fail
    case h_1 g first captured hg =>
      have hfe : ∀ r, Agree N ρ r → ev' f = .func (.func g) (first.map fun v => ren r v) (captured.map fun v => ren r v) := fun r hr => by rw [← hf r hr, hg]; simp [ren]
      have h0 := hfe ρ (Agree.refl _ _)
      have hfc : LR N ρ first.toList (first.map fun v => ren ρ v).toList ∧ LR N ρ captured.toList (captured.map fun v => ren ρ v).toList := by
        constructor <;> (intro r hr; have h1 := hfe r hr; rw [h0] at h1; injection h1 with _ h2 h3; rw [← Array.toList_map])
        · rw [h2]
        · rw [h3]
      have := aEnter_sound (P := P) hn (f := g) (args := first ++ c.args.map ev ++ captured) (args' := (first.map fun v => ren ρ v) ++ c.args.map ev' ++ (captured.map fun v => ren ρ v)) (by
        simp only [Array.toList_append]
        exact (hfc.1.append hargs).append hfc.2)
      intro h x h' he D w hcov hwf hN hr
      obtain ⟨ρ', y, w', q1, q2⟩ := this h x h' he D w hcov hwf hN hr
      refine ⟨ρ', y, w', ?_, q2⟩
      unfold resolve
      simp only [hc, h0, Deferred.ofValue, Sem.run_bind, Sem.run_pure, Result.andThen_ok, invoke]
      exact q1
    case h_2 name first captured hg =>
      have hfe : ∀ r, Agree N ρ r → ev' f = .func (.method name) (first.map fun v => ren r v) (captured.map fun v => ren r v) := fun r hr => by rw [← hf r hr, hg]; simp [ren]
      have h0 := hfe ρ (Agree.refl _ _)
      have hfc : LR N ρ first.toList (first.map fun v => ren ρ v).toList := by
        intro r hr; have h1 := hfe r hr; rw [h0] at h1; injection h1 with _ h2 h3; rw [← Array.toList_map, h2]
      have hall : LR N ρ (first ++ c.args.map ev).toList ((first.map fun v => ren ρ v) ++ c.args.map ev').toList := by
        simp only [Array.toList_append]; exact hfc.append hargs
      split
      case h_2 => exact Sim.fail
      case h_1 recv rest hl =>
        rw [hl] at hall
        cases hl' : ((first.map fun v => ren ρ v) ++ c.args.map ev').toList with
        | nil => have := hall.length; rw [hl'] at this; simp at this
        | cons recv' rest' =>
          rw [hl'] at hall
          have hrv : VR N ρ recv recv' := fun r hr => by have := hall r hr; simp at this; exact this.1
          have hrs : LR N ρ rest.toArray.toList rest'.toArray.toList := fun r hr => by have := hall r hr; simp at this; simpa using this.2
          have := aCallMethod_sound (P := P) hn (name := name) hrv hrs
          intro h x h' he D w hcov hwf hN hr
          obtain ⟨ρ', y, w', q1, q2⟩ := this h x h' he D w hcov hwf hN hr
          refine ⟨ρ', y, w', ?_, q2⟩
          unfold resolve
          simp only [hc, h0, Deferred.ofValue, Sem.run_bind, Sem.run_pure, Result.andThen_ok, invoke]
          have e2 : (first.map fun v => ren ρ v) ++ c.args.map ev' = (recv' :: rest').toArray := by apply Array.ext'; rw [hl']
          rw [e2]
          have e0 : (recv' :: rest').toArray[0]? = some recv' := by simp
          have e1 : (recv' :: rest').toArray.extract 1 (recv' :: rest').toArray.size = rest'.toArray := by apply Array.ext'; simp
          rw [e0, e1]
          exact q1
end Go.Proofs.Ytljhlnpbomehkaa
