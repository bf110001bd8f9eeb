/- An evaluator of Go code whose memory has names of its own (15): operations, calls. -/
import Derived.Test.YtljhlnpbomehkaaEwNb
namespace Go.Proofs.Ytljhlnpbomehkaa
set_option linter.unusedVariables false
set_option linter.unusedSimpArgs false

inductive ANext
  | value (v : Value)
  | skip
  | enter (f : FuncId) (args : Array Value)
def NR (N : Nat → Prop) (ρ : Ren) : ANext → Next → Prop
  | .value v, .value v' => VR N ρ v v'
  | .skip, .skip => True
  | .enter f a, .enter f' a' => f' = f ∧ LR N ρ a.toList a'.toList
  | _, _ => False
/-- no function bears the name of the one that the model answers by itself -/
def NameOK (P : Program) : Prop := ∀ (f : FuncId) (fn : Func), P.funcs[f]? = some fn → (fn.name == "runtime.NumGoroutine") = false
def aEnter (P : Program) (f : FuncId) (args : Array Value) : AM ANext :=
  match P.funcs[f]? with
  | some fn => if fn.body.isSome then .pure (.enter f args) else .fail
  | none => .fail
theorem aEnter_sound {P : Program} (hn : NameOK P) {N : Nat → Prop} {ρ : Ren} {f : FuncId} {args args' : Array Value} (ha : LR N ρ args.toList args'.toList) : Sim P N ρ (aEnter P f args) (callFunc f args') NR := by
  unfold aEnter
  cases hf : P.funcs[f]? with
  | none => exact Sim.fail
  | some fn =>
    dsimp only
    split
    case isFalse => exact Sim.fail
    case isTrue hb =>
      intro h x h' he D w hcov hwf hN hr
      obtain ⟨rfl, rfl⟩ := AM.pure_some he
      refine ⟨ρ, .enter f args', w, ?_, Step.refl _ _ _ _, by rw [Grow.eq_self]; exact hr, by rw [Grow.eq_self]; exact ⟨rfl, ha⟩⟩
      have h1 := hn f fn hf
      have h2 : fn.body.isNone = false := by cases hfb : fn.body <;> simp_all
      unfold callFunc
      simp only [Sem.run_bind, run_program, Result.andThen_ok, hf, h1, h2, Bool.false_eq_true, if_false, Sem.run_pure]
/-- the method of that name, and its receiver -/
def aMethod (P : Program) (t : TypeId) (v : Value) (name : String) : AM (FuncId × Value) :=
  match P.info? t with
  | some i => (match i.methods.find? (·.name == name) with
    | some m => (match m.path.toList, m.func, P.underlying t with
      | [], some (f, true), some (.pointer _) => .pure (f, v)
      | [], some (f, false), some (.pointer e) => (match v with
        | .pointer (some _) => (aLoad P e v).bind fun x => .pure (f, x)
        | _ => .fail)
      | [], some (f, false), some d => .pure (f, v)
      | _, _, _ => .fail)
    | none => .fail)
  | none => .fail
theorem aMethod_sound {P : Program} {N : Nat → Prop} {ρ : Ren} {t : TypeId} {v v' : Value} {name : String} (hv : VR N ρ v v') (fuel : Nat) :
    Sim P N ρ (aMethod P t v name) (method (fuel + 1) t v' name) (fun N ρ p p' => p'.1 = p.1 ∧ VR N ρ p.2 p'.2) := by
  intro h x h' he D w hcov hwf hN hr
  unfold aMethod at he
  cases hi : P.info? t with
  | none => rw [hi] at he; cases he
  | some i =>
    rw [hi] at he
    dsimp only at he
    cases hm : i.methods.find? (·.name == name) with
    | none => rw [hm] at he; cases he
    | some m =>
      rw [hm] at he
      dsimp only at he
      have hfirst : (method (fuel + 1) t v' name).run P w = ((do
          let (xt, x) ← follow m.path.toList t (.val v')
          match m.func with
          | none =>
            match ← x.get xt with
            | .iface t' v' => method fuel t' v' name
            | .nilIface => runtimePanic .nilDeref
            | _ => stuck "method row: interface value expected"
          | some (f, pointerReceiver) =>
            pure (f, ← receiverAt xt x pointerReceiver (if m.path.isEmpty then some ((name.splitOn ".").getLastD name) else none))) : Sem (FuncId × Value)).run P w := by
        rw [method.eq_2]
        simp only [Sem.run_bind, typeInfo, run_program, Result.andThen_ok, hi, Sem.run_pure, hm]
        rfl
      split at he
      case h_1 f e hp hf hu =>
        obtain ⟨rfl, rfl⟩ := AM.pure_some he
        refine ⟨ρ, (f, v'), w, ?_, Step.refl _ _ _ _, by rw [Grow.eq_self]; exact hr, by rw [Grow.eq_self]; exact ⟨rfl, hv⟩⟩
        rw [hfirst, hp, hf]
        simp [follow, receiverAt, run_underlying hu w, Place.get]
      case h_2 f e hp hf hu =>
        split at he
        case h_2 => cases he
        case h_1 a =>
          obtain ⟨x1, h1, e1, e2⟩ := AM.bind_some he
          obtain ⟨rfl, rfl⟩ := AM.pure_some e2
          obtain ⟨a', x', q1, q2, q3, q4, q5, q6⟩ := aLoad_sound e1 hcov hr hv
          have hG : Grow N h.next h'.next = N := by rw [q4]; exact Grow.eq_self _ _
          refine ⟨ρ, (f, x'), w, ?_, q5, by rw [hG]; exact q6, by rw [hG]; exact ⟨rfl, q3⟩⟩
          subst q1
          have hpe : m.path.isEmpty = true := by
            have : m.path = #[] := by apply Array.ext'; simpa using hp
            rw [this]; rfl
          rw [hfirst, hp, hf]
          have hwrap : ∀ (nm : String), (Builtin.ssaWrapNilChk_ #[t] t #[.pointer (some a'), strVal "", strVal nm]).run P w = .ok (.pointer (some a')) w := fun nm => rfl
          simp only [follow, receiverAt, Sem.run_bind, Sem.run_pure, run_underlying hu w, Result.andThen_ok, Place.get, hpe, if_true, hwrap, asAddr, q2]
      case h_3 f d hd hp hf hu =>
        obtain ⟨rfl, rfl⟩ := AM.pure_some he
        refine ⟨ρ, (f, v'), w, ?_, Step.refl _ _ _ _, by rw [Grow.eq_self]; exact hr, by rw [Grow.eq_self]; exact ⟨rfl, hv⟩⟩
        rw [hfirst, hp, hf]
        have hd' : ∀ e, d ≠ .pointer e := fun e h => hd e h
        cases d <;> first
          | exact absurd rfl (hd' _)
          | simp [follow, receiverAt, run_underlying hu w, Place.get]
      case h_4 => cases he
end Go.Proofs.Ytljhlnpbomehkaa
