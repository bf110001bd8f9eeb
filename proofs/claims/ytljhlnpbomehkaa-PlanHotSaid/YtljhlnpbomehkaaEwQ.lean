/- An evaluator of Go code whose memory has names of its own (17): the evaluator, and that it tells the truth. -/
import Derived.Test.YtljhlnpbomehkaaEwIt
namespace Go.Proofs.Ytljhlnpbomehkaa
set_option linter.unusedVariables false
set_option linter.unusedSimpArgs false

/-- what is known of operations on symbols -/
abbrev OrcF : Type := (Operand → Value) → Oper → Option Value
/-- .. and which of the package's variables are names -/
structure Orc where
  ask : OrcF
  glob : List Nat
  /-- functions that are taken as one step -/
  hook : FuncId → Option (Array Value → AM Value)
/-- one function, as a step of the evaluator -/
def FunOK (P : Program) (f : FuncId) (m : Array Value → AM Value) : Prop :=
  ∀ (args args' : Array Value) (N : Nat → Prop) (ρ : Ren), LR N ρ args.toList args'.toList → ∀ h v h', (m args).run h = some (v, h') → ∀ (D : Nat → Prop) (w : World), Cov D h' → WF h → New N h.next h'.next → Rel D N ρ h.get w →
    Calls P f args' w fun e w' => ∃ ρ' v', e = .returned v' ∧ Step D h ρ w h' ρ' w' ∧ Rel D (Grow N h.next h'.next) ρ' h'.get w' ∧ VR (Grow N h.next h'.next) ρ' v v'
instance : CoeFun Orc fun _ => OrcF := ⟨Orc.ask⟩
def AskOK (P : Program) (SQ : (Nat → Value) → Prop) (orc : OrcF) : Prop := ∀ ev o v, orc ev o = some v → noSel o.op = true ∧ ∀ (r : Ren), SQ r.σ → SymOk r → ∀ w : World, (execOp (fun x => ren r (ev x)) o).run P w = .ok (.value (ren r v)) w
def OrcOK (P : Program) (SQ : (Nat → Value) → Prop) (orc : Orc) : Prop := AskOK P SQ orc.ask ∧ (∀ g ∈ orc.glob, ∀ σ, SQ σ → σ (gsym g) = .nilFunc) ∧ ∀ f m, orc.hook f = some m → FunOK P f m
/-- len of one argument, delete of two -/
def mapCall (c : Call) : Option (Builtin × TypeId × TypeId × Operand × Operand) :=
  match c.callee, c.argTypes.toList, c.args.toList with
  | .builtin .len, [t], [m] => some (.len, t, t, m, m)
  | .builtin .delete, [t, t2], [m, k] => some (.delete, t, t2, m, k)
  | _, _, _ => none
theorem mapCall_spec {c : Call} {b : Builtin} {t t2 : TypeId} {m k : Operand} (h : mapCall c = some (b, t, t2, m, k)) :
    (b = .len ∧ c.callee = .builtin .len ∧ c.argTypes = #[t] ∧ c.args = #[m]) ∨ (b = .delete ∧ c.callee = .builtin .delete ∧ c.argTypes = #[t, t2] ∧ c.args = #[m, k]) := by
  unfold mapCall at h
  split at h
  · rename_i t' m' h1 h2 h3
    simp only [Option.some.injEq, Prod.mk.injEq] at h
    obtain ⟨rfl, rfl, _, rfl, _⟩ := h
    exact .inl ⟨rfl, h1, by apply Array.ext'; simpa using h2, by apply Array.ext'; simpa using h3⟩
  · rename_i t' t2' m' k' h1 h2 h3
    simp only [Option.some.injEq, Prod.mk.injEq] at h
    obtain ⟨rfl, rfl, rfl, rfl, rfl⟩ := h
    exact .inr ⟨rfl, h1, by apply Array.ext'; simpa using h2, by apply Array.ext'; simpa using h3⟩
  · cases h
def aExec (P : Program) (orc : Orc) (ev : Operand → Value) (o : Oper) : AM ANext :=
  match aPure P ev o with
  | some v => .pure (.value v)
  | none => match orc ev o with
  | some v => .pure (.value v)
  | none => match o.op with
    | .load t a => (aLoad P t (ev a)).bind fun v => .pure (.value v)
    | .store t a x => (aStore P t (ev a) (ev x)).bind fun _ => .pure .skip
    | .alloc t => (aAlloc P t).bind fun v => .pure (.value v)
    | .box t x => (aBox t (ev x)).bind fun v => .pure (.value v)
    | .build t parts => (AM.ofOpt (aBuild P t (parts.toList.map fun p => (p.1, ev p.2)))).bind fun v => .pure (.value v)
    | .buildSlice t n parts => (aBuildSlice P t n (parts.toList.map fun p => (p.1, ev p.2))).bind fun v => .pure (.value v)
    | .makeSlice t l c => (aMakeSlice P t (ev l) (ev c)).bind fun v => .pure (.value v)
    | .slice t x lo hi mx => (match closedRun P ev o with
      | some v => .pure (.value v)
      | none => (match mx with
        | none => if spotted (ev x) then (aSlice0 P t (ev x) (lo.map ev) (hi.map ev)).bind fun v => .pure (.value v) else (aSliceOp P t (ev x) (lo.map ev) (hi.map ev) none).bind fun v => .pure (.value v)
        | some mx => (match hi with
          | some hi => (aSlice3 P t (ev x) (lo.map ev) (ev hi) (ev mx)).bind fun v => .pure (.value v)
          | none => .fail)))
    | .convert s d x => if bothSlices P s d then (aMarkRow P s d (ev x)).bind fun v => .pure (.value v) else (aConv P s d (ev x)).bind fun v => .pure (.value v)
    | .lookup t m k ok => (aLookup P t (ev m) (ev k) ok).bind fun v => .pure (.value v)
    | .mapUpdate t m k x => (aMapUpdate P t (ev m) (ev k) (ev x)).bind fun _ => .pure .skip
    | .insert t m k x => (aMapUpdate P t (ev m) (ev k) (ev x)).bind fun _ => .pure .skip
    | .mapEntry t m k => (aMapEntry P t (ev m) (ev k)).bind fun v => .pure (.value v)
    | .entryStore _ m s x => (aEntryStore (ev m) (ev s) (ev x)).bind fun _ => .pure .skip
    | .makeMap t r => (aMakeMap P t (r.map ev)).bind fun v => .pure (.value v)
    | .range t x => (aRange P t (ev x)).bind fun v => .pure (.value v)
    | .entry x => (aEntryOf (ev x)).bind fun v => .pure (.value v)
    | .next x b => if b then .fail else (aNext 0 1 (ev x)).bind fun v => .pure (.value v)
    | .call c => (match mapCall c with
      | some (.len, t, _, m, _) => (match ev m with
        | .map _ => (aLenMap P t (ev m)).bind fun v => .pure (.value v)
        | _ => (match closedRun P ev o with
          | some v => .pure (.value v)
          | none => aCallOp P ev c))
      | some (.delete, t, _, m, k) => (aDelete P t (ev m) (ev k)).bind fun v => .pure (.value v)
      | _ => (match closedRun P ev o with
        | some v => .pure (.value v)
        | none => aCallOp P ev c))
    | _ => .fail
theorem pure_sim {P : Program} {N : Nat → Prop} {ρ : Ren} {ev ev' : Operand → Value} {o : Oper} {v : Value} (hs : noSel o.op = true) (hp : ∀ r, Agree N ρ r → SymOk r → ∀ w : World, (execOp (fun x => ren r (ev x)) o).run P w = .ok (.value (ren r v)) w) (hev : ∀ x ∈ o.op.operands, VR N ρ (ev x) (ev' x)) :
    Sim P N ρ (AM.pure (ANext.value v)) (execOp ev' o) NR := by
  intro h x h' he D w hcov hwf hN hr
  obtain ⟨rfl, rfl⟩ := AM.pure_some he
  have hrun : ∀ r, Agree N ρ r → (execOp ev' o).run P w = .ok (.value (ren r v)) w := fun r ha => by
    rw [execOp_congr (ρ := ev') (ρ' := fun x => ren r (ev x)) o (noSel_ne hs) (fun x hx => (hev x hx r ha).symm)]
    exact hp r ha (fun k => by rw [ha.σ]; exact hr.sym k) w
  refine ⟨ρ, .value (ren ρ v), w, hrun ρ (Agree.refl _ _), Step.refl _ _ _ _, by rw [Grow.eq_self]; exact hr, ?_⟩
  rw [Grow.eq_self]
  intro r ha
  have h1 := hrun r ha
  rw [hrun ρ (Agree.refl _ _)] at h1
  injection h1 with h1; injection h1 with h1
  exact h1.symm
theorem aPure_noSel {P : Program} {ev : Operand → Value} {o : Oper} {v : Value} (h : aPure P ev o = some v) : noSel o.op = true := by
  cases hop : o.op with
  | select cs b => unfold aPure at h; rw [hop] at h; cases h
  | _ => rfl
theorem map_opt {N : Nat → Prop} {ρ : Ren} {ev ev' : Operand → Value} {x : Option Operand} (h : ∀ y, x = some y → VR N ρ (ev y) (ev' y)) : x.map ev' = (x.map ev).map (ren ρ) := by
  cases x with
  | none => rfl
  | some y => simp [(h y rfl).eq]
theorem Sim.congr {P : Program} {α β : Type} {N : Nat → Prop} {ρ : Ren} {m : AM α} {s s' : Sem β} {R : (Nat → Prop) → Ren → α → β → Prop} (h : Sim P N ρ m s R) (he : ∀ w, s'.run P w = s.run P w) : Sim P N ρ m s' R := by
  intro h0 x h' e D w hc hwf hN hr
  rw [he]
  exact h h0 x h' e D w hc hwf hN hr
theorem aExec_sound {P : Program} (hn : NameOK P) {SQ : (Nat → Value) → Prop} {orc : Orc} (ho : OrcOK P SQ orc) {N : Nat → Prop} {ρ : Ren} (hsq : SQ ρ.σ) {ev ev' : Operand → Value} {o : Oper} (hev : ∀ x ∈ o.op.operands, VR N ρ (ev x) (ev' x)) : Sim P N ρ (aExec P orc ev o) (execOp ev' o) NR := by
  unfold aExec
  cases hp : aPure P ev o with
  | some v => exact pure_sim (aPure_noSel hp) (fun r _ => aPure_ok hp r) hev
  | none =>
    dsimp only
    cases hor : orc ev o with
    | some v => exact pure_sim (ho.1 ev o v hor).1 (fun r ha hs w => (ho.1 ev o v hor).2 r (by rw [ha.σ]; exact hsq) hs w) hev
    | none =>
    dsimp only
    clear ho
    split
    case h_1 t a ho =>
      refine Sim.congr (simValue (s := Instr.loadAt t (ev' a)) ?_) (fun w => by unfold execOp; rw [ho]; rfl)
      intro h x h' he D w hcov hwf hN hr
      obtain ⟨a', x', q1, q2, q3, q4, q5, q6⟩ := aLoad_sound he hcov hr (hev a (by simp [ho, Op.operands]))
      have hG : Grow N h.next h'.next = N := by rw [q4]; exact Grow.eq_self _ _
      refine ⟨ρ, x', w, ?_, q5, by rw [hG]; exact q6, by rw [hG]; exact q3⟩
      rw [q1]
      simp [Instr.loadAt, Instr.sureAddr, q2]
    case h_2 t a x ho =>
      have := (aStore_sound (P := P) (t := t) (hev a (by simp [ho, Op.operands])) (hev x (by simp [ho, Op.operands]))).bind (f := fun _ => AM.pure ANext.skip) (g := fun _ => Sem.pure Next.skip) (R2 := NR) (fun _ _ _ _ _ _ _ => Sim.pure trivial)
      exact this.congr (fun w => by unfold execOp; rw [ho]; rfl)
    case h_3 t ho => exact (simValue aAlloc_sound).congr (fun w => by unfold execOp; rw [ho]; rfl)
    case h_4 t x ho => exact Sim.withSym fun hs => (simValue (aBox_sound hs (hev x (by simp [ho, Op.operands])))).congr (fun w => by unfold execOp; rw [ho]; rfl)
    case h_5 t parts ho =>
      have hps : ∀ r, Agree N ρ r → (parts.map fun p => (p.1, ev' p.2)).toList = (parts.toList.map fun p => (p.1, ev p.2)).map fun p => (p.1, ren r p.2) := fun r ha => by
        rw [Array.toList_map, List.map_map]
        refine List.map_congr_left fun p hp => ?_
        have := hev p.2 (by simp [ho, Op.operands]; exact ⟨p.1, by simpa using hp⟩) r ha
        simp [this]
      refine Sim.congr (simValue (s := Instr.build t (parts.map fun p => (p.1, ev' p.2))) ?_) (fun w => by unfold execOp; rw [ho]; rfl)
      intro h x h' he D w hcov hwf hN hr
      obtain ⟨he2, rfl⟩ := AM.ofOpt_some he
      have hrun : ∀ r, Agree N ρ r → (Instr.build t (parts.map fun p => (p.1, ev' p.2))).run P w = .ok (ren r x) w := fun r ha =>
        aBuild_run he2 (fun k => by rw [ha.σ]; exact hr.sym k) w _ (hps r ha)
      refine ⟨ρ, ren ρ x, w, hrun ρ (Agree.refl _ _), Step.refl _ _ _ _, by rw [Grow.eq_self]; exact hr, ?_⟩
      rw [Grow.eq_self]
      intro r ha
      have h1 := hrun r ha
      rw [hrun ρ (Agree.refl _ _)] at h1
      injection h1 with h1
      exact h1.symm
    case h_6 t n parts ho =>
      have hps : ∀ r, Agree N ρ r → (parts.map fun p => (p.1, ev' p.2)).toList = (parts.toList.map fun p => (p.1, ev p.2)).map fun p => (p.1, ren r p.2) := fun r ha => by
        rw [Array.toList_map, List.map_map]
        refine List.map_congr_left fun p hp => ?_
        have := hev p.2 (by simp [ho, Op.operands]; exact ⟨p.1, by simpa using hp⟩) r ha
        simp [this]
      exact (simValue (aBuildSlice_sound hps)).congr (fun w => by unfold execOp; rw [ho]; rfl)
    case h_7 t l c ho => exact (simValue (aMakeSlice_sound (hev l (by simp [ho, Op.operands])) (hev c (by simp [ho, Op.operands])))).congr (fun w => by unfold execOp; rw [ho]; rfl)
    case h_8 t x lo hi mx ho =>
      cases hc : closedRun P ev o with
      | some v => exact pure_sim (by rw [ho]; rfl) (fun r _ => closedRun_ok hc r) hev
      | none =>
        dsimp only
        split
        case h_1 =>
          split
          case isTrue => exact (simValue (aSlice0_sound (lo' := lo.map ev') (hi' := hi.map ev') (hev x (by simp [ho, Op.operands])) (map_opt fun y hy => hev y (by simp [ho, Op.operands, hy])) (map_opt fun y hy => hev y (by simp [ho, Op.operands, hy])))).congr (fun w => by unfold execOp; rw [ho]; rfl)
          case isFalse => exact (simValue (aSliceOp_sound (mx' := none) (hev x (by simp [ho, Op.operands])) (map_opt fun y hy => hev y (by simp [ho, Op.operands, hy])) (map_opt fun y hy => hev y (by simp [ho, Op.operands, hy])) (fun _ => rfl))).congr (fun w => by unfold execOp; rw [ho]; rfl)
        case h_2 mx =>
          split
          case h_2 => exact Sim.fail
          case h_1 hi => exact (simValue (aSlice3_sound (lo' := lo.map ev') (hi' := some (ev' hi)) (mx' := some (ev' mx)) (hev x (by simp [ho, Op.operands])) (map_opt fun y hy => hev y (by simp [ho, Op.operands, hy])) (by rw [(hev hi (by simp [ho, Op.operands])).eq]) (by rw [(hev mx (by simp [ho, Op.operands])).eq]))).congr (fun w => by unfold execOp; rw [ho]; rfl)
    case h_9 s d x ho =>
      split
      case isTrue => exact (simValue (aMarkRow_sound (hev x (by simp [ho, Op.operands])))).congr (fun w => by unfold execOp; rw [ho]; rfl)
      case isFalse => exact (simValue (aConv_sound (hev x (by simp [ho, Op.operands])))).congr (fun w => by unfold execOp; rw [ho]; rfl)
    case h_10 t m k ok ho => exact (simValue (aLookup_sound (hev m (by simp [ho, Op.operands])) (hev k (by simp [ho, Op.operands])))).congr (fun w => by unfold execOp; rw [ho]; rfl)
    case h_11 t m k x ho =>
      have := (aMapUpdate_sound (P := P) (t := t) (hev m (by simp [ho, Op.operands])) (hev k (by simp [ho, Op.operands])) (hev x (by simp [ho, Op.operands]))).bind (f := fun _ => AM.pure ANext.skip) (g := fun _ => Sem.pure Next.skip) (R2 := NR) (fun _ _ _ _ _ _ _ => Sim.pure trivial)
      exact this.congr (fun w => by unfold execOp; rw [ho]; rfl)
    case h_12 t m k x ho =>
      have := (aMapUpdate_sound (P := P) (t := t) (hev m (by simp [ho, Op.operands])) (hev k (by simp [ho, Op.operands])) (hev x (by simp [ho, Op.operands]))).bind (f := fun _ => AM.pure ANext.skip) (g := fun _ => Sem.pure Next.skip) (R2 := NR) (fun _ _ _ _ _ _ _ => Sim.pure trivial)
      exact this.congr (fun w => by unfold execOp; rw [ho]; rfl)
    case h_13 t m k ho => exact (simValue (aMapEntry_sound (hev m (by simp [ho, Op.operands])) (hev k (by simp [ho, Op.operands])))).congr (fun w => by unfold execOp; rw [ho]; rfl)
    case h_14 t m s x ho =>
      have := (aEntryStore_sound (P := P) (t := t) (hev m (by simp [ho, Op.operands])) (hev s (by simp [ho, Op.operands])) (hev x (by simp [ho, Op.operands]))).bind (f := fun _ => AM.pure ANext.skip) (g := fun _ => Sem.pure Next.skip) (R2 := NR) (fun _ _ _ _ _ _ _ => Sim.pure trivial)
      exact this.congr (fun w => by unfold execOp; rw [ho]; rfl)
    case h_15 t r ho => exact (simValue (aMakeMap_sound (map_opt fun y hy => hev y (by simp [ho, Op.operands, hy])))).congr (fun w => by unfold execOp; rw [ho]; rfl)
    case h_16 t x ho => exact (simValue (aRange_sound (hev x (by simp [ho, Op.operands])))).congr (fun w => by unfold execOp; rw [ho]; rfl)
    case h_17 x ho => exact (simValue (aEntryOf_sound (hev x (by simp [ho, Op.operands])))).congr (fun w => by unfold execOp; rw [ho]; rfl)
    case h_18 x b ho =>
      split
      case isTrue => exact Sim.fail
      case isFalse hb =>
        have hb : b = false := by simpa using hb
        subst hb
        refine (simValue (s := Instr.next (ev' x) false o.type) ?_).congr (fun w => by unfold execOp; rw [ho]; rfl)
        intro h v h' he D w hcov hwf hN hr
        obtain ⟨c, hc, y, w', q1, q2, q3, q4, q5⟩ := aNext_run (P := P) (ty := o.type) (hev x (by simp [ho, Op.operands])) (k := 1) (Nat.le_refl _) (xs := fun _ => v) (hs := fun _ => h') (fun c hc => by rw [Nat.lt_one_iff.1 hc]; exact he) (D := D) (w := w) (fun _ _ => hcov) hwf hr
        have hG : Grow N h.next h'.next = N := by rw [q5]; exact Grow.eq_self _ _
        exact ⟨ρ, y, w', q1, q2, by rw [hG]; exact q3, by rw [hG]; exact q4⟩
    case h_19 c ho =>
      have hcall : Sim P N ρ (match closedRun P ev o with
          | some v => AM.pure (ANext.value v)
          | none => aCallOp P ev c) (execOp ev' o) NR := by
        cases hc : closedRun P ev o with
        | some v => exact pure_sim (by rw [ho]; rfl) (fun r _ => closedRun_ok hc r) hev
        | none => exact (aCallOp_sound hn (ty := o.type) (fun x hx => hev x (by simp [ho, Op.operands]; simpa using hx))).congr (fun w => by unfold execOp; rw [ho])
      split
      case h_1 t t2 m k hmc =>
        rcases mapCall_spec hmc with ⟨_, h1, h2, h3⟩ | ⟨h0, _⟩
        · split
          case h_1 mm hm =>
            refine (simValue (aLenMap_sound (ty := o.type) (hev m (by simp [ho, Op.operands, Call.operands, h3])))).congr (fun w => ?_)
            unfold execOp; rw [ho]
            simp only [resolve, h1, h2, h3, Sem.run_bind, Sem.run_pure, Result.andThen_ok, invoke, builtin]
            rw [Sem.run_bind', show Array.map ev' #[m] = #[ev' m] from by simp]
            rfl
          case h_2 => exact hcall
        · cases h0
      case h_2 t t2 m k hmc =>
        rcases mapCall_spec hmc with ⟨h0, _⟩ | ⟨_, h1, h2, h3⟩
        · cases h0
        · refine (simValue (aDelete_sound (t2 := t2) (ty := o.type) (hev m (by simp [ho, Op.operands, Call.operands, h3])) (hev k (by simp [ho, Op.operands, Call.operands, h3])))).congr (fun w => ?_)
          unfold execOp; rw [ho]
          simp only [resolve, h1, h2, h3, Sem.run_bind, Sem.run_pure, Result.andThen_ok, invoke, builtin]
          rw [Sem.run_bind', show Array.map ev' #[m, k] = #[ev' m, ev' k] from by simp]
          rfl
      case h_3 => exact hcall
    case h_20 => exact Sim.fail

/-- a call of a function that is named -/
def staticCallee (c : Call) : Option FuncId :=
  match c.callee with
  | .value (.func g) => some g
  | _ => none
/-- loads, stores, calls of named functions without more ado -/
def aExecF (P : Program) (orc : Orc) (ev : Operand → Value) (o : Oper) : AM ANext :=
  match o.op with
  | .load t a => (aLoad P t (ev a)).bind fun v => .pure (.value v)
  | .store t a x => (aStore P t (ev a) (ev x)).bind fun _ => .pure .skip
  | .call c => (match staticCallee c with
    | some g => aEnter P g (c.args.map ev)
    | none => aExec P orc ev o)
  | _ => aExec P orc ev o
theorem aExecF_sound {P : Program} (hn : NameOK P) {SQ : (Nat → Value) → Prop} {orc : Orc} (hO : OrcOK P SQ orc) {N : Nat → Prop} {ρ : Ren} (hsq : SQ ρ.σ) {ev ev' : Operand → Value} {o : Oper} (hfun : ∀ g, ev (.func g) = .func (.func g) #[] #[]) (hev : ∀ x ∈ o.op.operands, VR N ρ (ev x) (ev' x)) :
    Sim P N ρ (aExecF P orc ev o) (execOp ev' o) NR := by
  unfold aExecF
  split
  case h_1 t a ho =>
    refine Sim.congr (simValue (s := Instr.loadAt t (ev' a)) ?_) (fun w => by unfold execOp; rw [ho]; rfl)
    intro h x h' he D w hcov hwf hN hr
    obtain ⟨a', x', q1, q2, q3, q4, q5, q6⟩ := aLoad_sound he hcov hr (hev a (by simp [ho, Op.operands]))
    have hG : Grow N h.next h'.next = N := by rw [q4]; exact Grow.eq_self _ _
    refine ⟨ρ, x', w, ?_, q5, by rw [hG]; exact q6, by rw [hG]; exact q3⟩
    rw [q1]
    simp [Instr.loadAt, Instr.sureAddr, q2]
  case h_2 t a x ho =>
    have := (aStore_sound (P := P) (t := t) (hev a (by simp [ho, Op.operands])) (hev x (by simp [ho, Op.operands]))).bind (f := fun _ => AM.pure ANext.skip) (g := fun _ => Sem.pure Next.skip) (R2 := NR) (fun _ _ _ _ _ _ _ => Sim.pure trivial)
    exact this.congr (fun w => by unfold execOp; rw [ho]; rfl)
  case h_3 c ho =>
    split
    case h_2 => exact aExec_sound hn hO hsq hev
    case h_1 g hg =>
          have hc : c.callee = .value (.func g) := by
            unfold staticCallee at hg
            split at hg
            · rename_i g2 hc; injection hg with hg; subst hg; exact hc
            · cases hg
          have h1 := aCallOp_sound (P := P) hn (ty := o.type) (c := c) (ev := ev) (ev' := ev') (N := N) (ρ := ρ) (fun x hx => hev x (by simp [ho, Op.operands]; simpa using hx))
          have h2 : aCallOp P ev c = aEnter P g (c.args.map ev) := by
            unfold aCallOp
            rw [hc]
            dsimp only
            rw [hfun g]
            simp
          rw [h2] at h1
          exact h1.congr (fun w => by unfold execOp; rw [ho])
  case h_4 => exact aExec_sound hn hO hsq hev

/-- what a call is held to -/
def CallOK (P : Program) (SQ : (Nat → Value) → Prop) (call : FuncId → Array Value → AM Value) : Prop :=
  ∀ (f : FuncId) (args args' : Array Value) (N : Nat → Prop) (ρ : Ren), SQ ρ.σ → LR N ρ args.toList args'.toList → ∀ h v h', (call f args).run h = some (v, h') → ∀ (D : Nat → Prop) (w : World), Cov D h' → WF h → New N h.next h'.next → Rel D N ρ h.get w →
    Calls P f args' w fun e w' => ∃ ρ' v', e = .returned v' ∧ Step D h ρ w h' ρ' w' ∧ Rel D (Grow N h.next h'.next) ρ' h'.get w' ∧ VR (Grow N h.next h'.next) ρ' v v'
def aOper (P : Program) (orc : Orc) (call : FuncId → Array Value → AM Value) (o : Oper) (ts : Array Value) : AM Value :=
  if o.op.operands.toList.all (okOpdG orc.glob) then
    (aExecF P orc (aEv ts) o).bind fun
      | .value v => .pure v
      | .skip => .pure undef
      | .enter f args => call f args
  else .fail
theorem aOper_sound {P : Program} (hn : NameOK P) {SQ : (Nat → Value) → Prop} {orc : Orc} (ho : OrcOK P SQ orc) {call : FuncId → Array Value → AM Value} (hc : CallOK P SQ call) (ops : Array Oper) : OSound P SQ ops (aOper P orc call) := by
  intro o _ ts N ρ a hsq hlook h v h' he D w hcov hwf hN hr K Q hK
  unfold aOper at he
  split at he
  case isFalse => cases he
  case isTrue hok =>
    obtain ⟨x, h1, e1, e2⟩ := AM.bind_some he
    have hev : ∀ x ∈ o.op.operands, VR N ρ (aEv ts x) (a.eval x) := fun x hx => by
      have hox := (List.all_eq_true.1 hok) x (by simpa using hx)
      cases x with
      | tmp t => exact hlook t (List.mem_append_left _ (List.mem_filterMap.2 ⟨.tmp t, by simpa using hx, rfl⟩))
      | const v => exact VR.shut hox
      | global g =>
        have hg := hr.glob g (ho.2.1 g (by simpa [okOpdG] using hox) _ hsq)
        intro r hr2
        show ren r (.pointer (some ⟨g, 0, none⟩)) = .pointer (some ⟨g, 0, none⟩)
        simp only [ren, renA]
        rw [hr2.φ g hg.1, hg.2]
      | func f => exact VR.shut rfl
    have m1 := (aExecF P orc (aEv ts) o).mono _ _ _ e1
    have m2 := AM.mono _ _ _ _ e2
    obtain ⟨ρ1, y, w1, r1, s1, q1, p1⟩ := aExecF_sound hn ho hsq (fun _ => rfl) hev h x h1 e1 D w (hcov.of m2) hwf (hN.left m2.next) hr
    unfold Oper.wp
    rw [r1]
    cases x with
    | value v0 =>
      obtain ⟨rfl, rfl⟩ := AM.pure_some e2
      cases y with
      | value v' => exact hK ρ1 v' w1 s1 q1 p1
      | _ => exact p1.elim
    | skip =>
      obtain ⟨rfl, rfl⟩ := AM.pure_some e2
      cases y with
      | skip => exact hK ρ1 undef w1 s1 q1 (VR.shut rfl)
      | _ => exact p1.elim
    | enter f args =>
      cases y with
      | enter f' args' =>
        obtain ⟨rfl, p1⟩ := p1
        refine Calls.mono (hc f' args args' _ ρ1 (by rw [s1.agree.σ]; exact hsq) p1 h1 v h' e2 D w1 hcov (m1.wf hwf) (hN.right m1.next) q1) ?_
        rintro e w2 ⟨ρ2, v2, rfl, s2, q2, p2⟩
        rw [Grow.trans_eq N m1.next m2.next] at q2 p2
        exact hK ρ2 v2 w2 (s1.trans s2 m1 m2) q2 p2
      | _ => exact p1.elim

/-- what a function leaves -/
def aResL (P : Program) (ts : Array Value) : List ResultVar → AM (List Value)
  | [] => .pure []
  | .tmp t :: r => (aResL P ts r).bind fun l => .pure (ts.getD t undef :: l)
  | .cell a t :: r => (aLoad P t (ts.getD a undef)).bind fun v => (aResL P ts r).bind fun l => .pure (v :: l)
def resF (tm : Array Value) : ResultVar → Sem Value
  | .tmp t => pure (tm.getD t undef)
  | .cell a t => do loadVar t (← asAddr (tm.getD a undef))
theorem aResL_sound {P : Program} {ts tm : Array Value} {D N : Nat → Prop} {ρ : Ren} {w : World} (ht : TR N ρ ts tm) : ∀ (rs : List ResultVar) (h : AH) (l : List Value) (h' : AH), (aResL P ts rs).run h = some (l, h') → Cov D h' → Rel D N ρ h.get w →
    ∃ l', (rs.mapM (resF tm)).run P w = .ok l' w ∧ LR N ρ l l' ∧ h'.next = h.next ∧ Step D h ρ w h' ρ w ∧ Rel D N ρ h'.get w
  | [], h, l, h', e, hc, hr => by
    obtain ⟨rfl, rfl⟩ := AM.pure_some e
    exact ⟨[], rfl, fun r _ => rfl, rfl, Step.refl _ _ _ _, hr⟩
  | .tmp t :: r, h, l, h', e, hc, hr => by
    obtain ⟨l1, h1, e1, e2⟩ := AM.bind_some e
    obtain ⟨rfl, rfl⟩ := AM.pure_some e2
    obtain ⟨l', q1, q2, q3, q4, q5⟩ := aResL_sound ht r h l1 h' e1 hc hr
    refine ⟨tm.getD t undef :: l', ?_, fun r hr => by simp only [List.map_cons, ht.val t r hr, q2 r hr], q3, q4, q5⟩
    rw [List.mapM_cons]
    simp [resF, q1]
  | .cell a t :: r, h, l, h', e, hc, hr => by
    obtain ⟨v, h1, e1, e2⟩ := AM.bind_some e
    obtain ⟨l1, h2, e3, e4⟩ := AM.bind_some e2
    obtain ⟨rfl, rfl⟩ := AM.pure_some e4
    have m1 := (aLoad P t _).mono _ _ _ e1
    have m2 := (aResL P ts r).mono _ _ _ e3
    obtain ⟨a', x', p1, p2, p3, p4, p5, p6⟩ := aLoad_sound e1 (hc.of m2) hr (ht.val a)
    obtain ⟨l', q1, q2, q3, q4, q5⟩ := aResL_sound ht r h1 l1 h' e3 hc p6
    refine ⟨x' :: l', ?_, fun r hr => by simp only [List.map_cons, p3 r hr, q2 r hr], q3.trans p4, p5.trans q4 m1 m2, q5⟩
    rw [List.mapM_cons]
    have hf : (resF tm (.cell a t)).run P w = .ok x' w := by
      show (asAddr (tm.getD a undef) >>= fun x => loadVar t x).run P w = _
      rw [p1]
      simp [asAddr, p2]
    simp [hf, q1]
def aRes (P : Program) (fn : Func) (ts : Array Value) : AM Value :=
  (aResL P ts fn.results.toList).bind fun l => match l with
    | [v] => .pure v
    | l => .pure (.tuple l.toArray)
theorem results_run {P : Program} {fn : Func} {tm : Array Value} {w : World} {l' : List Value} (h : (fn.results.toList.mapM (resF tm)).run P w = .ok l' w) :
    (results fn tm).run P w = .ok (match l' with | [v] => v | l => .tuple l.toArray) w := by
  have h1 : (fn.results.mapM (resF tm)).run P w = .ok l'.toArray w := by
    rw [Array.mapM_eq_mapM_toList]
    simp [h]
  have h2 : results fn tm = (fn.results.mapM (resF tm) >>= fun vs => pure (if h : vs.size = 1 then vs[0] else .tuple vs)) := by
    unfold results
    congr 1
  rw [h2, Sem.run_bind, h1]
  match l' with
  | [] => rfl
  | [v] => rfl
  | a :: b :: r => simp
theorem aRes_sound {P : Program} {fn : Func} {ts tm : Array Value} {D N : Nat → Prop} {ρ : Ren} {w : World} (ht : TR N ρ ts tm) {h h' : AH} {v : Value} (e : (aRes P fn ts).run h = some (v, h')) (hc : Cov D h') (hr : Rel D N ρ h.get w) :
    ∃ v', (results fn tm).run P w = .ok v' w ∧ VR N ρ v v' ∧ h'.next = h.next ∧ Step D h ρ w h' ρ w ∧ Rel D N ρ h'.get w := by
  obtain ⟨l, h1, e1, e2⟩ := AM.bind_some e
  have hh : h1 = h' := by
    split at e2 <;> exact (AM.pure_some e2).2.symm
  subst hh
  obtain ⟨l', q1, q2, q3, q4, q5⟩ := aResL_sound ht _ h l h1 e1 hc hr
  refine ⟨_, results_run q1, ?_, q3, q4, q5⟩
  have hlen := q2.length
  match l, l' with
  | [], [] => obtain ⟨rfl, _⟩ := AM.pure_some e2; exact fun r _ => by simp [ren]
  | [a], [b] => obtain ⟨rfl, _⟩ := AM.pure_some e2; exact fun r hr => by have := q2 r hr; simpa using this
  | a :: b :: m, a' :: b' :: m' =>
    obtain ⟨rfl, _⟩ := AM.pure_some e2
    intro r hr
    have := q2 r hr
    simp only [ren, List.map_toArray, Value.tuple.injEq]
    rw [← this]
  | [], _ :: _ => simp at hlen
  | [_], [] => simp at hlen
  | [_], _ :: _ :: _ => simp at hlen
  | _ :: _ :: _, [] => simp at hlen
  | _ :: _ :: _, [_] => simp at hlen

def aFn (P : Program) (orc : Orc) (fuel : Nat) (call : FuncId → Array Value → AM Value) (f : FuncId) (args : Array Value) : AM Value :=
  match orc.hook f with
  | some m => m args
  | none => match P.funcs[f]? with
  | some fn => (match fn.body with
    | some c => (aCode (aOper P orc call) fuel c (args ++ Array.replicate (fn.ntmps - args.size) undef)).bind fun p => match p with
      | (.normal, ts) => aRes P fn ts
      | (.ret, ts) => aRes P fn ts
      | _ => .fail
    | none => .fail)
  | none => .fail
theorem aFn_sound {P : Program} (hm : P.follows .mixedOrders = true) (hn : NameOK P) {SQ : (Nat → Value) → Prop} {orc : Orc} (ho : OrcOK P SQ orc) (fuel : Nat) {call : FuncId → Array Value → AM Value} (hc : CallOK P SQ call) : CallOK P SQ (aFn P orc fuel call) := by
  intro f args args' N ρ hsq ha h v h' he D w hcov hwf hN hr
  unfold aFn at he
  cases hhk : orc.hook f with
  | some m => rw [hhk] at he; exact ho.2.2 f m hhk args args' N ρ ha h v h' he D w hcov hwf hN hr
  | none =>
  rw [hhk] at he
  dsimp only at he
  cases hf : P.funcs[f]? with
  | none => rw [hf] at he; cases he
  | some fn =>
    rw [hf] at he
    dsimp only at he
    cases hb : fn.body with
    | none => rw [hb] at he; cases he
    | some c =>
      rw [hb] at he
      obtain ⟨p, h1, e1, e2⟩ := AM.bind_some he
      obtain ⟨wy, ts⟩ := p
      have m1 := (aCode _ _ _ _).mono _ _ _ e1
      have m2 := AM.mono _ _ _ _ e2
      have hsz : args'.size = args.size := by rw [← Array.length_toList, ha.length, Array.length_toList]
      have ht : TR N ρ (args ++ Array.replicate (fn.ntmps - args.size) undef) (args' ++ Array.replicate (fn.ntmps - args'.size) undef) := by
        refine ⟨fun t => ?_, by simp [hsz]⟩
        rw [Array.getD_eq_getD_getElem?, Array.getD_eq_getD_getElem?, ← Array.getElem?_toList, ← Array.getElem?_toList]
        have hl : LR N ρ (args ++ Array.replicate (fn.ntmps - args.size) undef).toList (args' ++ Array.replicate (fn.ntmps - args'.size) undef).toList := by
          rw [Array.toList_append, Array.toList_append, hsz]
          refine ha.append (LR.shut ?_)
          simp [Array.toList_replicate]
          exact .inr rfl
        cases hx : (args ++ Array.replicate (fn.ntmps - args.size) undef).toList[t]? with
        | none =>
          have : (args' ++ Array.replicate (fn.ntmps - args'.size) undef).toList[t]? = none := by
            rw [List.getElem?_eq_none_iff] at hx ⊢
            rw [hl.length]; exact hx
          rw [this]; exact VR.shut rfl
        | some u =>
          obtain ⟨u', h3, h4⟩ := hl.get hx
          rw [h3]; exact h4
      refine calls_of_wp hf hb ?_
      refine (aCode_both hm (aOper_sound hn ho hc) fuel).1 c _ h wy ts h1 e1 D N ρ _ w hsq (hcov.of m2) hwf (hN.left m2.next) hr ht _ ?_
      rintro a' w' ⟨ρ1, s1, r1, t1, d1⟩
      have fin : ∀ (e : (aRes P fn ts).run h1 = some (v, h')), a'.defers = [] ∧ ∃ v', (results fn a'.tmps).run P w' = .ok v' w' ∧ ∃ ρ' v'', Ending.returned v' = .returned v'' ∧ Step D h ρ w h' ρ' w' ∧ Rel D (Grow N h.next h'.next) ρ' h'.get w' ∧ VR (Grow N h.next h'.next) ρ' v v'' := fun e => by
        obtain ⟨v', q1, q2, q3, q4, q5⟩ := aRes_sound t1 e hcov r1
        refine ⟨d1, v', q1, ρ1, v', rfl, s1.trans q4 m1 m2, ?_, ?_⟩
        · rw [q3]; exact q5
        · rw [q3]; exact q2
      cases wy with
      | normal => exact fin e2
      | ret => exact fin e2
      | exit i => cases e2
def aCall (P : Program) (orc : Orc) (fuel : Nat) : Nat → FuncId → Array Value → AM Value
  | 0, _, _ => .fail
  | n + 1, f, args => aFn P orc fuel (aCall P orc fuel n) f args
theorem aCall_sound {P : Program} (hm : P.follows .mixedOrders = true) (hn : NameOK P) {SQ : (Nat → Value) → Prop} {orc : Orc} (ho : OrcOK P SQ orc) (fuel : Nat) : ∀ n, CallOK P SQ (aCall P orc fuel n)
  | 0 => fun f args args' N ρ _ _ h v h' he => by cases he
  | n + 1 => aFn_sound hm hn ho fuel (aCall_sound hm hn ho fuel n)
def noOrc : Orc := ⟨fun _ _ => none, [], fun _ => none⟩
theorem noOrc_ok (P : Program) (SQ : (Nat → Value) → Prop) : OrcOK P SQ noOrc := ⟨(fun _ _ _ h => nomatch h), (fun g hg => nomatch hg), fun _ _ h => nomatch h⟩
/-- nothing but that these variables are names -/
def globOrc (G : List Nat) : Orc := ⟨fun _ _ => none, G, fun _ => none⟩
theorem globOrc_ok (P : Program) {G : List Nat} {σ : Nat → Value} (h : ∀ g ∈ G, σ (gsym g) = .nilFunc) : OrcOK P (· = σ) (globOrc G) := ⟨(fun _ _ _ h => nomatch h), (fun g hg s hs => by cases hs; exact h g hg), fun _ _ h => nomatch h⟩
/-- nothing but that these functions are taken as one step -/
def hookOrc (H : FuncId → Option (Array Value → AM Value)) : Orc := ⟨fun _ _ => none, [], H⟩
theorem hookOrc_ok (P : Program) (SQ : (Nat → Value) → Prop) {H : FuncId → Option (Array Value → AM Value)} (h : ∀ f m, H f = some m → FunOK P f m) : OrcOK P SQ (hookOrc H) := ⟨(fun _ _ _ h => nomatch h), (fun g hg => nomatch hg), h⟩

/-- a function of symbols -/
def symF (l : List (Nat × Value)) (k : Nat) : Value :=
  match l with
  | [] => .bool false
  | p :: r => if p.1 = k then p.2 else symF r k
theorem symF_glob : ∀ {l : List (Nat × Value)}, (l.all fun p => decide (p.1 < 5000000)) = true → ∀ g, symF l (gsym g) ≠ .nilFunc
  | [], _, g, e => by cases e
  | p :: r, h, g, e => by
    simp only [List.all_cons, Bool.and_eq_true, decide_eq_true_eq] at h
    unfold symF at e
    rw [if_neg (by unfold gsym; omega)] at e
    exact symF_glob h.2 g e
/-- a call that looks at no memory of before: what it leaves, and that nothing of before is changed -/
theorem Calls.of_eval {P : Program} (hm : P.follows .mixedOrders = true) (hn : NameOK P) {orc : Orc} {σ : Nat → Value} (hσ : ∀ k, (σ k).oneCell' = true) (ho : OrcOK P (· = σ) orc) {fuel n : Nat} {f : FuncId} {args args' : Array Value}
    (ha : ∀ r : Ren, r.σ = σ → args.map (ren r) = args') {v : Value}
    (he : ((aCall P orc fuel n f args).run ⟨.lf, 0, 0, [], []⟩).map (·.1) = some v) (hv : shut v = true) (w : World) (hg : ∀ g, σ (gsym g) ≠ .nilFunc := by first | exact fun g => symF_glob rfl g | (intro g h; cases h; done)) : Calls P f args' w fun e w' => e = .returned v ∧ RowKit.Below w.heap.size w w' := by
  have h0 : ∀ n, (⟨.lf, 0, 0, [], []⟩ : AH).get n = none := fun n => Tr.get_lf n
  cases hrun : (aCall P orc fuel n f args).run ⟨.lf, 0, 0, [], []⟩ with
  | none => rw [hrun] at he; cases he
  | some p =>
    obtain ⟨v0, h'⟩ := p
    rw [hrun] at he
    simp only [Option.map_some, Option.some.injEq] at he
    subst he
    refine (aCall_sound hm hn ho fuel n f args args' (fun _ => False) ⟨fun _ => 0, fun _ => 0, σ⟩ rfl (fun r hr => by rw [← ha r hr.σ, Array.toList_map]) _ v0 h' hrun (fun _ => True) w ⟨fun _ _ => trivial, fun _ _ => trivial⟩ (fun n _ => h0 n) (fun _ _ h => h)
      (by
        refine ⟨?_, ?_, ?_, hσ, fun g h => absurd h (hg g)⟩
        · intro n m _ _ hs; rw [h0] at hs; cases hs
        · intro n o _ ho; rw [h0] at ho; cases ho
        · intro n _ hs; rw [h0] at hs; cases hs)).mono ?_
    rintro e w' ⟨ρ', v', rfl, hs, hr, hvv⟩
    have hv' : v' = v0 := by rw [← hvv.eq]; exact ren_shut _ hv
    subst hv'
    exact ⟨rfl, hs.os, hs.tape, hs.output, hs.size, fun k hk => hs.frame k hk (fun m _ _ hsome => by rw [h0] at hsome; cases hsome)⟩
/-- a call that looks at the package's variables alone: what it leaves, and that nothing of before is changed -/
theorem Calls.of_evalG {P : Program} (hm : P.follows .mixedOrders = true) (hn : NameOK P) {orc : Orc} {σ : Nat → Value} (hσ : ∀ k, (σ k).oneCell' = true) (ho : OrcOK P (· = σ) orc) {fuel n : Nat} {f : FuncId} {args args' : Array Value}
    (ha : ∀ r : Ren, r.σ = σ → args.map (ren r) = args') {v : Value} {m0 : Tr} {n0 : Nat} (w : World) (hg : ∀ g, σ (gsym g) = .nilFunc → g < n0) (hw0 : ∀ g, n0 ≤ g → m0.get g = none)
    (hh : ∀ g o, m0.get g = some o → Holds (fun g => g < n0) ⟨fun g => g, fun _ => 0, σ⟩ g w o) {h' : AH}
    (he : (aCall P orc fuel n f args).run ⟨m0, n0, n0, [], []⟩ = some (v, h')) (hwr : h'.wrt = []) (hv : shut v = true) : Calls P f args' w fun e w' => e = .returned v ∧ RowKit.Below w.heap.size w w' := by
  have hlt : ∀ g, (m0.get g).isSome → g < n0 := fun g hs => by
    rcases Nat.lt_or_ge g n0 with h | h
    · exact h
    · rw [hw0 g h] at hs; cases hs
  refine (aCall_sound hm hn ho fuel n f args args' (fun g => g < n0) ⟨fun g => g, fun _ => 0, σ⟩ rfl (fun r hr => by rw [← ha r hr.σ, Array.toList_map]) _ v h' he (fun _ => True) w ⟨fun _ _ => trivial, fun _ _ => trivial⟩ (fun g hge => hw0 g hge) (fun g hs hk => by have := hs.1; dsimp only at this; omega)
    ⟨fun a b _ _ _ _ e => e, fun g o _ ho => hh g o ho, fun g _ hs => hlt g hs, hσ, fun g hgl => ⟨hg g hgl, rfl⟩⟩).mono ?_
  rintro e w' ⟨ρ', v', rfl, hs, hr, hvv⟩
  have hv' : v' = v := by rw [← hvv.eq]; exact ren_shut _ hv
  subst hv'
  refine ⟨rfl, hs.os, hs.tape, hs.output, hs.size, fun k hk => hs.frame k hk (fun m _ hm1 hsome hor => ?_)⟩
  rcases hor with h1 | h1
  · rw [hwr] at h1; cases h1
  · dsimp only at h1 hm1; omega
end Go.Proofs.Ytljhlnpbomehkaa
