/- An evaluator of Go code whose memory has names of its own: the evaluator of calls that come to more than one end. -/
import Derived.Test.YtljhlnpbomehkaaEwLm
namespace Go.Proofs.Ytljhlnpbomehkaa
set_option linter.unusedVariables false
set_option linter.unusedSimpArgs false

/-- what was noted by itself, noted beside what was noted before -/
def backTo (h q : AH) : AH := { q with base := h.base, tch := noteAll h.base (q.wrt ++ q.tch) h.tch, wrt := noteAll h.base q.wrt h.wrt }
def alone (h : AH) : AH := { h with base := h.next, tch := [], wrt := [] }
theorem backTo_mono {h q : AH} (c : Came (alone h) q) : Mono h (backTo h q) := by
  refine ⟨c.next, rfl, fun n hn => mem_noteAll_of hn, fun n hn => mem_noteAll_of hn, c.dom, fun n hlt hb hw => ?_, c.wf⟩
  exact c.keep n hlt (fun hh => hw (mem_noteAll hh hb))
/-- ends that are alike are one -/
def lCut (m : LM Value) : LM Value where
  run h := if h.base ≤ h.next then (match m.run (alone h) with
    | some l => some ((mergeO h.next l).map fun p => (p.1, backTo h p.2))
    | none => none) else none
  mono := by
    intro h l e p hp
    split at e
    case isFalse => cases e
    case isTrue hb =>
      split at e
      case h_2 => cases e
      case h_1 l0 h0 =>
        injection e with e; subst e
        obtain ⟨q, hq, rfl⟩ := List.mem_map.1 hp
        have hc := mergeO_came (h0 := alone h) (l := l0) (fun x hx => Came.of (m.mono _ _ h0 x hx) rfl) q hq
        exact backTo_mono hc
  ne := by
    intro h l e
    split at e
    case isFalse => cases e
    case isTrue hb =>
      split at e
      case h_2 => cases e
      case h_1 l0 h0 =>
        injection e with e; subst e
        have hne := m.ne _ _ h0
        match l0, hne with
        | p :: r, _ =>
          simp only [ne_eq, List.map_eq_nil_iff]
          exact insO_ne _ _ _
def FunOKL (P : Program) (f : FuncId) (m : Array Value → LM Value) : Prop :=
  ∀ (args args' : Array Value) (N : Nat → Prop) (ρ : Ren), LR N ρ args.toList args'.toList → ∀ h l, (m args).run h = some l → ∀ (D : Nat → Prop) (w : World), (∀ p ∈ l, Cov D p.2) → WF h → (∀ p ∈ l, New N h.next p.2.next) → Rel D N ρ h.get w →
    Calls P f args' w fun e w' => ∃ p ∈ l, ∃ ρ' v', e = .returned v' ∧ Step D h ρ w p.2 ρ' w' ∧ Rel D (Grow N h.next p.2.next) ρ' p.2.get w' ∧ VR (Grow N h.next p.2.next) ρ' p.1 v'
/-- what a call is held to -/
def CallOKL (P : Program) (SQ : (Nat → Value) → Prop) (call : FuncId → Array Value → LM Value) : Prop :=
  ∀ (f : FuncId) (args args' : Array Value) (N : Nat → Prop) (ρ : Ren), SQ ρ.σ → LR N ρ args.toList args'.toList → ∀ h l, (call f args).run h = some l → ∀ (D : Nat → Prop) (w : World), (∀ p ∈ l, Cov D p.2) → WF h → (∀ p ∈ l, New N h.next p.2.next) → Rel D N ρ h.get w →
    Calls P f args' w fun e w' => ∃ p ∈ l, ∃ ρ' v', e = .returned v' ∧ Step D h ρ w p.2 ρ' w' ∧ Rel D (Grow N h.next p.2.next) ρ' p.2.get w' ∧ VR (Grow N h.next p.2.next) ρ' p.1 v'
theorem Step.back {D : Nat → Prop} {h p q : AH} {ρ ρ' : Ren} {w w' : World} (hb : h.base ≤ h.next) (hs : Step D (alone h) ρ w p ρ' w') (hn : q.next = p.next) (hw : ∀ n ∈ p.wrt, n ∈ q.wrt) : Step D h ρ w (backTo h q) ρ' w' := by
  have hwr : ∀ m, m < h.next → (m ∈ p.wrt ∨ h.next ≤ m) → (m ∈ (backTo h q).wrt ∨ h.base ≤ m) := fun m hm hh => by
    rcases hh with hh | hh
    · by_cases hb2 : m < h.base
      · exact .inl (mem_noteAll (hw m hh) hb2)
      · exact .inr (by omega)
    · omega
  refine ⟨?_, ?_, hs.os, hs.tape, hs.output, hs.size, ?_⟩
  · have := hs.agree
    rw [show (backTo h q).next = p.next from hn]
    exact this
  · intro n hsp
    rw [show (backTo h q).next = p.next from hn] at hsp
    rcases hs.fresh n hsp with h1 | ⟨m, a1, a2, a3, a4, a5⟩
    · exact .inl h1
    · exact .inr ⟨m, a1, a2, a3, hwr m a2 a4, a5⟩
  · intro k hk hno
    exact hs.frame k hk (fun m a1 a2 a3 a4 => hno m a1 a2 a3 (hwr m a2 a4))
theorem Rel.sub {D N : Nat → Prop} {ρ : Ren} {h h' : Nat → Option AObj} {w : World} (hr : Rel D N ρ h w) (hs : ∀ n o, h' n = some o → h n = some o) : Rel D N ρ h' w := by
  have is : ∀ n, (h' n).isSome → (h n).isSome := fun n hn => by
    cases ho : h' n with
    | none => rw [ho] at hn; cases hn
    | some o => rw [hs n o ho]; rfl
  exact ⟨fun n m hn hm sn sm e => hr.inj n m hn hm (is n sn) (is m sm) e, fun n o hD ho => hr.holds n o hD (hs n o ho), fun n hD hn => hr.known n hD (is n hn), hr.sym, hr.glob⟩
theorem lCut_ok {P : Program} {f : FuncId} {m : LM Value} {args' : Array Value} {h : AH} {l : List (Value × AH)} {D N : Nat → Prop} {ρ : Ren} {w : World} (e : (lCut m).run h = some l) (hcov : ∀ p ∈ l, Cov D p.2) (hwf : WF h) (hN : ∀ p ∈ l, New N h.next p.2.next) (hr : Rel D N ρ h.get w)
    (hm : ∀ l0, m.run (alone h) = some l0 → (∀ p ∈ l0, Cov D p.2) → WF (alone h) → (∀ p ∈ l0, New N (alone h).next p.2.next) → Rel D N ρ (alone h).get w →
      Calls P f args' w fun e w' => ∃ p ∈ l0, ∃ ρ' v', e = .returned v' ∧ Step D (alone h) ρ w p.2 ρ' w' ∧ Rel D (Grow N (alone h).next p.2.next) ρ' p.2.get w' ∧ VR (Grow N (alone h).next p.2.next) ρ' p.1 v') :
    Calls P f args' w fun e w' => ∃ p ∈ l, ∃ ρ' v', e = .returned v' ∧ Step D h ρ w p.2 ρ' w' ∧ Rel D (Grow N h.next p.2.next) ρ' p.2.get w' ∧ VR (Grow N h.next p.2.next) ρ' p.1 v' := by
  unfold lCut at e
  dsimp only at e
  split at e
  case isFalse => cases e
  case isTrue hb =>
    split at e
    case h_2 => cases e
    case h_1 l0 h0 =>
      injection e with e; subst e
      have hwf0 : WF (alone h) := hwf
      obtain ⟨hc, hm2⟩ := mergeO_spec (h0 := alone h) hwf0 (l := l0) (fun x hx => Came.of (m.mono _ _ h0 x hx) rfl)
      have find : ∀ x ∈ l0, ∃ q ∈ mergeO h.next l0, q.1 = x.1 ∧ Sub q.2 x.2 ∧ (q.1, backTo h q.2) ∈ (mergeO h.next l0).map fun p => (p.1, backTo h p.2) := fun x hx => by
        obtain ⟨q, hq, e1, e2⟩ := hm2 x hx
        exact ⟨q, hq, e1, e2, List.mem_map.2 ⟨q, hq, rfl⟩⟩
      refine (hm l0 h0 (fun x hx => ?_) hwf0 (fun x hx => ?_) hr).mono ?_
      · obtain ⟨q, hq, e1, e2, hin⟩ := find x hx
        have hcv := hcov _ hin
        have hall : ∀ n, n ∈ q.2.wrt ++ q.2.tch → D n := fun n hn => by
          by_cases hlt : n < h.base
          · exact hcv.tch n (mem_noteAll hn hlt)
          · exact hcv.base n (by show h.base ≤ n; omega)
        refine ⟨fun n hn => hall n (List.mem_append_right _ (e2.tch n hn)), fun n hn => ?_⟩
        rw [(m.mono _ _ h0 x hx).base] at hn
        have hn : h.next ≤ n := hn
        exact hcv.base n (by show h.base ≤ n; omega)
      · obtain ⟨q, hq, e1, e2, hin⟩ := find x hx
        have := hN _ hin
        rw [show (backTo h q.2).next = x.2.next from e2.next] at this
        exact this
      · rintro e w' ⟨x, hx, ρ', v', rfl, hs, hrel, hv⟩
        obtain ⟨q, hq, e1, e2, hin⟩ := find x hx
        refine ⟨_, hin, ρ', v', rfl, hs.back hb e2.next e2.wrt, ?_, ?_⟩
        · show Rel D (Grow N h.next q.2.next) ρ' q.2.get w'
          rw [e2.next]
          exact hrel.sub e2.get
        · show VR (Grow N h.next q.2.next) ρ' q.1 v'
          rw [e2.next, e1]
          exact hv

/-- how many ways a range goes on -/
def candCount (h : AH) (it : Value) : Nat :=
  match it with
  | .pointer (some ⟨r, 0, none⟩) => (match h.get r with
    | some (.iter (some m) since seen _) => (match h.get m with
      | some (.map es _) => (cands es since seen).length
      | _ => 1)
    | _ => 1)
  | _ => 1
def upTo : Nat → List Nat
  | 0 => []
  | n + 1 => upTo n ++ [n]
theorem mem_upTo : ∀ {n k : Nat}, k ∈ upTo n ↔ k < n
  | 0, k => by simp [upTo]
  | n + 1, k => by simp only [upTo, List.mem_append, List.mem_singleton, mem_upTo (n := n)]; omega
def nexts (it : Value) (k : Nat) (h : AH) : Option (List (Value × AH)) :=
  gather (fun c => match (aNext c k it).run h with
    | some p => some [p]
    | none => none) (upTo k)
theorem nexts_spec {it : Value} {k : Nat} {h : AH} {l : List (Value × AH)} (e : nexts it k h = some l) : (∀ c, c < k → ∃ p, (aNext c k it).run h = some p ∧ p ∈ l) ∧ ∀ p ∈ l, ∃ c, (aNext c k it).run h = some p := by
  obtain ⟨h1, h2⟩ := gather_mem e
  refine ⟨fun c hc => ?_, fun p hp => ?_⟩
  · obtain ⟨a, ha, hm⟩ := h1 c (mem_upTo.2 hc)
    split at ha
    · rename_i q hq; injection ha with ha; subst ha; exact ⟨q, hq, hm q (by simp)⟩
    · cases ha
  · obtain ⟨c, _, a, ha, hm⟩ := h2 p hp
    split at ha
    · rename_i q hq; injection ha with ha; subst ha
      obtain rfl : p = q := by simpa using hm
      exact ⟨c, hq⟩
    · cases ha
def lNext (it : Value) : LM Value where
  run h := nexts it (max 1 (candCount h it)) h
  mono := by
    intro h l e p hp
    obtain ⟨c, hc⟩ := (nexts_spec e).2 p hp
    exact (aNext _ _ it).mono _ _ _ hc
  ne := by
    intro h l e h0
    obtain ⟨p, _, hp⟩ := (nexts_spec e).1 0 (by omega)
    rw [h0] at hp; cases hp

structure OrcL where
  base : Orc
  hook : FuncId → Option (Array Value → LM Value)
  /-- of these functions ends that are alike are one -/
  cut : FuncId → Bool
def OrcLOK (P : Program) (SQ : (Nat → Value) → Prop) (orc : OrcL) : Prop := OrcOK P SQ orc.base ∧ ∀ f m, orc.hook f = some m → FunOKL P f m
/-- a step of a range, of which there may be more than one -/
def nextOf (o : Oper) : Option Operand :=
  match o.op with
  | .next x b => (match b with
    | false => some x
    | true => none)
  | _ => none
theorem nextOf_spec {o : Oper} {x : Operand} (h : nextOf o = some x) : o.op = .next x false := by
  unfold nextOf at h
  split at h
  · rename_i y b ho
    split at h
    · injection h with h; subst h; exact ho
    · cases h
  · cases h
def lOper (P : Program) (orc : OrcL) (call : FuncId → Array Value → LM Value) (o : Oper) (ts : Array Value) : LM Value :=
  if o.op.operands.toList.all (okOpdG orc.base.glob) then
    match nextOf o with
    | some x => lNext (aEv ts x)
    | none => (LM.ofA (aExecF P orc.base (aEv ts) o)).bind fun
      | .value v => .pure v
      | .skip => .pure undef
      | .enter f args => call f args
  else .fail
theorem lOper_sound {P : Program} (hn : NameOK P) {SQ : (Nat → Value) → Prop} {orc : OrcL} (ho : OrcLOK P SQ orc) {call : FuncId → Array Value → LM Value} (hc : CallOKL P SQ call) (ops : Array Oper) : OSoundL P SQ ops (lOper P orc call) := by
  intro o _ ts N ρ a hsq hlook h l he D w hcov hwf hN hr K Q hK
  unfold lOper at he
  split at he
  case isFalse => exact (LM.fail_some he).elim
  case isTrue hok =>
    have hev : ∀ x ∈ o.op.operands, VR N ρ (aEv ts x) (a.eval x) := fun x hx => by
      have hox := (List.all_eq_true.1 hok) x (by simpa using hx)
      cases x with
      | tmp t => exact hlook t (List.mem_append_left _ (List.mem_filterMap.2 ⟨.tmp t, by simpa using hx, rfl⟩))
      | const v => exact VR.shut hox
      | global g =>
        have hg := hr.glob g (ho.1.2.1 g (by simpa [okOpdG] using hox) _ hsq)
        intro r hr2
        show ren r (.pointer (some ⟨g, 0, none⟩)) = .pointer (some ⟨g, 0, none⟩)
        simp only [ren, renA]
        rw [hr2.φ g hg.1, hg.2]
      | func f => exact VR.shut rfl
    split at he
    case h_1 x hx =>
      have hop := nextOf_spec hx
      have he : nexts (aEv ts x) (max 1 (candCount h (aEv ts x))) h = some l := he
      generalize hk : max 1 (candCount h (aEv ts x)) = k at he
      have hk1 : 1 ≤ k := by omega
      obtain ⟨g1, g2⟩ := nexts_spec he
      have hex : ∃ (xs : Nat → Value) (hs : Nat → AH), ∀ c, c < k → (aNext c k (aEv ts x)).run h = some (xs c, hs c) ∧ (xs c, hs c) ∈ l := by
        refine ⟨fun c => (((aNext c k (aEv ts x)).run h).getD (undef, h)).1, fun c => (((aNext c k (aEv ts x)).run h).getD (undef, h)).2, fun c hc => ?_⟩
        obtain ⟨p, h1, h2⟩ := g1 c hc
        dsimp only
        rw [h1]; exact ⟨rfl, h2⟩
      obtain ⟨xs, hs, hall⟩ := hex
      obtain ⟨c, hck, y, w', q1, q2, q3, q4, q5⟩ := aNext_run (P := P) (ty := o.type) (hev x (by simp [hop, Op.operands])) hk1 (fun c hc => (hall c hc).1) (D := D) (w := w) (fun c hc => hcov _ (hall c hc).2) hwf hr
      have hG : Grow N h.next (hs c).next = N := by rw [q5]; exact Grow.eq_self _ _
      unfold Oper.wp
      have hrun : (execOp a.eval o).run P w = .ok (.value y) w' := by
        unfold execOp
        rw [hop]
        show (Instr.next (a.eval x) false o.type >>= fun v => pure (Next.value v)).run P w = _
        rw [Sem.run_bind, q1]; rfl
      rw [hrun]
      exact hK _ (hall c hck).2 ρ y w' q2 (by dsimp only; rw [hG]; exact q3) (by dsimp only; rw [hG]; exact q4)
    case h_2 =>
      obtain ⟨l1, e1, k1⟩ := LM.split he
      obtain ⟨p0, e2, rfl⟩ := LM.ofA_some e1
      obtain ⟨x, h1⟩ := p0
      obtain ⟨m1, l2, e3, k2, q0, hq0, mq0⟩ := k1 (x, h1) (List.mem_singleton.2 rfl)
      obtain ⟨ρ1, y, w1, r1, s1, q1, p1⟩ := aExecF_sound hn ho.1 hsq (fun _ => rfl) hev h x h1 e2 D w ((hcov q0 hq0).of mq0) hwf ((hN q0 hq0).left mq0.next) hr
      unfold Oper.wp
      rw [r1]
      cases x with
      | value v0 =>
        have := LM.pure_some e3; subst this
        have hin := (k2 _ (List.mem_singleton.2 rfl)).1
        cases y with
        | value v' => exact hK _ hin ρ1 v' w1 s1 q1 p1
        | _ => exact p1.elim
      | skip =>
        have := LM.pure_some e3; subst this
        have hin := (k2 _ (List.mem_singleton.2 rfl)).1
        cases y with
        | skip => exact hK _ hin ρ1 undef w1 s1 q1 (VR.shut rfl)
        | _ => exact p1.elim
      | enter f args =>
        cases y with
        | enter f' args' =>
          obtain ⟨rfl, p1⟩ := p1
          refine Calls.mono (hc f' args args' _ ρ1 (by rw [s1.agree.σ]; exact hsq) p1 h1 l2 e3 D w1 (fun p hp => hcov p (k2 p hp).1) (m1.wf hwf) (fun p hp => (hN p (k2 p hp).1).right m1.next) q1) ?_
          rintro e w2 ⟨p, hp, ρ2, v2, rfl, s2, q2, p2⟩
          have mp := (k2 p hp).2
          rw [Grow.trans_eq N m1.next mp.next] at q2 p2
          exact hK p (k2 p hp).1 ρ2 v2 w2 (s1.trans s2 m1 mp) q2 p2
        | _ => exact p1.elim

def lFn0 (P : Program) (orc : OrcL) (fuel : Nat) (call : FuncId → Array Value → LM Value) (f : FuncId) (args : Array Value) : LM Value :=
  match P.funcs[f]? with
  | some fn => (match fn.body with
    | some c => (lCode (lOper P orc call) fuel c (args ++ Array.replicate (fn.ntmps - args.size) undef)).bind fun p => match p with
      | (.normal, ts) => .ofA (aRes P fn ts)
      | (.ret, ts) => .ofA (aRes P fn ts)
      | _ => .fail
    | none => .fail)
  | none => .fail
theorem lFn0_sound {P : Program} (hm : P.follows .mixedOrders = true) (hn : NameOK P) {SQ : (Nat → Value) → Prop} {orc : OrcL} (ho : OrcLOK P SQ orc) (fuel : Nat) {call : FuncId → Array Value → LM Value} (hc : CallOKL P SQ call) : CallOKL P SQ (lFn0 P orc fuel call) := by
  intro f args args' N ρ hsq ha h l he D w hcov hwf hN hr
  unfold lFn0 at he
  cases hf : P.funcs[f]? with
  | none => rw [hf] at he; exact (LM.fail_some he).elim
  | some fn =>
    rw [hf] at he
    dsimp only at he
    cases hb : fn.body with
    | none => rw [hb] at he; exact (LM.fail_some he).elim
    | some c =>
      rw [hb] at he
      obtain ⟨l1, e1, k1⟩ := LM.split he
      have hsz : args'.size = args.size := by rw [← Array.length_toList, ha.length, Array.length_toList]
      have ht : TR N ρ (args ++ Array.replicate (fn.ntmps - args.size) undef) (args' ++ Array.replicate (fn.ntmps - args'.size) undef) := by
        refine ⟨fun t => ?_, by simp [hsz]⟩
        rw [Array.getD_eq_getD_getElem?, Array.getD_eq_getD_getElem?, ← Array.getElem?_toList, ← Array.getElem?_toList]
        have hl : LR N ρ (args ++ Array.replicate (fn.ntmps - args.size) undef).toList (args' ++ Array.replicate (fn.ntmps - args'.size) undef).toList := by
          rw [Array.toList_append, Array.toList_append, hsz]
          refine ha.append (LR.shut ?_)
          simp [Array.toList_replicate]
          exact .inr rfl
        cases hx : (args ++ Array.replicate (fn.ntmps - args.size) undef).toList[t]? with
        | none =>
          have : (args' ++ Array.replicate (fn.ntmps - args'.size) undef).toList[t]? = none := by
            rw [List.getElem?_eq_none_iff] at hx ⊢
            rw [hl.length]; exact hx
          rw [this]; exact VR.shut rfl
        | some u =>
          obtain ⟨u', h3, h4⟩ := hl.get hx
          rw [h3]; exact h4
      refine calls_of_wp hf hb ?_
      refine (lCode_both hm (lOper_sound hn ho hc) fuel).1 c _ h l1 e1 D N ρ _ w hsq (fun p hp => by obtain ⟨_, _, _, _, q, hq, mq⟩ := k1 p hp; exact (hcov q hq).of mq) hwf (fun p hp => by obtain ⟨_, _, _, _, q, hq, mq⟩ := k1 p hp; exact (hN q hq).left mq.next) hr ht _ ?_
      rintro ⟨⟨wy, ts⟩, h1⟩ hp a' w' ⟨ρ1, s1, r1, t1, d1⟩
      obtain ⟨m1, l2, e2, k2, _⟩ := k1 _ hp
      have fin : ∀ (e : (LM.ofA (aRes P fn ts)).run h1 = some l2), a'.defers = [] ∧ ∃ v', (results fn a'.tmps).run P w' = .ok v' w' ∧ ∃ p ∈ l, ∃ ρ' v'', Ending.returned v' = .returned v'' ∧ Step D h ρ w p.2 ρ' w' ∧ Rel D (Grow N h.next p.2.next) ρ' p.2.get w' ∧ VR (Grow N h.next p.2.next) ρ' p.1 v'' := fun e => by
        obtain ⟨p, e3, rfl⟩ := LM.ofA_some e
        obtain ⟨v, h'⟩ := p
        obtain ⟨hin, m2⟩ := k2 _ (List.mem_singleton.2 rfl)
        obtain ⟨v', q1, q2, q3, q4, q5⟩ := aRes_sound t1 e3 (hcov _ hin) r1
        refine ⟨d1, v', q1, _, hin, ρ1, v', rfl, s1.trans q4 m1 m2, ?_, ?_⟩
        · dsimp only; rw [q3]; exact q5
        · dsimp only; rw [q3]; exact q2
      cases wy with
      | normal => exact fin e2
      | ret => exact fin e2
      | exit i => exact (LM.fail_some e2).elim
def lFn (P : Program) (orc : OrcL) (fuel : Nat) (call : FuncId → Array Value → LM Value) (f : FuncId) (args : Array Value) : LM Value :=
  match orc.hook f with
  | some m => m args
  | none => match orc.cut f with
    | true => lCut (lFn0 P orc fuel call f args)
    | false => lFn0 P orc fuel call f args
theorem lFn_sound {P : Program} (hm : P.follows .mixedOrders = true) (hn : NameOK P) {SQ : (Nat → Value) → Prop} {orc : OrcL} (ho : OrcLOK P SQ orc) (fuel : Nat) {call : FuncId → Array Value → LM Value} (hc : CallOKL P SQ call) : CallOKL P SQ (lFn P orc fuel call) := by
  intro f args args' N ρ hsq ha h l he D w hcov hwf hN hr
  unfold lFn at he
  cases hhk : orc.hook f with
  | some m => rw [hhk] at he; exact ho.2 f m hhk args args' N ρ ha h l he D w hcov hwf hN hr
  | none =>
    rw [hhk] at he
    dsimp only at he
    cases hcu : orc.cut f with
    | false => rw [hcu] at he; exact lFn0_sound hm hn ho fuel hc f args args' N ρ hsq ha h l he D w hcov hwf hN hr
    | true =>
      rw [hcu] at he
      exact lCut_ok he hcov hwf hN hr (fun l0 h0 c0 w0 n0 r0 => lFn0_sound hm hn ho fuel hc f args args' N ρ hsq ha (alone h) l0 h0 D w c0 w0 n0 r0)
def lCall (P : Program) (orc : OrcL) (fuel : Nat) : Nat → FuncId → Array Value → LM Value
  | 0, _, _ => .fail
  | n + 1, f, args => lFn P orc fuel (lCall P orc fuel n) f args
theorem lCall_sound {P : Program} (hm : P.follows .mixedOrders = true) (hn : NameOK P) {SQ : (Nat → Value) → Prop} {orc : OrcL} (ho : OrcLOK P SQ orc) (fuel : Nat) : ∀ n, CallOKL P SQ (lCall P orc fuel n)
  | 0 => fun f args args' N ρ _ _ h l he => (LM.fail_some he).elim
  | n + 1 => lFn_sound hm hn ho fuel (lCall_sound hm hn ho fuel n)
/-- a hook that comes to one end -/
theorem FunOK.toL {P : Program} {f : FuncId} {m : Array Value → AM Value} (h : FunOK P f m) : FunOKL P f (fun args => .ofA (m args)) := by
  intro args args' N ρ ha h0 l he D w hcov hwf hN hr
  obtain ⟨p, e1, rfl⟩ := LM.ofA_some he
  obtain ⟨v, h'⟩ := p
  have hin : (v, h') ∈ [(v, h')] := List.mem_singleton.2 rfl
  exact (h args args' N ρ ha h0 v h' e1 D w (hcov _ hin) hwf (hN _ hin) hr).mono fun e w' ⟨ρ', v', a, b, c, d⟩ => ⟨_, hin, ρ', v', a, b, c, d⟩
/-- a call that looks at the package's variables alone: if every end is true, it leaves true, and nothing of before is changed -/
theorem Calls.of_evalL {P : Program} (hm : P.follows .mixedOrders = true) (hn : NameOK P) {orc : OrcL} {σ : Nat → Value} (hσ : ∀ k, (σ k).oneCell' = true) (ho : OrcLOK P (· = σ) orc) {fuel n : Nat} {f : FuncId} {args args' : Array Value}
    (ha : ∀ r : Ren, r.σ = σ → args.map (ren r) = args') {v : Value} {m0 : Tr} {n0 : Nat} (w : World) (hg : ∀ g, σ (gsym g) = .nilFunc → g < n0) (hw0 : ∀ g, n0 ≤ g → m0.get g = none)
    (hh : ∀ g o, m0.get g = some o → Holds (fun g => g < n0) ⟨fun g => g, fun _ => 0, σ⟩ g w o) {l : List (Value × AH)}
    (he : (lCall P orc fuel n f args).run ⟨m0, n0, n0, [], []⟩ = some l) (hwr : ∀ p ∈ l, p.1 = v ∧ p.2.wrt = []) (hv : shut v = true) : Calls P f args' w fun e w' => e = .returned v ∧ RowKit.Below w.heap.size w w' := by
  have hlt : ∀ g, (m0.get g).isSome → g < n0 := fun g hs => by
    rcases Nat.lt_or_ge g n0 with h | h
    · exact h
    · rw [hw0 g h] at hs; cases hs
  refine (lCall_sound hm hn ho fuel n f args args' (fun g => g < n0) ⟨fun g => g, fun _ => 0, σ⟩ rfl (fun r hr => by rw [← ha r hr.σ, Array.toList_map]) _ l he (fun _ => True) w (fun _ _ => ⟨fun _ _ => trivial, fun _ _ => trivial⟩) (fun g hge => hw0 g hge) (fun p _ g hs hk => by have := hs.1; dsimp only at this; omega)
    ⟨fun a b _ _ _ _ e => e, fun g o _ ho => hh g o ho, fun g _ hs => hlt g hs, hσ, fun g hgl => ⟨hg g hgl, rfl⟩⟩).mono ?_
  rintro e w' ⟨p, hp, ρ', v', rfl, hs, hr, hvv⟩
  obtain ⟨rfl, hwp⟩ := hwr p hp
  have hv' : v' = p.1 := by rw [← hvv.eq]; exact ren_shut _ hv
  subst hv'
  refine ⟨rfl, hs.os, hs.tape, hs.output, hs.size, fun k hk => hs.frame k hk (fun m _ hm1 hsome hor => ?_)⟩
  rcases hor with h1 | h1
  · rw [hwp] at h1; cases h1
  · dsimp only at h1 hm1; omega
end Go.Proofs.Ytljhlnpbomehkaa
