/- An evaluator of Go code whose memory has names of its own (7): a load; code; calls. -/
import Derived.Test.YtljhlnpbomehkaaEwF
import Derived.Deep.MidRow
namespace Go.Proofs.Ytljhlnpbomehkaa
set_option linter.unusedVariables false
set_option linter.unusedSimpArgs false

def isRowD : TypeDesc → Bool
  | .struct _ | .array _ _ => true
  | _ => false
/-- a variable of type t, of cells -/
def takeVar (P : Program) (t : TypeId) (cs : List Value) (off : Nat) : Option Value :=
  match P.info? t, P.underlying t with
  | some i, some d =>
    if isRowD d then (if off + i.size ≤ cs.length then some (.agg ((cs.drop off).take i.size).toArray) else none)
    else cs[off]?
  | _, _ => none
def aLoad (P : Program) (t : TypeId) (v : Value) : AM Value :=
  match v with
  | .pointer (some ⟨b, off, none⟩) => (AM.look b).bind fun
    | .row cs _ _ _ => AM.ofOpt (takeVar P t cs off)
    | _ => .fail
  | _ => .fail
theorem AM.look_some {n : Nat} {h h' : AH} {o : AObj} (e : (AM.look n).run h = some (o, h')) : h.get n = some o ∧ h' = { h with tch := note h.base n h.tch } := by
  unfold AM.look at e
  dsimp only at e
  split at e
  · rename_i o' ho
    injection e with e; injection e with e1 e2
    subst e1
    exact ⟨ho, e2.symm⟩
  · cases e
theorem AM.ofOpt_some {α : Type} {x : Option α} {y : α} {h h' : AH} (e : (AM.ofOpt x).run h = some (y, h')) : x = some y ∧ h' = h := by
  cases x with
  | none => cases e
  | some z => obtain ⟨rfl, rfl⟩ := AM.pure_some e; exact ⟨rfl, rfl⟩
theorem Cov.look {D : Nat → Prop} {h : AH} {n : Nat} (hc : Cov D { h with tch := note h.base n h.tch }) : D n := by
  by_cases hb : n < h.base
  · exact hc.tch n (mem_note hb)
  · exact hc.base n (by show h.base ≤ n; omega)
/-- a step in which nothing but a look was had -/
theorem look_step {D N : Nat → Prop} {h : AH} {n : Nat} {ρ : Ren} {w : World} (hr : Rel D N ρ h.get w) :
    Step D h ρ w { h with tch := note h.base n h.tch } ρ w ∧ Rel D (Grow N h.next h.next) ρ ({ h with tch := note h.base n h.tch } : AH).get w := by
  refine ⟨⟨Agree.refl _ _, fun k hk => absurd hk.1 (by have := hk.2; dsimp only at this; omega), rfl, rfl, rfl, Nat.le_refl _, fun _ _ _ => rfl⟩, ?_⟩
  rw [Grow.eq_self]; exact hr
theorem rangeAt_of {N : Nat → Prop} {ρ : Ren} {n : Nat} {w : World} {cs : List Value} {e : TypeId} {op : Nat} {mk : Bool} (h : Holds N ρ n w (.row cs e op mk)) (off : Nat) (l : List Value)
    (hl : ∀ j v, l[j]? = some v → cs[off + j]? = some v) : w.rangeAt (ρ.φ n) off (l.map (ren ρ)) := by
  obtain ⟨c, fr, h1, h2, _⟩ := h
  intro j v hv
  rw [List.getElem?_map] at hv
  cases hlj : l[j]? with
  | none => rw [hlj] at hv; cases hv
  | some u =>
    rw [hlj] at hv
    simp only [Option.map_some, Option.some.injEq] at hv
    subst hv
    obtain ⟨v', h3, h4⟩ := h2.get (hl j u hlj)
    rw [List.getElem?_take] at h3
    split at h3
    · simp only [World.cell?, h1, Option.isSome_none, Bool.false_eq_true, if_false]
      rw [← h4.eq] at h3
      rw [← h3]; simp
    · cases h3
theorem takeVar_run {P : Program} {N : Nat → Prop} {ρ : Ren} {n : Nat} {w : World} {cs : List Value} {e : TypeId} {op : Nat} {mk : Bool} {t : TypeId} {off : Nat} {v : Value}
    (hv : takeVar P t cs off = some v) (h : Holds N ρ n w (.row cs e op mk)) : ∃ v', (loadVar t ⟨ρ.φ n, off, none⟩).run P w = .ok v' w ∧ VR N ρ v v' := by
  unfold takeVar at hv
  cases hi : P.info? t with
  | none => rw [hi] at hv; cases hv
  | some i =>
    cases hu : P.underlying t with
    | none => rw [hi, hu] at hv; cases hv
    | some d =>
      rw [hi, hu] at hv
      dsimp only at hv
      cases hd : isRowD d with
      | true =>
        rw [hd, if_pos rfl] at hv
        split at hv
        · rename_i hlen
          injection hv with hv; subst hv
          have hr := rangeAt_of h off ((cs.drop off).take i.size) (fun j v hv => by
            rw [List.getElem?_take] at hv
            split at hv
            · rwa [List.getElem?_drop] at hv
            · cases hv)
          refine ⟨_, run_loadVar_mid w _ off t _ d hr hu (by cases d <;> simp_all [isRowD]) ?_, fun r hr2 => ?_⟩
          · rw [hi]; simp; omega
          · obtain ⟨c, fr, _, h2, _⟩ := h
            have e1 := h2 r hr2
            have e2 := h2.eq
            simp only [ren, List.map_toArray, Value.agg.injEq]
            congr 1
            rw [List.map_take, List.map_drop, List.map_take, List.map_drop, e1, e2]
        · cases hv
      | false =>
        rw [hd, if_neg (by simp)] at hv
        obtain ⟨c, fr, h1, h2, _⟩ := h
        obtain ⟨v', h3, h4⟩ := h2.get hv
        refine ⟨v', ?_, h4⟩
        have h5 : c[off]? = some v' := by
          rw [List.getElem?_take] at h3
          split at h3
          · simpa using h3
          · cases h3
        have hag : (isAgg t).run P w = .ok false w := by
          unfold isAgg
          rw [Sem.run_bind, run_underlying hu w]
          cases d <;> simp_all [isRowD]
        unfold loadVar
        rw [Sem.run_bind, hag]
        simp [World.cell?, h1, h5]
theorem aLoad_sound {P : Program} {t : TypeId} {v v' : Value} {h h' : AH} {x : Value} (e : (aLoad P t v).run h = some (x, h')) {D N : Nat → Prop} {ρ : Ren} {w : World} (hc : Cov D h') (hr : Rel D N ρ h.get w) (hv : VR N ρ v v') :
    ∃ a x', v' = .pointer (some a) ∧ (loadVar t a).run P w = .ok x' w ∧ VR N ρ x x' ∧ h'.next = h.next ∧ Step D h ρ w h' ρ w ∧ Rel D N ρ h'.get w := by
  unfold aLoad at e
  split at e
  case h_2 => cases e
  case h_1 b off =>
    obtain ⟨o, h1, e1, e2⟩ := AM.bind_some e
    obtain ⟨g1, rfl⟩ := AM.look_some e1
    cases o with
    | map es cl => cases e2
    | iter m s e t => cases e2
    | row cs el op mk =>
      obtain ⟨g2, rfl⟩ := AM.ofOpt_some e2
      obtain ⟨x', r1, r2⟩ := takeVar_run g2 (hr.holds b _ hc.look g1)
      have hs := look_step (n := b) hr
      rw [Grow.eq_self] at hs
      exact ⟨⟨ρ.φ b, off, none⟩, x', by rw [← hv.eq]; simp [ren, renB, renA], r1, r2, rfl, hs.1, hs.2⟩

/-- a region in its own order -/
def aSeq (ops : Array Oper) (f : Oper → Array Value → AM Value) : List Oper → Array Value → AM (Array Value)
  | [], ts => .pure ts
  | o :: r, ts => match aWanted ops o ts with
    | none => .fail
    | some false => aSeq ops f r (match o.dst with | some d => ts.setIfInBounds d undef | none => ts)
    | some true => (f o ts).bind fun v => aSeq ops f r (match o.dst with | some d => ts.setIfInBounds d v | none => ts)

inductive Way
  | normal
  | exit (id : Nat)
  | ret
def Way.exitOf : Way → Exit
  | .normal => .normal
  | .exit i => .exit i
  | .ret => .ret
def aCode (f : Oper → Array Value → AM Value) : Nat → Code → Array Value → AM (Way × Array Value)
  | 0, _, _ => .fail
  | n + 1, c, ts => match c with
    | .skip => .pure (.normal, ts)
    | .label _ => .pure (.normal, ts)
    | .region _ ops draw => (if draw then aReg ops f ts else aSeq ops f ops.toList ts).bind fun ts' => .pure (.normal, ts')
    | .seq a b => (aCode f n a ts).bind fun p => match p with
      | (.normal, ts') => aCode f n b ts'
      | (w, ts') => .pure (w, ts')
    | .cond c a b => if okOpd c then (match aEv ts c with
      | .bool t => aCode f n (if t then a else b) ts
      | _ => .fail) else .fail
    | .block id b => (aCode f n b ts).bind fun p => match p with
      | (.exit i, ts') => if i = id then .pure (.normal, ts') else .pure (.exit i, ts')
      | (w, ts') => .pure (w, ts')
    | .loop b => (aCode f n b ts).bind fun p => match p with
      | (.normal, ts') => aCode f n (.loop b) ts'
      | (w, ts') => .pure (w, ts')
    | .scope b => aCode f n b ts
    | .exit id => .pure (.exit id, ts)
    | .ret => .pure (.ret, ts)
    | _ => .fail

section
variable {P : Program} {SQ : (Nat → Value) → Prop} {f : Oper → Array Value → AM Value}
theorem QN.trans {D N : Nat → Prop} {h h1 h2 : AH} {ρ : Ren} {a a1 a2 : Act} {w w1 w2 : World} {ts2 : Array Value} {ρ1 : Ren} (hs : Step D h ρ w h1 ρ1 w1) (m1 : Mono h h1) (m2 : Mono h1 h2) (hd : a1.defers = a.defers)
    (k : QN D (Grow N h.next h1.next) h1 ρ1 a1 w1 ts2 h2 a2 w2) : QN D N h ρ a w ts2 h2 a2 w2 := by
  obtain ⟨ρ2, s2, r2, t2, d2⟩ := k
  rw [Grow.trans_eq N m1.next m2.next] at r2 t2
  exact ⟨ρ2, hs.trans s2 m1 m2, r2, t2, d2.trans hd⟩
theorem QN.self {D N : Nat → Prop} {h : AH} {ρ : Ren} {a : Act} {w : World} {ts : Array Value} (hr : Rel D N ρ h.get w) (ht : TR N ρ ts a.tmps) : QN D N h ρ a w ts h a w :=
  ⟨ρ, Step.refl _ _ _ _, by rw [Grow.eq_self]; exact hr, by rw [Grow.eq_self]; exact ht, rfl⟩
theorem New.left {N : Nat → Prop} {a b c : Nat} (h : New N a c) (hbc : b ≤ c) : New N a b := fun n hn => h n ⟨hn.1, by have := hn.2; omega⟩
theorem New.right {N : Nat → Prop} {a b c : Nat} (h : New N a c) (hab : a ≤ b) : New (Grow N a b) b c := fun n hn hh => hh.elim (h n ⟨by have := hn.1; omega, hn.2⟩) (fun hs => by have := hs.2; have := hn.1; omega)
theorem TR.put {N : Nat → Prop} {ρ : Ren} {ts : Array Value} {a : Act} (h : TR N ρ ts a.tmps) {v v' : Value} (hv : VR N ρ v v') (dst : Option Tmp) :
    TR N ρ (match dst with | some d => ts.setIfInBounds d v | none => ts) (a.put dst v').tmps := by
  cases dst with
  | none => exact h
  | some d =>
    refine ⟨fun t => ?_, by simp [Act.put, h.size]⟩
    dsimp only [Act.put]
    rw [getD_set, getD_set, h.size]
    split
    · exact hv
    · exact h.val t
theorem aSeq_sound {ops : Array Oper} (hf : OSound P SQ ops f) : ∀ (r : List Oper) (i : Nat), (∀ k o, r[k]? = some o → ops[i + k]? = some o) → i + r.length = ops.size →
    ∀ (ts ts' : Array Value) (h h' : AH), (aSeq ops f r ts).run h = some (ts', h') → ∀ (D N : Nat → Prop) (ρ : Ren) (a : Act) (w : World), SQ ρ.σ → Cov D h' → WF h → New N h.next h'.next → Rel D N ρ h.get w → TR N ρ ts a.tmps →
    ∀ (Q : Exit → Act → World → Prop), (∀ a' w', QN D N h ρ a w ts' h' a' w' → Q .normal a' w') → wpOps P ops Q (List.range' i r.length) a w := by
  intro r
  induction r with
  | nil =>
    intro i _ _ ts ts' h h' e D N ρ a w hsq hc hwf hN hr ht Q hQ
    obtain ⟨rfl, rfl⟩ := AM.pure_some e
    exact hQ a w (QN.self hr ht)
  | cons o r ih =>
    intro i hops hlen ts ts' h h' e D N ρ a w hsq hc hwf hN hr ht Q hQ
    have ho : ops[i]? = some o := hops 0 o (by simp)
    rw [List.length_cons, List.range'_succ]
    unfold wpOps
    simp only [ho]
    unfold aSeq at e
    have hops' : ∀ k o', r[k]? = some o' → ops[i + 1 + k]? = some o' := fun k o' hk => by
      have := hops (k + 1) o' (by simpa using hk)
      rwa [show i + 1 + k = i + (k + 1) from by omega]
    have hlen' : i + 1 + r.length = ops.size := by simp at hlen; omega
    cases hw : aWanted ops o ts with
    | none => rw [hw] at e; cases e
    | some b =>
      rw [wanted_of hw ht.size (fun t _ => ht.val t)]
      rw [hw] at e
      cases b with
      | false =>
        rw [if_neg (by simp)]
        refine ih (i + 1) hops' hlen' _ ts' h h' e D N ρ _ w hsq hc hwf hN hr (ht.put (VR.shut rfl) o.dst) Q (fun a' w' ⟨ρ', q1, q2, q3, q4⟩ => hQ a' w' ⟨ρ', q1, q2, q3, ?_⟩)
        rw [q4]; cases o.dst <;> rfl
      | true =>
        rw [if_pos rfl]
        refine .inl ?_
        obtain ⟨v, h1, e1, e2⟩ := AM.bind_some e
        have m1 := (f o ts).mono _ _ _ e1
        have m2 := (aSeq ops f r _).mono _ _ _ e2
        refine hf o (Array.mem_of_getElem? ho) ts N ρ a hsq (fun t _ => ht.val t) h v h1 e1 D w (hc.of m2) hwf (hN.left m2.next) hr _ Q (fun ρ' v' w' hs hr' hv => ?_)
        have hAg := agree_step hs (hN.left m2.next)
        refine ih (i + 1) hops' hlen' _ ts' h1 h' e2 D _ ρ' _ w' (by rw [hs.agree.σ]; exact hsq) hc (m1.wf hwf) (hN.right m1.next) hr' ((ht.mono hAg (fun n hn => .inl hn)).put hv o.dst) Q (fun a' w2 q => hQ a' w2 ?_)
        exact QN.trans hs m1 m2 (by cases o.dst <;> rfl) q

def CS (P : Program) (SQ : (Nat → Value) → Prop) (f : Oper → Array Value → AM Value) (n : Nat) (c : Code) (W : (Exit → Act → World → Prop) → Act → World → Prop) : Prop :=
  ∀ (ts : Array Value) (h : AH) (wy : Way) (ts' : Array Value) (h' : AH), (aCode f n c ts).run h = some ((wy, ts'), h') →
    ∀ (D N : Nat → Prop) (ρ : Ren) (a : Act) (w : World), SQ ρ.σ → Cov D h' → WF h → New N h.next h'.next → Rel D N ρ h.get w → TR N ρ ts a.tmps →
    ∀ (Q : Exit → Act → World → Prop), (∀ a' w', QN D N h ρ a w ts' h' a' w' → Q wy.exitOf a' w') → W Q a w
theorem aCode_both (hm : P.follows .mixedOrders = true) (hf : ∀ ops, OSound P SQ ops f) : ∀ (n : Nat), (∀ c, CS P SQ f n c (fun Q a w => c.wp P Q a w)) ∧ ∀ b, CS P SQ f n (.loop b) (fun Q a w => Code.rounds P b Q n a w) := by
  intro n
  induction n with
  | zero => constructor <;> (intro c ts h wy ts' h' e; cases e)
  | succ n ih0 =>
    obtain ⟨ih, ihl⟩ := ih0
    have hloop : ∀ b, CS P SQ f (n + 1) (.loop b) (fun Q a w => Code.rounds P b Q (n + 1) a w) := by
      intro b ts h wy ts' h' e D N ρ a w hsq hc hwf hN hr ht Q hQ
      unfold aCode at e
      obtain ⟨p, h1, e1, e2⟩ := AM.bind_some e
      obtain ⟨w1, ts1⟩ := p
      have m1 := (aCode f n b ts).mono _ _ _ e1
      show b.wp P (Exit.then (Code.rounds P b Q n) Q) a w
      cases w1 with
      | normal =>
        have m2 := (aCode f n (.loop b) ts1).mono _ _ _ e2
        refine ih b ts h .normal ts1 h1 e1 D N ρ a w hsq (hc.of m2) hwf (hN.left m2.next) hr ht _ (fun a' w' q => ?_)
        obtain ⟨ρ', s1, r1, t1, d1⟩ := q
        exact ihl b ts1 h1 wy ts' h' e2 D _ ρ' a' w' (by rw [s1.agree.σ]; exact hsq) hc (m1.wf hwf) (hN.right m1.next) r1 t1 Q (fun a2 w2 q2 => hQ a2 w2 (QN.trans s1 m1 m2 d1 q2))
      | exit i =>
        obtain ⟨e3, rfl⟩ := AM.pure_some e2; injection e3 with e3 e4; subst e3; subst e4
        exact ih b ts h (.exit i) ts' h' e1 D N ρ a w hsq hc hwf hN hr ht _ hQ
      | ret =>
        obtain ⟨e3, rfl⟩ := AM.pure_some e2; injection e3 with e3 e4; subst e3; subst e4
        exact ih b ts h .ret ts' h' e1 D N ρ a w hsq hc hwf hN hr ht _ hQ
    refine ⟨?_, hloop⟩
    intro c ts h wy ts' h' e D N ρ a w hsq hc hwf hN hr ht Q hQ
    have e0 := e
    unfold aCode at e
    cases c with
    | skip =>
      obtain ⟨e1, rfl⟩ := AM.pure_some e; injection e1 with e1 e2; subst e1; subst e2
      exact wp_skip (hQ a w (QN.self hr ht))
    | label l =>
      obtain ⟨e1, rfl⟩ := AM.pure_some e; injection e1 with e1 e2; subst e1; subst e2
      exact wp_label (hQ a w (QN.self hr ht))
    | region id ops draw =>
      obtain ⟨ts1, h1, e1, e2⟩ := AM.bind_some e
      obtain ⟨e3, rfl⟩ := AM.pure_some e2; injection e3 with e3 e4; subst e3; subst e4
      cases draw with
      | true => exact aReg_sound (ts' := ts') hm (hf ops) e1 hsq hc hwf hN hr ht hQ
      | false =>
        refine wp_region ?_
        rw [List.range_eq_range']
        have := aSeq_sound (hf ops) ops.toList 0 (fun k o hk => by simpa using hk) (by simp) ts ts' h h' e1 D N ρ a w hsq hc hwf hN hr ht Q hQ
        simpa using this
    | seq x y =>
      obtain ⟨p, h1, e1, e2⟩ := AM.bind_some e
      obtain ⟨w1, ts1⟩ := p
      have m1 := (aCode f n x ts).mono _ _ _ e1
      refine wp_seq ?_
      cases w1 with
      | normal =>
        have m2 := (aCode f n y ts1).mono _ _ _ e2
        refine ih x ts h .normal ts1 h1 e1 D N ρ a w hsq (hc.of m2) hwf (hN.left m2.next) hr ht _ (fun a' w' q => ?_)
        obtain ⟨ρ', s1, r1, t1, d1⟩ := q
        exact ih y ts1 h1 wy ts' h' e2 D _ ρ' a' w' (by rw [s1.agree.σ]; exact hsq) hc (m1.wf hwf) (hN.right m1.next) r1 t1 Q (fun a2 w2 q2 => hQ a2 w2 (QN.trans s1 m1 m2 d1 q2))
      | exit i =>
        obtain ⟨e3, rfl⟩ := AM.pure_some e2; injection e3 with e3 e4; subst e3; subst e4
        exact ih x ts h (.exit i) ts' h' e1 D N ρ a w hsq hc hwf hN hr ht _ hQ
      | ret =>
        obtain ⟨e3, rfl⟩ := AM.pure_some e2; injection e3 with e3 e4; subst e3; subst e4
        exact ih x ts h .ret ts' h' e1 D N ρ a w hsq hc hwf hN hr ht _ hQ
    | cond c x y =>
      dsimp only at e
      split at e
      case isFalse => cases e
      case isTrue hok =>
        cases hv : aEv ts c with
        | bool t =>
          rw [hv] at e
          have hcv : a.eval c = .bool t := by
            cases c with
            | tmp k =>
              have := (ht.val k).eq
              simp only [aEv] at hv
              rw [hv] at this
              show a.tmps.getD k undef = _
              rw [← this]; simp [ren]
            | const v => exact hv
            | global g => cases hok
            | func g => simp [aEv] at hv
          exact wp_cond hcv (ih _ ts h wy ts' h' e D N ρ a w hsq hc hwf hN hr ht Q hQ)
        | _ => rw [hv] at e; cases e
    | block id b =>
      obtain ⟨p, h1, e1, e2⟩ := AM.bind_some e
      obtain ⟨w1, ts1⟩ := p
      refine wp_block ?_
      cases w1 with
      | normal =>
        obtain ⟨e3, rfl⟩ := AM.pure_some e2; injection e3 with e3 e4; subst e3; subst e4
        exact ih b ts h .normal ts' h' e1 D N ρ a w hsq hc hwf hN hr ht _ hQ
      | ret =>
        obtain ⟨e3, rfl⟩ := AM.pure_some e2; injection e3 with e3 e4; subst e3; subst e4
        exact ih b ts h .ret ts' h' e1 D N ρ a w hsq hc hwf hN hr ht _ hQ
      | exit i =>
        dsimp only at e2
        split at e2
        · rename_i hid
          obtain ⟨e3, rfl⟩ := AM.pure_some e2; injection e3 with e3 e4; subst e3; subst e4
          exact ih b ts h (.exit i) ts' h' e1 D N ρ a w hsq hc hwf hN hr ht _ (fun a' w' q => by simp only [Way.exitOf, Exit.inBlock, hid, if_true]; exact hQ a' w' q)
        · rename_i hid
          obtain ⟨e3, rfl⟩ := AM.pure_some e2; injection e3 with e3 e4; subst e3; subst e4
          exact ih b ts h (.exit i) ts' h' e1 D N ρ a w hsq hc hwf hN hr ht _ (fun a' w' q => by simp only [Way.exitOf, Exit.inBlock, hid, if_false]; exact hQ a' w' q)
    | loop b => exact wp_loop_rounds (n + 1) (hloop b ts h wy ts' h' e0 D N ρ a w hsq hc hwf hN hr ht Q hQ)
    | scope b => exact wp_scope_straight (ih b ts h wy ts' h' e D N ρ a w hsq hc hwf hN hr ht _ (fun a' w' q => by cases wy <;> exact hQ a' w' q))
    | exit id =>
      obtain ⟨e1, rfl⟩ := AM.pure_some e; injection e1 with e1 e2; subst e1; subst e2
      exact wp_exit (hQ a w (QN.self hr ht))
    | ret =>
      obtain ⟨e1, rfl⟩ := AM.pure_some e; injection e1 with e1 e2; subst e1; subst e2
      exact wp_ret (hQ a w (QN.self hr ht))
    | rangeFunc _ _ _ _ => cases e
    | goto _ => cases e
    | refuse _ => cases e
end
end Go.Proofs.Ytljhlnpbomehkaa
