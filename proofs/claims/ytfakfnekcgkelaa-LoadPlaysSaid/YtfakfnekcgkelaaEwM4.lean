/- An evaluator of Go code whose memory has names of its own (4 of 9). -/
import Derived.Test.YtfakfnekcgkelaaEwM3
/- An evaluator of Go code whose memory has names of its own: code that comes to more than one end (a map is ranged over in whatever order). -/
namespace Go.Proofs.Ytfakfnekcgkelaa
set_option linter.unusedVariables false
set_option linter.unusedSimpArgs false

def gather {α β : Type} (f : α → Option (List β)) : List α → Option (List β)
  | [] => some []
  | x :: r => match r with
    | [] => f x
    | _ :: _ => (match f x with
      | some a => (match gather f r with
        | some b => some (a ++ b)
        | none => none)
      | none => none)
theorem gather_cons {α β : Type} {f : α → Option (List β)} {x : α} {r : List α} {m : List β} (h : gather f (x :: r) = some m) : ∃ a b, f x = some a ∧ gather f r = some b ∧ m = a ++ b := by
  cases r with
  | nil => exact ⟨m, [], by simpa [gather] using h, rfl, by simp⟩
  | cons y r =>
    simp only [gather] at h
    split at h
    · rename_i a ha
      split at h
      · rename_i b hb
        injection h with h
        exact ⟨a, b, ha, hb, h.symm⟩
      · cases h
    · cases h
theorem gather_mem {α β : Type} {f : α → Option (List β)} : ∀ {l : List α} {m : List β}, gather f l = some m → (∀ x ∈ l, ∃ a, f x = some a ∧ ∀ y ∈ a, y ∈ m) ∧ ∀ y ∈ m, ∃ x ∈ l, ∃ a, f x = some a ∧ y ∈ a
  | [], m, h => by
    simp only [gather, Option.some.injEq] at h
    subst h
    exact ⟨(fun x hx => by cases hx), (fun y hy => by cases hy)⟩
  | x :: r, m, h => by
    obtain ⟨a, b, ha, hb, rfl⟩ := gather_cons h
    obtain ⟨h1, h2⟩ := gather_mem hb
    refine ⟨fun z hz => ?_, fun y hy => ?_⟩
    · rcases List.mem_cons.1 hz with rfl | hz
      · exact ⟨a, ha, fun y hy => List.mem_append_left _ hy⟩
      · obtain ⟨c, hc, hm⟩ := h1 z hz
        exact ⟨c, hc, fun y hy => List.mem_append_right _ (hm y hy)⟩
    · rcases List.mem_append.1 hy with hy | hy
      · exact ⟨x, List.mem_cons_self, a, ha, hy⟩
      · obtain ⟨z, hz, c, hc, hm⟩ := h2 y hy
        exact ⟨z, List.mem_cons_of_mem _ hz, c, hc, hm⟩

structure LM (α : Type) where
  run : AH → Option (List (α × AH))
  mono : ∀ h l, run h = some l → ∀ p ∈ l, Mono h p.2
  ne : ∀ h l, run h = some l → l ≠ []
def LM.ofA {α : Type} (m : AM α) : LM α where
  run h := match m.run h with
    | some p => some [p]
    | none => none
  mono := by
    intro h l e p hp
    split at e
    · rename_i q hq
      injection e with e; subst e
      obtain rfl : p = q := by simpa using hp
      exact m.mono _ _ _ hq
    · cases e
  ne := by
    intro h l e
    split at e
    · injection e with e; subst e; simp
    · cases e
theorem LM.ofA_some {α : Type} {m : AM α} {h : AH} {l : List (α × AH)} (e : (LM.ofA m).run h = some l) : ∃ p, m.run h = some p ∧ l = [p] := by
  unfold LM.ofA at e
  dsimp only at e
  split at e
  · rename_i q hq; injection e with e; exact ⟨q, hq, e.symm⟩
  · cases e
def LM.one {α : Type} (m : LM α) : AM α := ⟨fun h => match m.run h with
    | some [p] => some p
    | _ => none, fun h x h' e => by
    split at e
    · rename_i q hq
      injection e with e
      subst e
      exact m.mono _ _ hq (x, h') (by simp)
    · cases e⟩
theorem LM.one_some {α : Type} {m : LM α} {h : AH} {p : α × AH} (e : m.one.run h = some p) : m.run h = some [p] := by
  unfold LM.one at e
  dsimp only at e
  split at e
  · rename_i q hq; injection e with e; subst e; exact hq
  · cases e
def LM.bind {α β : Type} (m : LM α) (f : α → LM β) : LM β where
  run h := match m.run h with
    | some l => gather (fun p => (f p.1).run p.2) l
    | none => none
  mono := by
    intro h l e p hp
    split at e
    · rename_i l1 h1
      obtain ⟨x, hx, a, ha, hpa⟩ := (gather_mem e).2 p hp
      exact (m.mono _ _ h1 x hx).trans ((f x.1).mono _ _ ha p hpa)
    · cases e
  ne := by
    intro h l e
    split at e
    · rename_i l1 h1
      have hne := m.ne _ _ h1
      match l1, hne with
      | x :: r, _ =>
        obtain ⟨a, b, ha, _, rfl⟩ := gather_cons e
        have := (f x.1).ne _ _ ha
        intro h0
        rw [List.append_eq_nil_iff] at h0
        exact this h0.1
    · cases e
theorem LM.bind_some {α β : Type} {m : LM α} {f : α → LM β} {h : AH} {l : List (β × AH)} (e : (m.bind f).run h = some l) : ∃ l1, m.run h = some l1 ∧ gather (fun p => (f p.1).run p.2) l1 = some l := by
  unfold LM.bind at e
  dsimp only at e
  split at e
  · rename_i l1 h1; exact ⟨l1, h1, e⟩
  · cases e
def LM.pure {α : Type} (x : α) : LM α := .ofA (.pure x)
def LM.fail {α : Type} : LM α := .ofA .fail
theorem LM.pure_some {α : Type} {x : α} {h : AH} {l : List (α × AH)} (e : (LM.pure x).run h = some l) : l = [(x, h)] := by
  obtain ⟨p, h1, rfl⟩ := LM.ofA_some e
  obtain ⟨y, h'⟩ := p
  obtain ⟨rfl, rfl⟩ := AM.pure_some h1
  rfl
theorem LM.fail_some {α : Type} {h : AH} {l : List (α × AH)} (e : (LM.fail : LM α).run h = some l) : False := by
  obtain ⟨p, h1, rfl⟩ := LM.ofA_some e
  cases h1

/-- one operation: what it may leave -/
def OSoundL (P : Program) (SQ : (Nat → Value) → Prop) (ops : Array Oper) (f : Oper → Array Value → LM Value) : Prop :=
  ∀ o, o ∈ ops → ∀ (ts : Array Value) (N : Nat → Prop) (ρ : Ren) (a : Act), SQ ρ.σ → (∀ t ∈ o.looksAt ops, VR N ρ (ts.getD t undef) (a.tmps.getD t undef)) →
    ∀ h l, (f o ts).run h = some l → ∀ (D : Nat → Prop) (w : World), (∀ p ∈ l, Cov D p.2) → WF h → (∀ p ∈ l, New N h.next p.2.next) → Rel D N ρ h.get w →
      ∀ (K : Act → World → Prop) (Q : Exit → Act → World → Prop), (∀ p ∈ l, ∀ ρ' v' w', Step D h ρ w p.2 ρ' w' → Rel D (Grow N h.next p.2.next) ρ' p.2.get w' → VR (Grow N h.next p.2.next) ρ' p.1 v' → K (a.put o.dst v') w') →
        o.wp P a w K Q
theorem OSoundL.one {P : Program} {SQ : (Nat → Value) → Prop} {ops : Array Oper} {f : Oper → Array Value → LM Value} (hf : OSoundL P SQ ops f) : OSound P SQ ops (fun o ts => (f o ts).one) := by
  intro o ho ts N ρ a hsq hlook h v h' he D w hcov hwf hN hr K Q hK
  have h1 := LM.one_some he
  refine hf o ho ts N ρ a hsq hlook h _ h1 D w (fun p hp => ?_) hwf (fun p hp => ?_) hr K Q (fun p hp => ?_)
  all_goals (obtain rfl : p = (v, h') := by simpa using hp)
  · exact hcov
  · exact hN
  · exact hK

def lSeq (ops : Array Oper) (f : Oper → Array Value → LM Value) : List Oper → Array Value → LM (Array Value)
  | [], ts => .pure ts
  | o :: r, ts => match aWanted ops o ts with
    | none => .fail
    | some false => lSeq ops f r (match o.dst with | some d => ts.setIfInBounds d undef | none => ts)
    | some true => (f o ts).bind fun v => lSeq ops f r (match o.dst with | some d => ts.setIfInBounds d v | none => ts)
section
variable {P : Program} {SQ : (Nat → Value) → Prop} {f : Oper → Array Value → LM Value}
theorem lSeq_sound {ops : Array Oper} (hf : OSoundL P SQ ops f) : ∀ (r : List Oper) (i : Nat), (∀ k o, r[k]? = some o → ops[i + k]? = some o) → i + r.length = ops.size →
    ∀ (ts : Array Value) (h : AH) (l : List (Array Value × AH)), (lSeq ops f r ts).run h = some l → ∀ (D N : Nat → Prop) (ρ : Ren) (a : Act) (w : World), SQ ρ.σ → (∀ p ∈ l, Cov D p.2) → WF h → (∀ p ∈ l, New N h.next p.2.next) → Rel D N ρ h.get w → TR N ρ ts a.tmps →
    ∀ (Q : Exit → Act → World → Prop), (∀ p ∈ l, ∀ a' w', QN D N h ρ a w p.1 p.2 a' w' → Q .normal a' w') → wpOps P ops Q (List.range' i r.length) a w := by
  intro r
  induction r with
  | nil =>
    intro i _ _ ts h l e D N ρ a w hsq hc hwf hN hr ht Q hQ
    have := LM.pure_some e
    subst this
    exact hQ _ (List.mem_singleton.2 rfl) a w (QN.self hr ht)
  | cons o r ih =>
    intro i hops hlen ts h l e D N ρ a w hsq hc hwf hN hr ht Q hQ
    have ho : ops[i]? = some o := hops 0 o (by simp)
    rw [List.length_cons, List.range'_succ]
    unfold wpOps
    simp only [ho]
    unfold lSeq at e
    have hops' : ∀ k o', r[k]? = some o' → ops[i + 1 + k]? = some o' := fun k o' hk => by
      have := hops (k + 1) o' (by simpa using hk)
      rwa [show i + 1 + k = i + (k + 1) from by omega]
    have hlen' : i + 1 + r.length = ops.size := by simp at hlen; omega
    cases hw : aWanted ops o ts with
    | none => rw [hw] at e; exact (LM.fail_some e).elim
    | some b =>
      rw [wanted_of hw ht.size (fun t _ => ht.val t)]
      rw [hw] at e
      cases b with
      | false =>
        rw [if_neg (by simp)]
        refine ih (i + 1) hops' hlen' _ h l e D N ρ _ w hsq hc hwf hN hr (ht.put (VR.shut rfl) o.dst) Q (fun p hp a' w' ⟨ρ', q1, q2, q3, q4⟩ => hQ p hp a' w' ⟨ρ', q1, q2, q3, ?_⟩)
        rw [q4]; cases o.dst <;> rfl
      | true =>
        rw [if_pos rfl]
        refine .inl ?_
        obtain ⟨l1, e1, e2⟩ := LM.bind_some e
        obtain ⟨g1, g2⟩ := gather_mem e2
        have cont : ∀ p ∈ l1, ∃ l2, (lSeq ops f r (match o.dst with | some d => ts.setIfInBounds d p.1 | none => ts)).run p.2 = some l2 ∧ (∀ q ∈ l2, q ∈ l) := fun p hp => g1 p hp
        have nonempty : ∀ p ∈ l1, ∀ l2, (lSeq ops f r (match o.dst with | some d => ts.setIfInBounds d p.1 | none => ts)).run p.2 = some l2 → ∀ q ∈ l2, Mono p.2 q.2 := fun p hp l2 h2 q hq => (lSeq ops f r _).mono _ _ h2 q hq
        have m1 := (f o ts).mono _ _ e1
        have hall : ∀ p ∈ l1, ∃ q ∈ l, Mono p.2 q.2 := fun p hp => by
          obtain ⟨l2, h2, h3⟩ := cont p hp
          have hne := (lSeq ops f r _).ne _ _ h2
          match l2, hne with
          | q :: _, _ => exact ⟨q, h3 q List.mem_cons_self, nonempty p hp _ h2 q List.mem_cons_self⟩
        refine hf o (Array.mem_of_getElem? ho) ts N ρ a hsq (fun t _ => ht.val t) h l1 e1 D w (fun p hp => ?_) hwf (fun p hp => ?_) hr _ Q (fun p hp ρ' v' w' hs hr' hv => ?_)
        · obtain ⟨q, hq, mq⟩ := hall p hp
          exact (hc q hq).of mq
        · obtain ⟨q, hq, mq⟩ := hall p hp
          exact (hN q hq).left mq.next
        · obtain ⟨l2, h2, h3⟩ := cont p hp
          obtain ⟨q0, hq0, mq0⟩ := hall p hp
          have hAg := agree_step hs ((hN q0 hq0).left mq0.next)
          refine ih (i + 1) hops' hlen' _ p.2 l2 h2 D _ ρ' _ w' (by rw [hs.agree.σ]; exact hsq) (fun q hq => hc q (h3 q hq)) ((m1 p hp).wf hwf) (fun q hq => (hN q (h3 q hq)).right (m1 p hp).next) hr' ((ht.mono hAg (fun n hn => .inl hn)).put hv o.dst) Q (fun q hq a' w2 qn => hQ q (h3 q hq) a' w2 ?_)
          exact QN.trans hs (m1 p hp) (nonempty p hp l2 h2 q hq) (by cases o.dst <;> rfl) qn

def lCode (f : Oper → Array Value → LM Value) : Nat → Code → Array Value → LM (Way × Array Value)
  | 0, _, _ => .fail
  | n + 1, c, ts => match c with
    | .skip => .pure (.normal, ts)
    | .label _ => .pure (.normal, ts)
    | .region _ ops draw => (if draw then .ofA (aReg ops (fun o ts => (f o ts).one) ts) else lSeq ops f ops.toList ts).bind fun ts' => .pure (.normal, ts')
    | .seq a b => (lCode f n a ts).bind fun p => match p with
      | (.normal, ts') => lCode f n b ts'
      | (w, ts') => .pure (w, ts')
    | .cond c a b => if okOpd c then (match aEv ts c with
      | .bool t => lCode f n (if t then a else b) ts
      | _ => .fail) else .fail
    | .block id b => (lCode f n b ts).bind fun p => match p with
      | (.exit i, ts') => if i = id then .pure (.normal, ts') else .pure (.exit i, ts')
      | (w, ts') => .pure (w, ts')
    | .loop b => (lCode f n b ts).bind fun p => match p with
      | (.normal, ts') => lCode f n (.loop b) ts'
      | (w, ts') => .pure (w, ts')
    | .scope b => lCode f n b ts
    | .exit id => .pure (.exit id, ts)
    | .ret => .pure (.ret, ts)
    | _ => .fail
abbrev Outs := List ((Way × Array Value) × AH)
/-- what a run of a piece of code comes to, one of many -/
def CSL (P : Program) (SQ : (Nat → Value) → Prop) (f : Oper → Array Value → LM Value) (n : Nat) (c : Code) (W : (Exit → Act → World → Prop) → Act → World → Prop) : Prop :=
  ∀ (ts : Array Value) (h : AH) (l : Outs), (lCode f n c ts).run h = some l →
    ∀ (D N : Nat → Prop) (ρ : Ren) (a : Act) (w : World), SQ ρ.σ → (∀ p ∈ l, Cov D p.2) → WF h → (∀ p ∈ l, New N h.next p.2.next) → Rel D N ρ h.get w → TR N ρ ts a.tmps →
    ∀ (Q : Exit → Act → World → Prop), (∀ p ∈ l, ∀ a' w', QN D N h ρ a w p.1.2 p.2 a' w' → Q p.1.1.exitOf a' w') → W Q a w
/-- what is said of each end of a first piece, and of all ends of what follows -/
theorem LM.split {α β : Type} {m : LM α} {g : α → LM β} {h : AH} {l : List (β × AH)} (e : (m.bind g).run h = some l) :
    ∃ l1, m.run h = some l1 ∧ ∀ p ∈ l1, Mono h p.2 ∧ ∃ l2, (g p.1).run p.2 = some l2 ∧ (∀ q ∈ l2, q ∈ l ∧ Mono p.2 q.2) ∧ ∃ q ∈ l, Mono p.2 q.2 := by
  obtain ⟨l1, e1, e2⟩ := LM.bind_some e
  refine ⟨l1, e1, fun p hp => ⟨m.mono _ _ e1 p hp, ?_⟩⟩
  obtain ⟨l2, h2, h3⟩ := (gather_mem e2).1 p hp
  have mm := (g p.1).mono _ _ h2
  have hne := (g p.1).ne _ _ h2
  refine ⟨l2, h2, fun q hq => ⟨h3 q hq, mm q hq⟩, ?_⟩
  match l2, hne with
  | q :: _, _ => exact ⟨q, h3 q List.mem_cons_self, mm q List.mem_cons_self⟩
theorem lCode_both (hm : P.follows .mixedOrders = true) (hf : ∀ ops, OSoundL P SQ ops f) : ∀ (n : Nat), (∀ c, CSL P SQ f n c (fun Q a w => c.wp P Q a w)) ∧ ∀ b, CSL P SQ f n (.loop b) (fun Q a w => Code.rounds P b Q n a w) := by
  intro n
  induction n with
  | zero => constructor <;> (intro c ts h l e; exact (LM.fail_some e).elim)
  | succ n ih0 =>
    obtain ⟨ih, ihl⟩ := ih0
    have hloop : ∀ b, CSL P SQ f (n + 1) (.loop b) (fun Q a w => Code.rounds P b Q (n + 1) a w) := by
      intro b ts h l e D N ρ a w hsq hc hwf hN hr ht Q hQ
      unfold lCode at e
      obtain ⟨l1, e1, k1⟩ := LM.split e
      show b.wp P (Exit.then (Code.rounds P b Q n) Q) a w
      refine ih b ts h l1 e1 D N ρ a w hsq (fun p hp => by obtain ⟨_, _, _, _, q, hq, mq⟩ := k1 p hp; exact (hc q hq).of mq) hwf (fun p hp => by obtain ⟨_, _, _, _, q, hq, mq⟩ := k1 p hp; exact (hN q hq).left mq.next) hr ht _ (fun p hp a' w' qn => ?_)
      obtain ⟨m1, l2, e2, k2, _⟩ := k1 p hp
      obtain ⟨⟨w1, ts1⟩, h1⟩ := p
      cases w1 with
      | normal =>
        obtain ⟨ρ', s1, r1, t1, d1⟩ := qn
        exact ihl b ts1 h1 l2 e2 D _ ρ' a' w' (by rw [s1.agree.σ]; exact hsq) (fun q hq => hc q (k2 q hq).1) (m1.wf hwf) (fun q hq => (hN q (k2 q hq).1).right m1.next) r1 t1 Q (fun q hq a2 w2 q2 => hQ q (k2 q hq).1 a2 w2 (QN.trans s1 m1 (k2 q hq).2 d1 q2))
      | exit i =>
        have := LM.pure_some e2
        subst this
        exact hQ _ (k2 _ (List.mem_singleton.2 rfl)).1 a' w' qn
      | ret =>
        have := LM.pure_some e2
        subst this
        exact hQ _ (k2 _ (List.mem_singleton.2 rfl)).1 a' w' qn
    refine ⟨?_, hloop⟩
    intro c ts h l e D N ρ a w hsq hc hwf hN hr ht Q hQ
    have e0 := e
    unfold lCode at e
    cases c with
    | skip =>
      have := LM.pure_some e; subst this
      exact wp_skip (hQ _ (List.mem_singleton.2 rfl) a w (QN.self hr ht))
    | label lb =>
      have := LM.pure_some e; subst this
      exact wp_label (hQ _ (List.mem_singleton.2 rfl) a w (QN.self hr ht))
    | region id ops draw =>
      obtain ⟨l1, e1, k1⟩ := LM.split e
      have fin : ∀ p ∈ l1, ((Way.normal, p.1), p.2) ∈ l := fun p hp => by
        obtain ⟨m1, l2, e2, k2, _⟩ := k1 p hp
        have := LM.pure_some e2; subst this
        exact (k2 _ (List.mem_singleton.2 rfl)).1
      cases draw with
      | true =>
        obtain ⟨p, e2, rfl⟩ := LM.ofA_some e1
        obtain ⟨ts', h'⟩ := p
        have hin := fin (ts', h') (List.mem_singleton.2 rfl)
        exact aReg_sound (ts' := ts') hm (hf ops).one e2 hsq (hc _ hin) hwf (hN _ hin) hr ht (hQ _ hin)
      | false =>
        refine wp_region ?_
        rw [List.range_eq_range']
        have := lSeq_sound (hf ops) ops.toList 0 (fun k o hk => by simpa using hk) (by simp) ts h l1 e1 D N ρ a w hsq (fun p hp => hc _ (fin p hp)) hwf (fun p hp => hN _ (fin p hp)) hr ht Q (fun p hp => hQ _ (fin p hp))
        simpa using this
    | seq x y =>
      obtain ⟨l1, e1, k1⟩ := LM.split e
      refine wp_seq (ih x ts h l1 e1 D N ρ a w hsq (fun p hp => by obtain ⟨_, _, _, _, q, hq, mq⟩ := k1 p hp; exact (hc q hq).of mq) hwf (fun p hp => by obtain ⟨_, _, _, _, q, hq, mq⟩ := k1 p hp; exact (hN q hq).left mq.next) hr ht _ (fun p hp a' w' qn => ?_))
      obtain ⟨m1, l2, e2, k2, _⟩ := k1 p hp
      obtain ⟨⟨w1, ts1⟩, h1⟩ := p
      cases w1 with
      | normal =>
        obtain ⟨ρ', s1, r1, t1, d1⟩ := qn
        exact ih y ts1 h1 l2 e2 D _ ρ' a' w' (by rw [s1.agree.σ]; exact hsq) (fun q hq => hc q (k2 q hq).1) (m1.wf hwf) (fun q hq => (hN q (k2 q hq).1).right m1.next) r1 t1 Q (fun q hq a2 w2 q2 => hQ q (k2 q hq).1 a2 w2 (QN.trans s1 m1 (k2 q hq).2 d1 q2))
      | exit i =>
        have := LM.pure_some e2; subst this
        exact hQ _ (k2 _ (List.mem_singleton.2 rfl)).1 a' w' qn
      | ret =>
        have := LM.pure_some e2; subst this
        exact hQ _ (k2 _ (List.mem_singleton.2 rfl)).1 a' w' qn
    | cond c x y =>
      dsimp only at e
      split at e
      case isFalse => exact (LM.fail_some e).elim
      case isTrue hok =>
        cases hv : aEv ts c with
        | bool t =>
          rw [hv] at e
          have hcv : a.eval c = .bool t := by
            cases c with
            | tmp k =>
              have := (ht.val k).eq
              simp only [aEv] at hv
              rw [hv] at this
              show a.tmps.getD k undef = _
              rw [← this]; simp [ren]
            | const v => exact hv
            | global g => cases hok
            | func g => simp [aEv] at hv
          exact wp_cond hcv (ih _ ts h l e D N ρ a w hsq hc hwf hN hr ht Q hQ)
        | _ => rw [hv] at e; exact (LM.fail_some e).elim
    | block id b =>
      obtain ⟨l1, e1, k1⟩ := LM.split e
      refine wp_block (ih b ts h l1 e1 D N ρ a w hsq (fun p hp => by obtain ⟨_, _, _, _, q, hq, mq⟩ := k1 p hp; exact (hc q hq).of mq) hwf (fun p hp => by obtain ⟨_, _, _, _, q, hq, mq⟩ := k1 p hp; exact (hN q hq).left mq.next) hr ht _ (fun p hp a' w' qn => ?_))
      obtain ⟨m1, l2, e2, k2, _⟩ := k1 p hp
      obtain ⟨⟨w1, ts1⟩, h1⟩ := p
      cases w1 with
      | normal =>
        have := LM.pure_some e2; subst this
        exact hQ _ (k2 _ (List.mem_singleton.2 rfl)).1 a' w' qn
      | ret =>
        have := LM.pure_some e2; subst this
        exact hQ _ (k2 _ (List.mem_singleton.2 rfl)).1 a' w' qn
      | exit i =>
        dsimp only at e2
        split at e2
        · rename_i hid
          have := LM.pure_some e2; subst this
          simp only [Way.exitOf, Exit.inBlock, hid, if_true]
          exact hQ _ (k2 _ (List.mem_singleton.2 rfl)).1 a' w' qn
        · rename_i hid
          have := LM.pure_some e2; subst this
          simp only [Way.exitOf, Exit.inBlock, hid, if_false]
          exact hQ _ (k2 _ (List.mem_singleton.2 rfl)).1 a' w' qn
    | loop b => exact wp_loop_rounds (n + 1) (hloop b ts h l e0 D N ρ a w hsq hc hwf hN hr ht Q hQ)
    | scope b =>
      exact wp_scope_straight (ih b ts h l e D N ρ a w hsq hc hwf hN hr ht _ (fun p hp a' w' q => by
        obtain ⟨⟨wy, ts1⟩, h1⟩ := p
        cases wy <;> exact hQ _ hp a' w' q))
    | exit id =>
      have := LM.pure_some e; subst this
      exact wp_exit (hQ _ (List.mem_singleton.2 rfl) a w (QN.self hr ht))
    | ret =>
      have := LM.pure_some e; subst this
      exact wp_ret (hQ _ (List.mem_singleton.2 rfl) a w (QN.self hr ht))
    | rangeFunc _ _ _ _ => exact (LM.fail_some e).elim
    | goto _ => exact (LM.fail_some e).elim
    | refuse _ => exact (LM.fail_some e).elim
end
end Go.Proofs.Ytfakfnekcgkelaa
/- An evaluator of Go code whose memory has names of its own: calls that come to more than one end; ends that are alike are one. -/
namespace Go.Proofs.Ytfakfnekcgkelaa
set_option linter.unusedVariables false
set_option linter.unusedSimpArgs false

/-- are two values one? -/
def eqBytes (a b : List UInt8) : Bool :=
  match a, b with
  | [], [] => true
  | x :: r, y :: s => Nat.beq x.toNat y.toNat && eqBytes r s
  | _, _ => false
theorem eqBytes_eq : ∀ {a b : List UInt8}, eqBytes a b = true → a = b
  | [], [], _ => rfl
  | x :: r, y :: s, h => by
    simp only [eqBytes, Bool.and_eq_true] at h
    rw [eqBytes_eq h.2, UInt8.toNat_inj.1 (Nat.eq_of_beq_eq_true h.1)]
  | [], _ :: _, h => by cases h
  | _ :: _, [], h => by cases h
def eqL (f : Value → Value → Bool) : List Value → List Value → Bool
  | [], [] => true
  | x :: r, y :: s => f x y && eqL f r s
  | _, _ => false
theorem eqL_eq {f : Value → Value → Bool} (hf : ∀ x y, f x y = true → x = y) : ∀ {a b : List Value}, eqL f a b = true → a = b
  | [], [], _ => rfl
  | x :: r, y :: s, h => by
    simp only [eqL, Bool.and_eq_true] at h
    rw [hf _ _ h.1, eqL_eq hf h.2]
  | [], _ :: _, h => by cases h
  | _ :: _, [], h => by cases h
def eqON : Option Nat → Option Nat → Bool
  | none, none => true
  | some a, some b => Nat.beq a b
  | _, _ => false
theorem eqON_eq {a b : Option Nat} (h : eqON a b = true) : a = b := by
  cases a <;> cases b <;> simp only [eqON] at h <;> first | rfl | cases h | rw [Nat.eq_of_beq_eq_true h]
def eqAd (a b : Addr) : Bool := Nat.beq a.block b.block && (Nat.beq a.off b.off && eqON a.spot b.spot)
theorem eqAd_eq {a b : Addr} (h : eqAd a b = true) : a = b := by
  simp only [eqAd, Bool.and_eq_true] at h
  obtain ⟨x, y, z⟩ := a
  obtain ⟨x', y', z'⟩ := b
  dsimp only at h
  rw [Nat.eq_of_beq_eq_true h.1, Nat.eq_of_beq_eq_true h.2.1, eqON_eq h.2.2]
def eqOA : Option Addr → Option Addr → Bool
  | none, none => true
  | some a, some b => eqAd a b
  | _, _ => false
theorem eqOA_eq {a b : Option Addr} (h : eqOA a b = true) : a = b := by
  cases a <;> cases b <;> simp only [eqOA] at h <;> first | rfl | cases h | rw [eqAd_eq h]
def eqFn : Fn → Fn → Bool
  | .func f, .func g => Nat.beq f g
  | _, _ => false
theorem eqFn_eq {a b : Fn} (h : eqFn a b = true) : a = b := by
  cases a <;> cases b <;> simp only [eqFn] at h <;> first | cases h | rw [Nat.eq_of_beq_eq_true h]
def kindNo : IntKind → Nat
  | .i8 => 0 | .i16 => 1 | .i32 => 2 | .i64 => 3 | .u8 => 4 | .u16 => 5 | .u32 => 6 | .u64 => 7
theorem kindNo_inj {a b : IntKind} (h : Nat.beq (kindNo a) (kindNo b) = true) : a = b := by
  cases a <;> cases b <;> first | rfl | cases h
def eqInt : Int → Int → Bool
  | .ofNat a, .ofNat b => Nat.beq a b
  | .negSucc a, .negSucc b => Nat.beq a b
  | _, _ => false
theorem eqInt_eq {a b : Int} (h : eqInt a b = true) : a = b := by
  cases a <;> cases b <;> simp only [eqInt] at h <;> first | cases h | rw [Nat.eq_of_beq_eq_true h]
def eqBool : Bool → Bool → Bool
  | true, true => true
  | false, false => true
  | _, _ => false
theorem eqBool_eq {a b : Bool} (h : eqBool a b = true) : a = b := by cases a <;> cases b <;> first | rfl | cases h
def eqV : Nat → Value → Value → Bool
  | 0, _, _ => false
  | n + 1, v, u => match v, u with
    | .bool a, .bool b => eqBool a b
    | .int k a, .int l b => Nat.beq (kindNo k) (kindNo l) && eqInt a b
    | .string a, .string b => eqBytes a.data.toList b.data.toList
    | .pointer a, .pointer b => eqOA a b
    | .slice a n c, .slice b m d => eqOA a b && (Nat.beq n m && Nat.beq c d)
    | .map a, .map b => eqON a b
    | .chan a, .chan b => eqON a b
    | .func f x y, .func g x' y' => eqFn f g && (eqL (eqV n) x.toList x'.toList && eqL (eqV n) y.toList y'.toList)
    | .nilFunc, .nilFunc => true
    | .iface t a, .iface s b => Nat.beq t s && eqV n a b
    | .nilIface, .nilIface => true
    | .agg a, .agg b => eqL (eqV n) a.toList b.toList
    | .tuple a, .tuple b => eqL (eqV n) a.toList b.toList
    | _, _ => false
theorem arr_eq {a b : Array Value} (h : a.toList = b.toList) : a = b := Array.ext' h
theorem eqV_eq : ∀ (n : Nat) (v u : Value), eqV n v u = true → v = u := by
  intro n
  induction n with
  | zero => intro v u h; cases h
  | succ n ih =>
    intro v u h
    unfold eqV at h
    split at h
    · rw [eqBool_eq h]
    · rw [Bool.and_eq_true] at h; rw [kindNo_inj h.1, eqInt_eq h.2]
    · rename_i a b
      have := eqBytes_eq h
      congr 1
      cases a; cases b
      congr 1
      exact Array.ext' this
    · rw [eqOA_eq h]
    · simp only [Bool.and_eq_true] at h; rw [eqOA_eq h.1, Nat.eq_of_beq_eq_true h.2.1, Nat.eq_of_beq_eq_true h.2.2]
    · rw [eqON_eq h]
    · rw [eqON_eq h]
    · simp only [Bool.and_eq_true] at h; rw [eqFn_eq h.1, arr_eq (eqL_eq ih h.2.1), arr_eq (eqL_eq ih h.2.2)]
    · rfl
    · simp only [Bool.and_eq_true] at h; rw [Nat.eq_of_beq_eq_true h.1, ih _ _ h.2]
    · rfl
    · rw [arr_eq (eqL_eq ih h)]
    · rw [arr_eq (eqL_eq ih h)]
    · cases h
def eqEs : List MapEntry → List MapEntry → Bool
  | [], [] => true
  | x :: r, y :: s => eqV 20 x.key y.key && (eqV 20 x.val y.val && (Nat.beq x.born y.born && eqEs r s))
  | _, _ => false
theorem eqEs_eq : ∀ {a b : List MapEntry}, eqEs a b = true → a = b
  | [], [], _ => rfl
  | x :: r, y :: s, h => by
    simp only [eqEs, Bool.and_eq_true] at h
    obtain ⟨k, v, b⟩ := x
    obtain ⟨k', v', b'⟩ := y
    dsimp only at h
    rw [eqV_eq _ _ _ h.1, eqV_eq _ _ _ h.2.1, Nat.eq_of_beq_eq_true h.2.2.1, eqEs_eq h.2.2.2]
  | [], _ :: _, h => by cases h
  | _ :: _, [], h => by cases h
def eqNs : List Nat → List Nat → Bool
  | [], [] => true
  | x :: r, y :: s => Nat.beq x y && eqNs r s
  | _, _ => false
theorem eqNs_eq : ∀ {a b : List Nat}, eqNs a b = true → a = b
  | [], [], _ => rfl
  | x :: r, y :: s, h => by
    simp only [eqNs, Bool.and_eq_true] at h
    rw [Nat.eq_of_beq_eq_true h.1, eqNs_eq h.2]
  | [], _ :: _, h => by cases h
  | _ :: _, [], h => by cases h
def eqO : AObj → AObj → Bool
  | .row a e p m, .row a' e' p' m' => eqL (eqV 20) a a' && (Nat.beq e e' && (Nat.beq p p' && eqBool m m'))
  | .map a c, .map a' c' => eqEs a a' && Nat.beq c c'
  | .iter m s l t, .iter m' s' l' t' => eqON m m' && (Nat.beq s s' && (eqNs l l' && Nat.beq t t'))
  | _, _ => false
theorem eqO_eq {a b : AObj} (h : eqO a b = true) : a = b := by
  cases a <;> cases b <;> simp only [eqO, Bool.and_eq_true] at h <;> first
    | cases h; done
    | rw [eqL_eq (eqV_eq 20) h.1, Nat.eq_of_beq_eq_true h.2.1, Nat.eq_of_beq_eq_true h.2.2.1, eqBool_eq h.2.2.2]
    | rw [eqEs_eq h.1, Nat.eq_of_beq_eq_true h.2]
    | rw [eqON_eq h.1, Nat.eq_of_beq_eq_true h.2.1, eqNs_eq h.2.2.1, Nat.eq_of_beq_eq_true h.2.2.2]
def eqOO : Option AObj → Option AObj → Bool
  | some a, some b => eqO a b
  | _, _ => false
theorem eqOO_eq {a b : Option AObj} (h : eqOO a b = true) : a = b := by
  cases a <;> cases b <;> simp only [eqOO] at h <;> first | cases h; done | rw [eqO_eq h]

/-- of these names nothing more is said, where two heaps part -/
def dropDiff (a b : Tr) : List Nat → Tr → Tr
  | [], t => t
  | n :: r, t => match a.get n with
    | none => dropDiff a b r t
    | some x => (match eqOO (some x) (b.get n) with
      | true => dropDiff a b r t
      | false => dropDiff a b r (t.set 64 n none))
def upFrom : Nat → Nat → List Nat
  | _, 0 => []
  | a, n + 1 => a :: upFrom (a + 1) n
theorem mem_upFrom : ∀ {n a k : Nat}, k ∈ upFrom a n ↔ a ≤ k ∧ k < a + n
  | 0, a, k => by simp [upFrom]
  | n + 1, a, k => by
    simp only [upFrom, List.mem_cons, mem_upFrom (n := n)]
    omega
def meetH (n0 : Nat) (a b : AH) : AH :=
  { a with m := dropDiff a.m b.m (a.wrt ++ b.wrt ++ upFrom n0 (a.next - n0)) a.m, tch := b.tch ++ a.tch, wrt := b.wrt ++ a.wrt }
def small (l : List Nat) : Bool := allLt' 4611686018427387904 l
where allLt' (n : Nat) : List Nat → Bool
  | [] => true
  | k :: r => Nat.blt k n && allLt' n r
theorem small_spec : ∀ {l : List Nat}, small l = true → ∀ k ∈ l, k < 4611686018427387904
  | [], _, k, hk => by cases hk
  | x :: r, h, k, hk => by
    simp only [small, small.allLt', Bool.and_eq_true] at h
    rcases List.mem_cons.1 hk with rfl | hk
    · have := h.1; rwa [Nat.blt_eq] at this
    · exact small_spec h.2 k hk
theorem dropDiff_spec {a b : Tr} : ∀ {l : List Nat} {t : Tr}, (∀ n ∈ l, n < 4611686018427387904) → (∀ n, t.get n = a.get n ∨ t.get n = none) →
    (∀ n, (dropDiff a b l t).get n = a.get n ∨ (dropDiff a b l t).get n = none) ∧ (∀ n, n ∉ l → (dropDiff a b l t).get n = t.get n) ∧ (∀ n, t.get n = none → (dropDiff a b l t).get n = none) ∧ ∀ n ∈ l, ∀ o, (dropDiff a b l t).get n = some o → b.get n = some o
  | [], t, _, ht => ⟨ht, fun _ _ => rfl, fun _ h => h, fun n hn => by cases hn⟩
  | n :: r, t, hs, ht => by
    have hset : ∀ k, (t.set 64 n none).get k = if k = n then none else t.get k := fun k => by
      by_cases e : k = n
      · subst e; rw [if_pos rfl]; exact Tr.get_set_same 64 t k none (by have := hs k List.mem_cons_self; omega)
      · rw [if_neg e]; exact Tr.get_set_other 64 t n k none e
    have ht2 : ∀ k, (t.set 64 n none).get k = a.get k ∨ (t.set 64 n none).get k = none := fun k => by
      rw [hset]; split
      · exact .inr rfl
      · exact ht k
    have hs' : ∀ k ∈ r, k < 4611686018427387904 := fun k hk => hs k (List.mem_cons_of_mem _ hk)
    unfold dropDiff
    split
    · rename_i hn
      obtain ⟨h1, h2, h3, h4⟩ := dropDiff_spec (a := a) (b := b) hs' ht
      refine ⟨h1, fun k hk => h2 k (fun hh => hk (List.mem_cons_of_mem _ hh)), h3, fun k hk o ho => ?_⟩
      rcases List.mem_cons.1 hk with rfl | hk
      · rcases h1 k with h | h
        · rw [h, hn] at ho; cases ho
        · rw [h] at ho; cases ho
      · exact h4 k hk o ho
    · rename_i x hn
      split
      · rename_i he
        obtain ⟨h1, h2, h3, h4⟩ := dropDiff_spec (a := a) (b := b) hs' ht
        refine ⟨h1, fun k hk => h2 k (fun hh => hk (List.mem_cons_of_mem _ hh)), h3, fun k hk o ho => ?_⟩
        rcases List.mem_cons.1 hk with rfl | hk
        · rcases h1 k with h | h
          · rw [← eqOO_eq he, ← hn, ← h]; exact ho
          · rw [h] at ho; cases ho
        · exact h4 k hk o ho
      · obtain ⟨h1, h2, h3, h4⟩ := dropDiff_spec (a := a) (b := b) hs' ht2
        have hnone : (dropDiff a b r (t.set 64 n none)).get n = none := h3 n (by rw [hset, if_pos rfl])
        refine ⟨h1, fun k hk => ?_, fun k hk => h3 k ?_, fun k hk o ho => ?_⟩
        · rw [h2 k (fun hh => hk (List.mem_cons_of_mem _ hh)), hset, if_neg (fun e => hk (by rw [e]; exact List.mem_cons_self))]
        · rw [hset]; split
          · rfl
          · exact hk
        · rcases List.mem_cons.1 hk with rfl | hk
          · rw [hnone] at ho; cases ho
          · exact h4 k hk o ho

/-- one heap says no more than another one -/
structure Sub (q p : AH) : Prop where
  get : ∀ n o, q.get n = some o → p.get n = some o
  next : q.next = p.next
  base : q.base = p.base
  tch : ∀ n ∈ p.tch, n ∈ q.tch
  wrt : ∀ n ∈ p.wrt, n ∈ q.wrt
theorem Sub.refl (p : AH) : Sub p p := ⟨fun _ _ h => h, rfl, rfl, fun _ h => h, fun _ h => h⟩
theorem Sub.trans {a b c : AH} (h : Sub a b) (k : Sub b c) : Sub a c :=
  ⟨fun n o hh => k.get n o (h.get n o hh), h.next.trans k.next, h.base.trans k.base, fun n hn => h.tch n (k.tch n hn), fun n hn => h.wrt n (k.wrt n hn)⟩
/-- a heap that came of h0, in which what it wrote of before is noted -/
structure Came (h0 h : AH) : Prop where
  next : h0.next ≤ h.next
  base : h.base = h0.base
  keep : ∀ n, n < h0.next → n ∉ h.wrt → h.get n = h0.get n
  dom : ∀ n, n < h0.next → (h.get n).isSome → (h0.get n).isSome
  wf : WF h0 → WF h
theorem Came.of {h0 h : AH} (m : Mono h0 h) (hb : h0.base = h0.next) : Came h0 h := ⟨m.next, m.base, fun n hn hw => m.keep n hn (by omega) hw, m.dom, m.wf⟩
theorem meet_spec {h0 a b : AH} (ha : Came h0 a) (hb : Came h0 b) (hn : a.next = b.next) (hwf : WF h0) (hs : small (a.wrt ++ b.wrt ++ upFrom h0.next (a.next - h0.next)) = true) :
    Came h0 (meetH h0.next a b) ∧ Sub (meetH h0.next a b) a ∧ Sub (meetH h0.next a b) b := by
  obtain ⟨h1, h2, h3, h4⟩ := dropDiff_spec (a := a.m) (b := b.m) (t := a.m) (small_spec hs) (fun n => .inl rfl)
  have hget : ∀ n, (meetH h0.next a b).get n = a.get n ∨ (meetH h0.next a b).get n = none := h1
  have hup := ha.next
  refine ⟨⟨ha.next, ha.base, fun n hlt hw => ?_, fun n hlt hs => ?_, fun _ n hge => ?_⟩, ⟨fun n o ho => ?_, rfl, rfl, fun n hn => List.mem_append_right _ hn, fun n hn => List.mem_append_right _ hn⟩, ⟨fun n o ho => ?_, hn, ha.base.trans hb.base.symm, fun n hn => List.mem_append_left _ hn, fun n hn => List.mem_append_left _ hn⟩⟩
  · have hw1 : n ∉ b.wrt := fun hh => hw (List.mem_append_left _ hh)
    have hw2 : n ∉ a.wrt := fun hh => hw (List.mem_append_right _ hh)
    rw [← ha.keep n hlt hw2]
    refine h2 n (fun hh => ?_)
    rcases List.mem_append.1 hh with hh | hh
    · rcases List.mem_append.1 hh with hh | hh
      · exact hw2 hh
      · exact hw1 hh
    · have := (mem_upFrom.1 hh).1; omega
  · rcases hget n with h | h
    · rw [h] at hs; exact ha.dom n hlt hs
    · rw [h] at hs; cases hs
  · rcases hget n with h | h
    · rw [h]; exact ha.wf hwf n hge
    · exact h
  · rcases hget n with h | h
    · rw [← h]; exact ho
    · rw [h] at ho; cases ho
  · by_cases hm : n ∈ a.wrt ++ b.wrt ++ upFrom h0.next (a.next - h0.next)
    · exact h4 n hm o ho
    · have hw1 : n ∉ a.wrt := fun hh => hm (List.mem_append_left _ (List.mem_append_left _ hh))
      have hw2 : n ∉ b.wrt := fun hh => hm (List.mem_append_left _ (List.mem_append_right _ hh))
      have ho' : a.get n = some o := by
        rcases hget n with h | h
        · rw [← h]; exact ho
        · rw [h] at ho; cases ho
      by_cases hlt : n < h0.next
      · rw [hb.keep n hlt hw2, ← ha.keep n hlt hw1]; exact ho'
      · have hge : a.next ≤ n := by
          rcases Nat.lt_or_ge n a.next with h | h
          · exact absurd (List.mem_append_right _ (mem_upFrom.2 ⟨by omega, by omega⟩)) hm
          · exact h
        rw [ha.wf hwf n hge] at ho'; cases ho'
/-- an end is laid beside one that is alike -/
def insO (n0 : Nat) (p : Value × AH) : List (Value × AH) → List (Value × AH)
  | [] => [p]
  | q :: r => if eqV 20 q.1 p.1 && (Nat.beq q.2.next p.2.next && small (q.2.wrt ++ p.2.wrt ++ upFrom n0 (q.2.next - n0))) then (q.1, meetH n0 q.2 p.2) :: r else q :: insO n0 p r
theorem insO_spec {h0 : AH} (hwf : WF h0) {p : Value × AH} (hp : Came h0 p.2) : ∀ {l : List (Value × AH)}, (∀ q ∈ l, Came h0 q.2) →
    (∀ q ∈ insO h0.next p l, Came h0 q.2) ∧ (∃ q ∈ insO h0.next p l, q.1 = p.1 ∧ Sub q.2 p.2) ∧ ∀ x ∈ l, ∃ q ∈ insO h0.next p l, q.1 = x.1 ∧ Sub q.2 x.2
  | [], _ => ⟨fun q hq => by obtain rfl : q = p := by simpa [insO] using hq
                             exact hp, ⟨p, by simp [insO], rfl, Sub.refl _⟩, fun x hx => by cases hx⟩
  | q :: r, hl => by
    unfold insO
    split
    · rename_i hc
      simp only [Bool.and_eq_true] at hc
      obtain ⟨h1, h2, h3⟩ := meet_spec (hl q List.mem_cons_self) hp (Nat.eq_of_beq_eq_true hc.2.1) hwf hc.2.2
      refine ⟨fun x hx => ?_, ⟨_, List.mem_cons_self, eqV_eq _ _ _ hc.1, h3⟩, fun x hx => ?_⟩
      · rcases List.mem_cons.1 hx with rfl | hx
        · exact h1
        · exact hl x (List.mem_cons_of_mem _ hx)
      · rcases List.mem_cons.1 hx with rfl | hx
        · exact ⟨_, List.mem_cons_self, rfl, h2⟩
        · exact ⟨x, List.mem_cons_of_mem _ hx, rfl, Sub.refl _⟩
    · obtain ⟨h1, ⟨y, hy, h2⟩, h3⟩ := insO_spec hwf hp (l := r) (fun x hx => hl x (List.mem_cons_of_mem _ hx))
      refine ⟨fun x hx => ?_, ⟨y, List.mem_cons_of_mem _ hy, h2⟩, fun x hx => ?_⟩
      · rcases List.mem_cons.1 hx with rfl | hx
        · exact hl x List.mem_cons_self
        · exact h1 x hx
      · rcases List.mem_cons.1 hx with rfl | hx
        · exact ⟨x, List.mem_cons_self, rfl, Sub.refl _⟩
        · obtain ⟨z, hz, h4⟩ := h3 x hx
          exact ⟨z, List.mem_cons_of_mem _ hz, h4⟩
def mergeO (n0 : Nat) : List (Value × AH) → List (Value × AH)
  | [] => []
  | p :: r => insO n0 p (mergeO n0 r)
theorem mergeO_spec {h0 : AH} (hwf : WF h0) : ∀ {l : List (Value × AH)}, (∀ q ∈ l, Came h0 q.2) → (∀ q ∈ mergeO h0.next l, Came h0 q.2) ∧ ∀ x ∈ l, ∃ q ∈ mergeO h0.next l, q.1 = x.1 ∧ Sub q.2 x.2
  | [], _ => ⟨fun q hq => by simp [mergeO] at hq, fun x hx => by cases hx⟩
  | p :: r, hl => by
    obtain ⟨h1, h2⟩ := mergeO_spec hwf (l := r) (fun x hx => hl x (List.mem_cons_of_mem _ hx))
    obtain ⟨k1, k2, k3⟩ := insO_spec hwf (p := p) (hl p List.mem_cons_self) h1
    refine ⟨k1, fun x hx => ?_⟩
    rcases List.mem_cons.1 hx with rfl | hx
    · exact k2
    · obtain ⟨y, hy, e, hs⟩ := h2 x hx
      obtain ⟨z, hz, e2, hs2⟩ := k3 y hy
      exact ⟨z, hz, e2.trans e, hs2.trans hs⟩
theorem meet_came {h0 a b : AH} (ha : Came h0 a) (hb : Came h0 b) (hs : small (a.wrt ++ b.wrt ++ upFrom h0.next (a.next - h0.next)) = true) : Came h0 (meetH h0.next a b) := by
  obtain ⟨h1, h2, h3, h4⟩ := dropDiff_spec (a := a.m) (b := b.m) (t := a.m) (small_spec hs) (fun n => .inl rfl)
  have hget : ∀ n, (meetH h0.next a b).get n = a.get n ∨ (meetH h0.next a b).get n = none := h1
  refine ⟨ha.next, ha.base, fun n hlt hw => ?_, fun n hlt hs => ?_, fun hwf n hge => ?_⟩
  · have hw1 : n ∉ b.wrt := fun hh => hw (List.mem_append_left _ hh)
    have hw2 : n ∉ a.wrt := fun hh => hw (List.mem_append_right _ hh)
    rw [← ha.keep n hlt hw2]
    refine h2 n (fun hh => ?_)
    rcases List.mem_append.1 hh with hh | hh
    · rcases List.mem_append.1 hh with hh | hh
      · exact hw2 hh
      · exact hw1 hh
    · have := (mem_upFrom.1 hh).1; omega
  · rcases hget n with h | h
    · rw [h] at hs; exact ha.dom n hlt hs
    · rw [h] at hs; cases hs
  · rcases hget n with h | h
    · rw [h]; exact ha.wf hwf n hge
    · exact h
theorem insO_came {h0 : AH} {p : Value × AH} (hp : Came h0 p.2) : ∀ {l : List (Value × AH)}, (∀ q ∈ l, Came h0 q.2) → ∀ q ∈ insO h0.next p l, Came h0 q.2
  | [], _, q, hq => by
    obtain rfl : q = p := by simpa [insO] using hq
    exact hp
  | q :: r, hl, x, hx => by
    unfold insO at hx
    split at hx
    · rename_i hc
      simp only [Bool.and_eq_true] at hc
      rcases List.mem_cons.1 hx with rfl | hx
      · exact meet_came (hl q List.mem_cons_self) hp hc.2.2
      · exact hl x (List.mem_cons_of_mem _ hx)
    · rcases List.mem_cons.1 hx with rfl | hx
      · exact hl x List.mem_cons_self
      · exact insO_came hp (fun x hx => hl x (List.mem_cons_of_mem _ hx)) x hx
theorem mergeO_came {h0 : AH} : ∀ {l : List (Value × AH)}, (∀ q ∈ l, Came h0 q.2) → ∀ q ∈ mergeO h0.next l, Came h0 q.2
  | [], _, q, hq => by simp [mergeO] at hq
  | p :: r, hl, q, hq => insO_came (hl p List.mem_cons_self) (mergeO_came (fun x hx => hl x (List.mem_cons_of_mem _ hx))) q hq
theorem insO_ne (n0 : Nat) (p : Value × AH) (l : List (Value × AH)) : insO n0 p l ≠ [] := by
  cases l with
  | nil => simp [insO]
  | cons q r => unfold insO; split <;> simp
end Go.Proofs.Ytfakfnekcgkelaa
/- An evaluator of Go code whose memory has names of its own: the evaluator of calls that come to more than one end. -/
namespace Go.Proofs.Ytfakfnekcgkelaa
set_option linter.unusedVariables false
set_option linter.unusedSimpArgs false

/-- what was noted by itself, noted beside what was noted before -/
def backTo (h q : AH) : AH := { q with base := h.base, tch := noteAll h.base (q.wrt ++ q.tch) h.tch, wrt := noteAll h.base q.wrt h.wrt }
def alone (h : AH) : AH := { h with base := h.next, tch := [], wrt := [] }
theorem backTo_mono {h q : AH} (c : Came (alone h) q) : Mono h (backTo h q) := by
  refine ⟨c.next, rfl, fun n hn => mem_noteAll_of hn, fun n hn => mem_noteAll_of hn, c.dom, fun n hlt hb hw => ?_, c.wf⟩
  exact c.keep n hlt (fun hh => hw (mem_noteAll hh hb))
/-- ends that are alike are one -/
def lCut (m : LM Value) : LM Value where
  run h := if h.base ≤ h.next then (match m.run (alone h) with
    | some l => some ((mergeO h.next l).map fun p => (p.1, backTo h p.2))
    | none => none) else none
  mono := by
    intro h l e p hp
    split at e
    case isFalse => cases e
    case isTrue hb =>
      split at e
      case h_2 => cases e
      case h_1 l0 h0 =>
        injection e with e; subst e
        obtain ⟨q, hq, rfl⟩ := List.mem_map.1 hp
        have hc := mergeO_came (h0 := alone h) (l := l0) (fun x hx => Came.of (m.mono _ _ h0 x hx) rfl) q hq
        exact backTo_mono hc
  ne := by
    intro h l e
    split at e
    case isFalse => cases e
    case isTrue hb =>
      split at e
      case h_2 => cases e
      case h_1 l0 h0 =>
        injection e with e; subst e
        have hne := m.ne _ _ h0
        match l0, hne with
        | p :: r, _ =>
          simp only [ne_eq, List.map_eq_nil_iff]
          exact insO_ne _ _ _
def FunOKL (P : Program) (f : FuncId) (m : Array Value → LM Value) : Prop :=
  ∀ (args args' : Array Value) (N : Nat → Prop) (ρ : Ren), LR N ρ args.toList args'.toList → ∀ h l, (m args).run h = some l → ∀ (D : Nat → Prop) (w : World), (∀ p ∈ l, Cov D p.2) → WF h → (∀ p ∈ l, New N h.next p.2.next) → Rel D N ρ h.get w →
    Calls P f args' w fun e w' => ∃ p ∈ l, ∃ ρ' v', e = .returned v' ∧ Step D h ρ w p.2 ρ' w' ∧ Rel D (Grow N h.next p.2.next) ρ' p.2.get w' ∧ VR (Grow N h.next p.2.next) ρ' p.1 v'
/-- what a call is held to -/
def CallOKL (P : Program) (SQ : (Nat → Value) → Prop) (call : FuncId → Array Value → LM Value) : Prop :=
  ∀ (f : FuncId) (args args' : Array Value) (N : Nat → Prop) (ρ : Ren), SQ ρ.σ → LR N ρ args.toList args'.toList → ∀ h l, (call f args).run h = some l → ∀ (D : Nat → Prop) (w : World), (∀ p ∈ l, Cov D p.2) → WF h → (∀ p ∈ l, New N h.next p.2.next) → Rel D N ρ h.get w →
    Calls P f args' w fun e w' => ∃ p ∈ l, ∃ ρ' v', e = .returned v' ∧ Step D h ρ w p.2 ρ' w' ∧ Rel D (Grow N h.next p.2.next) ρ' p.2.get w' ∧ VR (Grow N h.next p.2.next) ρ' p.1 v'
theorem Step.back {D : Nat → Prop} {h p q : AH} {ρ ρ' : Ren} {w w' : World} (hb : h.base ≤ h.next) (hs : Step D (alone h) ρ w p ρ' w') (hn : q.next = p.next) (hw : ∀ n ∈ p.wrt, n ∈ q.wrt) : Step D h ρ w (backTo h q) ρ' w' := by
  have hwr : ∀ m, m < h.next → (m ∈ p.wrt ∨ h.next ≤ m) → (m ∈ (backTo h q).wrt ∨ h.base ≤ m) := fun m hm hh => by
    rcases hh with hh | hh
    · by_cases hb2 : m < h.base
      · exact .inl (mem_noteAll (hw m hh) hb2)
      · exact .inr (by omega)
    · omega
  refine ⟨?_, ?_, hs.os, hs.tape, hs.output, hs.size, ?_⟩
  · have := hs.agree
    rw [show (backTo h q).next = p.next from hn]
    exact this
  · intro n hsp
    rw [show (backTo h q).next = p.next from hn] at hsp
    rcases hs.fresh n hsp with h1 | ⟨m, a1, a2, a3, a4, a5⟩
    · exact .inl h1
    · exact .inr ⟨m, a1, a2, a3, hwr m a2 a4, a5⟩
  · intro k hk hno
    exact hs.frame k hk (fun m a1 a2 a3 a4 => hno m a1 a2 a3 (hwr m a2 a4))
theorem Rel.sub {D N : Nat → Prop} {ρ : Ren} {h h' : Nat → Option AObj} {w : World} (hr : Rel D N ρ h w) (hs : ∀ n o, h' n = some o → h n = some o) : Rel D N ρ h' w := by
  have is : ∀ n, (h' n).isSome → (h n).isSome := fun n hn => by
    cases ho : h' n with
    | none => rw [ho] at hn; cases hn
    | some o => rw [hs n o ho]; rfl
  exact ⟨fun n m hn hm sn sm e => hr.inj n m hn hm (is n sn) (is m sm) e, fun n o hD ho => hr.holds n o hD (hs n o ho), fun n hD hn => hr.known n hD (is n hn), hr.sym, hr.glob⟩
theorem lCut_ok {P : Program} {f : FuncId} {m : LM Value} {args' : Array Value} {h : AH} {l : List (Value × AH)} {D N : Nat → Prop} {ρ : Ren} {w : World} (e : (lCut m).run h = some l) (hcov : ∀ p ∈ l, Cov D p.2) (hwf : WF h) (hN : ∀ p ∈ l, New N h.next p.2.next) (hr : Rel D N ρ h.get w)
    (hm : ∀ l0, m.run (alone h) = some l0 → (∀ p ∈ l0, Cov D p.2) → WF (alone h) → (∀ p ∈ l0, New N (alone h).next p.2.next) → Rel D N ρ (alone h).get w →
      Calls P f args' w fun e w' => ∃ p ∈ l0, ∃ ρ' v', e = .returned v' ∧ Step D (alone h) ρ w p.2 ρ' w' ∧ Rel D (Grow N (alone h).next p.2.next) ρ' p.2.get w' ∧ VR (Grow N (alone h).next p.2.next) ρ' p.1 v') :
    Calls P f args' w fun e w' => ∃ p ∈ l, ∃ ρ' v', e = .returned v' ∧ Step D h ρ w p.2 ρ' w' ∧ Rel D (Grow N h.next p.2.next) ρ' p.2.get w' ∧ VR (Grow N h.next p.2.next) ρ' p.1 v' := by
  unfold lCut at e
  dsimp only at e
  split at e
  case isFalse => cases e
  case isTrue hb =>
    split at e
    case h_2 => cases e
    case h_1 l0 h0 =>
      injection e with e; subst e
      have hwf0 : WF (alone h) := hwf
      obtain ⟨hc, hm2⟩ := mergeO_spec (h0 := alone h) hwf0 (l := l0) (fun x hx => Came.of (m.mono _ _ h0 x hx) rfl)
      have find : ∀ x ∈ l0, ∃ q ∈ mergeO h.next l0, q.1 = x.1 ∧ Sub q.2 x.2 ∧ (q.1, backTo h q.2) ∈ (mergeO h.next l0).map fun p => (p.1, backTo h p.2) := fun x hx => by
        obtain ⟨q, hq, e1, e2⟩ := hm2 x hx
        exact ⟨q, hq, e1, e2, List.mem_map.2 ⟨q, hq, rfl⟩⟩
      refine (hm l0 h0 (fun x hx => ?_) hwf0 (fun x hx => ?_) hr).mono ?_
      · obtain ⟨q, hq, e1, e2, hin⟩ := find x hx
        have hcv := hcov _ hin
        have hall : ∀ n, n ∈ q.2.wrt ++ q.2.tch → D n := fun n hn => by
          by_cases hlt : n < h.base
          · exact hcv.tch n (mem_noteAll hn hlt)
          · exact hcv.base n (by show h.base ≤ n; omega)
        refine ⟨fun n hn => hall n (List.mem_append_right _ (e2.tch n hn)), fun n hn => ?_⟩
        rw [(m.mono _ _ h0 x hx).base] at hn
        have hn : h.next ≤ n := hn
        exact hcv.base n (by show h.base ≤ n; omega)
      · obtain ⟨q, hq, e1, e2, hin⟩ := find x hx
        have := hN _ hin
        rw [show (backTo h q.2).next = x.2.next from e2.next] at this
        exact this
      · rintro e w' ⟨x, hx, ρ', v', rfl, hs, hrel, hv⟩
        obtain ⟨q, hq, e1, e2, hin⟩ := find x hx
        refine ⟨_, hin, ρ', v', rfl, hs.back hb e2.next e2.wrt, ?_, ?_⟩
        · show Rel D (Grow N h.next q.2.next) ρ' q.2.get w'
          rw [e2.next]
          exact hrel.sub e2.get
        · show VR (Grow N h.next q.2.next) ρ' q.1 v'
          rw [e2.next, e1]
          exact hv

/-- how many ways a range goes on -/
def candCount (h : AH) (it : Value) : Nat :=
  match it with
  | .pointer (some ⟨r, 0, none⟩) => (match h.get r with
    | some (.iter (some m) since seen _) => (match h.get m with
      | some (.map es _) => (cands es since seen).length
      | _ => 1)
    | _ => 1)
  | _ => 1
def upTo : Nat → List Nat
  | 0 => []
  | n + 1 => upTo n ++ [n]
theorem mem_upTo : ∀ {n k : Nat}, k ∈ upTo n ↔ k < n
  | 0, k => by simp [upTo]
  | n + 1, k => by simp only [upTo, List.mem_append, List.mem_singleton, mem_upTo (n := n)]; omega
def nexts (it : Value) (k : Nat) (h : AH) : Option (List (Value × AH)) :=
  gather (fun c => match (aNext c k it).run h with
    | some p => some [p]
    | none => none) (upTo k)
theorem nexts_spec {it : Value} {k : Nat} {h : AH} {l : List (Value × AH)} (e : nexts it k h = some l) : (∀ c, c < k → ∃ p, (aNext c k it).run h = some p ∧ p ∈ l) ∧ ∀ p ∈ l, ∃ c, (aNext c k it).run h = some p := by
  obtain ⟨h1, h2⟩ := gather_mem e
  refine ⟨fun c hc => ?_, fun p hp => ?_⟩
  · obtain ⟨a, ha, hm⟩ := h1 c (mem_upTo.2 hc)
    split at ha
    · rename_i q hq; injection ha with ha; subst ha; exact ⟨q, hq, hm q (by simp)⟩
    · cases ha
  · obtain ⟨c, _, a, ha, hm⟩ := h2 p hp
    split at ha
    · rename_i q hq; injection ha with ha; subst ha
      obtain rfl : p = q := by simpa using hm
      exact ⟨c, hq⟩
    · cases ha
def lNext (it : Value) : LM Value where
  run h := nexts it (max 1 (candCount h it)) h
  mono := by
    intro h l e p hp
    obtain ⟨c, hc⟩ := (nexts_spec e).2 p hp
    exact (aNext _ _ it).mono _ _ _ hc
  ne := by
    intro h l e h0
    obtain ⟨p, _, hp⟩ := (nexts_spec e).1 0 (by omega)
    rw [h0] at hp; cases hp

structure OrcL where
  base : Orc
  hook : FuncId → Option (Array Value → LM Value)
  /-- of these functions ends that are alike are one -/
  cut : FuncId → Bool
def OrcLOK (P : Program) (SQ : (Nat → Value) → Prop) (orc : OrcL) : Prop := OrcOK P SQ orc.base ∧ ∀ f m, orc.hook f = some m → FunOKL P f m
/-- a step of a range, of which there may be more than one -/
def nextOf (o : Oper) : Option Operand :=
  match o.op with
  | .next x b => (match b with
    | false => some x
    | true => none)
  | _ => none
theorem nextOf_spec {o : Oper} {x : Operand} (h : nextOf o = some x) : o.op = .next x false := by
  unfold nextOf at h
  split at h
  · rename_i y b ho
    split at h
    · injection h with h; subst h; exact ho
    · cases h
  · cases h
def lOper (P : Program) (orc : OrcL) (call : FuncId → Array Value → LM Value) (o : Oper) (ts : Array Value) : LM Value :=
  if o.op.operands.toList.all (okOpdG orc.base.glob) then
    match nextOf o with
    | some x => lNext (aEv ts x)
    | none => (LM.ofA (aExecF P orc.base (aEv ts) o)).bind fun
      | .value v => .pure v
      | .skip => .pure undef
      | .enter f args => call f args
  else .fail
theorem lOper_sound {P : Program} (hn : NameOK P) {SQ : (Nat → Value) → Prop} {orc : OrcL} (ho : OrcLOK P SQ orc) {call : FuncId → Array Value → LM Value} (hc : CallOKL P SQ call) (ops : Array Oper) : OSoundL P SQ ops (lOper P orc call) := by
  intro o _ ts N ρ a hsq hlook h l he D w hcov hwf hN hr K Q hK
  unfold lOper at he
  split at he
  case isFalse => exact (LM.fail_some he).elim
  case isTrue hok =>
    have hev : ∀ x ∈ o.op.operands, VR N ρ (aEv ts x) (a.eval x) := fun x hx => by
      have hox := (List.all_eq_true.1 hok) x (by simpa using hx)
      cases x with
      | tmp t => exact hlook t (List.mem_append_left _ (List.mem_filterMap.2 ⟨.tmp t, by simpa using hx, rfl⟩))
      | const v => exact VR.shut hox
      | global g =>
        have hg := hr.glob g (ho.1.2.1 g (by simpa [okOpdG] using hox) _ hsq)
        intro r hr2
        show ren r (.pointer (some ⟨g, 0, none⟩)) = .pointer (some ⟨g, 0, none⟩)
        simp only [ren, renA]
        rw [hr2.φ g hg.1, hg.2]
      | func f => exact VR.shut rfl
    split at he
    case h_1 x hx =>
      have hop := nextOf_spec hx
      have he : nexts (aEv ts x) (max 1 (candCount h (aEv ts x))) h = some l := he
      generalize hk : max 1 (candCount h (aEv ts x)) = k at he
      have hk1 : 1 ≤ k := by omega
      obtain ⟨g1, g2⟩ := nexts_spec he
      have hex : ∃ (xs : Nat → Value) (hs : Nat → AH), ∀ c, c < k → (aNext c k (aEv ts x)).run h = some (xs c, hs c) ∧ (xs c, hs c) ∈ l := by
        refine ⟨fun c => (((aNext c k (aEv ts x)).run h).getD (undef, h)).1, fun c => (((aNext c k (aEv ts x)).run h).getD (undef, h)).2, fun c hc => ?_⟩
        obtain ⟨p, h1, h2⟩ := g1 c hc
        dsimp only
        rw [h1]; exact ⟨rfl, h2⟩
      obtain ⟨xs, hs, hall⟩ := hex
      obtain ⟨c, hck, y, w', q1, q2, q3, q4, q5⟩ := aNext_run (P := P) (ty := o.type) (hev x (by simp [hop, Op.operands])) hk1 (fun c hc => (hall c hc).1) (D := D) (w := w) (fun c hc => hcov _ (hall c hc).2) hwf hr
      have hG : Grow N h.next (hs c).next = N := by rw [q5]; exact Grow.eq_self _ _
      unfold Oper.wp
      have hrun : (execOp a.eval o).run P w = .ok (.value y) w' := by
        unfold execOp
        rw [hop]
        show (Instr.next (a.eval x) false o.type >>= fun v => pure (Next.value v)).run P w = _
        rw [Sem.run_bind, q1]; rfl
      rw [hrun]
      exact hK _ (hall c hck).2 ρ y w' q2 (by dsimp only; rw [hG]; exact q3) (by dsimp only; rw [hG]; exact q4)
    case h_2 =>
      obtain ⟨l1, e1, k1⟩ := LM.split he
      obtain ⟨p0, e2, rfl⟩ := LM.ofA_some e1
      obtain ⟨x, h1⟩ := p0
      obtain ⟨m1, l2, e3, k2, q0, hq0, mq0⟩ := k1 (x, h1) (List.mem_singleton.2 rfl)
      obtain ⟨ρ1, y, w1, r1, s1, q1, p1⟩ := aExecF_sound hn ho.1 hsq (fun _ => rfl) hev h x h1 e2 D w ((hcov q0 hq0).of mq0) hwf ((hN q0 hq0).left mq0.next) hr
      unfold Oper.wp
      rw [r1]
      cases x with
      | value v0 =>
        have := LM.pure_some e3; subst this
        have hin := (k2 _ (List.mem_singleton.2 rfl)).1
        cases y with
        | value v' => exact hK _ hin ρ1 v' w1 s1 q1 p1
        | _ => exact p1.elim
      | skip =>
        have := LM.pure_some e3; subst this
        have hin := (k2 _ (List.mem_singleton.2 rfl)).1
        cases y with
        | skip => exact hK _ hin ρ1 undef w1 s1 q1 (VR.shut rfl)
        | _ => exact p1.elim
      | enter f args =>
        cases y with
        | enter f' args' =>
          obtain ⟨rfl, p1⟩ := p1
          refine Calls.mono (hc f' args args' _ ρ1 (by rw [s1.agree.σ]; exact hsq) p1 h1 l2 e3 D w1 (fun p hp => hcov p (k2 p hp).1) (m1.wf hwf) (fun p hp => (hN p (k2 p hp).1).right m1.next) q1) ?_
          rintro e w2 ⟨p, hp, ρ2, v2, rfl, s2, q2, p2⟩
          have mp := (k2 p hp).2
          rw [Grow.trans_eq N m1.next mp.next] at q2 p2
          exact hK p (k2 p hp).1 ρ2 v2 w2 (s1.trans s2 m1 mp) q2 p2
        | _ => exact p1.elim

def lFn0 (P : Program) (orc : OrcL) (fuel : Nat) (call : FuncId → Array Value → LM Value) (f : FuncId) (args : Array Value) : LM Value :=
  match P.funcs[f]? with
  | some fn => (match fn.body with
    | some c => (lCode (lOper P orc call) fuel c (args ++ Array.replicate (fn.ntmps - args.size) undef)).bind fun p => match p with
      | (.normal, ts) => .ofA (aRes P fn ts)
      | (.ret, ts) => .ofA (aRes P fn ts)
      | _ => .fail
    | none => .fail)
  | none => .fail
theorem lFn0_sound {P : Program} (hm : P.follows .mixedOrders = true) (hn : NameOK P) {SQ : (Nat → Value) → Prop} {orc : OrcL} (ho : OrcLOK P SQ orc) (fuel : Nat) {call : FuncId → Array Value → LM Value} (hc : CallOKL P SQ call) : CallOKL P SQ (lFn0 P orc fuel call) := by
  intro f args args' N ρ hsq ha h l he D w hcov hwf hN hr
  unfold lFn0 at he
  cases hf : P.funcs[f]? with
  | none => rw [hf] at he; exact (LM.fail_some he).elim
  | some fn =>
    rw [hf] at he
    dsimp only at he
    cases hb : fn.body with
    | none => rw [hb] at he; exact (LM.fail_some he).elim
    | some c =>
      rw [hb] at he
      obtain ⟨l1, e1, k1⟩ := LM.split he
      have hsz : args'.size = args.size := by rw [← Array.length_toList, ha.length, Array.length_toList]
      have ht : TR N ρ (args ++ Array.replicate (fn.ntmps - args.size) undef) (args' ++ Array.replicate (fn.ntmps - args'.size) undef) := by
        refine ⟨fun t => ?_, by simp [hsz]⟩
        rw [Array.getD_eq_getD_getElem?, Array.getD_eq_getD_getElem?, ← Array.getElem?_toList, ← Array.getElem?_toList]
        have hl : LR N ρ (args ++ Array.replicate (fn.ntmps - args.size) undef).toList (args' ++ Array.replicate (fn.ntmps - args'.size) undef).toList := by
          rw [Array.toList_append, Array.toList_append, hsz]
          refine ha.append (LR.shut ?_)
          simp [Array.toList_replicate]
          exact .inr rfl
        cases hx : (args ++ Array.replicate (fn.ntmps - args.size) undef).toList[t]? with
        | none =>
          have : (args' ++ Array.replicate (fn.ntmps - args'.size) undef).toList[t]? = none := by
            rw [List.getElem?_eq_none_iff] at hx ⊢
            rw [hl.length]; exact hx
          rw [this]; exact VR.shut rfl
        | some u =>
          obtain ⟨u', h3, h4⟩ := hl.get hx
          rw [h3]; exact h4
      refine calls_of_wp hf hb ?_
      refine (lCode_both hm (lOper_sound hn ho hc) fuel).1 c _ h l1 e1 D N ρ _ w hsq (fun p hp => by obtain ⟨_, _, _, _, q, hq, mq⟩ := k1 p hp; exact (hcov q hq).of mq) hwf (fun p hp => by obtain ⟨_, _, _, _, q, hq, mq⟩ := k1 p hp; exact (hN q hq).left mq.next) hr ht _ ?_
      rintro ⟨⟨wy, ts⟩, h1⟩ hp a' w' ⟨ρ1, s1, r1, t1, d1⟩
      obtain ⟨m1, l2, e2, k2, _⟩ := k1 _ hp
      have fin : ∀ (e : (LM.ofA (aRes P fn ts)).run h1 = some l2), a'.defers = [] ∧ ∃ v', (results fn a'.tmps).run P w' = .ok v' w' ∧ ∃ p ∈ l, ∃ ρ' v'', Ending.returned v' = .returned v'' ∧ Step D h ρ w p.2 ρ' w' ∧ Rel D (Grow N h.next p.2.next) ρ' p.2.get w' ∧ VR (Grow N h.next p.2.next) ρ' p.1 v'' := fun e => by
        obtain ⟨p, e3, rfl⟩ := LM.ofA_some e
        obtain ⟨v, h'⟩ := p
        obtain ⟨hin, m2⟩ := k2 _ (List.mem_singleton.2 rfl)
        obtain ⟨v', q1, q2, q3, q4, q5⟩ := aRes_sound t1 e3 (hcov _ hin) r1
        refine ⟨d1, v', q1, _, hin, ρ1, v', rfl, s1.trans q4 m1 m2, ?_, ?_⟩
        · dsimp only; rw [q3]; exact q5
        · dsimp only; rw [q3]; exact q2
      cases wy with
      | normal => exact fin e2
      | ret => exact fin e2
      | exit i => exact (LM.fail_some e2).elim
def lFn (P : Program) (orc : OrcL) (fuel : Nat) (call : FuncId → Array Value → LM Value) (f : FuncId) (args : Array Value) : LM Value :=
  match orc.hook f with
  | some m => m args
  | none => match orc.cut f with
    | true => lCut (lFn0 P orc fuel call f args)
    | false => lFn0 P orc fuel call f args
theorem lFn_sound {P : Program} (hm : P.follows .mixedOrders = true) (hn : NameOK P) {SQ : (Nat → Value) → Prop} {orc : OrcL} (ho : OrcLOK P SQ orc) (fuel : Nat) {call : FuncId → Array Value → LM Value} (hc : CallOKL P SQ call) : CallOKL P SQ (lFn P orc fuel call) := by
  intro f args args' N ρ hsq ha h l he D w hcov hwf hN hr
  unfold lFn at he
  cases hhk : orc.hook f with
  | some m => rw [hhk] at he; exact ho.2 f m hhk args args' N ρ ha h l he D w hcov hwf hN hr
  | none =>
    rw [hhk] at he
    dsimp only at he
    cases hcu : orc.cut f with
    | false => rw [hcu] at he; exact lFn0_sound hm hn ho fuel hc f args args' N ρ hsq ha h l he D w hcov hwf hN hr
    | true =>
      rw [hcu] at he
      exact lCut_ok he hcov hwf hN hr (fun l0 h0 c0 w0 n0 r0 => lFn0_sound hm hn ho fuel hc f args args' N ρ hsq ha (alone h) l0 h0 D w c0 w0 n0 r0)
def lCall (P : Program) (orc : OrcL) (fuel : Nat) : Nat → FuncId → Array Value → LM Value
  | 0, _, _ => .fail
  | n + 1, f, args => lFn P orc fuel (lCall P orc fuel n) f args
theorem lCall_sound {P : Program} (hm : P.follows .mixedOrders = true) (hn : NameOK P) {SQ : (Nat → Value) → Prop} {orc : OrcL} (ho : OrcLOK P SQ orc) (fuel : Nat) : ∀ n, CallOKL P SQ (lCall P orc fuel n)
  | 0 => fun f args args' N ρ _ _ h l he => (LM.fail_some he).elim
  | n + 1 => lFn_sound hm hn ho fuel (lCall_sound hm hn ho fuel n)
/-- a hook that comes to one end -/
theorem FunOK.toL {P : Program} {f : FuncId} {m : Array Value → AM Value} (h : FunOK P f m) : FunOKL P f (fun args => .ofA (m args)) := by
  intro args args' N ρ ha h0 l he D w hcov hwf hN hr
  obtain ⟨p, e1, rfl⟩ := LM.ofA_some he
  obtain ⟨v, h'⟩ := p
  have hin : (v, h') ∈ [(v, h')] := List.mem_singleton.2 rfl
  exact (h args args' N ρ ha h0 v h' e1 D w (hcov _ hin) hwf (hN _ hin) hr).mono fun e w' ⟨ρ', v', a, b, c, d⟩ => ⟨_, hin, ρ', v', a, b, c, d⟩
/-- a call that looks at the package's variables alone: if every end is true, it leaves true, and nothing of before is changed -/
theorem Calls.of_evalL {P : Program} (hm : P.follows .mixedOrders = true) (hn : NameOK P) {orc : OrcL} {σ : Nat → Value} (hσ : ∀ k, (σ k).oneCell' = true) (ho : OrcLOK P (· = σ) orc) {fuel n : Nat} {f : FuncId} {args args' : Array Value}
    (ha : ∀ r : Ren, r.σ = σ → args.map (ren r) = args') {v : Value} {m0 : Tr} {n0 : Nat} (w : World) (hg : ∀ g, σ (gsym g) = .nilFunc → g < n0) (hw0 : ∀ g, n0 ≤ g → m0.get g = none)
    (hh : ∀ g o, m0.get g = some o → Holds (fun g => g < n0) ⟨fun g => g, fun _ => 0, σ⟩ g w o) {l : List (Value × AH)}
    (he : (lCall P orc fuel n f args).run ⟨m0, n0, n0, [], []⟩ = some l) (hwr : ∀ p ∈ l, p.1 = v ∧ p.2.wrt = []) (hv : shut v = true) : Calls P f args' w fun e w' => e = .returned v ∧ RowKit.Below w.heap.size w w' := by
  have hlt : ∀ g, (m0.get g).isSome → g < n0 := fun g hs => by
    rcases Nat.lt_or_ge g n0 with h | h
    · exact h
    · rw [hw0 g h] at hs; cases hs
  refine (lCall_sound hm hn ho fuel n f args args' (fun g => g < n0) ⟨fun g => g, fun _ => 0, σ⟩ rfl (fun r hr => by rw [← ha r hr.σ, Array.toList_map]) _ l he (fun _ => True) w (fun _ _ => ⟨fun _ _ => trivial, fun _ _ => trivial⟩) (fun g hge => hw0 g hge) (fun p _ g hs hk => by have := hs.1; dsimp only at this; omega)
    ⟨fun a b _ _ _ _ e => e, fun g o _ ho => hh g o ho, fun g _ hs => hlt g hs, hσ, fun g hgl => ⟨hg g hgl, rfl⟩⟩).mono ?_
  rintro e w' ⟨p, hp, ρ', v', rfl, hs, hr, hvv⟩
  obtain ⟨rfl, hwp⟩ := hwr p hp
  have hv' : v' = p.1 := by rw [← hvv.eq]; exact ren_shut _ hv
  subst hv'
  refine ⟨rfl, hs.os, hs.tape, hs.output, hs.size, fun k hk => hs.frame k hk (fun m _ hm1 hsome hor => ?_)⟩
  rcases hor with h1 | h1
  · rw [hwp] at h1; cases h1
  · dsimp only at h1 hm1; omega
end Go.Proofs.Ytfakfnekcgkelaa
