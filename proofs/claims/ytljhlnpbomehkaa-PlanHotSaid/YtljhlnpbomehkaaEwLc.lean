/- An evaluator of Go code whose memory has names of its own: code that comes to more than one end (a map is ranged over in whatever order). -/
import Derived.Test.YtljhlnpbomehkaaEwQ
namespace Go.Proofs.Ytljhlnpbomehkaa
set_option linter.unusedVariables false
set_option linter.unusedSimpArgs false

def gather {α β : Type} (f : α → Option (List β)) : List α → Option (List β)
  | [] => some []
  | x :: r => match r with
    | [] => f x
    | _ :: _ => (match f x with
      | some a => (match gather f r with
        | some b => some (a ++ b)
        | none => none)
      | none => none)
theorem gather_cons {α β : Type} {f : α → Option (List β)} {x : α} {r : List α} {m : List β} (h : gather f (x :: r) = some m) : ∃ a b, f x = some a ∧ gather f r = some b ∧ m = a ++ b := by
  cases r with
  | nil => exact ⟨m, [], by simpa [gather] using h, rfl, by simp⟩
  | cons y r =>
    simp only [gather] at h
    split at h
    · rename_i a ha
      split at h
      · rename_i b hb
        injection h with h
        exact ⟨a, b, ha, hb, h.symm⟩
      · cases h
    · cases h
theorem gather_mem {α β : Type} {f : α → Option (List β)} : ∀ {l : List α} {m : List β}, gather f l = some m → (∀ x ∈ l, ∃ a, f x = some a ∧ ∀ y ∈ a, y ∈ m) ∧ ∀ y ∈ m, ∃ x ∈ l, ∃ a, f x = some a ∧ y ∈ a
  | [], m, h => by
    simp only [gather, Option.some.injEq] at h
    subst h
    exact ⟨(fun x hx => by cases hx), (fun y hy => by cases hy)⟩
  | x :: r, m, h => by
    obtain ⟨a, b, ha, hb, rfl⟩ := gather_cons h
    obtain ⟨h1, h2⟩ := gather_mem hb
    refine ⟨fun z hz => ?_, fun y hy => ?_⟩
    · rcases List.mem_cons.1 hz with rfl | hz
      · exact ⟨a, ha, fun y hy => List.mem_append_left _ hy⟩
      · obtain ⟨c, hc, hm⟩ := h1 z hz
        exact ⟨c, hc, fun y hy => List.mem_append_right _ (hm y hy)⟩
    · rcases List.mem_append.1 hy with hy | hy
      · exact ⟨x, List.mem_cons_self, a, ha, hy⟩
      · obtain ⟨z, hz, c, hc, hm⟩ := h2 y hy
        exact ⟨z, List.mem_cons_of_mem _ hz, c, hc, hm⟩

structure LM (α : Type) where
  run : AH → Option (List (α × AH))
  mono : ∀ h l, run h = some l → ∀ p ∈ l, Mono h p.2
  ne : ∀ h l, run h = some l → l ≠ []
def LM.ofA {α : Type} (m : AM α) : LM α where
  run h := match m.run h with
    | some p => some [p]
    | none => none
  mono := by
    intro h l e p hp
    split at e
    · rename_i q hq
      injection e with e; subst e
      obtain rfl : p = q := by simpa using hp
      exact m.mono _ _ _ hq
    · cases e
  ne := by
    intro h l e
    split at e
    · injection e with e; subst e; simp
    · cases e
theorem LM.ofA_some {α : Type} {m : AM α} {h : AH} {l : List (α × AH)} (e : (LM.ofA m).run h = some l) : ∃ p, m.run h = some p ∧ l = [p] := by
  unfold LM.ofA at e
  dsimp only at e
  split at e
  · rename_i q hq; injection e with e; exact ⟨q, hq, e.symm⟩
  · cases e
def LM.one {α : Type} (m : LM α) : AM α := ⟨fun h => match m.run h with
    | some [p] => some p
    | _ => none, fun h x h' e => by
    split at e
    · rename_i q hq
      injection e with e
      subst e
      exact m.mono _ _ hq (x, h') (by simp)
    · cases e⟩
theorem LM.one_some {α : Type} {m : LM α} {h : AH} {p : α × AH} (e : m.one.run h = some p) : m.run h = some [p] := by
  unfold LM.one at e
  dsimp only at e
  split at e
  · rename_i q hq; injection e with e; subst e; exact hq
  · cases e
def LM.bind {α β : Type} (m : LM α) (f : α → LM β) : LM β where
  run h := match m.run h with
    | some l => gather (fun p => (f p.1).run p.2) l
    | none => none
  mono := by
    intro h l e p hp
    split at e
    · rename_i l1 h1
      obtain ⟨x, hx, a, ha, hpa⟩ := (gather_mem e).2 p hp
      exact (m.mono _ _ h1 x hx).trans ((f x.1).mono _ _ ha p hpa)
    · cases e
  ne := by
    intro h l e
    split at e
    · rename_i l1 h1
      have hne := m.ne _ _ h1
      match l1, hne with
      | x :: r, _ =>
        obtain ⟨a, b, ha, _, rfl⟩ := gather_cons e
        have := (f x.1).ne _ _ ha
        intro h0
        rw [List.append_eq_nil_iff] at h0
        exact this h0.1
    · cases e
theorem LM.bind_some {α β : Type} {m : LM α} {f : α → LM β} {h : AH} {l : List (β × AH)} (e : (m.bind f).run h = some l) : ∃ l1, m.run h = some l1 ∧ gather (fun p => (f p.1).run p.2) l1 = some l := by
  unfold LM.bind at e
  dsimp only at e
  split at e
  · rename_i l1 h1; exact ⟨l1, h1, e⟩
  · cases e
def LM.pure {α : Type} (x : α) : LM α := .ofA (.pure x)
def LM.fail {α : Type} : LM α := .ofA .fail
theorem LM.pure_some {α : Type} {x : α} {h : AH} {l : List (α × AH)} (e : (LM.pure x).run h = some l) : l = [(x, h)] := by
  obtain ⟨p, h1, rfl⟩ := LM.ofA_some e
  obtain ⟨y, h'⟩ := p
  obtain ⟨rfl, rfl⟩ := AM.pure_some h1
  rfl
theorem LM.fail_some {α : Type} {h : AH} {l : List (α × AH)} (e : (LM.fail : LM α).run h = some l) : False := by
  obtain ⟨p, h1, rfl⟩ := LM.ofA_some e
  cases h1

/-- one operation: what it may leave -/
def OSoundL (P : Program) (SQ : (Nat → Value) → Prop) (ops : Array Oper) (f : Oper → Array Value → LM Value) : Prop :=
  ∀ o, o ∈ ops → ∀ (ts : Array Value) (N : Nat → Prop) (ρ : Ren) (a : Act), SQ ρ.σ → (∀ t ∈ o.looksAt ops, VR N ρ (ts.getD t undef) (a.tmps.getD t undef)) →
    ∀ h l, (f o ts).run h = some l → ∀ (D : Nat → Prop) (w : World), (∀ p ∈ l, Cov D p.2) → WF h → (∀ p ∈ l, New N h.next p.2.next) → Rel D N ρ h.get w →
      ∀ (K : Act → World → Prop) (Q : Exit → Act → World → Prop), (∀ p ∈ l, ∀ ρ' v' w', Step D h ρ w p.2 ρ' w' → Rel D (Grow N h.next p.2.next) ρ' p.2.get w' → VR (Grow N h.next p.2.next) ρ' p.1 v' → K (a.put o.dst v') w') →
        o.wp P a w K Q
theorem OSoundL.one {P : Program} {SQ : (Nat → Value) → Prop} {ops : Array Oper} {f : Oper → Array Value → LM Value} (hf : OSoundL P SQ ops f) : OSound P SQ ops (fun o ts => (f o ts).one) := by
  intro o ho ts N ρ a hsq hlook h v h' he D w hcov hwf hN hr K Q hK
  have h1 := LM.one_some he
  refine hf o ho ts N ρ a hsq hlook h _ h1 D w (fun p hp => ?_) hwf (fun p hp => ?_) hr K Q (fun p hp => ?_)
  all_goals (obtain rfl : p = (v, h') := by simpa using hp)
  · exact hcov
  · exact hN
  · exact hK

def lSeq (ops : Array Oper) (f : Oper → Array Value → LM Value) : List Oper → Array Value → LM (Array Value)
  | [], ts => .pure ts
  | o :: r, ts => match aWanted ops o ts with
    | none => .fail
    | some false => lSeq ops f r (match o.dst with | some d => ts.setIfInBounds d undef | none => ts)
    | some true => (f o ts).bind fun v => lSeq ops f r (match o.dst with | some d => ts.setIfInBounds d v | none => ts)
section
variable {P : Program} {SQ : (Nat → Value) → Prop} {f : Oper → Array Value → LM Value}
theorem lSeq_sound {ops : Array Oper} (hf : OSoundL P SQ ops f) : ∀ (r : List Oper) (i : Nat), (∀ k o, r[k]? = some o → ops[i + k]? = some o) → i + r.length = ops.size →
    ∀ (ts : Array Value) (h : AH) (l : List (Array Value × AH)), (lSeq ops f r ts).run h = some l → ∀ (D N : Nat → Prop) (ρ : Ren) (a : Act) (w : World), SQ ρ.σ → (∀ p ∈ l, Cov D p.2) → WF h → (∀ p ∈ l, New N h.next p.2.next) → Rel D N ρ h.get w → TR N ρ ts a.tmps →
    ∀ (Q : Exit → Act → World → Prop), (∀ p ∈ l, ∀ a' w', QN D N h ρ a w p.1 p.2 a' w' → Q .normal a' w') → wpOps P ops Q (List.range' i r.length) a w := by
  intro r
  induction r with
  | nil =>
    intro i _ _ ts h l e D N ρ a w hsq hc hwf hN hr ht Q hQ
    have := LM.pure_some e
    subst this
    exact hQ _ (List.mem_singleton.2 rfl) a w (QN.self hr ht)
  | cons o r ih =>
    intro i hops hlen ts h l e D N ρ a w hsq hc hwf hN hr ht Q hQ
    have ho : ops[i]? = some o := hops 0 o (by simp)
    rw [List.length_cons, List.range'_succ]
    unfold wpOps
    simp only [ho]
    unfold lSeq at e
    have hops' : ∀ k o', r[k]? = some o' → ops[i + 1 + k]? = some o' := fun k o' hk => by
      have := hops (k + 1) o' (by simpa using hk)
      rwa [show i + 1 + k = i + (k + 1) from by omega]
    have hlen' : i + 1 + r.length = ops.size := by simp at hlen; omega
    cases hw : aWanted ops o ts with
    | none => rw [hw] at e; exact (LM.fail_some e).elim
    | some b =>
      rw [wanted_of hw ht.size (fun t _ => ht.val t)]
      rw [hw] at e
      cases b with
      | false =>
        rw [if_neg (by simp)]
        refine ih (i + 1) hops' hlen' _ h l e D N ρ _ w hsq hc hwf hN hr (ht.put (VR.shut rfl) o.dst) Q (fun p hp a' w' ⟨ρ', q1, q2, q3, q4⟩ => hQ p hp a' w' ⟨ρ', q1, q2, q3, ?_⟩)
        rw [q4]; cases o.dst <;> rfl
      | true =>
        rw [if_pos rfl]
        refine .inl ?_
        obtain ⟨l1, e1, e2⟩ := LM.bind_some e
        obtain ⟨g1, g2⟩ := gather_mem e2
        have cont : ∀ p ∈ l1, ∃ l2, (lSeq ops f r (match o.dst with | some d => ts.setIfInBounds d p.1 | none => ts)).run p.2 = some l2 ∧ (∀ q ∈ l2, q ∈ l) := fun p hp => g1 p hp
        have nonempty : ∀ p ∈ l1, ∀ l2, (lSeq ops f r (match o.dst with | some d => ts.setIfInBounds d p.1 | none => ts)).run p.2 = some l2 → ∀ q ∈ l2, Mono p.2 q.2 := fun p hp l2 h2 q hq => (lSeq ops f r _).mono _ _ h2 q hq
        have m1 := (f o ts).mono _ _ e1
        have hall : ∀ p ∈ l1, ∃ q ∈ l, Mono p.2 q.2 := fun p hp => by
          obtain ⟨l2, h2, h3⟩ := cont p hp
          have hne := (lSeq ops f r _).ne _ _ h2
          match l2, hne with
          | q :: _, _ => exact ⟨q, h3 q List.mem_cons_self, nonempty p hp _ h2 q List.mem_cons_self⟩
        refine hf o (Array.mem_of_getElem? ho) ts N ρ a hsq (fun t _ => ht.val t) h l1 e1 D w (fun p hp => ?_) hwf (fun p hp => ?_) hr _ Q (fun p hp ρ' v' w' hs hr' hv => ?_)
        · obtain ⟨q, hq, mq⟩ := hall p hp
          exact (hc q hq).of mq
        · obtain ⟨q, hq, mq⟩ := hall p hp
          exact (hN q hq).left mq.next
        · obtain ⟨l2, h2, h3⟩ := cont p hp
          obtain ⟨q0, hq0, mq0⟩ := hall p hp
          have hAg := agree_step hs ((hN q0 hq0).left mq0.next)
          refine ih (i + 1) hops' hlen' _ p.2 l2 h2 D _ ρ' _ w' (by rw [hs.agree.σ]; exact hsq) (fun q hq => hc q (h3 q hq)) ((m1 p hp).wf hwf) (fun q hq => (hN q (h3 q hq)).right (m1 p hp).next) hr' ((ht.mono hAg (fun n hn => .inl hn)).put hv o.dst) Q (fun q hq a' w2 qn => hQ q (h3 q hq) a' w2 ?_)
          exact QN.trans hs (m1 p hp) (nonempty p hp l2 h2 q hq) (by cases o.dst <;> rfl) qn

def lCode (f : Oper → Array Value → LM Value) : Nat → Code → Array Value → LM (Way × Array Value)
  | 0, _, _ => .fail
  | n + 1, c, ts => match c with
    | .skip => .pure (.normal, ts)
    | .label _ => .pure (.normal, ts)
    | .region _ ops draw => (if draw then .ofA (aReg ops (fun o ts => (f o ts).one) ts) else lSeq ops f ops.toList ts).bind fun ts' => .pure (.normal, ts')
    | .seq a b => (lCode f n a ts).bind fun p => match p with
      | (.normal, ts') => lCode f n b ts'
      | (w, ts') => .pure (w, ts')
    | .cond c a b => if okOpd c then (match aEv ts c with
      | .bool t => lCode f n (if t then a else b) ts
      | _ => .fail) else .fail
    | .block id b => (lCode f n b ts).bind fun p => match p with
      | (.exit i, ts') => if i = id then .pure (.normal, ts') else .pure (.exit i, ts')
      | (w, ts') => .pure (w, ts')
    | .loop b => (lCode f n b ts).bind fun p => match p with
      | (.normal, ts') => lCode f n (.loop b) ts'
      | (w, ts') => .pure (w, ts')
    | .scope b => lCode f n b ts
    | .exit id => .pure (.exit id, ts)
    | .ret => .pure (.ret, ts)
    | _ => .fail
abbrev Outs := List ((Way × Array Value) × AH)
/-- what a run of a piece of code comes to, one of many -/
def CSL (P : Program) (SQ : (Nat → Value) → Prop) (f : Oper → Array Value → LM Value) (n : Nat) (c : Code) (W : (Exit → Act → World → Prop) → Act → World → Prop) : Prop :=
  ∀ (ts : Array Value) (h : AH) (l : Outs), (lCode f n c ts).run h = some l →
    ∀ (D N : Nat → Prop) (ρ : Ren) (a : Act) (w : World), SQ ρ.σ → (∀ p ∈ l, Cov D p.2) → WF h → (∀ p ∈ l, New N h.next p.2.next) → Rel D N ρ h.get w → TR N ρ ts a.tmps →
    ∀ (Q : Exit → Act → World → Prop), (∀ p ∈ l, ∀ a' w', QN D N h ρ a w p.1.2 p.2 a' w' → Q p.1.1.exitOf a' w') → W Q a w
/-- what is said of each end of a first piece, and of all ends of what follows -/
theorem LM.split {α β : Type} {m : LM α} {g : α → LM β} {h : AH} {l : List (β × AH)} (e : (m.bind g).run h = some l) :
    ∃ l1, m.run h = some l1 ∧ ∀ p ∈ l1, Mono h p.2 ∧ ∃ l2, (g p.1).run p.2 = some l2 ∧ (∀ q ∈ l2, q ∈ l ∧ Mono p.2 q.2) ∧ ∃ q ∈ l, Mono p.2 q.2 := by
  obtain ⟨l1, e1, e2⟩ := LM.bind_some e
  refine ⟨l1, e1, fun p hp => ⟨m.mono _ _ e1 p hp, ?_⟩⟩
  obtain ⟨l2, h2, h3⟩ := (gather_mem e2).1 p hp
  have mm := (g p.1).mono _ _ h2
  have hne := (g p.1).ne _ _ h2
  refine ⟨l2, h2, fun q hq => ⟨h3 q hq, mm q hq⟩, ?_⟩
  match l2, hne with
  | q :: _, _ => exact ⟨q, h3 q List.mem_cons_self, mm q List.mem_cons_self⟩
theorem lCode_both (hm : P.follows .mixedOrders = true) (hf : ∀ ops, OSoundL P SQ ops f) : ∀ (n : Nat), (∀ c, CSL P SQ f n c (fun Q a w => c.wp P Q a w)) ∧ ∀ b, CSL P SQ f n (.loop b) (fun Q a w => Code.rounds P b Q n a w) := by
  intro n
  induction n with
  | zero => constructor <;> (intro c ts h l e; exact (LM.fail_some e).elim)
  | succ n ih0 =>
    obtain ⟨ih, ihl⟩ := ih0
    have hloop : ∀ b, CSL P SQ f (n + 1) (.loop b) (fun Q a w => Code.rounds P b Q (n + 1) a w) := by
      intro b ts h l e D N ρ a w hsq hc hwf hN hr ht Q hQ
      unfold lCode at e
      obtain ⟨l1, e1, k1⟩ := LM.split e
      show b.wp P (Exit.then (Code.rounds P b Q n) Q) a w
      refine ih b ts h l1 e1 D N ρ a w hsq (fun p hp => by obtain ⟨_, _, _, _, q, hq, mq⟩ := k1 p hp; exact (hc q hq).of mq) hwf (fun p hp => by obtain ⟨_, _, _, _, q, hq, mq⟩ := k1 p hp; exact (hN q hq).left mq.next) hr ht _ (fun p hp a' w' qn => ?_)
      obtain ⟨m1, l2, e2, k2, _⟩ := k1 p hp
      obtain ⟨⟨w1, ts1⟩, h1⟩ := p
      cases w1 with
      | normal =>
        obtain ⟨ρ', s1, r1, t1, d1⟩ := qn
        exact ihl b ts1 h1 l2 e2 D _ ρ' a' w' (by rw [s1.agree.σ]; exact hsq) (fun q hq => hc q (k2 q hq).1) (m1.wf hwf) (fun q hq => (hN q (k2 q hq).1).right m1.next) r1 t1 Q (fun q hq a2 w2 q2 => hQ q (k2 q hq).1 a2 w2 (QN.trans s1 m1 (k2 q hq).2 d1 q2))
      | exit i =>
        have := LM.pure_some e2
        subst this
        exact hQ _ (k2 _ (List.mem_singleton.2 rfl)).1 a' w' qn
      | ret =>
        have := LM.pure_some e2
        subst this
        exact hQ _ (k2 _ (List.mem_singleton.2 rfl)).1 a' w' qn
    refine ⟨?_, hloop⟩
    intro c ts h l e D N ρ a w hsq hc hwf hN hr ht Q hQ
    have e0 := e
    unfold lCode at e
    cases c with
    | skip =>
      have := LM.pure_some e; subst this
      exact wp_skip (hQ _ (List.mem_singleton.2 rfl) a w (QN.self hr ht))
    | label lb =>
      have := LM.pure_some e; subst this
      exact wp_label (hQ _ (List.mem_singleton.2 rfl) a w (QN.self hr ht))
    | region id ops draw =>
      obtain ⟨l1, e1, k1⟩ := LM.split e
      have fin : ∀ p ∈ l1, ((Way.normal, p.1), p.2) ∈ l := fun p hp => by
        obtain ⟨m1, l2, e2, k2, _⟩ := k1 p hp
        have := LM.pure_some e2; subst this
        exact (k2 _ (List.mem_singleton.2 rfl)).1
      cases draw with
      | true =>
        obtain ⟨p, e2, rfl⟩ := LM.ofA_some e1
        obtain ⟨ts', h'⟩ := p
        have hin := fin (ts', h') (List.mem_singleton.2 rfl)
        exact aReg_sound (ts' := ts') hm (hf ops).one e2 hsq (hc _ hin) hwf (hN _ hin) hr ht (hQ _ hin)
      | false =>
        refine wp_region ?_
        rw [List.range_eq_range']
        have := lSeq_sound (hf ops) ops.toList 0 (fun k o hk => by simpa using hk) (by simp) ts h l1 e1 D N ρ a w hsq (fun p hp => hc _ (fin p hp)) hwf (fun p hp => hN _ (fin p hp)) hr ht Q (fun p hp => hQ _ (fin p hp))
        simpa using this
    | seq x y =>
      obtain ⟨l1, e1, k1⟩ := LM.split e
      refine wp_seq (ih x ts h l1 e1 D N ρ a w hsq (fun p hp => by obtain ⟨_, _, _, _, q, hq, mq⟩ := k1 p hp; exact (hc q hq).of mq) hwf (fun p hp => by obtain ⟨_, _, _, _, q, hq, mq⟩ := k1 p hp; exact (hN q hq).left mq.next) hr ht _ (fun p hp a' w' qn => ?_))
      obtain ⟨m1, l2, e2, k2, _⟩ := k1 p hp
      obtain ⟨⟨w1, ts1⟩, h1⟩ := p
      cases w1 with
      | normal =>
        obtain ⟨ρ', s1, r1, t1, d1⟩ := qn
        exact ih y ts1 h1 l2 e2 D _ ρ' a' w' (by rw [s1.agree.σ]; exact hsq) (fun q hq => hc q (k2 q hq).1) (m1.wf hwf) (fun q hq => (hN q (k2 q hq).1).right m1.next) r1 t1 Q (fun q hq a2 w2 q2 => hQ q (k2 q hq).1 a2 w2 (QN.trans s1 m1 (k2 q hq).2 d1 q2))
      | exit i =>
        have := LM.pure_some e2; subst this
        exact hQ _ (k2 _ (List.mem_singleton.2 rfl)).1 a' w' qn
      | ret =>
        have := LM.pure_some e2; subst this
        exact hQ _ (k2 _ (List.mem_singleton.2 rfl)).1 a' w' qn
    | cond c x y =>
      dsimp only at e
      split at e
      case isFalse => exact (LM.fail_some e).elim
      case isTrue hok =>
        cases hv : aEv ts c with
        | bool t =>
          rw [hv] at e
          have hcv : a.eval c = .bool t := by
            cases c with
            | tmp k =>
              have := (ht.val k).eq
              simp only [aEv] at hv
              rw [hv] at this
              show a.tmps.getD k undef = _
              rw [← this]; simp [ren]
            | const v => exact hv
            | global g => cases hok
            | func g => simp [aEv] at hv
          exact wp_cond hcv (ih _ ts h l e D N ρ a w hsq hc hwf hN hr ht Q hQ)
        | _ => rw [hv] at e; exact (LM.fail_some e).elim
    | block id b =>
      obtain ⟨l1, e1, k1⟩ := LM.split e
      refine wp_block (ih b ts h l1 e1 D N ρ a w hsq (fun p hp => by obtain ⟨_, _, _, _, q, hq, mq⟩ := k1 p hp; exact (hc q hq).of mq) hwf (fun p hp => by obtain ⟨_, _, _, _, q, hq, mq⟩ := k1 p hp; exact (hN q hq).left mq.next) hr ht _ (fun p hp a' w' qn => ?_))
      obtain ⟨m1, l2, e2, k2, _⟩ := k1 p hp
      obtain ⟨⟨w1, ts1⟩, h1⟩ := p
      cases w1 with
      | normal =>
        have := LM.pure_some e2; subst this
        exact hQ _ (k2 _ (List.mem_singleton.2 rfl)).1 a' w' qn
      | ret =>
        have := LM.pure_some e2; subst this
        exact hQ _ (k2 _ (List.mem_singleton.2 rfl)).1 a' w' qn
      | exit i =>
        dsimp only at e2
        split at e2
        · rename_i hid
          have := LM.pure_some e2; subst this
          simp only [Way.exitOf, Exit.inBlock, hid, if_true]
          exact hQ _ (k2 _ (List.mem_singleton.2 rfl)).1 a' w' qn
        · rename_i hid
          have := LM.pure_some e2; subst this
          simp only [Way.exitOf, Exit.inBlock, hid, if_false]
          exact hQ _ (k2 _ (List.mem_singleton.2 rfl)).1 a' w' qn
    | loop b => exact wp_loop_rounds (n + 1) (hloop b ts h l e0 D N ρ a w hsq hc hwf hN hr ht Q hQ)
    | scope b =>
      exact wp_scope_straight (ih b ts h l e D N ρ a w hsq hc hwf hN hr ht _ (fun p hp a' w' q => by
        obtain ⟨⟨wy, ts1⟩, h1⟩ := p
        cases wy <;> exact hQ _ hp a' w' q))
    | exit id =>
      have := LM.pure_some e; subst this
      exact wp_exit (hQ _ (List.mem_singleton.2 rfl) a w (QN.self hr ht))
    | ret =>
      have := LM.pure_some e; subst this
      exact wp_ret (hQ _ (List.mem_singleton.2 rfl) a w (QN.self hr ht))
    | rangeFunc _ _ _ _ => exact (LM.fail_some e).elim
    | goto _ => exact (LM.fail_some e).elim
    | refuse _ => exact (LM.fail_some e).elim
end
end Go.Proofs.Ytljhlnpbomehkaa
