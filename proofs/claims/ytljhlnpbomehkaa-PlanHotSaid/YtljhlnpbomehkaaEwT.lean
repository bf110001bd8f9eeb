/- An evaluator of Go code whose memory has names of its own: part by part: calls of which it was found beforehand what they come to. -/
import Derived.Test.YtljhlnpbomehkaaEwZl
namespace Go.Proofs.Ytljhlnpbomehkaa
set_option linter.unusedVariables false
set_option linter.unusedSimpArgs false

def LM.or {α : Type} (a b : LM α) : LM α where
  run h := match a.run h with
    | some l => some l
    | none => b.run h
  mono := by
    intro h l e
    split at e
    · rename_i l' hl; injection e with e; subst e; exact a.mono _ _ hl
    · exact b.mono _ _ e
  ne := by
    intro h l e
    split at e
    · rename_i l' hl; injection e with e; subst e; exact a.ne _ _ hl
    · exact b.ne _ _ e
theorem CallOKL.or {P : Program} {SQ : (Nat → Value) → Prop} {a b : FuncId → Array Value → LM Value} (ha : CallOKL P SQ a) (hb : CallOKL P SQ b) : CallOKL P SQ (fun f args => (a f args).or (b f args)) := by
  intro f args args' N ρ hsq hl h l he D w hcov hwf hN hr
  unfold LM.or at he
  dsimp only at he
  split at he
  · rename_i l' hl'; injection he with he; subst he
    exact ha f args args' N ρ hsq hl h _ hl' D w hcov hwf hN hr
  · exact hb f args args' N ρ hsq hl h l he D w hcov hwf hN hr
theorem CallOKL.mono {P : Program} {SQ SQ' : (Nat → Value) → Prop} (hs : ∀ s, SQ' s → SQ s) {a : FuncId → Array Value → LM Value} (ha : CallOKL P SQ a) : CallOKL P SQ' a :=
  fun f args args' N ρ hsq hl h l he D w hcov hwf hN hr => ha f args args' N ρ (hs _ hsq) hl h l he D w hcov hwf hN hr
abbrev FTab := FuncId → List Value → AH → Option (List (Value × AH))
/-- what a table says is so -/
def TabOK (P : Program) (SQ : (Nat → Value) → Prop) (tab : FTab) : Prop :=
  ∃ lt : FuncId → Array Value → LM Value, (∀ f args h, (lt f args.toArray).run h = tab f args h) ∧ CallOKL P SQ lt
def noTab : FTab := fun _ _ _ => none
theorem noTab_ok (P : Program) (SQ : (Nat → Value) → Prop) : TabOK P SQ noTab := ⟨fun _ _ => .fail, fun _ _ _ => rfl, fun f args args' N ρ _ _ h l he => (LM.fail_some he).elim⟩
def tabOr (a b : FTab) : FTab := fun f args h => match a f args h with
  | some l => some l
  | none => b f args h
theorem TabOK.or {P : Program} {SQ : (Nat → Value) → Prop} {a b : FTab} (ha : TabOK P SQ a) (hb : TabOK P SQ b) : TabOK P SQ (tabOr a b) := by
  obtain ⟨la, a1, a2⟩ := ha
  obtain ⟨lb, b1, b2⟩ := hb
  refine ⟨fun f args => (la f args).or (lb f args), fun f args h => ?_, a2.or b2⟩
  unfold LM.or tabOr
  dsimp only
  rw [a1, b1]
  cases a f args h <;> rfl
theorem TabOK.mono {P : Program} {SQ SQ' : (Nat → Value) → Prop} (hs : ∀ s, SQ' s → SQ s) {a : FTab} (ha : TabOK P SQ a) : TabOK P SQ' a := by
  obtain ⟨la, a1, a2⟩ := ha
  exact ⟨la, a1, a2.mono hs⟩

def lCallT (P : Program) (orc : OrcL) (fuel : Nat) (lt : FuncId → Array Value → LM Value) : Nat → FuncId → Array Value → LM Value
  | 0, _, _ => .fail
  | n + 1, f, args => (lt f args).or (lFn P orc fuel (lCallT P orc fuel lt n) f args)
theorem lCallT_sound {P : Program} (hm : P.follows .mixedOrders = true) (hn : NameOK P) {SQ : (Nat → Value) → Prop} {orc : OrcL} (ho : OrcLOK P SQ orc) (fuel : Nat) {lt : FuncId → Array Value → LM Value} (ht : CallOKL P SQ lt) : ∀ n, CallOKL P SQ (lCallT P orc fuel lt n)
  | 0 => fun f args args' N ρ _ _ h l he => (LM.fail_some he).elim
  | n + 1 => CallOKL.or ht (lFn_sound hm hn ho fuel (lCallT_sound hm hn ho fuel ht n))
def fCallT (P : Program) (orc : OrcL) (fuel : Nat) (T : FuncId → Option FF) (tab : FTab) : Nat → FuncId → List Value → AH → Option (List (Value × AH))
  | 0, _, _, _ => none
  | n + 1, f, args, h => match tab f args h with
    | some l => some l
    | none => fFnL P orc fuel T (fCallT P orc fuel T tab n) f args h
theorem fCallT_ok {P : Program} {orc : OrcL} {fuel : Nat} {T : FuncId → Option FF} (hT : TableOKL P T) {tab : FTab} {lt : FuncId → Array Value → LM Value} (h1 : ∀ f args h, (lt f args.toArray).run h = tab f args h) : ∀ n, CallFL (fCallT P orc fuel T tab n) (lCallT P orc fuel lt n)
  | 0 => fun f args h r e => by cases e
  | n + 1 => fun f args h r e => by
    unfold fCallT at e
    unfold lCallT LM.or
    dsimp only
    rw [h1]
    split at e
    · rename_i l hl; rw [hl]; exact e
    · rename_i hl; rw [hl]; exact fFnL_ok hT (fCallT_ok hT h1 n) f args h r e

/-- a call at a heap, and what it comes to -/
structure En where
  f : FuncId
  args : List Value
  h : AH
  l : List (Value × AH)
structure EnOK (P : Program) (SQ : (Nat → Value) → Prop) (e : En) : Prop where
  mono : ∀ p ∈ e.l, Mono e.h p.2
  ne : e.l ≠ []
  ok : ∀ (args' : Array Value) (N : Nat → Prop) (ρ : Ren), SQ ρ.σ → LR N ρ e.args args'.toList → ∀ (D : Nat → Prop) (w : World), (∀ p ∈ e.l, Cov D p.2) → WF e.h → (∀ p ∈ e.l, New N e.h.next p.2.next) → Rel D N ρ e.h.get w →
    Calls P e.f args' w fun r w' => ∃ p ∈ e.l, ∃ ρ' v', r = .returned v' ∧ Step D e.h ρ w p.2 ρ' w' ∧ Rel D (Grow N e.h.next p.2.next) ρ' p.2.get w' ∧ VR (Grow N e.h.next p.2.next) ρ' p.1 v'
def eqO1 : Option AObj → Option AObj → Bool
  | none, none => true
  | some a, some b => eqO a b
  | _, _ => false
theorem eqO1_eq {a b : Option AObj} (h : eqO1 a b = true) : a = b := by
  cases a <;> cases b <;> simp only [eqO1] at h <;> first | rfl | (cases h; done) | rw [eqO_eq h]
def eqTr : Tr → Tr → Bool
  | .lf, .lf => true
  | .nd o l r, .nd o' l' r' => eqO1 o o' && (eqTr l l' && eqTr r r')
  | _, _ => false
theorem eqTr_eq : ∀ {a b : Tr}, eqTr a b = true → a = b
  | .lf, .lf, _ => rfl
  | .nd o l r, .nd o' l' r', h => by
    simp only [eqTr, Bool.and_eq_true] at h
    rw [eqO1_eq h.1, eqTr_eq h.2.1, eqTr_eq h.2.2]
  | .lf, .nd .., h => by cases h
  | .nd .., .lf, h => by cases h
def eqH (a b : AH) : Bool := Nat.beq a.next b.next && (Nat.beq a.base b.base && (eqNs a.tch b.tch && (eqNs a.wrt b.wrt && eqTr a.m b.m)))
theorem eqH_eq {a b : AH} (h : eqH a b = true) : a = b := by
  simp only [eqH, Bool.and_eq_true] at h
  obtain ⟨m, n, s, t, u⟩ := a
  obtain ⟨m', n', s', t', u'⟩ := b
  dsimp only at h
  rw [Nat.eq_of_beq_eq_true h.1, Nat.eq_of_beq_eq_true h.2.1, eqNs_eq h.2.2.1, eqNs_eq h.2.2.2.1, eqTr_eq h.2.2.2.2]
def eqOuts : List (Value × AH) → List (Value × AH) → Bool
  | [], [] => true
  | p :: r, q :: s => eqV 20 p.1 q.1 && (eqH p.2 q.2 && eqOuts r s)
  | _, _ => false
theorem eqOuts_eq : ∀ {a b : List (Value × AH)}, eqOuts a b = true → a = b
  | [], [], _ => rfl
  | p :: r, q :: s, h => by
    simp only [eqOuts, Bool.and_eq_true] at h
    obtain ⟨v, x⟩ := p
    obtain ⟨u, y⟩ := q
    dsimp only at h
    rw [eqV_eq _ _ _ h.1, eqH_eq h.2.1, eqOuts_eq h.2.2]
  | [], _ :: _, h => by cases h
  | _ :: _, [], h => by cases h
/-- of which types the package's two tables are -/
def tys : Tr → Option (TypeId × TypeId)
  | .nd (some (.row _ s _ _)) (.nd (some (.row _ t _ _)) _ _) _ => some (s, t)
  | _ => none
def eqR : Option AObj → Option AObj → Bool
  | some (.row a _ p m), some (.row b _ q n) => eqL (eqV 20) a b && (Nat.beq p q && eqBool m n)
  | _, _ => false
/-- .. but for these types -/
def eqTx : Tr → Tr → Bool
  | .nd o (.nd p l r) u, .nd o' (.nd p' l' r') u' => eqR o o' && (eqR p p' && (eqTr l l' && (eqTr r r' && eqTr u u')))
  | _, _ => false
theorem eqR_row {o o' : Option AObj} (h : eqR o o' = true) : ∃ a s s' p m, o = some (.row a s p m) ∧ o' = some (.row a s' p m) := by
  unfold eqR at h
  split at h
  · simp only [Bool.and_eq_true] at h
    rename_i a s p m b t q n
    exact ⟨a, s, t, p, m, rfl, by rw [eqL_eq (eqV_eq 20) h.1, Nat.eq_of_beq_eq_true h.2.1, eqBool_eq h.2.2]⟩
  · cases h
theorem eqTx_eq {a b : Tr} (h : eqTx a b = true) (ht : tys a = tys b) : a = b := by
  unfold eqTx at h
  split at h
  · simp only [Bool.and_eq_true] at h
    obtain ⟨x, s, s', p, m, rfl, rfl⟩ := eqR_row h.1
    obtain ⟨y, t, t', q, n, rfl, rfl⟩ := eqR_row h.2.1
    simp only [tys, Option.some.injEq, Prod.mk.injEq] at ht
    rw [eqTr_eq h.2.2.1, eqTr_eq h.2.2.2.1, eqTr_eq h.2.2.2.2, ht.1, ht.2]
  · cases h
def eqHx (a b : AH) : Bool := Nat.beq a.next b.next && (Nat.beq a.base b.base && (eqNs a.tch b.tch && (eqNs a.wrt b.wrt && eqTx a.m b.m)))
theorem eqHx_eq {a b : AH} (h : eqHx a b = true) (ht : tys a.m = tys b.m) : a = b := by
  simp only [eqHx, Bool.and_eq_true] at h
  obtain ⟨m, n, s, t, u⟩ := a
  obtain ⟨m', n', s', t', u'⟩ := b
  dsimp only at h ht
  rw [Nat.eq_of_beq_eq_true h.1, Nat.eq_of_beq_eq_true h.2.1, eqNs_eq h.2.2.1, eqNs_eq h.2.2.2.1, eqTx_eq h.2.2.2.2 ht]
def eqOutsX : List (Value × AH) → List (Value × AH) → Bool
  | [], [] => true
  | p :: r, q :: s => eqV 20 p.1 q.1 && (eqHx p.2 q.2 && eqOutsX r s)
  | _, _ => false
def tyss : List (Value × AH) → List (Option (TypeId × TypeId))
  | [] => []
  | p :: r => tys p.2.m :: tyss r
theorem eqOutsX_eq : ∀ {a b : List (Value × AH)}, eqOutsX a b = true → tyss a = tyss b → a = b
  | [], [], _, _ => rfl
  | p :: r, q :: s, h, ht => by
    simp only [eqOutsX, Bool.and_eq_true] at h
    simp only [tyss, List.cons.injEq] at ht
    obtain ⟨v, x⟩ := p
    obtain ⟨u, y⟩ := q
    dsimp only at h ht
    rw [eqV_eq _ _ _ h.1, eqHx_eq h.2.1 ht.1, eqOutsX_eq h.2.2 ht.2]
  | [], _ :: _, h, _ => by cases h
  | _ :: _, [], h, _ => by cases h
/-- a call, whatever the tables' types are -/
abbrev EnF := TypeId → TypeId → En
structure EnFOK (P : Program) (SQ : (Nat → Value) → Prop) (e : EnF) : Prop where
  ok : ∀ s t, EnOK P SQ (e s t)
  ty : ∀ s t, tys (e s t).h.m = some (s, t)
def tabGo (s t : TypeId) : List EnF → FTab
  | [], _, _, _ => none
  | e :: r, f, args, h => match Nat.beq (e s t).f f && Nat.beq (e s t).h.next h.next with
    | true => (match eqL (eqV 20) (e s t).args args && eqHx (e s t).h h with
      | true => some (e s t).l
      | false => tabGo s t r f args h)
    | false => tabGo s t r f args h
def tabE (es : List EnF) : FTab := fun f args h => match tys h.m with
  | some (s, t) => tabGo s t es f args h
  | none => none
theorem tabGo_spec {P : Program} {SQ : (Nat → Value) → Prop} {s t : TypeId} : ∀ {es : List EnF}, (∀ e ∈ es, EnFOK P SQ e) → ∀ {f : FuncId} {args : List Value} {h : AH} {l : List (Value × AH)}, tys h.m = some (s, t) → tabGo s t es f args h = some l → ∃ e, EnOK P SQ e ∧ e.f = f ∧ e.args = args ∧ e.h = h ∧ e.l = l
  | [], _, f, args, h, l, _, e => by cases e
  | x :: r, hes, f, args, h, l, ht, e => by
    have hrec : tabGo s t r f args h = some l → ∃ e, EnOK P SQ e ∧ e.f = f ∧ e.args = args ∧ e.h = h ∧ e.l = l := fun k => tabGo_spec (fun e he => hes e (List.mem_cons_of_mem _ he)) ht k
    unfold tabGo at e
    split at e
    · rename_i h1
      split at e
      · rename_i h2
        injection e with e
        simp only [Bool.and_eq_true] at h1 h2
        have hx := hes x List.mem_cons_self
        exact ⟨x s t, hx.ok s t, Nat.eq_of_beq_eq_true h1.1, eqL_eq (eqV_eq 20) h2.1, eqHx_eq h2.2 ((hx.ty s t).trans ht.symm), e⟩
      · exact hrec e
    · exact hrec e
theorem tab_ok {P : Program} {SQ : (Nat → Value) → Prop} {tab : FTab} (hs : ∀ {f : FuncId} {args : List Value} {h : AH} {l : List (Value × AH)}, tab f args h = some l → ∃ e, EnOK P SQ e ∧ e.f = f ∧ e.args = args ∧ e.h = h ∧ e.l = l) : TabOK P SQ tab := by
  refine ⟨fun f args => { run := fun h => tab f args.toList h, mono := fun h l k => ?_, ne := fun h l k => ?_ }, fun f args h => by simp, ?_⟩
  · obtain ⟨e, he, _, _, rfl, rfl⟩ := hs k
    exact he.mono
  · obtain ⟨e, he, _, _, rfl, rfl⟩ := hs k
    exact he.ne
  · intro f args args' N ρ hsq hl h l he D w hcov hwf hN hr
    obtain ⟨e, hin, rfl, ha, rfl, rfl⟩ := hs he
    exact hin.ok args' N ρ hsq (by rw [ha]; exact hl) D w hcov hwf hN hr
theorem tabE_ok {P : Program} {SQ : (Nat → Value) → Prop} {es : List EnF} (hes : ∀ e ∈ es, EnFOK P SQ e) : TabOK P SQ (tabE es) := by
  refine tab_ok fun {f args h l} k => ?_
  unfold tabE at k
  split at k
  · rename_i s t ht; exact tabGo_spec hes ht k
  · cases k
/-- where no table lies -/
def tabE0 : List En → FTab
  | [], _, _, _ => none
  | e :: r, f, args, h => match Nat.beq e.f f && Nat.beq e.h.next h.next with
    | true => (match eqL (eqV 20) e.args args && eqH e.h h with
      | true => some e.l
      | false => tabE0 r f args h)
    | false => tabE0 r f args h
theorem tabE0_spec : ∀ {es : List En} {f : FuncId} {args : List Value} {h : AH} {l : List (Value × AH)}, tabE0 es f args h = some l → ∃ e ∈ es, e.f = f ∧ e.args = args ∧ e.h = h ∧ e.l = l
  | [], f, args, h, l, e => by cases e
  | x :: r, f, args, h, l, e => by
    have hrec : tabE0 r f args h = some l → ∃ e ∈ x :: r, e.f = f ∧ e.args = args ∧ e.h = h ∧ e.l = l := fun k => by
      obtain ⟨y, hy, k⟩ := tabE0_spec k
      exact ⟨y, List.mem_cons_of_mem _ hy, k⟩
    unfold tabE0 at e
    split at e
    · rename_i h1
      split at e
      · rename_i h2
        injection e with e
        simp only [Bool.and_eq_true] at h1 h2
        exact ⟨x, List.mem_cons_self, Nat.eq_of_beq_eq_true h1.1, eqL_eq (eqV_eq 20) h2.1, eqH_eq h2.2, e⟩
      · exact hrec e
    · exact hrec e
theorem tabE0_ok {P : Program} {SQ : (Nat → Value) → Prop} {es : List En} (hes : ∀ e ∈ es, EnOK P SQ e) : TabOK P SQ (tabE0 es) := by
  refine tab_ok fun {f args h l} k => ?_
  obtain ⟨e, he, k⟩ := tabE0_spec k
  exact ⟨e, hes e he, k⟩
theorem allNil {α : Type} {q : α → Prop} : ∀ e ∈ ([] : List α), q e := fun e h => by cases h
theorem allCons {α : Type} {q : α → Prop} {x : α} {r : List α} (h : q x) (k : ∀ e ∈ r, q e) : ∀ e ∈ x :: r, q e := fun e he => by
  rcases List.mem_cons.1 he with rfl | he
  · exact h
  · exact k e he
theorem EnOK.of_run {P : Program} (hm : P.follows .mixedOrders = true) (hn : NameOK P) {SQ : (Nat → Value) → Prop} {orc : OrcL} (ho : OrcLOK P SQ orc) {fuel : Nat} {T : FuncId → Option FF} (hT : TableOKL P T) {tab : FTab} (ht : TabOK P SQ tab) {n : Nat} {e : En}
    (hc : fCallT P orc fuel T tab n e.f e.args e.h = some e.l) : EnOK P SQ e := by
  obtain ⟨lt, h1, h2⟩ := ht
  have hl := fCallT_ok hT h1 n e.f e.args e.h _ hc
  exact ⟨(lCallT P orc fuel lt n e.f e.args.toArray).mono _ _ hl, (lCallT P orc fuel lt n e.f e.args.toArray).ne _ _ hl, fun args' N ρ hsq ha D w hcov hwf hN hr =>
    lCallT_sound hm hn ho fuel h2 n e.f e.args.toArray args' N ρ hsq (by simpa using ha) e.h e.l hl D w hcov hwf hN hr⟩
def isEn : Option (List (Value × AH)) → List (Value × AH) → Bool
  | some l, l' => eqOuts l l'
  | none, _ => false
theorem EnOK.of_fast {P : Program} (hm : P.follows .mixedOrders = true) (hn : NameOK P) {SQ : (Nat → Value) → Prop} {orc : OrcL} (ho : OrcLOK P SQ orc) {fuel : Nat} {T : FuncId → Option FF} (hT : TableOKL P T) {tab : FTab} (ht : TabOK P SQ tab) {n : Nat} {e : En}
    (h : isEn (fCallT P orc fuel T tab n e.f e.args e.h) e.l = true) : EnOK P SQ e := by
  unfold isEn at h
  split at h
  case h_2 => cases h
  case h_1 l l' hc =>
    have := eqOuts_eq h
    subst this
    exact EnOK.of_run hm hn ho hT ht hc
def isEnX : Option (List (Value × AH)) → List (Value × AH) → Option (List (Option (TypeId × TypeId)))
  | some l, l' => (match eqOutsX l l' with
    | true => some (tyss l)
    | false => none)
  | none, _ => none
theorem EnFOK.of_fast {P : Program} (hm : P.follows .mixedOrders = true) (hn : NameOK P) {SQ : (Nat → Value) → Prop} {orc : OrcL} (ho : OrcLOK P SQ orc) {fuel : Nat} {T : FuncId → Option FF} (hT : TableOKL P T) {tab : FTab} (ht : TabOK P SQ tab) {n : Nat} {e : EnF}
    (hty : ∀ s t, tys (e s t).h.m = some (s, t)) (h : ∀ s t, isEnX (fCallT P orc fuel T tab n (e s t).f (e s t).args (e s t).h) (e s t).l = some (tyss (e s t).l)) : EnFOK P SQ e := by
  refine ⟨fun s t => ?_, hty⟩
  have h := h s t
  unfold isEnX at h
  split at h
  case h_2 => cases h
  case h_1 l l' hc =>
    split at h
    · rename_i hx
      injection h with h
      have := eqOutsX_eq hx h
      subst this
      exact EnOK.of_run hm hn ho hT ht hc
    · cases h
/-- a heap, and what is set in it -/
def setAll : List (Nat × Option AObj) → Tr → Tr
  | [], t => t
  | p :: r, t => setAll r (t.set 64 p.1 p.2)

def allTrueW : List (Value × AH) → Bool
  | [] => true
  | (.bool true, h) :: r => h.wrt.isEmpty && allTrueW r
  | _ => false
theorem allTrueW_spec : ∀ {l : List (Value × AH)}, allTrueW l = true → ∀ p ∈ l, p.1 = .bool true ∧ p.2.wrt = []
  | [], _, p, hp => by cases hp
  | (v, h) :: r, e, p, hp => by
    unfold allTrueW at e
    split at e
    · rename_i h0; cases h0
    · rename_i x y h0
      injection h0 with h0 h1
      injection h0 with h0 h2
      subst h0; subst h2; subst h1
      rw [Bool.and_eq_true] at e
      rcases List.mem_cons.1 hp with rfl | hp
      · exact ⟨rfl, by simpa using e.1⟩
      · exact allTrueW_spec e.2 p hp
    · cases e
def isTrueL : Option (List (Value × AH)) → Bool
  | some l => allTrueW l
  | none => false
/-- a call that looks at the package's variables alone: if every end is true, it leaves true, and nothing of before is changed -/
theorem Calls.of_fastT {P : Program} (hm : P.follows .mixedOrders = true) (hn : NameOK P) {orc : OrcL} {σ : Nat → Value} (hσ : ∀ k, (σ k).oneCell' = true) (ho : OrcLOK P (· = σ) orc) {fuel n : Nat} {f : FuncId} {args args' : Array Value} {T : FuncId → Option FF} (hT : TableOKL P T) {tab : FTab} (ht : TabOK P (· = σ) tab)
    (ha : ∀ r : Ren, r.σ = σ → args.map (ren r) = args') {m0 : Tr} {n0 : Nat} (w : World) (hg : ∀ g, σ (gsym g) = .nilFunc → g < n0) (hw0 : ∀ g, n0 ≤ g → m0.get g = none)
    (hh : ∀ g o, m0.get g = some o → Holds (fun g => g < n0) ⟨fun g => g, fun _ => 0, σ⟩ g w o)
    (h : isTrueL (fCallT P orc fuel T tab n f args.toList ⟨m0, n0, n0, [], []⟩) = true) : Calls P f args' w fun e w' => e = .returned (.bool true) ∧ RowKit.Below w.heap.size w w' := by
  obtain ⟨lt, h1, h2⟩ := ht
  unfold isTrueL at h
  split at h
  case h_2 => cases h
  case h_1 l hc =>
    have he := fCallT_ok hT h1 n f args.toList _ _ hc
    rw [show args.toList.toArray = args from by simp] at he
    have hwr := allTrueW_spec h
    have hlt : ∀ g, (m0.get g).isSome → g < n0 := fun g hs => by
      rcases Nat.lt_or_ge g n0 with h | h
      · exact h
      · rw [hw0 g h] at hs; cases hs
    refine (lCallT_sound hm hn ho fuel h2 n f args args' (fun g => g < n0) ⟨fun g => g, fun _ => 0, σ⟩ rfl (fun r hr => by rw [← ha r hr.σ, Array.toList_map]) _ l he (fun _ => True) w (fun _ _ => ⟨fun _ _ => trivial, fun _ _ => trivial⟩) (fun g hge => hw0 g hge) (fun p _ g hs hk => by have := hs.1; dsimp only at this; omega)
      ⟨fun a b _ _ _ _ e => e, fun g o _ ho => hh g o ho, fun g _ hs => hlt g hs, hσ, fun g hgl => ⟨hg g hgl, rfl⟩⟩).mono ?_
    rintro e w' ⟨p, hp, ρ', v', rfl, hs, hr, hvv⟩
    obtain ⟨hp1, hwp⟩ := hwr p hp
    have hv' : v' = .bool true := by rw [← hvv.eq, hp1]; exact ren_shut _ rfl
    subst hv'
    refine ⟨rfl, hs.os, hs.tape, hs.output, hs.size, fun k hk => hs.frame k hk (fun m _ hm1 hsome hor => ?_)⟩
    rcases hor with h1 | h1
    · rw [hwp] at h1; cases h1
    · dsimp only at h1 hm1; omega

/-- a function of no argument that leaves true where the package's two tables lie -/
def KnG (P : Program) (f : FuncId) (a b : List Value) : Prop :=
  ∀ (w : World) (t0 t1 : TypeId), w.heap[0]? = some (.cells a.toArray t0 (0, 0)) → w.heap[1]? = some (.cells b.toArray t1 (0, 0)) → Calls P f #[] w fun e w' => e = .returned (.bool true) ∧ RowKit.Below w.heap.size w w'
def isRow (a : List Value) : AObj → Bool
  | .row l _ p m => eqL (eqV 20) a l && (Nat.beq p 0 && (match m with | true => false | false => true))
  | _ => false
theorem isRow_spec {a : List Value} {o : AObj} (h : isRow a o = true) : ∃ t, o = .row a t 0 false := by
  cases o with
  | row l t p m =>
    simp only [isRow, Bool.and_eq_true] at h
    obtain ⟨h1, h2, h3⟩ := h
    cases m with
    | true => cases h3
    | false => exact ⟨t, by rw [eqL_eq (eqV_eq 20) h1, Nat.eq_of_beq_eq_true h2]⟩
  | map => cases h
  | iter => cases h
def knM (a b : List Value) : AM Value := (AM.look 0).bind fun x => (AM.look 1).bind fun y => if isRow a x && isRow b y then .pure (.bool true) else .fail
def knTab (f0 : FuncId) (a b : List Value) : FTab := fun f args h => match Nat.beq f f0 with
  | true => (match args with
    | [] => (LM.ofA (knM a b)).run h
    | _ :: _ => none)
  | false => none
theorem row_lies {D N : Nat → Prop} {ρ : Ren} {h : Nat → Option AObj} {w : World} (hr : Rel D N ρ h w) {g : Nat} (hg : ρ.σ (gsym g) = .nilFunc) (hD : D g) {a : List Value} {t : TypeId} (ho : h g = some (.row a t 0 false)) (hs : a.all shut = true) : w.heap[g]? = some (.cells a.toArray t (0, 0)) := by
  obtain ⟨c, fr, h1, h2, h3, h4, h5⟩ := hr.holds g _ hD ho
  rw [(hr.glob g hg).2] at h1
  simp at h3 h5
  subst h3
  have h6 : c.toList.take a.length = c.toList := by rw [List.take_of_length_le]; simp [h5]
  rw [h6] at h2
  have : c = a.toArray := by
    apply Array.ext'
    rw [← h2.eq]
    have : a.map (ren ρ) = a.map id := List.map_congr_left (fun v hv => ren_shut _ (List.all_eq_true.1 hs v hv))
    rw [this, List.map_id]
  rw [h1, this]
theorem knTab_ok {P : Program} {SQ : (Nat → Value) → Prop} (h0 : ∀ s, SQ s → s (gsym 0) = .nilFunc) (h1 : ∀ s, SQ s → s (gsym 1) = .nilFunc) {f0 : FuncId} {a b : List Value} (ha : a.all shut = true) (hb : b.all shut = true) (hk : KnG P f0 a b) : TabOK P SQ (knTab f0 a b) := by
  refine ⟨fun f args => if f = f0 ∧ args.size = 0 then .ofA (knM a b) else .fail, fun f args h => ?_, ?_⟩
  · unfold knTab
    cases hb2 : Nat.beq f f0 with
    | true =>
      have := Nat.eq_of_beq_eq_true hb2
      subst this
      cases args with
      | nil => simp
      | cons x r => simp; rfl
    | false =>
      have : f ≠ f0 := fun e => by subst e; simp at hb2
      dsimp only; rw [if_neg (fun h => this h.1)]; rfl
  · intro f args args' N ρ hsq hl h l he D w hcov hwf hN hr
    dsimp only at he
    split at he
    case isFalse => exact (LM.fail_some he).elim
    case isTrue hc =>
      obtain ⟨rfl, hsz⟩ := hc
      obtain ⟨p, e1, rfl⟩ := LM.ofA_some he
      obtain ⟨v, h'⟩ := p
      have hcv := hcov _ (List.mem_singleton.2 rfl)
      unfold knM at e1
      obtain ⟨x, g1, e2, e3⟩ := AM.bind_some e1
      obtain ⟨y, g2, e4, e5⟩ := AM.bind_some e3
      split at e5
      case isFalse => cases e5
      case isTrue hx =>
        rw [Bool.and_eq_true] at hx
        obtain ⟨s, rfl⟩ := isRow_spec hx.1
        obtain ⟨t, rfl⟩ := isRow_spec hx.2
        obtain ⟨rfl, rfl⟩ := AM.pure_some e5
        have c2 : Cov D g1 := hcv.of ((AM.look 1).mono _ _ _ e4)
        obtain ⟨l0, rfl⟩ := AM.look_some e2
        obtain ⟨l1, rfl⟩ := AM.look_some e4
        have hw0 := row_lies hr (h0 _ hsq) c2.look l0 ha
        have hw1 := row_lies hr (h1 _ hsq) hcv.look (show h.get 1 = _ from l1) hb
        have hz : args' = #[] := by
          apply Array.ext'
          apply List.eq_nil_of_length_eq_zero
          rw [hl.length, Array.length_toList, hsz]
        subst hz
        refine (hk w s t hw0 hw1).mono ?_
        rintro e w' ⟨rfl, hb⟩
        refine ⟨_, List.mem_singleton.2 rfl, ρ, .bool true, rfl, ⟨Agree.refl _ _, fun n hn => absurd hn.1 (by have := hn.2; dsimp only at this; omega), hb.os, hb.tape, hb.output, hb.size, fun k hk _ => hb.block k hk⟩, ?_, VR.shut rfl⟩
        dsimp only
        rw [Grow.eq_self]
        exact ⟨hr.inj, fun n o hD ho => (hr.holds n o hD ho).mono (Agree.refl _ _) (fun _ h => h) (hr.known n hD (by rw [show h.get n = some o from ho]; rfl)) (hb.block _ (hr.holds n o hD ho).lt), hr.known, hr.sym, hr.glob⟩
/-- a function of no argument that leaves true wherever -/
def KnW (P : Program) (f : FuncId) : Prop := ∀ w : World, Calls P f #[] w fun e w' => e = .returned (.bool true) ∧ RowKit.Below w.heap.size w w'
def knTabW (f0 : FuncId) : FTab := fun f args h => match Nat.beq f f0 with
  | true => (match args with
    | [] => some [(.bool true, h)]
    | _ :: _ => none)
  | false => none
theorem knTabW_ok {P : Program} {SQ : (Nat → Value) → Prop} {f0 : FuncId} (hk : KnW P f0) : TabOK P SQ (knTabW f0) := by
  refine ⟨fun f args => if f = f0 ∧ args.size = 0 then .pure (.bool true) else .fail, fun f args h => ?_, ?_⟩
  · unfold knTabW
    cases hb2 : Nat.beq f f0 with
    | true =>
      have := Nat.eq_of_beq_eq_true hb2
      subst this
      cases args with
      | nil => simp; rfl
      | cons x r => simp; rfl
    | false =>
      have : f ≠ f0 := fun e => by subst e; simp at hb2
      dsimp only; rw [if_neg (fun h => this h.1)]; rfl
  · intro f args args' N ρ hsq hl h l he D w hcov hwf hN hr
    dsimp only at he
    split at he
    case isFalse => exact (LM.fail_some he).elim
    case isTrue hc =>
      obtain ⟨rfl, hsz⟩ := hc
      have := LM.pure_some he
      subst this
      have hz : args' = #[] := by
        apply Array.ext'
        apply List.eq_nil_of_length_eq_zero
        rw [hl.length, Array.length_toList, hsz]
      subst hz
      refine (hk w).mono ?_
      rintro e w' ⟨rfl, hb⟩
      refine ⟨_, List.mem_singleton.2 rfl, ρ, .bool true, rfl, ⟨Agree.refl _ _, fun n hn => absurd hn.1 (by have := hn.2; dsimp only at this; omega), hb.os, hb.tape, hb.output, hb.size, fun k hk _ => hb.block k hk⟩, ?_, VR.shut rfl⟩
      dsimp only
      rw [Grow.eq_self]
      exact ⟨hr.inj, fun n o hD ho => (hr.holds n o hD ho).mono (Agree.refl _ _) (fun _ h => h) (hr.known n hD (by rw [show h.get n = some o from ho]; rfl)) (hb.block _ (hr.holds n o hD ho).lt), hr.known, hr.sym, hr.glob⟩
/-! short words for values -/
def vT : Value := .bool true
def vF : Value := .bool false
def vN (n : Nat) : Value := .int .i64 (Int.ofNat n)
def vU (n : Nat) : Value := .int .u8 (Int.ofNat n)
def vB : List Nat → List Value
  | [] => []
  | n :: r => vU n :: vB r
def vP (b o : Nat) : Value := .pointer (some ⟨b, o, none⟩)
def vQ : Value := .pointer none
def vL (b o n c : Nat) : Value := .slice (some ⟨b, o, none⟩) n c
def vO (b o n c : Nat) : Value := .slice (some ⟨b, o, none⟩) n (capTop + c)
def vE (n c : Nat) : Value := .slice none n c
def vS (l : List UInt8) : Value := .string ⟨⟨l⟩⟩
def hasN : List Nat → Nat → Bool
  | [], _ => false
  | n :: r, f => match Nat.beq n f with
    | true => true
    | false => hasN r f
/-- the two tables are names -/
def SQG (s : Nat → Value) : Prop := s (gsym 0) = .nilFunc ∧ s (gsym 1) = .nilFunc
theorem globG (P : Program) : OrcOK P SQG (globOrc [0, 1]) := ⟨(fun _ _ _ h => nomatch h), (fun g hg s hs => by
  simp only [globOrc, List.mem_cons, List.not_mem_nil, or_false] at hg
  rcases hg with rfl | rfl
  · exact hs.1
  · exact hs.2), fun _ _ h => nomatch h⟩
def SQN (s : Nat → Value) : Prop := True
theorem noOrcN (P : Program) : OrcOK P SQN noOrc := ⟨(fun _ _ _ h => nomatch h), (fun g hg => nomatch hg), fun _ _ h => nomatch h⟩
theorem OrcLOK.mk' {P : Program} {SQ : (Nat → Value) → Prop} {o : Orc} (ho : OrcOK P SQ o) {hk : FuncId → Option (Array Value → LM Value)} {c : FuncId → Bool} (h : ∀ f m, hk f = some m → FunOKL P f m) : OrcLOK P SQ ⟨o, hk, c⟩ := ⟨ho, h⟩
theorem OrcOK.weak {P : Program} {SQ SQ' : (Nat → Value) → Prop} (hs : ∀ s, SQ' s → SQ s) {o : Orc} (h : OrcOK P SQ o) : OrcOK P SQ' o :=
  ⟨fun ev x v he => ⟨(h.1 ev x v he).1, fun r hr => (h.1 ev x v he).2 r (hs _ hr)⟩, fun g hg s hs' => h.2.1 g hg s (hs s hs'), h.2.2⟩
end Go.Proofs.Ytljhlnpbomehkaa
