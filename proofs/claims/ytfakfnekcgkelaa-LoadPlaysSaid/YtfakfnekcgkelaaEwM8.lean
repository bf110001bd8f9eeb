/- An evaluator of Go code whose memory has names of its own (8 of 9). -/
import Derived.Test.YtfakfnekcgkelaaEwM7
import Derived.WideShapes
import Derived.Sort.KeysCollected
import Derived.Maps.Own
import Derived.StringKeys
import Derived.Lib.SlKeysI
import Derived.RangeFuncLeaves
import Derived.RangeFuncRecord
import Derived.RangeFuncIn
import Derived.Shelf.Abstract
import Derived.WalkKit
import Derived.TacticsInMore
import Derived.RegionIn
import Derived.Below
/- An evaluator of Go code whose memory has names of its own: part by part: calls of which it was found beforehand what they come to. -/
namespace Go.Proofs.Ytfakfnekcgkelaa
set_option linter.unusedVariables false
set_option linter.unusedSimpArgs false

def LM.or {α : Type} (a b : LM α) : LM α where
  run h := match a.run h with
    | some l => some l
    | none => b.run h
  mono := by
    intro h l e
    split at e
    · rename_i l' hl; injection e with e; subst e; exact a.mono _ _ hl
    · exact b.mono _ _ e
  ne := by
    intro h l e
    split at e
    · rename_i l' hl; injection e with e; subst e; exact a.ne _ _ hl
    · exact b.ne _ _ e
theorem CallOKL.or {P : Program} {SQ : (Nat → Value) → Prop} {a b : FuncId → Array Value → LM Value} (ha : CallOKL P SQ a) (hb : CallOKL P SQ b) : CallOKL P SQ (fun f args => (a f args).or (b f args)) := by
  intro f args args' N ρ hsq hl h l he D w hcov hwf hN hr
  unfold LM.or at he
  dsimp only at he
  split at he
  · rename_i l' hl'; injection he with he; subst he
    exact ha f args args' N ρ hsq hl h _ hl' D w hcov hwf hN hr
  · exact hb f args args' N ρ hsq hl h l he D w hcov hwf hN hr
theorem CallOKL.mono {P : Program} {SQ SQ' : (Nat → Value) → Prop} (hs : ∀ s, SQ' s → SQ s) {a : FuncId → Array Value → LM Value} (ha : CallOKL P SQ a) : CallOKL P SQ' a :=
  fun f args args' N ρ hsq hl h l he D w hcov hwf hN hr => ha f args args' N ρ (hs _ hsq) hl h l he D w hcov hwf hN hr
abbrev FTab := FuncId → List Value → AH → Option (List (Value × AH))
/-- what a table says is so -/
def TabOK (P : Program) (SQ : (Nat → Value) → Prop) (tab : FTab) : Prop :=
  ∃ lt : FuncId → Array Value → LM Value, (∀ f args h, (lt f args.toArray).run h = tab f args h) ∧ CallOKL P SQ lt
def noTab : FTab := fun _ _ _ => none
theorem noTab_ok (P : Program) (SQ : (Nat → Value) → Prop) : TabOK P SQ noTab := ⟨fun _ _ => .fail, fun _ _ _ => rfl, fun f args args' N ρ _ _ h l he => (LM.fail_some he).elim⟩
def tabOr (a b : FTab) : FTab := fun f args h => match a f args h with
  | some l => some l
  | none => b f args h
theorem TabOK.or {P : Program} {SQ : (Nat → Value) → Prop} {a b : FTab} (ha : TabOK P SQ a) (hb : TabOK P SQ b) : TabOK P SQ (tabOr a b) := by
  obtain ⟨la, a1, a2⟩ := ha
  obtain ⟨lb, b1, b2⟩ := hb
  refine ⟨fun f args => (la f args).or (lb f args), fun f args h => ?_, a2.or b2⟩
  unfold LM.or tabOr
  dsimp only
  rw [a1, b1]
  cases a f args h <;> rfl
theorem TabOK.mono {P : Program} {SQ SQ' : (Nat → Value) → Prop} (hs : ∀ s, SQ' s → SQ s) {a : FTab} (ha : TabOK P SQ a) : TabOK P SQ' a := by
  obtain ⟨la, a1, a2⟩ := ha
  exact ⟨la, a1, a2.mono hs⟩

def lCallT (P : Program) (orc : OrcL) (fuel : Nat) (lt : FuncId → Array Value → LM Value) : Nat → FuncId → Array Value → LM Value
  | 0, _, _ => .fail
  | n + 1, f, args => (lt f args).or (lFn P orc fuel (lCallT P orc fuel lt n) f args)
theorem lCallT_sound {P : Program} (hm : P.follows .mixedOrders = true) (hn : NameOK P) {SQ : (Nat → Value) → Prop} {orc : OrcL} (ho : OrcLOK P SQ orc) (fuel : Nat) {lt : FuncId → Array Value → LM Value} (ht : CallOKL P SQ lt) : ∀ n, CallOKL P SQ (lCallT P orc fuel lt n)
  | 0 => fun f args args' N ρ _ _ h l he => (LM.fail_some he).elim
  | n + 1 => CallOKL.or ht (lFn_sound hm hn ho fuel (lCallT_sound hm hn ho fuel ht n))
def fCallT (P : Program) (orc : OrcL) (fuel : Nat) (T : FuncId → Option FF) (tab : FTab) : Nat → FuncId → List Value → AH → Option (List (Value × AH))
  | 0, _, _, _ => none
  | n + 1, f, args, h => match tab f args h with
    | some l => some l
    | none => fFnL P orc fuel T (fCallT P orc fuel T tab n) f args h
theorem fCallT_ok {P : Program} {orc : OrcL} {fuel : Nat} {T : FuncId → Option FF} (hT : TableOKL P T) {tab : FTab} {lt : FuncId → Array Value → LM Value} (h1 : ∀ f args h, (lt f args.toArray).run h = tab f args h) : ∀ n, CallFL (fCallT P orc fuel T tab n) (lCallT P orc fuel lt n)
  | 0 => fun f args h r e => by cases e
  | n + 1 => fun f args h r e => by
    unfold fCallT at e
    unfold lCallT LM.or
    dsimp only
    rw [h1]
    split at e
    · rename_i l hl; rw [hl]; exact e
    · rename_i hl; rw [hl]; exact fFnL_ok hT (fCallT_ok hT h1 n) f args h r e

/-- a call at a heap, and what it comes to -/
structure En where
  f : FuncId
  args : List Value
  h : AH
  l : List (Value × AH)
structure EnOK (P : Program) (SQ : (Nat → Value) → Prop) (e : En) : Prop where
  mono : ∀ p ∈ e.l, Mono e.h p.2
  ne : e.l ≠ []
  ok : ∀ (args' : Array Value) (N : Nat → Prop) (ρ : Ren), SQ ρ.σ → LR N ρ e.args args'.toList → ∀ (D : Nat → Prop) (w : World), (∀ p ∈ e.l, Cov D p.2) → WF e.h → (∀ p ∈ e.l, New N e.h.next p.2.next) → Rel D N ρ e.h.get w →
    Calls P e.f args' w fun r w' => ∃ p ∈ e.l, ∃ ρ' v', r = .returned v' ∧ Step D e.h ρ w p.2 ρ' w' ∧ Rel D (Grow N e.h.next p.2.next) ρ' p.2.get w' ∧ VR (Grow N e.h.next p.2.next) ρ' p.1 v'
def eqO1 : Option AObj → Option AObj → Bool
  | none, none => true
  | some a, some b => eqO a b
  | _, _ => false
theorem eqO1_eq {a b : Option AObj} (h : eqO1 a b = true) : a = b := by
  cases a <;> cases b <;> simp only [eqO1] at h <;> first | rfl | (cases h; done) | rw [eqO_eq h]
def eqTr : Tr → Tr → Bool
  | .lf, .lf => true
  | .nd o l r, .nd o' l' r' => eqO1 o o' && (eqTr l l' && eqTr r r')
  | _, _ => false
theorem eqTr_eq : ∀ {a b : Tr}, eqTr a b = true → a = b
  | .lf, .lf, _ => rfl
  | .nd o l r, .nd o' l' r', h => by
    simp only [eqTr, Bool.and_eq_true] at h
    rw [eqO1_eq h.1, eqTr_eq h.2.1, eqTr_eq h.2.2]
  | .lf, .nd .., h => by cases h
  | .nd .., .lf, h => by cases h
def eqH (a b : AH) : Bool := Nat.beq a.next b.next && (Nat.beq a.base b.base && (eqNs a.tch b.tch && (eqNs a.wrt b.wrt && eqTr a.m b.m)))
theorem eqH_eq {a b : AH} (h : eqH a b = true) : a = b := by
  simp only [eqH, Bool.and_eq_true] at h
  obtain ⟨m, n, s, t, u⟩ := a
  obtain ⟨m', n', s', t', u'⟩ := b
  dsimp only at h
  rw [Nat.eq_of_beq_eq_true h.1, Nat.eq_of_beq_eq_true h.2.1, eqNs_eq h.2.2.1, eqNs_eq h.2.2.2.1, eqTr_eq h.2.2.2.2]
def eqOuts : List (Value × AH) → List (Value × AH) → Bool
  | [], [] => true
  | p :: r, q :: s => eqV 20 p.1 q.1 && (eqH p.2 q.2 && eqOuts r s)
  | _, _ => false
theorem eqOuts_eq : ∀ {a b : List (Value × AH)}, eqOuts a b = true → a = b
  | [], [], _ => rfl
  | p :: r, q :: s, h => by
    simp only [eqOuts, Bool.and_eq_true] at h
    obtain ⟨v, x⟩ := p
    obtain ⟨u, y⟩ := q
    dsimp only at h
    rw [eqV_eq _ _ _ h.1, eqH_eq h.2.1, eqOuts_eq h.2.2]
  | [], _ :: _, h => by cases h
  | _ :: _, [], h => by cases h
/-- of which types the package's two tables are -/
def tys : Tr → Option (TypeId × TypeId)
  | .nd (some (.row _ s _ _)) (.nd (some (.row _ t _ _)) _ _) _ => some (s, t)
  | _ => none
def eqR : Option AObj → Option AObj → Bool
  | some (.row a _ p m), some (.row b _ q n) => eqL (eqV 20) a b && (Nat.beq p q && eqBool m n)
  | _, _ => false
/-- .. but for these types -/
def eqTx : Tr → Tr → Bool
  | .nd o (.nd p l r) u, .nd o' (.nd p' l' r') u' => eqR o o' && (eqR p p' && (eqTr l l' && (eqTr r r' && eqTr u u')))
  | _, _ => false
theorem eqR_row {o o' : Option AObj} (h : eqR o o' = true) : ∃ a s s' p m, o = some (.row a s p m) ∧ o' = some (.row a s' p m) := by
  unfold eqR at h
  split at h
  · simp only [Bool.and_eq_true] at h
    rename_i a s p m b t q n
    exact ⟨a, s, t, p, m, rfl, by rw [eqL_eq (eqV_eq 20) h.1, Nat.eq_of_beq_eq_true h.2.1, eqBool_eq h.2.2]⟩
  · cases h
theorem eqTx_eq {a b : Tr} (h : eqTx a b = true) (ht : tys a = tys b) : a = b := by
  unfold eqTx at h
  split at h
  · simp only [Bool.and_eq_true] at h
    obtain ⟨x, s, s', p, m, rfl, rfl⟩ := eqR_row h.1
    obtain ⟨y, t, t', q, n, rfl, rfl⟩ := eqR_row h.2.1
    simp only [tys, Option.some.injEq, Prod.mk.injEq] at ht
    rw [eqTr_eq h.2.2.1, eqTr_eq h.2.2.2.1, eqTr_eq h.2.2.2.2, ht.1, ht.2]
  · cases h
def eqHx (a b : AH) : Bool := Nat.beq a.next b.next && (Nat.beq a.base b.base && (eqNs a.tch b.tch && (eqNs a.wrt b.wrt && eqTx a.m b.m)))
theorem eqHx_eq {a b : AH} (h : eqHx a b = true) (ht : tys a.m = tys b.m) : a = b := by
  simp only [eqHx, Bool.and_eq_true] at h
  obtain ⟨m, n, s, t, u⟩ := a
  obtain ⟨m', n', s', t', u'⟩ := b
  dsimp only at h ht
  rw [Nat.eq_of_beq_eq_true h.1, Nat.eq_of_beq_eq_true h.2.1, eqNs_eq h.2.2.1, eqNs_eq h.2.2.2.1, eqTx_eq h.2.2.2.2 ht]
def eqOutsX : List (Value × AH) → List (Value × AH) → Bool
  | [], [] => true
  | p :: r, q :: s => eqV 20 p.1 q.1 && (eqHx p.2 q.2 && eqOutsX r s)
  | _, _ => false
def tyss : List (Value × AH) → List (Option (TypeId × TypeId))
  | [] => []
  | p :: r => tys p.2.m :: tyss r
theorem eqOutsX_eq : ∀ {a b : List (Value × AH)}, eqOutsX a b = true → tyss a = tyss b → a = b
  | [], [], _, _ => rfl
  | p :: r, q :: s, h, ht => by
    simp only [eqOutsX, Bool.and_eq_true] at h
    simp only [tyss, List.cons.injEq] at ht
    obtain ⟨v, x⟩ := p
    obtain ⟨u, y⟩ := q
    dsimp only at h ht
    rw [eqV_eq _ _ _ h.1, eqHx_eq h.2.1 ht.1, eqOutsX_eq h.2.2 ht.2]
  | [], _ :: _, h, _ => by cases h
  | _ :: _, [], h, _ => by cases h
/-- a call, whatever the tables' types are -/
abbrev EnF := TypeId → TypeId → En
structure EnFOK (P : Program) (SQ : (Nat → Value) → Prop) (e : EnF) : Prop where
  ok : ∀ s t, EnOK P SQ (e s t)
  ty : ∀ s t, tys (e s t).h.m = some (s, t)
def tabGo (s t : TypeId) : List EnF → FTab
  | [], _, _, _ => none
  | e :: r, f, args, h => match Nat.beq (e s t).f f && Nat.beq (e s t).h.next h.next with
    | true => (match eqL (eqV 20) (e s t).args args && eqHx (e s t).h h with
      | true => some (e s t).l
      | false => tabGo s t r f args h)
    | false => tabGo s t r f args h
def tabE (es : List EnF) : FTab := fun f args h => match tys h.m with
  | some (s, t) => tabGo s t es f args h
  | none => none
theorem tabGo_spec {P : Program} {SQ : (Nat → Value) → Prop} {s t : TypeId} : ∀ {es : List EnF}, (∀ e ∈ es, EnFOK P SQ e) → ∀ {f : FuncId} {args : List Value} {h : AH} {l : List (Value × AH)}, tys h.m = some (s, t) → tabGo s t es f args h = some l → ∃ e, EnOK P SQ e ∧ e.f = f ∧ e.args = args ∧ e.h = h ∧ e.l = l
  | [], _, f, args, h, l, _, e => by cases e
  | x :: r, hes, f, args, h, l, ht, e => by
    have hrec : tabGo s t r f args h = some l → ∃ e, EnOK P SQ e ∧ e.f = f ∧ e.args = args ∧ e.h = h ∧ e.l = l := fun k => tabGo_spec (fun e he => hes e (List.mem_cons_of_mem _ he)) ht k
    unfold tabGo at e
    split at e
    · rename_i h1
      split at e
      · rename_i h2
        injection e with e
        simp only [Bool.and_eq_true] at h1 h2
        have hx := hes x List.mem_cons_self
        exact ⟨x s t, hx.ok s t, Nat.eq_of_beq_eq_true h1.1, eqL_eq (eqV_eq 20) h2.1, eqHx_eq h2.2 ((hx.ty s t).trans ht.symm), e⟩
      · exact hrec e
    · exact hrec e
theorem tab_ok {P : Program} {SQ : (Nat → Value) → Prop} {tab : FTab} (hs : ∀ {f : FuncId} {args : List Value} {h : AH} {l : List (Value × AH)}, tab f args h = some l → ∃ e, EnOK P SQ e ∧ e.f = f ∧ e.args = args ∧ e.h = h ∧ e.l = l) : TabOK P SQ tab := by
  refine ⟨fun f args => { run := fun h => tab f args.toList h, mono := fun h l k => ?_, ne := fun h l k => ?_ }, fun f args h => by simp, ?_⟩
  · obtain ⟨e, he, _, _, rfl, rfl⟩ := hs k
    exact he.mono
  · obtain ⟨e, he, _, _, rfl, rfl⟩ := hs k
    exact he.ne
  · intro f args args' N ρ hsq hl h l he D w hcov hwf hN hr
    obtain ⟨e, hin, rfl, ha, rfl, rfl⟩ := hs he
    exact hin.ok args' N ρ hsq (by rw [ha]; exact hl) D w hcov hwf hN hr
theorem tabE_ok {P : Program} {SQ : (Nat → Value) → Prop} {es : List EnF} (hes : ∀ e ∈ es, EnFOK P SQ e) : TabOK P SQ (tabE es) := by
  refine tab_ok fun {f args h l} k => ?_
  unfold tabE at k
  split at k
  · rename_i s t ht; exact tabGo_spec hes ht k
  · cases k
/-- where no table lies -/
def tabE0 : List En → FTab
  | [], _, _, _ => none
  | e :: r, f, args, h => match Nat.beq e.f f && Nat.beq e.h.next h.next with
    | true => (match eqL (eqV 20) e.args args && eqH e.h h with
      | true => some e.l
      | false => tabE0 r f args h)
    | false => tabE0 r f args h
theorem tabE0_spec : ∀ {es : List En} {f : FuncId} {args : List Value} {h : AH} {l : List (Value × AH)}, tabE0 es f args h = some l → ∃ e ∈ es, e.f = f ∧ e.args = args ∧ e.h = h ∧ e.l = l
  | [], f, args, h, l, e => by cases e
  | x :: r, f, args, h, l, e => by
    have hrec : tabE0 r f args h = some l → ∃ e ∈ x :: r, e.f = f ∧ e.args = args ∧ e.h = h ∧ e.l = l := fun k => by
      obtain ⟨y, hy, k⟩ := tabE0_spec k
      exact ⟨y, List.mem_cons_of_mem _ hy, k⟩
    unfold tabE0 at e
    split at e
    · rename_i h1
      split at e
      · rename_i h2
        injection e with e
        simp only [Bool.and_eq_true] at h1 h2
        exact ⟨x, List.mem_cons_self, Nat.eq_of_beq_eq_true h1.1, eqL_eq (eqV_eq 20) h2.1, eqH_eq h2.2, e⟩
      · exact hrec e
    · exact hrec e
theorem tabE0_ok {P : Program} {SQ : (Nat → Value) → Prop} {es : List En} (hes : ∀ e ∈ es, EnOK P SQ e) : TabOK P SQ (tabE0 es) := by
  refine tab_ok fun {f args h l} k => ?_
  obtain ⟨e, he, k⟩ := tabE0_spec k
  exact ⟨e, hes e he, k⟩
theorem allNil {α : Type} {q : α → Prop} : ∀ e ∈ ([] : List α), q e := fun e h => by cases h
theorem allCons {α : Type} {q : α → Prop} {x : α} {r : List α} (h : q x) (k : ∀ e ∈ r, q e) : ∀ e ∈ x :: r, q e := fun e he => by
  rcases List.mem_cons.1 he with rfl | he
  · exact h
  · exact k e he
theorem EnOK.of_run {P : Program} (hm : P.follows .mixedOrders = true) (hn : NameOK P) {SQ : (Nat → Value) → Prop} {orc : OrcL} (ho : OrcLOK P SQ orc) {fuel : Nat} {T : FuncId → Option FF} (hT : TableOKL P T) {tab : FTab} (ht : TabOK P SQ tab) {n : Nat} {e : En}
    (hc : fCallT P orc fuel T tab n e.f e.args e.h = some e.l) : EnOK P SQ e := by
  obtain ⟨lt, h1, h2⟩ := ht
  have hl := fCallT_ok hT h1 n e.f e.args e.h _ hc
  exact ⟨(lCallT P orc fuel lt n e.f e.args.toArray).mono _ _ hl, (lCallT P orc fuel lt n e.f e.args.toArray).ne _ _ hl, fun args' N ρ hsq ha D w hcov hwf hN hr =>
    lCallT_sound hm hn ho fuel h2 n e.f e.args.toArray args' N ρ hsq (by simpa using ha) e.h e.l hl D w hcov hwf hN hr⟩
def isEn : Option (List (Value × AH)) → List (Value × AH) → Bool
  | some l, l' => eqOuts l l'
  | none, _ => false
theorem EnOK.of_fast {P : Program} (hm : P.follows .mixedOrders = true) (hn : NameOK P) {SQ : (Nat → Value) → Prop} {orc : OrcL} (ho : OrcLOK P SQ orc) {fuel : Nat} {T : FuncId → Option FF} (hT : TableOKL P T) {tab : FTab} (ht : TabOK P SQ tab) {n : Nat} {e : En}
    (h : isEn (fCallT P orc fuel T tab n e.f e.args e.h) e.l = true) : EnOK P SQ e := by
  unfold isEn at h
  split at h
  case h_2 => cases h
  case h_1 l l' hc =>
    have := eqOuts_eq h
    subst this
    exact EnOK.of_run hm hn ho hT ht hc
def isEnX : Option (List (Value × AH)) → List (Value × AH) → Option (List (Option (TypeId × TypeId)))
  | some l, l' => (match eqOutsX l l' with
    | true => some (tyss l)
    | false => none)
  | none, _ => none
theorem EnFOK.of_fast {P : Program} (hm : P.follows .mixedOrders = true) (hn : NameOK P) {SQ : (Nat → Value) → Prop} {orc : OrcL} (ho : OrcLOK P SQ orc) {fuel : Nat} {T : FuncId → Option FF} (hT : TableOKL P T) {tab : FTab} (ht : TabOK P SQ tab) {n : Nat} {e : EnF}
    (hty : ∀ s t, tys (e s t).h.m = some (s, t)) (h : ∀ s t, isEnX (fCallT P orc fuel T tab n (e s t).f (e s t).args (e s t).h) (e s t).l = some (tyss (e s t).l)) : EnFOK P SQ e := by
  refine ⟨fun s t => ?_, hty⟩
  have h := h s t
  unfold isEnX at h
  split at h
  case h_2 => cases h
  case h_1 l l' hc =>
    split at h
    · rename_i hx
      injection h with h
      have := eqOutsX_eq hx h
      subst this
      exact EnOK.of_run hm hn ho hT ht hc
    · cases h
/-- a heap, and what is set in it -/
def setAll : List (Nat × Option AObj) → Tr → Tr
  | [], t => t
  | p :: r, t => setAll r (t.set 64 p.1 p.2)

def allTrueW : List (Value × AH) → Bool
  | [] => true
  | (.bool true, h) :: r => h.wrt.isEmpty && allTrueW r
  | _ => false
theorem allTrueW_spec : ∀ {l : List (Value × AH)}, allTrueW l = true → ∀ p ∈ l, p.1 = .bool true ∧ p.2.wrt = []
  | [], _, p, hp => by cases hp
  | (v, h) :: r, e, p, hp => by
    unfold allTrueW at e
    split at e
    · rename_i h0; cases h0
    · rename_i x y h0
      injection h0 with h0 h1
      injection h0 with h0 h2
      subst h0; subst h2; subst h1
      rw [Bool.and_eq_true] at e
      rcases List.mem_cons.1 hp with rfl | hp
      · exact ⟨rfl, by simpa using e.1⟩
      · exact allTrueW_spec e.2 p hp
    · cases e
def isTrueL : Option (List (Value × AH)) → Bool
  | some l => allTrueW l
  | none => false
/-- a call that looks at the package's variables alone: if every end is true, it leaves true, and nothing of before is changed -/
theorem Calls.of_fastT {P : Program} (hm : P.follows .mixedOrders = true) (hn : NameOK P) {orc : OrcL} {σ : Nat → Value} (hσ : ∀ k, (σ k).oneCell' = true) (ho : OrcLOK P (· = σ) orc) {fuel n : Nat} {f : FuncId} {args args' : Array Value} {T : FuncId → Option FF} (hT : TableOKL P T) {tab : FTab} (ht : TabOK P (· = σ) tab)
    (ha : ∀ r : Ren, r.σ = σ → args.map (ren r) = args') {m0 : Tr} {n0 : Nat} (w : World) (hg : ∀ g, σ (gsym g) = .nilFunc → g < n0) (hw0 : ∀ g, n0 ≤ g → m0.get g = none)
    (hh : ∀ g o, m0.get g = some o → Holds (fun g => g < n0) ⟨fun g => g, fun _ => 0, σ⟩ g w o)
    (h : isTrueL (fCallT P orc fuel T tab n f args.toList ⟨m0, n0, n0, [], []⟩) = true) : Calls P f args' w fun e w' => e = .returned (.bool true) ∧ RowKit.Below w.heap.size w w' := by
  obtain ⟨lt, h1, h2⟩ := ht
  unfold isTrueL at h
  split at h
  case h_2 => cases h
  case h_1 l hc =>
    have he := fCallT_ok hT h1 n f args.toList _ _ hc
    rw [show args.toList.toArray = args from by simp] at he
    have hwr := allTrueW_spec h
    have hlt : ∀ g, (m0.get g).isSome → g < n0 := fun g hs => by
      rcases Nat.lt_or_ge g n0 with h | h
      · exact h
      · rw [hw0 g h] at hs; cases hs
    refine (lCallT_sound hm hn ho fuel h2 n f args args' (fun g => g < n0) ⟨fun g => g, fun _ => 0, σ⟩ rfl (fun r hr => by rw [← ha r hr.σ, Array.toList_map]) _ l he (fun _ => True) w (fun _ _ => ⟨fun _ _ => trivial, fun _ _ => trivial⟩) (fun g hge => hw0 g hge) (fun p _ g hs hk => by have := hs.1; dsimp only at this; omega)
      ⟨fun a b _ _ _ _ e => e, fun g o _ ho => hh g o ho, fun g _ hs => hlt g hs, hσ, fun g hgl => ⟨hg g hgl, rfl⟩⟩).mono ?_
    rintro e w' ⟨p, hp, ρ', v', rfl, hs, hr, hvv⟩
    obtain ⟨hp1, hwp⟩ := hwr p hp
    have hv' : v' = .bool true := by rw [← hvv.eq, hp1]; exact ren_shut _ rfl
    subst hv'
    refine ⟨rfl, hs.os, hs.tape, hs.output, hs.size, fun k hk => hs.frame k hk (fun m _ hm1 hsome hor => ?_)⟩
    rcases hor with h1 | h1
    · rw [hwp] at h1; cases h1
    · dsimp only at h1 hm1; omega

/-- a function of no argument that leaves true where the package's two tables lie -/
def KnG (P : Program) (f : FuncId) (a b : List Value) : Prop :=
  ∀ (w : World) (t0 t1 : TypeId), w.heap[0]? = some (.cells a.toArray t0 (0, 0)) → w.heap[1]? = some (.cells b.toArray t1 (0, 0)) → Calls P f #[] w fun e w' => e = .returned (.bool true) ∧ RowKit.Below w.heap.size w w'
def isRow (a : List Value) : AObj → Bool
  | .row l _ p m => eqL (eqV 20) a l && (Nat.beq p 0 && (match m with | true => false | false => true))
  | _ => false
theorem isRow_spec {a : List Value} {o : AObj} (h : isRow a o = true) : ∃ t, o = .row a t 0 false := by
  cases o with
  | row l t p m =>
    simp only [isRow, Bool.and_eq_true] at h
    obtain ⟨h1, h2, h3⟩ := h
    cases m with
    | true => cases h3
    | false => exact ⟨t, by rw [eqL_eq (eqV_eq 20) h1, Nat.eq_of_beq_eq_true h2]⟩
  | map => cases h
  | iter => cases h
def knM (a b : List Value) : AM Value := (AM.look 0).bind fun x => (AM.look 1).bind fun y => if isRow a x && isRow b y then .pure (.bool true) else .fail
def knTab (f0 : FuncId) (a b : List Value) : FTab := fun f args h => match Nat.beq f f0 with
  | true => (match args with
    | [] => (LM.ofA (knM a b)).run h
    | _ :: _ => none)
  | false => none
theorem row_lies {D N : Nat → Prop} {ρ : Ren} {h : Nat → Option AObj} {w : World} (hr : Rel D N ρ h w) {g : Nat} (hg : ρ.σ (gsym g) = .nilFunc) (hD : D g) {a : List Value} {t : TypeId} (ho : h g = some (.row a t 0 false)) (hs : a.all shut = true) : w.heap[g]? = some (.cells a.toArray t (0, 0)) := by
  obtain ⟨c, fr, h1, h2, h3, h4, h5⟩ := hr.holds g _ hD ho
  rw [(hr.glob g hg).2] at h1
  simp at h3 h5
  subst h3
  have h6 : c.toList.take a.length = c.toList := by rw [List.take_of_length_le]; simp [h5]
  rw [h6] at h2
  have : c = a.toArray := by
    apply Array.ext'
    rw [← h2.eq]
    have : a.map (ren ρ) = a.map id := List.map_congr_left (fun v hv => ren_shut _ (List.all_eq_true.1 hs v hv))
    rw [this, List.map_id]
  rw [h1, this]
theorem knTab_ok {P : Program} {SQ : (Nat → Value) → Prop} (h0 : ∀ s, SQ s → s (gsym 0) = .nilFunc) (h1 : ∀ s, SQ s → s (gsym 1) = .nilFunc) {f0 : FuncId} {a b : List Value} (ha : a.all shut = true) (hb : b.all shut = true) (hk : KnG P f0 a b) : TabOK P SQ (knTab f0 a b) := by
  refine ⟨fun f args => if f = f0 ∧ args.size = 0 then .ofA (knM a b) else .fail, fun f args h => ?_, ?_⟩
  · unfold knTab
    cases hb2 : Nat.beq f f0 with
    | true =>
      have := Nat.eq_of_beq_eq_true hb2
      subst this
      cases args with
      | nil => simp
      | cons x r => simp; rfl
    | false =>
      have : f ≠ f0 := fun e => by subst e; simp at hb2
      dsimp only; rw [if_neg (fun h => this h.1)]; rfl
  · intro f args args' N ρ hsq hl h l he D w hcov hwf hN hr
    dsimp only at he
    split at he
    case isFalse => exact (LM.fail_some he).elim
    case isTrue hc =>
      obtain ⟨rfl, hsz⟩ := hc
      obtain ⟨p, e1, rfl⟩ := LM.ofA_some he
      obtain ⟨v, h'⟩ := p
      have hcv := hcov _ (List.mem_singleton.2 rfl)
      unfold knM at e1
      obtain ⟨x, g1, e2, e3⟩ := AM.bind_some e1
      obtain ⟨y, g2, e4, e5⟩ := AM.bind_some e3
      split at e5
      case isFalse => cases e5
      case isTrue hx =>
        rw [Bool.and_eq_true] at hx
        obtain ⟨s, rfl⟩ := isRow_spec hx.1
        obtain ⟨t, rfl⟩ := isRow_spec hx.2
        obtain ⟨rfl, rfl⟩ := AM.pure_some e5
        have c2 : Cov D g1 := hcv.of ((AM.look 1).mono _ _ _ e4)
        obtain ⟨l0, rfl⟩ := AM.look_some e2
        obtain ⟨l1, rfl⟩ := AM.look_some e4
        have hw0 := row_lies hr (h0 _ hsq) c2.look l0 ha
        have hw1 := row_lies hr (h1 _ hsq) hcv.look (show h.get 1 = _ from l1) hb
        have hz : args' = #[] := by
          apply Array.ext'
          apply List.eq_nil_of_length_eq_zero
          rw [hl.length, Array.length_toList, hsz]
        subst hz
        refine (hk w s t hw0 hw1).mono ?_
        rintro e w' ⟨rfl, hb⟩
        refine ⟨_, List.mem_singleton.2 rfl, ρ, .bool true, rfl, ⟨Agree.refl _ _, fun n hn => absurd hn.1 (by have := hn.2; dsimp only at this; omega), hb.os, hb.tape, hb.output, hb.size, fun k hk _ => hb.block k hk⟩, ?_, VR.shut rfl⟩
        dsimp only
        rw [Grow.eq_self]
        exact ⟨hr.inj, fun n o hD ho => (hr.holds n o hD ho).mono (Agree.refl _ _) (fun _ h => h) (hr.known n hD (by rw [show h.get n = some o from ho]; rfl)) (hb.block _ (hr.holds n o hD ho).lt), hr.known, hr.sym, hr.glob⟩
/-- a function of no argument that leaves true wherever -/
def KnW (P : Program) (f : FuncId) : Prop := ∀ w : World, Calls P f #[] w fun e w' => e = .returned (.bool true) ∧ RowKit.Below w.heap.size w w'
def knTabW (f0 : FuncId) : FTab := fun f args h => match Nat.beq f f0 with
  | true => (match args with
    | [] => some [(.bool true, h)]
    | _ :: _ => none)
  | false => none
theorem knTabW_ok {P : Program} {SQ : (Nat → Value) → Prop} {f0 : FuncId} (hk : KnW P f0) : TabOK P SQ (knTabW f0) := by
  refine ⟨fun f args => if f = f0 ∧ args.size = 0 then .pure (.bool true) else .fail, fun f args h => ?_, ?_⟩
  · unfold knTabW
    cases hb2 : Nat.beq f f0 with
    | true =>
      have := Nat.eq_of_beq_eq_true hb2
      subst this
      cases args with
      | nil => simp; rfl
      | cons x r => simp; rfl
    | false =>
      have : f ≠ f0 := fun e => by subst e; simp at hb2
      dsimp only; rw [if_neg (fun h => this h.1)]; rfl
  · intro f args args' N ρ hsq hl h l he D w hcov hwf hN hr
    dsimp only at he
    split at he
    case isFalse => exact (LM.fail_some he).elim
    case isTrue hc =>
      obtain ⟨rfl, hsz⟩ := hc
      have := LM.pure_some he
      subst this
      have hz : args' = #[] := by
        apply Array.ext'
        apply List.eq_nil_of_length_eq_zero
        rw [hl.length, Array.length_toList, hsz]
      subst hz
      refine (hk w).mono ?_
      rintro e w' ⟨rfl, hb⟩
      refine ⟨_, List.mem_singleton.2 rfl, ρ, .bool true, rfl, ⟨Agree.refl _ _, fun n hn => absurd hn.1 (by have := hn.2; dsimp only at this; omega), hb.os, hb.tape, hb.output, hb.size, fun k hk _ => hb.block k hk⟩, ?_, VR.shut rfl⟩
      dsimp only
      rw [Grow.eq_self]
      exact ⟨hr.inj, fun n o hD ho => (hr.holds n o hD ho).mono (Agree.refl _ _) (fun _ h => h) (hr.known n hD (by rw [show h.get n = some o from ho]; rfl)) (hb.block _ (hr.holds n o hD ho).lt), hr.known, hr.sym, hr.glob⟩
/-! short words for values -/
def vT : Value := .bool true
def vF : Value := .bool false
def vN (n : Nat) : Value := .int .i64 (Int.ofNat n)
def vU (n : Nat) : Value := .int .u8 (Int.ofNat n)
def vB : List Nat → List Value
  | [] => []
  | n :: r => vU n :: vB r
def vP (b o : Nat) : Value := .pointer (some ⟨b, o, none⟩)
def vQ : Value := .pointer none
def vL (b o n c : Nat) : Value := .slice (some ⟨b, o, none⟩) n c
def vO (b o n c : Nat) : Value := .slice (some ⟨b, o, none⟩) n (capTop + c)
def vE (n c : Nat) : Value := .slice none n c
def vS (l : List UInt8) : Value := .string ⟨⟨l⟩⟩
def hasN : List Nat → Nat → Bool
  | [], _ => false
  | n :: r, f => match Nat.beq n f with
    | true => true
    | false => hasN r f
/-- the two tables are names -/
def SQG (s : Nat → Value) : Prop := s (gsym 0) = .nilFunc ∧ s (gsym 1) = .nilFunc
theorem globG (P : Program) : OrcOK P SQG (globOrc [0, 1]) := ⟨(fun _ _ _ h => nomatch h), (fun g hg s hs => by
  simp only [globOrc, List.mem_cons, List.not_mem_nil, or_false] at hg
  rcases hg with rfl | rfl
  · exact hs.1
  · exact hs.2), fun _ _ h => nomatch h⟩
def SQN (s : Nat → Value) : Prop := True
theorem noOrcN (P : Program) : OrcOK P SQN noOrc := ⟨(fun _ _ _ h => nomatch h), (fun g hg => nomatch hg), fun _ _ h => nomatch h⟩
theorem OrcLOK.mk' {P : Program} {SQ : (Nat → Value) → Prop} {o : Orc} (ho : OrcOK P SQ o) {hk : FuncId → Option (Array Value → LM Value)} {c : FuncId → Bool} (h : ∀ f m, hk f = some m → FunOKL P f m) : OrcLOK P SQ ⟨o, hk, c⟩ := ⟨ho, h⟩
theorem OrcOK.weak {P : Program} {SQ SQ' : (Nat → Value) → Prop} (hs : ∀ s, SQ' s → SQ s) {o : Orc} (h : OrcOK P SQ o) : OrcOK P SQ' o :=
  ⟨fun ev x v he => ⟨(h.1 ev x v he).1, fun r hr => (h.1 ev x v he).2 r (hs _ hr)⟩, fun g hg s hs' => h.2.1 g hg s (hs s hs'), h.2.2⟩
end Go.Proofs.Ytfakfnekcgkelaa
/- An evaluator of Go code whose memory has names of its own: two tables as the package's variables. -/
namespace Go.Proofs.Ytfakfnekcgkelaa
set_option linter.unusedVariables false
set_option linter.unusedSimpArgs false

/-- two rows of numbers as the package's variables 0 and 1 -/
def twoRows (a b : List Value) (s t : TypeId) : Tr := .nd (some (.row a s 0 false)) (.nd (some (.row b t 0 false)) .lf .lf) .lf
theorem twoRows_none {a b : List Value} {s t : TypeId} : ∀ g, 2 ≤ g → (twoRows a b s t).get g = none
  | 0, h => by omega
  | 1, h => by omega
  | k + 2, _ => by
    have hx : ∀ o n, 0 < n → (Tr.nd o .lf .lf).get n = none := fun o n hn => by
      cases n with
      | zero => omega
      | succ m => simp [Tr.get, Tr.get_lf]
    simp only [twoRows, Tr.get]
    split
    · exact hx _ _ (by omega)
    · first | exact Tr.get_lf _ | rfl
theorem twoRows_holds {a b : List Value} {s t : TypeId} {σ : Nat → Value} {w : World} (ha : a.all shut = true) (hb : b.all shut = true) (h0 : w.heap[0]? = some (.cells a.toArray s (0, 0))) (h1 : w.heap[1]? = some (.cells b.toArray t (0, 0))) :
    ∀ g o, (twoRows a b s t).get g = some o → Holds (fun g => g < 2) ⟨fun g => g, fun _ => 0, σ⟩ g w o := by
  intro g o hgo
  rcases Nat.lt_or_ge g 2 with h | h
  · match g, h with
    | 0, _ =>
      simp only [twoRows, Tr.get, Option.some.injEq] at hgo
      subst hgo
      exact ⟨a.toArray, (0, 0), h0, by rw [show (a.toArray).toList.take a.length = a from by simp]; exact LR.shut ha, by simp, by simp, by simp⟩
    | 1, _ =>
      simp only [twoRows, Tr.get, Option.some.injEq] at hgo
      simp at hgo
      subst hgo
      exact ⟨b.toArray, (0, 0), h1, by rw [show (b.toArray).toList.take b.length = b from by simp]; exact LR.shut hb, by simp, by simp, by simp⟩
  · rw [twoRows_none g h] at hgo; cases hgo
end Go.Proofs.Ytfakfnekcgkelaa
/- An evaluator of Go code whose memory has names of its own: trees of questions, calls that come to more than one end, part by part. -/
namespace Go.Proofs.Ytfakfnekcgkelaa
set_option linter.unusedVariables false
set_option linter.unusedSimpArgs false

def orcK (P : Program) (X : Orc) (hk : FuncId → Option (Array Value → LM Value)) (c : FuncId → Bool) (S : List Nat) (E : ET) (K : KB) : OrcL := ⟨orcOr (kOrc P S E K) X, hk, c⟩
def okT (P : Program) (X : Orc) (hk : FuncId → Option (Array Value → LM Value)) (c : FuncId → Bool) (S : List Nat) (E : ET) (fuel : Nat) (T : FuncId → Option FF) (tab : FTab) (n : Nat) (f : FuncId) (args : Array Value) (h : AH) (K : KB) : Bool :=
  isTrueL (fCallT P (orcK P X hk c S E K) fuel T tab n f args.toList h)
theorem Calls.of_treeT {P : Program} (hm : P.follows .mixedOrders = true) (hn : NameOK P) {X : Orc} {hk : FuncId → Option (Array Value → LM Value)} {c : FuncId → Bool} {S : List Nat} {E : ET} {K : KB} {σ : Nat → Value} (hσ : ∀ k, (σ k).oneCell' = true) (hX : OrcOK P (· = σ) X) (hhk : ∀ f m, hk f = some m → FunOKL P f m)
    (hE : EqOK P E) (hK : KOK K σ) (hS : SOK S σ) {fuel n : Nat} {f : FuncId} {args args' : Array Value} {T : FuncId → Option FF} (hT : TableOKL P T) {tab : FTab} (htab : TabOK P (· = σ) tab)
    (ha : ∀ r : Ren, r.σ = σ → args.map (ren r) = args') {t : DT} {m0 : Tr} {n0 : Nat} (ht : t.check (okT P X hk c S E fuel T tab n f args ⟨m0, n0, n0, [], []⟩) K = true) (w : World) (hg : ∀ g, σ (gsym g) = .nilFunc → g < n0) (hw0 : ∀ g, n0 ≤ g → m0.get g = none)
    (hh : ∀ g o, m0.get g = some o → Holds (fun g => g < n0) ⟨fun g => g, fun _ => 0, σ⟩ g w o) : Calls P f args' w fun e w' => e = .returned (.bool true) ∧ RowKit.Below w.heap.size w w' := by
  obtain ⟨K', h1, h2⟩ := DT.sound t K ht hK
  exact Calls.of_fastT hm hn hσ ⟨orcOr_ok (kOrc_ok hE h1 hS) hX, hhk⟩ hT htab ha w hg hw0 hh h2
/-- .. that looks at no memory of before -/
theorem Calls.of_treeN {P : Program} (hm : P.follows .mixedOrders = true) (hn : NameOK P) {X : Orc} {hk : FuncId → Option (Array Value → LM Value)} {c : FuncId → Bool} {S : List Nat} {E : ET} {K : KB} {σ : Nat → Value} (hσ : ∀ k, (σ k).oneCell' = true) (hX : OrcOK P (· = σ) X) (hhk : ∀ f m, hk f = some m → FunOKL P f m)
    (hE : EqOK P E) (hK : KOK K σ) (hS : SOK S σ) {fuel n : Nat} {f : FuncId} {args args' : Array Value} {T : FuncId → Option FF} (hT : TableOKL P T) {tab : FTab} (htab : TabOK P (· = σ) tab)
    (ha : ∀ r : Ren, r.σ = σ → args.map (ren r) = args') {t : DT} (ht : t.check (okT P X hk c S E fuel T tab n f args ⟨.lf, 0, 0, [], []⟩) K = true) (w : World) (hg : ∀ g, σ (gsym g) ≠ .nilFunc) : Calls P f args' w fun e w' => e = .returned (.bool true) ∧ RowKit.Below w.heap.size w w' :=
  Calls.of_treeT hm hn hσ hX hhk hE hK hS hT htab ha ht w (fun g h => absurd h (hg g)) (fun g _ => Tr.get_lf g) (fun g o h => by rw [Tr.get_lf] at h; cases h)
end Go.Proofs.Ytfakfnekcgkelaa
/- An evaluator of Go code whose memory has names of its own (28): the keys of a map, sorted (slices.Sorted(maps.Keys(m))), as one step. -/
namespace Go.Proofs.Ytfakfnekcgkelaa
open Go.RowKit Go.Maps Go.MapKept
open Go.WideElems (Fit rd rg)
open Go.WideMaps (keyOf_string_mk)
set_option linter.unusedVariables false
set_option linter.unusedSimpArgs false

def strsOf : List Value → Option (List ByteArray)
  | [] => some []
  | v :: r => match v with
    | .string s => (strsOf r).map (s :: ·)
    | _ => none
theorem strsOf_eq : ∀ {l : List Value} {ks : List ByteArray}, strsOf l = some ks → l = ks.map Value.string
  | [], ks, h => by simp only [strsOf, Option.some.injEq] at h; subst h; rfl
  | v :: r, ks, h => by
    simp only [strsOf] at h
    split at h
    · rename_i s
      cases hr : strsOf r with
      | none => rw [hr] at h; cases h
      | some l => rw [hr] at h; simp only [Option.map_some, Option.some.injEq] at h; subst h; rw [strsOf_eq hr]; rfl
    · cases h
/-- a sort that the kernel can run -/
def insB (x : List UInt8) : List (List UInt8) → List (List UInt8)
  | [] => [x]
  | y :: r => if leB x y then x :: y :: r else y :: insB x r
def sortB : List (List UInt8) → List (List UInt8)
  | [] => []
  | x :: r => insB x (sortB r)
theorem insB_perm (x : List UInt8) : ∀ l, (insB x l).Perm (x :: l)
  | [] => List.Perm.refl _
  | y :: r => by
    unfold insB
    split
    · exact List.Perm.refl _
    · exact ((insB_perm x r).cons y).trans (List.Perm.swap x y r)
theorem sortB_perm : ∀ l, (sortB l).Perm l
  | [] => List.Perm.refl _
  | x :: r => (insB_perm x _).trans ((sortB_perm r).cons x)
theorem leB_trans (a b c : List UInt8) (h1 : leB a b = true) (h2 : leB b c = true) : leB a c = true := by simp only [leB, decide_eq_true_eq] at *; exact List.le_trans h1 h2
theorem leB_total (a b : List UInt8) : (leB a b || leB b a) = true := by simp only [leB, Bool.or_eq_true, decide_eq_true_eq]; exact List.le_total a b
theorem insB_sorted (x : List UInt8) : ∀ l, l.Pairwise (fun a b => leB a b = true) → (insB x l).Pairwise (fun a b => leB a b = true)
  | [], _ => by simp [insB]
  | y :: r, h => by
    have hy := List.pairwise_cons.1 h
    unfold insB
    split
    · rename_i hxy
      refine List.pairwise_cons.2 ⟨fun z hz => ?_, h⟩
      rcases List.mem_cons.1 hz with rfl | hz
      · exact hxy
      · exact leB_trans _ _ _ hxy (hy.1 z hz)
    · rename_i hxy
      refine List.pairwise_cons.2 ⟨fun z hz => ?_, insB_sorted x r hy.2⟩
      rcases List.mem_cons.1 ((insB_perm x r).mem_iff.1 hz) with rfl | hz
      · have := leB_total z y
        rw [Bool.or_eq_true] at this
        exact this.resolve_left hxy
      · exact hy.1 z hz
theorem sortB_sorted : ∀ l, (sortB l).Pairwise (fun a b => leB a b = true)
  | [] => List.Pairwise.nil
  | x :: r => insB_sorted x _ (sortB_sorted r)
theorem mergeSort_eq {ss l : List (List UInt8)} (h : ss.Perm l) : ss.mergeSort leB = sortB l := by
  rw [mergeSort_of_perm (h.trans (sortB_perm l).symm)]
  exact List.mergeSort_of_pairwise (sortB_sorted l)

/-- what the library says of slices.Sorted(maps.Keys(m)) at a map type of text keys: f: slices.Sorted, g: what maps.Keys hands back -/
structure SortedKeysAt (P : Program) (f g : FuncId) (kt : TypeId) : Prop where
  str : P.underlying kt = some .string
  some : ∀ (W : World) (Bm b nn : Nat) (D0 : DataW Unit) (R : Value → Option (DataW Unit × List MemPlace)), Bm < W.heap.size → W.cell? ⟨Bm, 0, none⟩ = some (.map (some b)) → W.ownsMap P kt R b nn D0 → Maps.size D0 ≤ 1000000 →
    Calls P f #[.func (.func g) #[] #[.pointer (some ⟨Bm, 0, none⟩)]] W fun e w' => ∃ (v : Value) (ss : List (List UInt8)), e = .returned v ∧ ss.Perm (strKeys D0) ∧
      w'.ownsRow W.heap.size kt 1 v ss.length ((ss.mergeSort leB).map encStr) ∧ (v = .slice none 0 0 ↔ ss = []) ∧ Below W.heap.size W w'
def stampB (es : List MapEntry) (cl : Nat) (ks : List ByteArray) : Bool :=
  (es.all fun e => decide (e.born < cl)) && (decide (es.map (·.born)).Nodup && (decide ks.Nodup && (decide (es.length ≤ 1000) && ks.all fun k => decide (k.size ≤ 1000))))
def aSortedKeys (kt : TypeId) (gs : List FuncId) (args : Array Value) : AM Value :=
  match args.toList with
  | [.func (.func g') first cap] => (match first.toList, cap.toList with
    | [], [.pointer (some ⟨bx, 0, none⟩)] => if gs.contains g' then (AM.look bx).bind fun
      | .row (.map (some r) :: _) _ _ _ => (AM.look r).bind fun
        | .map es cl => (match strsOf (es.map (·.key)) with
          | some ks => if stampB es cl ks then (match sortB (ks.map fun k => k.data.toList) with
            | [] => .pure (.slice none 0 0)
            | x :: l => (AM.new (.row ((x :: l).map encStr) kt 1 false)).bind fun n => .pure (.slice (some ⟨n, 0, none⟩) (l.length + 1) capTop)) else .fail
          | none => .fail)
        | _ => .fail
      | _ => .fail
      else .fail
    | _, _ => .fail)
  | _ => .fail
theorem born_eq {N : Nat → Prop} {ρ : Ren} : ∀ {es es' : List MapEntry}, EsR N ρ es es' → es'.map (·.born) = es.map (·.born) := fun {es es'} h => by
  apply List.ext_getElem?
  intro i
  rw [List.getElem?_map, List.getElem?_map]
  cases he : es[i]? with
  | none =>
    have : es'[i]? = none := by rw [List.getElem?_eq_none_iff] at he ⊢; rw [h.len]; exact he
    rw [this]
  | some e =>
    obtain ⟨e', h1, h2⟩ := h.at_ i e he
    rw [h1]; simp [h2.born]
theorem owns_of {P : Program} {kt : TypeId} (hs : P.underlying kt = some .string) {w : World} {b cl : Nat} {es' : Array MapEntry} {ks : List ByteArray} (hb : w.heap[b]? = some (.map es' cl)) (hk : es'.toList.map (·.key) = ks.map Value.string)
    (h1 : ∀ x ∈ es'.toList, x.born < cl) (h2 : (es'.toList.map (·.born)).Nodup) (h3 : ks.Nodup) (h4 : es'.size ≤ 1000) (h5 : ∀ k ∈ ks, k.size ≤ 1000) :
    ∃ D0 : DataW Unit, w.ownsMap P kt (fun _ => some (.nil, [])) b es'.size D0 ∧ (ks.map fun k => k.data.toList).Perm (strKeys D0) ∧ Maps.size D0 = es'.size := by
  have hkey : ∀ x ∈ es'.toList, ∃ s ∈ ks, x.key = .string s := fun x hx => by
    have : x.key ∈ es'.toList.map (·.key) := List.mem_map.2 ⟨x, hx, rfl⟩
    rw [hk] at this
    obtain ⟨s, h, e⟩ := List.mem_map.1 this
    exact ⟨s, h, e.symm⟩
  have hrd : ∀ x ∈ es'.toList, ∀ s, x.key = .string s → s ∈ ks → rd P kt (fun _ => some ((.nil : DataW Unit), [])) x = some (.string s.data.toList, .nil) := fun x hx s e hs' => by
    unfold rd
    rw [e, keyOf_string_mk hs (by have := h5 s hs'; unfold maxLen; omega)]
    rfl
  have F : Fit P kt (fun _ => some ((.nil : DataW Unit), [])) es' cl := ⟨by unfold maxLen; omega, ⟨h1, h2, by
      rw [hk]
      unfold List.Nodup at h3 ⊢
      rw [List.pairwise_map]
      exact h3.imp (fun hne e => hne (by injection e))⟩, fun x hx => by
      obtain ⟨s, hs', e⟩ := hkey x hx
      exact ⟨_, hrd x hx s e hs'⟩⟩
  refine ⟨_, ⟨es', cl, hb, F, Nat.le_refl _, rfl⟩, ?_, ?_⟩
  · unfold strKeys
    have hp := (WideShapes.sorted_perm (es'.toList.map (rg P kt (fun _ => some ((.nil : DataW Unit), []))))).map (fun p => strOf p.1)
    refine List.Perm.trans (List.Perm.of_eq ?_) hp.symm
    have e1 : ks.map (fun k => k.data.toList) = (ks.map Value.string).map (fun v => match v with | .string s => s.data.toList | _ => []) := by rw [List.map_map]; rfl
    rw [e1, ← hk, List.map_map, List.map_map]
    refine List.map_congr_left fun x hx => ?_
    obtain ⟨s, hs', e⟩ := hkey x hx
    simp only [Function.comp, e, rg, hrd x hx s e hs', Option.getD_some, strOf]
  · show ((es'.toList.map _).foldr DataW.insert []).length = _
    rw [(WideShapes.sorted_perm _).length_eq]; simp
theorem LR.strings {N : Nat → Prop} {ρ : Ren} (l : List (List UInt8)) : LR N ρ (l.map encStr) (l.map encStr) := fun r _ => by
  rw [List.map_map]
  exact List.map_congr_left fun x _ => by simp [ren]
theorem aSortedKeys_sound {P : Program} {f : FuncId} {gs : List FuncId} {kt : TypeId} (hks : ∀ g ∈ gs, SortedKeysAt P f g kt) : FunOK P f (aSortedKeys kt gs) := by
  intro args args' N ρ ha h v h' he D w hcov hwf hN hr
  unfold aSortedKeys at he
  split at he
  case h_2 => cases he
  case h_1 g' first cap hargs =>
    split at he
    case h_2 => cases he
    case h_1 bx hfirst hcap =>
      split at he
      case isFalse => cases he
      case isTrue hg =>
        have hk := hks g' (by simpa using hg)
        obtain ⟨ob, h1, e1, e2⟩ := AM.bind_some he
        have cov1 : Cov D h1 := hcov.of (AM.mono _ _ _ _ e2)
        have mono1 := (AM.look bx).mono _ _ _ e1
        obtain ⟨g1, rfl⟩ := AM.look_some e1
        have hls := look_step (n := bx) hr
        rw [Grow.eq_self] at hls
        split at e2
        case h_2 => cases e2
        case h_1 r cs0 el op mk =>
          obtain ⟨ob2, h2, e3, e4⟩ := AM.bind_some e2
          have cov2 : Cov D h2 := hcov.of (AM.mono _ _ _ _ e4)
          have mono2 := (AM.look r).mono _ _ _ e3
          split at e4
          case h_2 => cases e4
          case h_1 es cl =>
            obtain ⟨es', b1, b2, b3, b4, b5, b6, b7, b8⟩ := look_map e3 cov2 hls.2
            split at e4
            case h_2 => cases e4
            case h_1 ks hks =>
              split at e4
              case isFalse => cases e4
              case isTrue hst =>
                unfold stampB at hst
                simp only [Bool.and_eq_true, decide_eq_true_eq, List.all_eq_true] at hst
                obtain ⟨s1, s2, s3, s4, s5⟩ := hst
                have hkeys0 := strsOf_eq hks
                have hsh : (es.map (·.key)).all shut = true := by
                  rw [hkeys0, List.all_eq_true]
                  intro x hx
                  obtain ⟨s, _, rfl⟩ := List.mem_map.1 hx
                  rfl
                have hkeys : es'.toList.map (·.key) = ks.map Value.string := (b2.keys hsh).trans hkeys0
                have hborn := born_eq b2
                have hlen : es'.size = es.length := by rw [← Array.length_toList]; exact b2.len
                have hlk : ks.length = es.length := by
                  have := congrArg List.length hkeys0
                  simpa using this.symm
                obtain ⟨D0, o1, o2, o3⟩ := owns_of hk.str b1 hkeys (fun x hx => by
                  have hm : x.born ∈ es'.toList.map (·.born) := List.mem_map.2 ⟨x, hx, rfl⟩
                  rw [hborn] at hm
                  obtain ⟨y, hy, e⟩ := List.mem_map.1 hm
                  rw [← e]; exact s1 y hy) (by rw [hborn]; exact s2) s3 (by omega) s5
                have hcell : w.cell? ⟨ρ.φ bx, 0, none⟩ = some (.map (some (ρ.φ r))) := by
                  have hh := hr.holds bx _ cov1.look g1
                  have hra := rangeAt_of hh 0 [.map (some r)] (fun j v hv => by
                    cases j with
                    | zero => simpa using hv
                    | succ j => simp at hv)
                  have := hra 0 (.map (some (ρ.φ r))) (by simp [ren])
                  simpa using this
                have hbx : ρ.φ bx < w.heap.size := (hr.holds bx _ cov1.look g1).lt
                have hargs' : args' = #[.func (.func g') #[] #[.pointer (some ⟨ρ.φ bx, 0, none⟩)]] := by
                  have h3 := ha.eq
                  rw [hargs] at h3
                  have f1 : first = #[] := by apply Array.ext'; simpa using hfirst
                  have f2 : cap = #[.pointer (some ⟨bx, 0, none⟩)] := by apply Array.ext'; simpa using hcap
                  subst f1; subst f2
                  apply Array.ext'
                  rw [← h3]
                  simp [ren, renA]
                subst hargs'
                refine (hk.some w _ _ _ D0 _ hbx hcell o1 (by omega)).mono ?_
                rintro e w' ⟨v', ss, rfl, p1, p2, p3, p4⟩
                have hsort := mergeSort_eq (p1.trans o2.symm)
                have hssl : ss.length = ks.length := by
                  have := (p1.trans o2.symm).length_eq
                  simpa using this
                rw [hsort] at p2
                have hG1 : Grow N h.next h.next = N := Grow.eq_self _ _
                split at e4
                case h_1 hnil =>
                  obtain ⟨rfl, rfl⟩ := AM.pure_some e4
                  have hss : ss = [] := by
                    have h4 := (sortB_perm (ks.map fun k => k.data.toList)).length_eq
                    rw [hnil] at h4
                    apply List.eq_nil_of_length_eq_zero
                    rw [hssl]; simpa using h4.symm
                  have hv : v' = .slice none 0 0 := p3.2 hss
                  subst hv
                  have hn : h'.next = h.next := b4
                  rw [hn, hG1]
                  refine ⟨ρ, _, rfl, ?_, ?_, VR.shut rfl⟩
                  · have hst := hls.1.trans b5 mono1 mono2
                    exact ⟨hst.agree, hst.fresh, p4.os, p4.tape, p4.output, p4.size, fun i hi _ => p4.block i hi⟩
                  · exact ⟨b6.inj, fun n o hD ho => (b6.holds n o hD ho).mono (Agree.refl _ _) (fun _ h => h) (b6.known n hD (by rw [ho]; rfl)) (p4.block _ (b6.holds n o hD ho).lt), b6.known, b6.sym, b6.glob⟩
                case h_2 x l hcons =>
                  obtain ⟨nn, h3, e5, e6⟩ := AM.bind_some e4
                  obtain ⟨rfl, hl, rfl⟩ := AM.new_some e5
                  obtain ⟨rfl, rfl⟩ := AM.pure_some e6
                  have h4 := (sortB_perm (ks.map fun k => k.data.toList)).length_eq
                  rw [hcons] at h4 p2
                  have hll : l.length + 1 = ss.length := by rw [hssl]; simpa using h4
                  obtain ⟨gb, cp, cur, rfl, q1, q2, q3, q4, q5, q6⟩ : ∃ gb cp cur, v' = .slice (some ⟨gb, 0, none⟩) ss.length cp ∧ w.heap.size ≤ gb ∧ w'.heap[gb]? = some (.cells cur kt (0, 0)) ∧ ss.length ≤ cp ∧ cp ≤ maxLen ∧ cur.size = cp * 1 ∧ cur.toList.take (ss.length * 1) = (x :: l).map encStr := by
                    rcases p2.2 with ⟨_, h0⟩ | hh
                    · omega
                    · exact hh
                  have hnx : h2.next = h.next := b4
                  have hNn : ¬ N h2.next := by
                    rw [hnx]
                    exact hN h.next ⟨Nat.le_refl _, by show h.next < h2.next + 1; omega⟩
                  have hst := new_step (D := D) (w' := w') (o := .row ((x :: l).map encStr) kt 1 false) hl (mono2.wf (mono1.wf hwf)) hNn b6 gb cp q1
                    ⟨cur, (0, 0), by rw [Ren.at_φ]; exact q2, by
                      rw [show ((x :: l).map encStr).length = ss.length * 1 from by simp; omega, q6]
                      exact LR.strings _, by simp, by
                      rw [q5]; simp; omega, by simp [Ren.at_κ, q5, q4]⟩
                    p4.os p4.tape p4.output p4.size p4.block
                  refine ⟨_, _, rfl, (hls.1.trans b5 mono1 mono2).trans hst.1 (mono1.trans mono2) (AM.mono _ _ _ _ e5), ?_, ?_⟩
                  · have := hst.2
                    rw [hnx] at this ⊢
                    exact this
                  · show VR _ _ (.slice (some ⟨h2.next, 0, none⟩) (l.length + 1) capTop) _
                    rw [hll, hnx]
                    have hvs := VR_slice (N := N) (ρ := ρ) (n := h.next) (b := gb) (k := cp) (o := 0) (len := ss.length) (cap := capTop) (cap' := cp) (by simp [capTop])
                    exact hvs
end Go.Proofs.Ytfakfnekcgkelaa
/- An evaluator of Go code whose memory has names of its own: the keys of a map, sorted, as one step: keys that are numbers. -/
namespace Go.Proofs.Ytfakfnekcgkelaa
open Go.RowKit Go.Maps Go.MapKept
open Go.WideElems (Fit rd rg)
set_option linter.unusedVariables false
set_option linter.unusedSimpArgs false

def intsOf : List Value → Option (List Int)
  | [] => some []
  | v :: r => match v with
    | .int .i64 n => (intsOf r).map (n :: ·)
    | _ => none
theorem intsOf_eq : ∀ {l : List Value} {ks : List Int}, intsOf l = some ks → l = ks.map (Value.int .i64)
  | [], ks, h => by simp only [intsOf, Option.some.injEq] at h; subst h; rfl
  | v :: r, ks, h => by
    simp only [intsOf] at h
    split at h
    · rename_i n
      cases hr : intsOf r with
      | none => rw [hr] at h; cases h
      | some l => rw [hr] at h; simp only [Option.map_some, Option.some.injEq] at h; subst h; rw [intsOf_eq hr]; rfl
    · cases h
def insI (x : Int) : List Int → List Int
  | [] => [x]
  | y :: r => if leI x y then x :: y :: r else y :: insI x r
def sortI : List Int → List Int
  | [] => []
  | x :: r => insI x (sortI r)
theorem insI_perm (x : Int) : ∀ l, (insI x l).Perm (x :: l)
  | [] => List.Perm.refl _
  | y :: r => by
    unfold insI
    split
    · exact List.Perm.refl _
    · exact ((insI_perm x r).cons y).trans (List.Perm.swap x y r)
theorem sortI_perm : ∀ l, (sortI l).Perm l
  | [] => List.Perm.refl _
  | x :: r => (insI_perm x _).trans ((sortI_perm r).cons x)
theorem insI_sorted (x : Int) : ∀ l, l.Pairwise (fun a b => leI a b = true) → (insI x l).Pairwise (fun a b => leI a b = true)
  | [], _ => by simp [insI]
  | y :: r, h => by
    have hy := List.pairwise_cons.1 h
    unfold insI
    split
    · rename_i hxy
      refine List.pairwise_cons.2 ⟨fun z hz => ?_, h⟩
      rcases List.mem_cons.1 hz with rfl | hz
      · exact hxy
      · have := hy.1 z hz
        simp only [leI, decide_eq_true_eq] at *; omega
    · rename_i hxy
      refine List.pairwise_cons.2 ⟨fun z hz => ?_, insI_sorted x r hy.2⟩
      rcases List.mem_cons.1 ((insI_perm x r).mem_iff.1 hz) with rfl | hz
      · simp only [leI, decide_eq_true_eq] at *; omega
      · exact hy.1 z hz
theorem sortI_sorted : ∀ l, (sortI l).Pairwise (fun a b => leI a b = true)
  | [] => List.Pairwise.nil
  | x :: r => insI_sorted x _ (sortI_sorted r)
theorem mergeSort_eqI {ss l : List Int} (h : ss.Perm l) : ss.mergeSort leI = sortI l := by
  rw [mergeSort_of_perm_i (h.trans (sortI_perm l).symm)]
  exact List.mergeSort_of_pairwise (sortI_sorted l)

/-- what the library says of slices.Sorted(maps.Keys(m)) at a map type of number keys: f: slices.Sorted, g: what maps.Keys hands back -/
structure SortedIntsAt (P : Program) (f g : FuncId) (kt : TypeId) : Prop where
  str : P.underlying kt = some (.int .i64)
  some : ∀ (W : World) (Bm b nn : Nat) (D0 : DataW Unit) (R : Value → Option (DataW Unit × List MemPlace)), Bm < W.heap.size → W.cell? ⟨Bm, 0, none⟩ = some (.map (some b)) → W.ownsMap P kt R b nn D0 → Maps.size D0 ≤ 1000000 →
    Calls P f #[.func (.func g) #[] #[.pointer (some ⟨Bm, 0, none⟩)]] W fun e w' => ∃ (v : Value) (ss : List Int), e = .returned v ∧ ss.Perm (intKeys D0) ∧
      w'.ownsRow W.heap.size kt 1 v ss.length ((ss.mergeSort leI).map encZ) ∧ (v = .slice none 0 0 ↔ ss = []) ∧ Below W.heap.size W w'
def stampI (es : List MapEntry) (cl : Nat) (ks : List Int) : Bool :=
  (es.all fun e => decide (e.born < cl)) && (decide (es.map (·.born)).Nodup && (decide ks.Nodup && (decide (es.length ≤ 1000) && ks.all fun k => (Lit.int .i64 k).wf)))
def aSortedInts (kt : TypeId) (gs : List FuncId) (args : Array Value) : AM Value :=
  match args.toList with
  | [.func (.func g') first cap] => (match first.toList, cap.toList with
    | [], [.pointer (some ⟨bx, 0, none⟩)] => if gs.contains g' then (AM.look bx).bind fun
      | .row (.map (some r) :: _) _ _ _ => (AM.look r).bind fun
        | .map es cl => (match intsOf (es.map (·.key)) with
          | some ks => if stampI es cl ks then (match sortI ks with
            | [] => .pure (.slice none 0 0)
            | x :: l => (AM.new (.row ((x :: l).map encZ) kt 1 false)).bind fun n => .pure (.slice (some ⟨n, 0, none⟩) (l.length + 1) capTop)) else .fail
          | none => .fail)
        | _ => .fail
      | _ => .fail
      else .fail
    | _, _ => .fail)
  | _ => .fail
theorem owns_ofI {P : Program} {kt : TypeId} (hs : P.underlying kt = some (.int .i64)) {w : World} {b cl : Nat} {es' : Array MapEntry} {ks : List Int} (hb : w.heap[b]? = some (.map es' cl)) (hk : es'.toList.map (·.key) = ks.map (Value.int .i64))
    (h1 : ∀ x ∈ es'.toList, x.born < cl) (h2 : (es'.toList.map (·.born)).Nodup) (h3 : ks.Nodup) (h4 : es'.size ≤ 1000) (h5 : ∀ k ∈ ks, (Lit.int .i64 k).wf = true) :
    ∃ D0 : DataW Unit, w.ownsMap P kt (fun _ => some (.nil, [])) b es'.size D0 ∧ ks.Perm (intKeys D0) ∧ Maps.size D0 = es'.size := by
  have hkey : ∀ x ∈ es'.toList, ∃ s ∈ ks, x.key = .int .i64 s := fun x hx => by
    have : x.key ∈ es'.toList.map (·.key) := List.mem_map.2 ⟨x, hx, rfl⟩
    rw [hk] at this
    obtain ⟨s, h, e⟩ := List.mem_map.1 this
    exact ⟨s, h, e.symm⟩
  have hrd : ∀ x ∈ es'.toList, ∀ s, x.key = .int .i64 s → s ∈ ks → rd P kt (fun _ => some ((.nil : DataW Unit), [])) x = some (.int .i64 s, .nil) := fun x hx s e hs' => by
    unfold rd
    rw [e, keyOf_int_mk hs (h5 s hs')]
    rfl
  have F : Fit P kt (fun _ => some ((.nil : DataW Unit), [])) es' cl := ⟨by unfold maxLen; omega, ⟨h1, h2, by
      rw [hk]
      unfold List.Nodup at h3 ⊢
      rw [List.pairwise_map]
      exact h3.imp (fun hne e => hne (by injection e))⟩, fun x hx => by
      obtain ⟨s, hs', e⟩ := hkey x hx
      exact ⟨_, hrd x hx s e hs'⟩⟩
  refine ⟨_, ⟨es', cl, hb, F, Nat.le_refl _, rfl⟩, ?_, ?_⟩
  · unfold intKeys
    have hp := (WideShapes.sorted_perm (es'.toList.map (rg P kt (fun _ => some ((.nil : DataW Unit), []))))).map (fun p => intOf p.1)
    refine List.Perm.trans (List.Perm.of_eq ?_) hp.symm
    have e1 : ks = (ks.map (Value.int .i64)).map (fun v => match v with | .int _ s => s | _ => 0) := by rw [List.map_map]; exact (List.map_id _).symm
    rw [e1, ← hk, List.map_map, List.map_map]
    refine List.map_congr_left fun x hx => ?_
    obtain ⟨s, hs', e⟩ := hkey x hx
    simp only [Function.comp, e, rg, hrd x hx s e hs', Option.getD_some, intOf]
  · show ((es'.toList.map _).foldr DataW.insert []).length = _
    rw [(WideShapes.sorted_perm _).length_eq]; simp
theorem LR.ints {N : Nat → Prop} {ρ : Ren} (l : List Int) : LR N ρ (l.map encZ) (l.map encZ) := fun r _ => by
  rw [List.map_map]
  exact List.map_congr_left fun x _ => by simp [ren]
theorem aSortedInts_sound {P : Program} {f : FuncId} {gs : List FuncId} {kt : TypeId} (hks : ∀ g ∈ gs, SortedIntsAt P f g kt) : FunOK P f (aSortedInts kt gs) := by
  intro args args' N ρ ha h v h' he D w hcov hwf hN hr
  unfold aSortedInts at he
  split at he
  case h_2 => cases he
  case h_1 g' first cap hargs =>
    split at he
    case h_2 => cases he
    case h_1 bx hfirst hcap =>
      split at he
      case isFalse => cases he
      case isTrue hg =>
        have hk := hks g' (by simpa using hg)
        obtain ⟨ob, h1, e1, e2⟩ := AM.bind_some he
        have cov1 : Cov D h1 := hcov.of (AM.mono _ _ _ _ e2)
        have mono1 := (AM.look bx).mono _ _ _ e1
        obtain ⟨g1, rfl⟩ := AM.look_some e1
        have hls := look_step (n := bx) hr
        rw [Grow.eq_self] at hls
        split at e2
        case h_2 => cases e2
        case h_1 r cs0 el op mk =>
          obtain ⟨ob2, h2, e3, e4⟩ := AM.bind_some e2
          have cov2 : Cov D h2 := hcov.of (AM.mono _ _ _ _ e4)
          have mono2 := (AM.look r).mono _ _ _ e3
          split at e4
          case h_2 => cases e4
          case h_1 es cl =>
            obtain ⟨es', b1, b2, b3, b4, b5, b6, b7, b8⟩ := look_map e3 cov2 hls.2
            split at e4
            case h_2 => cases e4
            case h_1 ks hks =>
              split at e4
              case isFalse => cases e4
              case isTrue hst =>
                unfold stampI at hst
                simp only [Bool.and_eq_true, decide_eq_true_eq, List.all_eq_true] at hst
                obtain ⟨s1, s2, s3, s4, s5⟩ := hst
                have hkeys0 := intsOf_eq hks
                have hsh : (es.map (·.key)).all shut = true := by
                  rw [hkeys0, List.all_eq_true]
                  intro x hx
                  obtain ⟨s, _, rfl⟩ := List.mem_map.1 hx
                  rfl
                have hkeys : es'.toList.map (·.key) = ks.map (Value.int .i64) := (b2.keys hsh).trans hkeys0
                have hborn := born_eq b2
                have hlen : es'.size = es.length := by rw [← Array.length_toList]; exact b2.len
                have hlk : ks.length = es.length := by
                  have := congrArg List.length hkeys0
                  simpa using this.symm
                obtain ⟨D0, o1, o2, o3⟩ := owns_ofI hk.str b1 hkeys (fun x hx => by
                  have hm : x.born ∈ es'.toList.map (·.born) := List.mem_map.2 ⟨x, hx, rfl⟩
                  rw [hborn] at hm
                  obtain ⟨y, hy, e⟩ := List.mem_map.1 hm
                  rw [← e]; exact s1 y hy) (by rw [hborn]; exact s2) s3 (by omega) s5
                have hcell : w.cell? ⟨ρ.φ bx, 0, none⟩ = some (.map (some (ρ.φ r))) := by
                  have hh := hr.holds bx _ cov1.look g1
                  have hra := rangeAt_of hh 0 [.map (some r)] (fun j v hv => by
                    cases j with
                    | zero => simpa using hv
                    | succ j => simp at hv)
                  have := hra 0 (.map (some (ρ.φ r))) (by simp [ren])
                  simpa using this
                have hbx : ρ.φ bx < w.heap.size := (hr.holds bx _ cov1.look g1).lt
                have hargs' : args' = #[.func (.func g') #[] #[.pointer (some ⟨ρ.φ bx, 0, none⟩)]] := by
                  have h3 := ha.eq
                  rw [hargs] at h3
                  have f1 : first = #[] := by apply Array.ext'; simpa using hfirst
                  have f2 : cap = #[.pointer (some ⟨bx, 0, none⟩)] := by apply Array.ext'; simpa using hcap
                  subst f1; subst f2
                  apply Array.ext'
                  rw [← h3]
                  simp [ren, renA]
                subst hargs'
                refine (hk.some w _ _ _ D0 _ hbx hcell o1 (by omega)).mono ?_
                rintro e w' ⟨v', ss, rfl, p1, p2, p3, p4⟩
                have hsort := mergeSort_eqI (p1.trans o2.symm)
                have hssl : ss.length = ks.length := by
                  have := (p1.trans o2.symm).length_eq
                  simpa using this
                rw [hsort] at p2
                have hG1 : Grow N h.next h.next = N := Grow.eq_self _ _
                split at e4
                case h_1 hnil =>
                  obtain ⟨rfl, rfl⟩ := AM.pure_some e4
                  have hss : ss = [] := by
                    have h4 := (sortI_perm ks).length_eq
                    rw [hnil] at h4
                    apply List.eq_nil_of_length_eq_zero
                    rw [hssl]; simpa using h4.symm
                  have hv : v' = .slice none 0 0 := p3.2 hss
                  subst hv
                  have hn : h'.next = h.next := b4
                  rw [hn, hG1]
                  refine ⟨ρ, _, rfl, ?_, ?_, VR.shut rfl⟩
                  · have hst := hls.1.trans b5 mono1 mono2
                    exact ⟨hst.agree, hst.fresh, p4.os, p4.tape, p4.output, p4.size, fun i hi _ => p4.block i hi⟩
                  · exact ⟨b6.inj, fun n o hD ho => (b6.holds n o hD ho).mono (Agree.refl _ _) (fun _ h => h) (b6.known n hD (by rw [ho]; rfl)) (p4.block _ (b6.holds n o hD ho).lt), b6.known, b6.sym, b6.glob⟩
                case h_2 x l hcons =>
                  obtain ⟨nn, h3, e5, e6⟩ := AM.bind_some e4
                  obtain ⟨rfl, hl, rfl⟩ := AM.new_some e5
                  obtain ⟨rfl, rfl⟩ := AM.pure_some e6
                  have h4 := (sortI_perm ks).length_eq
                  rw [hcons] at h4 p2
                  have hll : l.length + 1 = ss.length := by rw [hssl]; simpa using h4
                  obtain ⟨gb, cp, cur, rfl, q1, q2, q3, q4, q5, q6⟩ : ∃ gb cp cur, v' = .slice (some ⟨gb, 0, none⟩) ss.length cp ∧ w.heap.size ≤ gb ∧ w'.heap[gb]? = some (.cells cur kt (0, 0)) ∧ ss.length ≤ cp ∧ cp ≤ maxLen ∧ cur.size = cp * 1 ∧ cur.toList.take (ss.length * 1) = (x :: l).map encZ := by
                    rcases p2.2 with ⟨_, h0⟩ | hh
                    · omega
                    · exact hh
                  have hnx : h2.next = h.next := b4
                  have hNn : ¬ N h2.next := by
                    rw [hnx]
                    exact hN h.next ⟨Nat.le_refl _, by show h.next < h2.next + 1; omega⟩
                  have hst := new_step (D := D) (w' := w') (o := .row ((x :: l).map encZ) kt 1 false) hl (mono2.wf (mono1.wf hwf)) hNn b6 gb cp q1
                    ⟨cur, (0, 0), by rw [Ren.at_φ]; exact q2, by
                      rw [show ((x :: l).map encZ).length = ss.length * 1 from by simp; omega, q6]
                      exact LR.ints _, by simp, by
                      rw [q5]; simp; omega, by simp [Ren.at_κ, q5, q4]⟩
                    p4.os p4.tape p4.output p4.size p4.block
                  refine ⟨_, _, rfl, (hls.1.trans b5 mono1 mono2).trans hst.1 (mono1.trans mono2) (AM.mono _ _ _ _ e5), ?_, ?_⟩
                  · have := hst.2
                    rw [hnx] at this ⊢
                    exact this
                  · show VR _ _ (.slice (some ⟨h2.next, 0, none⟩) (l.length + 1) capTop) _
                    rw [hll, hnx]
                    have hvs := VR_slice (N := N) (ρ := ρ) (n := h.next) (b := gb) (k := cp) (o := 0) (len := ss.length) (cap := capTop) (cap' := cp) (by simp [capTop])
                    exact hvs
end Go.Proofs.Ytfakfnekcgkelaa
/- An evaluator of Go code whose memory has names of its own: a map's keys, or values, gathered in whatever order (slices.AppendSeq of nothing and an iterator over a map), as one step. -/
namespace Go.Proofs.Ytfakfnekcgkelaa
set_option linter.unusedVariables false
set_option linter.unusedSimpArgs false

def ins1 {α : Type} (x : α) : List α → List (List α)
  | [] => [[x]]
  | y :: r => (x :: y :: r) :: (ins1 x r).map (y :: ·)
def permsL {α : Type} : List α → List (List α)
  | [] => [[]]
  | x :: r => (permsL r).flatMap (ins1 x)
theorem mem_ins1 {α : Type} (x : α) : ∀ (a b : List α), a ++ x :: b ∈ ins1 x (a ++ b)
  | [], [] => by simp [ins1]
  | [], y :: r => by simp [ins1]
  | z :: a, b => by
    simp only [List.cons_append, ins1, List.mem_cons, List.mem_map]
    exact .inr ⟨a ++ x :: b, mem_ins1 x a b, rfl⟩
theorem mem_permsL {α : Type} : ∀ {l m : List α}, m.Perm l → m ∈ permsL l
  | [], m, h => by
    have := h.length_eq
    cases m with
    | nil => simp [permsL]
    | cons => simp at this
  | x :: r, m, h => by
    have hx : x ∈ m := h.symm.subset List.mem_cons_self
    obtain ⟨a, b, rfl⟩ := List.append_of_mem hx
    have h2 : (a ++ b).Perm r := by
      have h3 : (x :: (a ++ b)).Perm (x :: r) := (List.perm_middle.symm).trans h
      exact h3.cons_inv
    simp only [permsL, List.mem_flatMap]
    exact ⟨a ++ b, mem_permsL h2, mem_ins1 x a b⟩
/-- one of these -/
def lAlt {α : Type} (l : List (AM α)) : LM α where
  run h := match l with
    | [] => none
    | _ :: _ => gather (fun m => match m.run h with
      | some p => some [p]
      | none => none) l
  mono := by
    intro h r e p hp
    split at e
    · cases e
    · obtain ⟨m, _, a, ha, hpa⟩ := (gather_mem e).2 p hp
      split at ha
      · rename_i q hq
        injection ha with ha; subst ha
        obtain rfl : p = q := by simpa using hpa
        exact m.mono _ _ _ hq
      · cases ha
  ne := by
    intro h r e
    split at e
    · cases e
    · rename_i m t
      obtain ⟨a, b, ha, _, rfl⟩ := gather_cons e
      split at ha
      · injection ha with ha; subst ha; simp
      · cases ha
theorem lAlt_mem {α : Type} {l : List (AM α)} {h : AH} {r : List (α × AH)} (e : (lAlt l).run h = some r) : ∀ m ∈ l, ∃ p ∈ r, m.run h = some p := by
  intro m hm
  unfold lAlt at e
  dsimp only at e
  split at e
  · cases e
  · obtain ⟨a, ha, hin⟩ := (gather_mem e).1 m hm
    split at ha
    · rename_i q hq
      injection ha with ha; subst ha
      exact ⟨q, hin q (by simp), hq⟩
    · cases ha
def partOf (key : Bool) (e : MapEntry) : Value := match key with
  | true => e.key
  | false => e.val
/-- what may be gathered: entries that were born ahead of now, none twice, few, each of so many cells -/
def seqOk (c : Nat) (key : Bool) (es : List MapEntry) (cl : Nat) : Bool :=
  (es.all fun e => decide (e.born < cl) && Nat.beq (partOf key e).cells.size c) && (decide (es.map (·.born)).Nodup && decide (es.length ≤ 100))
def aSeqEs (c : Nat) (key : Bool) (bx : Nat) : AM (List MapEntry) := (AM.look bx).bind fun
  | .row (v :: _) _ _ _ => (match v with
    | .map none => .pure []
    | .map (some r) => (AM.look r).bind fun
      | .map es cl => (match seqOk c key es cl with
        | true => .pure es
        | false => .fail)
      | _ => .fail
    | _ => .fail)
  | _ => .fail
def aSeqRow (ct : TypeId) (c : Nat) (key : Bool) (es : List MapEntry) : AM Value := match es with
  | [] => .pure (.slice none 0 0)
  | _ :: _ => (AM.new (.row (es.flatMap fun e => (partOf key e).cells.toList) ct c false)).bind fun n => .pure (.slice (some ⟨n, 0, none⟩) es.length capTop)
/-- iterators, and whether they go over keys -/
abbrev Its := List (FuncId × Bool)
def Its.find : Its → FuncId → Option Bool
  | [], _ => none
  | p :: r, f => match Nat.beq p.1 f with
    | true => some p.2
    | false => Its.find r f
theorem Its.find_mem : ∀ {l : Its} {f : FuncId} {b : Bool}, l.find f = some b → (f, b) ∈ l
  | [], _, _, h => by cases h
  | p :: r, f, b, h => by
    unfold Its.find at h
    split at h
    · rename_i hb
      injection h with h
      have := Nat.eq_of_beq_eq_true hb
      subst this; subst h
      exact List.mem_cons_self
    · exact List.mem_cons_of_mem _ (Its.find_mem h)
/-- what of an argument is looked at -/
def seqArg : List Value → Option (FuncId × Nat)
  | [.slice none 0 0, .func (.func g) ⟨[]⟩ ⟨[.pointer (some ⟨bx, 0, none⟩)]⟩] => some (g, bx)
  | _ => none
theorem seqArg_spec {l : List Value} {g : FuncId} {bx : Nat} (h : seqArg l = some (g, bx)) : l = [.slice none 0 0, .func (.func g) #[] #[.pointer (some ⟨bx, 0, none⟩)]] := by
  unfold seqArg at h
  split at h
  · injection h with h; injection h with h5 h6
    subst h5; subst h6; rfl
  · cases h
def aAppendSeq (ct : TypeId) (c : Nat) (its : Its) (args : Array Value) : LM Value :=
  match seqArg args.toList with
  | some (g, bx) => (match its.find g with
    | some key => (LM.ofA (aSeqEs c key bx)).bind fun es => lAlt ((permsL es).map fun p => aSeqRow ct c key p)
    | none => .fail)
  | none => .fail
end Go.Proofs.Ytfakfnekcgkelaa
/- An evaluator of Go code whose memory has names of its own: keys, or values, of a map of nothing, gathered (slices.AppendSeq): nothing. -/
namespace Go.Proofs.Ytfakfnekcgkelaa
open Go.RowKit
set_option linter.unusedVariables false
set_option linter.unusedSimpArgs false

/-- an iterator over a map of nothing asks nobody -/
def ItNone (P : Program) (g : FuncId) : Prop := ∀ (l : Nat) (w : World) (Bm : Nat) (m : Option Nat) (t : TypeId), w.heap[Bm]? = some (.cells #[.map m] t (0, 0)) → (∀ b, m = some b → ∃ cl, w.heap[b]? = some (.map #[] cl)) →
  Calls P g #[.func (.yield l) #[] #[], .pointer (some ⟨Bm, 0, none⟩)] w fun e w' => (∃ v, e = .returned v) ∧ Below w.heap.size w w'
def orcX : OrcL := ⟨noOrc, fun _ => none, fun _ => false⟩
def isDone : Option (List (Value × AH)) → Bool
  | some l => l.all fun p => p.2.wrt.isEmpty
  | none => false
def itH (m : Option Nat) (t cl : Nat) : AH := ⟨.nd (some (.row [.map m] t 0 false)) (.nd (some (.map [] cl)) .lf .lf) .lf, 2, 2, [], []⟩
theorem itH_get {m : Option Nat} {t cl : Nat} : ∀ k, (itH m t cl).get k = if k = 0 then some (.row [.map m] t 0 false) else if k = 1 then some (.map [] cl) else none
  | 0 => rfl
  | 1 => rfl
  | k + 2 => by
    have hx : ∀ o n, 0 < n → (Tr.nd o .lf .lf).get n = none := fun o n hn => by
      cases n with
      | zero => omega
      | succ m => simp [Tr.get, Tr.get_lf]
    rw [if_neg (show ¬ k + 2 = 0 by omega), if_neg (show ¬ k + 2 = 1 by omega)]
    simp only [itH, AH.get, Tr.get]
    split
    · exact hx _ _ (by omega)
    · first | exact Tr.get_lf _ | rfl
def itH0 (t : Nat) : AH := ⟨.nd (some (.row [.map none] t 0 false)) .lf .lf, 1, 1, [], []⟩
theorem itH0_get {t : Nat} : ∀ k, (itH0 t).get k = if k = 0 then some (.row [.map none] t 0 false) else none
  | 0 => rfl
  | k + 1 => by
    rw [if_neg (show ¬ k + 1 = 0 by omega)]
    simp only [itH0, AH.get, Tr.get]
    split <;> first | exact Tr.get_lf (k / 2) | rfl
theorem itNone_eval {P : Program} (hm : P.follows .mixedOrders = true) (hn : NameOK P) {g : FuncId} {fuel n : Nat}
    (h0 : ∀ l t, isDone ((lCall P orcX fuel n g #[.func (.yield l) #[] #[], .pointer (some ⟨0, 0, none⟩)]).run (itH0 t)) = true)
    (h1 : ∀ l t cl, isDone ((lCall P orcX fuel n g #[.func (.yield l) #[] #[], .pointer (some ⟨0, 0, none⟩)]).run (itH (some 1) t cl)) = true) : ItNone P g := by
  intro l w Bm m t hb hmm
  have hx : OrcLOK P (fun s => s = fun _ => Value.bool false) orcX := ⟨noOrc_ok _ _, fun f m h => nomatch h⟩
  have close : ∀ (H : AH) (N : Nat → Prop) (φ : Nat → Nat), isDone ((lCall P orcX fuel n g #[.func (.yield l) #[] #[], .pointer (some ⟨0, 0, none⟩)]).run H) = true → φ 0 = Bm → N 0 → H.wrt = [] → H.base = H.next → (∀ k, N k ↔ k < H.next) → WF H → Rel (fun _ => True) N ⟨φ, fun _ => 0, fun _ => .bool false⟩ H.get w →
      Calls P g #[.func (.yield l) #[] #[], .pointer (some ⟨Bm, 0, none⟩)] w fun e w' => (∃ v, e = .returned v) ∧ Below w.heap.size w w' := by
    intro H N φ he hφ hN0 hw hbase hNN hwf hr
    unfold isDone at he
    split at he
    case h_2 => cases he
    case h_1 l1 hl =>
      refine (lCall_sound hm hn hx fuel n g _ #[.func (.yield l) #[] #[], .pointer (some ⟨Bm, 0, none⟩)] N ⟨φ, fun _ => 0, fun _ => .bool false⟩ rfl (fun r hr2 => ?_) _ l1 hl (fun _ => True) w (fun _ _ => ⟨fun _ _ => trivial, fun _ _ => trivial⟩) hwf (fun p _ k hs hk => by have := hs.1; have := (hNN k).1 hk; omega) hr).mono ?_
      · simp [ren, renA, hr2.φ 0 hN0, hφ]
      · rintro e w' ⟨p, hp, ρ', v', rfl, hs, hrr, hvv⟩
        have hwp : p.2.wrt = [] := by
          have := List.all_eq_true.1 he p hp
          simpa using this
        refine ⟨⟨_, rfl⟩, hs.os, hs.tape, hs.output, hs.size, fun k hk => hs.frame k hk (fun q _ hq1 hsome hor => ?_)⟩
        rcases hor with h2 | h2
        · rw [hwp] at h2; cases h2
        · omega
  have hrow : ∀ N ρ, ρ.φ 0 = Bm → VR N ρ (.map m) (.map m) → Holds N ρ 0 w (.row [.map m] t 0 false) := fun N ρ e hv => ⟨#[.map m], (0, 0), by rw [e]; exact hb, fun r hr => by simpa using hv r hr, by simp, by simp, by simp⟩
  cases m with
  | none =>
    refine close (itH0 t) (fun k => k < 1) (fun _ => Bm) (h0 l t) rfl (by decide) rfl rfl (fun k => Iff.rfl) (fun k hk => ?_) ⟨fun a b _ _ ha hb _ => ?_, fun k o _ ho => ?_, fun k _ hk => ?_, fun _ => rfl, fun g h => by cases h⟩
    · rw [itH0_get]; rw [if_neg (by have : 1 ≤ k := hk; omega)]
    · rw [itH0_get] at ha hb; split at ha <;> split at hb <;> simp_all
    · rw [itH0_get] at ho; split at ho
      · rename_i h; subst h; injection ho with ho; subst ho; exact hrow _ _ rfl (VR.shut rfl)
      · cases ho
    · rw [itH0_get] at hk; split at hk
      · omega
      · cases hk
  | some b =>
    obtain ⟨cl, hcl⟩ := hmm b rfl
    have hne : Bm ≠ b := fun e => by subst e; rw [hb] at hcl; cases hcl
    have hgo := h1 l t cl
    -- the map's name is 1, and lies at b
    have hrow1 : Holds (fun k => k < 2) ⟨fun k => if k = 0 then Bm else b, fun _ => 0, fun _ => .bool false⟩ 0 w (.row [.map (some 1)] t 0 false) :=
      ⟨#[.map (some b)], (0, 0), by simpa using hb, fun r hr => by
        have := hr.φ 1 (by decide)
        simp [ren] at this ⊢
        exact this, by simp, by simp, by simp⟩
    refine close (itH (some 1) t cl) (fun k => k < 2) (fun k => if k = 0 then Bm else b) hgo rfl (by decide) rfl rfl (fun k => Iff.rfl) (fun k hk => ?_) ⟨fun x y _ _ hx hy e => ?_, fun k o _ ho => ?_, fun k _ hk => ?_, fun _ => rfl, fun g h => by cases h⟩
    · have : 2 ≤ k := hk
      rw [itH_get, if_neg (by omega), if_neg (by omega)]
    · rw [itH_get] at hx hy
      dsimp only at e
      split at hx <;> split at hy <;> simp_all <;> omega
    · rw [itH_get] at ho; split at ho
      · rename_i h; subst h; injection ho with ho; subst ho; exact hrow1
      · split at ho
        · rename_i h; subst h; injection ho with ho; subst ho
          exact ⟨#[], by simpa using hcl, rfl, fun i e he => by simp at he⟩
        · cases ho
    · rw [itH_get] at hk; split at hk
      · omega
      · split at hk
        · omega
        · cases hk

/-- slices.AppendSeq, whatever its rounds do -/
def apCode (S Q V : TypeId) (AS BO : Code) : Code :=
  .seq (.region 0 #[{ dst := some 2, op := .box S (.tmp 0), type := V, pos := "iter.go:50", after := #[], guard := none }, { dst := some 4, op := .assign (.const (.slice none 0 0)), type := S, pos := "iter.go:50", after := #[], guard := none }] false)
    (.seq (.seq (.region 1 #[{ dst := some 6, op := .move (.tmp 1), type := Q, pos := "iter.go:51", after := #[], guard := none }] false) (.block 0 (.rangeFunc (.tmp 6) #[7] AS BO)))
      (.seq (.region 4 #[{ dst := some 12, op := .load S (.tmp 2), type := S, pos := "iter.go:54", after := #[], guard := none }, { dst := some 4, op := .assign (.tmp 12), type := S, pos := "iter.go:54", after := #[{ on := 0, ground := .data }, { on := 0, ground := .phase }], guard := none }] false) .ret))
def apLoop (AS BO : Code) (fn : FuncId) (sv : Value) (Bs D : Nat) (st : LoopState) : Loop :=
  { state := st, pending := none, fn, tmps := #[.slice none 0 0, sv, .pointer (some ⟨Bs, 0, none⟩), undef, .slice none 0 0, undef, sv, undef, undef, undef, undef, undef, undef], params := #[7], assign := AS, body := BO, defers := D }
set_option maxRecDepth 100000 in
set_option maxHeartbeats 2000000 in
theorem appendNone {P : Program} (mixed : P.follows .mixedOrders = true) {f : FuncId} {fn : Func} {S Q V E : TypeId} {AS BO : Code} (hf : P.funcs[f]? = some fn) (hb : fn.body = some (apCode S Q V AS BO)) (hnt : fn.ntmps = 13) (hres : fn.results = #[.tmp 4])
    (tS : P.underlying S = some (.slice E)) (aS : ∀ w, (isAgg S).run P w = .ok false w) (zS : ∀ w, (Go.sizeOf S).run P w = .ok 1 w) {g : FuncId} (eg : ∀ args w, (callFunc g args).run P w = .ok (.enter g args) w) (hI : ItNone P g) (w : World) (Bm : Nat) (m : Option Nat) (t : TypeId)
    (hbm : w.heap[Bm]? = some (.cells #[.map m] t (0, 0))) (hmm : ∀ b, m = some b → ∃ cl, w.heap[b]? = some (.map #[] cl)) :
    Calls P f #[.slice none 0 0, .func (.func g) #[] #[.pointer (some ⟨Bm, 0, none⟩)]] w fun e w' => e = .returned (.slice none 0 0) ∧ Below w.heap.size w w' := by
  have uS := run_underlying tS
  refine (callsIn_wide (n := 5)).1 ?_
  refine callsIn_of_wp_marks hf hb trivial ?_ rfl
  simp only [hnt, apCode, List.size_toArray, List.length_cons, List.length_nil, Nat.reduceAdd, Nat.reduceSub, Array.replicate_succ, Array.replicate_zero, List.push_toArray, List.append_toArray, List.nil_append, List.cons_append]
  gi_wp2
  refine wpIn_rangeFunc ?_
  intro fn' hfn
  rw [show Fence.wide.round = none from rfl]
  obtain ⟨W0, hW0⟩ : ∃ W0, w.alloc (.cells #[.slice none 0 0] S) = W0 := ⟨_, rfl⟩
  have hs0 : W0.heap.size = w.heap.size + 1 := by rw [← hW0]; simp
  have hv0 : W0.heap[w.heap.size]? = some (.cells #[.slice none 0 0] S (0, 0)) := by rw [← hW0]; exact World.alloc_heap_new w _
  have hb0 : Below w.heap.size w W0 := by rw [← hW0]; exact (Below.refl _ w).alloc (Nat.le_refl _) _
  rw [hW0]
  obtain ⟨W1, hW1⟩ : ∃ W1, (W0.alloc (.deferred (some []))).alloc (.loop (apLoop AS BO fn' (.func (.func g) #[] #[.pointer (some ⟨Bm, 0, none⟩)]) w.heap.size W0.heap.size .ready)) = W1 := ⟨_, rfl⟩
  have hold : ∀ k, k < W0.heap.size → W1.heap[k]? = W0.heap[k]? := fun k hk => by
    rw [← hW1]; exact (Below.heap_alloc _ _ k (by simp; omega)).trans (Below.heap_alloc _ _ k hk)
  have hb1 : Below w.heap.size w W1 := by rw [← hW1]; exact (hb0.alloc hb0.size _).alloc (by have := hb0.size; simp; omega) _
  have hs1 : W1.heap.size = W0.heap.size + 2 := by rw [← hW1]; simp
  have hL1 : W1.heap[W0.heap.size + 1]? = some (.loop (apLoop AS BO fn' (.func (.func g) #[] #[.pointer (some ⟨Bm, 0, none⟩)]) w.heap.size W0.heap.size .ready)) := by
    rw [← hW1]; have := World.alloc_heap_new (W0.alloc (.deferred (some []))) (.loop (apLoop AS BO fn' (.func (.func g) #[] #[.pointer (some ⟨Bm, 0, none⟩)]) w.heap.size W0.heap.size .ready)); rwa [World.size_alloc] at this
  have hK1 : W1.heap[W0.heap.size]? = some (.deferred (some [])) := by rw [← hW1]; exact (Below.heap_alloc _ _ _ (by simp)).trans (World.alloc_heap_new W0 _)
  have hv1 : W1.heap[w.heap.size]? = some (.cells #[.slice none 0 0] S (0, 0)) := (hold _ (by omega)).trans hv0
  have hBm1 : W1.heap[Bm]? = some (.cells #[.map m] t (0, 0)) := (hb1.block _ (Array.getElem?_eq_some_iff.1 hbm).1).trans hbm
  have hmm1 : ∀ b, m = some b → ∃ cl, W1.heap[b]? = some (.map #[] cl) := fun b e => by
    obtain ⟨cl, h⟩ := hmm b e
    exact ⟨cl, (hb1.block _ (Array.getElem?_eq_some_iff.1 h).1).trans h⟩
  refine ⟨W0.heap.size + 1, [{ target := .collected W0.heap.size, args := #[] }], W1, { target := .fn (.func g) #[.pointer (some ⟨Bm, 0, none⟩)], args := #[.func (.yield (W0.heap.size + 1)) #[] #[]] }, W1, g,
    #[.func (.yield (W0.heap.size + 1)) #[] #[]] ++ #[.pointer (some ⟨Bm, 0, none⟩)], W1, ?_, ?_, ?_, ?_, fun _ => by omega, ?_⟩
  · rw [← hW1]; exact run_enterLoop_outer _ _ _ _ _
  · simp [resolve, go_sem]
  · intro f' hf'; trivial
  · simp [invoke, go_sem, eg]
  · refine callsIn_wide.2 ((hI (W0.heap.size + 1) W1 Bm m t hBm1 hmm1).mono ?_)
    rintro e W2 ⟨⟨v0, rfl⟩, hb2⟩
    have hL2 : W2.heap[W0.heap.size + 1]? = some (.loop (apLoop AS BO fn' (.func (.func g) #[] #[.pointer (some ⟨Bm, 0, none⟩)]) w.heap.size W0.heap.size .ready)) := (hb2.block _ (Array.getElem?_eq_some_iff.1 hL1).1).trans hL1
    have hK2 : W2.heap[W0.heap.size]? = some (.deferred (some [])) := (hb2.block _ (Array.getElem?_eq_some_iff.1 hK1).1).trans hK1
    have hv2 : W2.heap[w.heap.size]? = some (.cells #[.slice none 0 0] S (0, 0)) := (hb2.block _ (Array.getElem?_eq_some_iff.1 hv1).1).trans hv1
    have hend := run_endLoop (P := P) hL2 (by simp [apLoop])
    obtain ⟨W3, hW3⟩ : ∃ W3, W2.putObj (W0.heap.size + 1) (.loop { apLoop AS BO fn' (.func (.func g) #[] #[.pointer (some ⟨Bm, 0, none⟩)]) w.heap.size W0.heap.size .ready with state := .exhausted }) = W3 := ⟨_, rfl⟩
    rw [hW3] at hend
    have hv3 : W3.heap[w.heap.size]? = some (.cells #[.slice none 0 0] S (0, 0)) := by rw [← hW3]; exact (World.putObj_heap_other (by omega)).trans hv2
    have hK3 : W3.heap[W0.heap.size]? = some (.deferred (some [])) := by rw [← hW3]; exact (World.putObj_heap_other (by omega)).trans hK2
    have hg3 : W2.grownBy W3 (some (W0.heap.size + 1)) := by rw [← hW3]; exact ⟨rfl, rfl, rfl, by simp, fun k _ hk => World.putObj_heap_other (fun e => hk (by rw [e]))⟩
    have hb3 : Below w.heap.size w W3 := (hb1.trans (hb2.mono (by omega))).grown hg3 (by have := hb2.size; omega) (fun k e => by cases e; omega)
    have hc3 : W3.cell? ⟨w.heap.size, 0, none⟩ = some (.slice none 0 0) := by simp [World.cell?, hv3]
    have hf3 : W3.frozen? ⟨w.heap.size, 0, none⟩ = false := by simp [World.frozen?, hv3]
    clear hW3
    refine ⟨none, W3, hend, ?_⟩
    gi_wp2
    rw [← hs0]
    refine ⟨by simp, .inl ⟨_, _, rfl, run_takeDeferred hK3, ?_⟩⟩
    refine ⟨_, results_tmp (by rw [hres]) _ _ _, rfl, ?_⟩
    exact hb3.grown ⟨rfl, rfl, rfl, by simp, fun k _ hk => World.putObj_heap_other (fun e => hk (by rw [e]))⟩ (by have := hb2.size; have := hg3.size; omega) (fun k e => by cases e; omega)

def AppendNoneAt (P : Program) (f g : FuncId) : Prop := ∀ (w : World) (Bm : Nat) (m : Option Nat) (t : TypeId), w.heap[Bm]? = some (.cells #[.map m] t (0, 0)) → (∀ b, m = some b → ∃ cl, w.heap[b]? = some (.map #[] cl)) →
    Calls P f #[.slice none 0 0, .func (.func g) #[] #[.pointer (some ⟨Bm, 0, none⟩)]] w fun e w' => e = .returned (.slice none 0 0) ∧ Below w.heap.size w w'
/-- .. as one step -/
def aAppend0 (its : List FuncId) (args : Array Value) : AM Value :=
  match seqArg args.toList with
  | some (g, bx) => (match hasN its g with
    | true => (AM.look bx).bind fun
      | .row l _ p mk => (match l, p, mk with
        | [.map m], 0, false => (match m with
          | none => .pure (.slice none 0 0)
          | some r => (AM.look r).bind fun
            | .map [] _ => .pure (.slice none 0 0)
            | _ => .fail)
        | _, _, _ => .fail)
      | _ => .fail
    | false => .fail)
  | none => .fail
theorem hasN_mem : ∀ {l : List Nat} {f : Nat}, hasN l f = true → f ∈ l
  | [], _, h => by cases h
  | n :: r, f, h => by
    unfold hasN at h
    split at h
    · rename_i hb; rw [Nat.eq_of_beq_eq_true hb]; exact List.mem_cons_self
    · exact List.mem_cons_of_mem _ (hasN_mem h)
theorem aAppend0_sound {P : Program} {f : FuncId} {its : List FuncId} (hap : ∀ g ∈ its, AppendNoneAt P f g) : FunOK P f (aAppend0 its) := by
  intro args args' N ρ hl h v h' he D w hcov hwf hN hr
  unfold aAppend0 at he
  split at he
  case h_2 => cases he
  case h_1 g bx hs =>
    have ha := seqArg_spec hs
    split at he
    case h_2 => cases he
    case h_1 hg =>
      have hg := hasN_mem hg
      have ha' : args' = #[.slice none 0 0, .func (.func g) #[] #[.pointer (some ⟨ρ.φ bx, 0, none⟩)]] := by
        apply Array.ext'
        rw [← hl.eq, ha]
        simp [ren, renA]
      subst ha'
      obtain ⟨ob, h1, e1, e2⟩ := AM.bind_some he
      have m2 := AM.mono _ _ _ _ e2
      have c1 : Cov D h1 := hcov.of m2
      obtain ⟨g1, rfl⟩ := AM.look_some e1
      have hls := look_step (n := bx) hr
      rw [Grow.eq_self] at hls
      cases ob with
      | map => cases e2
      | iter => cases e2
      | row l t p mk =>
        dsimp only at e2
        split at e2
        case h_2 => cases e2
        case h_1 m =>
          obtain ⟨c, fr, b1, b2, b3, b4, b5⟩ := hr.holds bx _ c1.look g1
          simp at b3 b5
          subst b3
          have hc : c = #[ren ρ (.map m)] := by
            apply Array.ext'
            have := b2.eq
            rw [List.take_of_length_le (by simp [b5])] at this
            rw [← this]; simp
          subst hc
          have fin : ∀ (H : AH), v = .slice none 0 0 → h' = H → Step D h ρ w H ρ w → Rel D N ρ H.get w → H.next = h.next → (∀ b, m = some b → ∃ cl, w.heap[ρ.φ b]? = some (.map #[] cl)) →
              Calls P f #[.slice none 0 0, .func (.func g) #[] #[.pointer (some ⟨ρ.φ bx, 0, none⟩)]] w fun e w' => ∃ ρ' v', e = .returned v' ∧ Step D h ρ w h' ρ' w' ∧ Rel D (Grow N h.next h'.next) ρ' h'.get w' ∧ VR (Grow N h.next h'.next) ρ' v v' := by
            intro H e3 e4 hst hre hnx hmm
            subst e3; subst e4
            refine (hap g hg w (ρ.φ bx) (m.map ρ.φ) t (by rw [b1]; cases m <;> simp [ren]) (fun b hb => ?_)).mono ?_
            · cases m with
              | none => cases hb
              | some r => simp at hb; subst hb; exact hmm r rfl
            · rintro e w' ⟨rfl, hb⟩
              have hG : Grow N h.next h'.next = N := by rw [hnx]; exact Grow.eq_self _ _
              refine ⟨ρ, _, rfl, ⟨Agree.refl _ _, fun n hn => absurd hn.1 (by have := hn.2; omega), hb.os, hb.tape, hb.output, hb.size, fun k hk _ => hb.block k hk⟩, ?_, VR.shut rfl⟩
              rw [hG]
              exact ⟨hre.inj, fun n o hD ho => (hre.holds n o hD ho).mono (Agree.refl _ _) (fun _ h => h) (hre.known n hD (by rw [ho]; rfl)) (hb.block _ (hre.holds n o hD ho).lt), hre.known, hre.sym, hre.glob⟩
          split at e2
          · obtain ⟨e3, e4⟩ := AM.pure_some e2
            exact fin _ e3 e4 hls.1 hls.2 rfl (fun b hb => by cases hb)
          · rename_i r
            obtain ⟨ob2, h2, e3, e4⟩ := AM.bind_some e2
            have m3 := (AM.look r).mono _ _ _ e3
            have c2 : Cov D h2 := hcov.of (AM.mono _ _ _ _ e4)
            split at e4
            case h_2 => cases e4
            case h_1 cl =>
              obtain ⟨e5, e6⟩ := AM.pure_some e4
              obtain ⟨es', p1, p2, p3, p4, p5, p6, p7, p8⟩ := look_map e3 c2 hls.2
              have hz : es' = #[] := by
                have := p2.len
                cases es' with
                | mk l => cases l with
                  | nil => rfl
                  | cons => simp at this
              subst hz
              exact fin _ e5 e6 (hls.1.trans p5 ((AM.look bx).mono _ _ _ e1) m3) p6 p4 (fun b hb => by cases hb; exact ⟨cl, p1⟩)
end Go.Proofs.Ytfakfnekcgkelaa
