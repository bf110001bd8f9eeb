/- An evaluator of Go code whose memory has names of its own: heaps as contracts: what a call makes of a heap of which all names are known, for a walk by hand round it. -/
import Derived.Test.YtdbhmcldfikkmaaGreatDoorEwM9
namespace Go.Proofs.YtdbhmcldfikkmaaGreatDoor
set_option linter.unusedVariables false
set_option linter.unusedSimpArgs false

/-- all names in it are below k -/
def lowN (k : Nat) : Nat → Value → Bool
  | _, .bool _ | _, .int _ _ | _, .float _ _ | _, .complex _ _ _ | _, .string _ => true
  | _, .pointer none | _, .slice none _ _ | _, .map none | _, .chan _ | _, .nilFunc | _, .nilIface => true
  | _, .pointer (some a) => Nat.blt a.block k
  | _, .slice (some a) _ _ => Nat.blt a.block k
  | _, .map (some r) => Nat.blt r k
  | n + 1, .func _ x y => shutL (lowN k n) x.toList && shutL (lowN k n) y.toList
  | n + 1, .iface _ v => lowN k n v
  | n + 1, .agg cs => shutL (lowN k n) cs.toList
  | n + 1, .tuple vs => shutL (lowN k n) vs.toList
  | _, _ => false
theorem blt_lt {a b : Nat} (h : Nat.blt a b = true) : a < b := by
  unfold Nat.blt at h; exact Nat.le_of_ble_eq_true h
theorem map_two {f g : Value → Value} {a : Array Value} (h : ∀ v ∈ a.toList, f v = g v) : a.map f = a.map g := by
  apply Array.ext'
  rw [Array.toList_map, Array.toList_map]
  exact List.map_congr_left (fun v hv => h v hv)
theorem ren_lowN {k : Nat} {ρ r : Ren} (ha : Agree (· < k) ρ r) : ∀ (n : Nat) (v : Value), lowN k n v = true → ren r v = ren ρ v := by
  have hp : ∀ a : Addr, Nat.blt a.block k = true → renA r a = renA ρ a := fun a h => by
    unfold renA; rw [ha.φ _ (blt_lt h)]
  have hs : ∀ (a : Addr) (c : Nat), Nat.blt a.block k = true → renB r a c = renB ρ a c ∧ renCap r a.block c = renCap ρ a.block c := fun a c h => by
    have h1 := ha.φ _ (blt_lt h)
    have h2 := ha.κ _ (blt_lt h)
    refine ⟨?_, ?_⟩
    · unfold renB
      rw [hp a h, h1, h2]
    · unfold renCap; rw [h2]
  intro n
  induction n with
  | zero =>
    intro v h
    cases v with
    | pointer a => cases a with
      | none => simp [ren]
      | some a => simp only [lowN] at h; simp only [ren]; rw [hp a h]
    | slice a n c => cases a with
      | none => simp [ren]
      | some a => simp only [lowN] at h; simp only [ren]; rw [(hs a c h).1, (hs a c h).2]
    | map a => cases a with
      | none => simp [ren]
      | some a => simp only [lowN] at h; simp only [ren]; rw [ha.φ _ (blt_lt h)]
    | chan a => cases a with
      | none => simp [ren]
      | some a => simp only [ren]; rw [ha.σ]
    | _ => simp_all [lowN, ren]
  | succ n ih =>
    intro v h
    cases v with
    | pointer a => cases a with
      | none => simp [ren]
      | some a => simp only [lowN] at h; simp only [ren]; rw [hp a h]
    | slice a n c => cases a with
      | none => simp [ren]
      | some a => simp only [lowN] at h; simp only [ren]; rw [(hs a c h).1, (hs a c h).2]
    | map a => cases a with
      | none => simp [ren]
      | some a => simp only [lowN] at h; simp only [ren]; rw [ha.φ _ (blt_lt h)]
    | chan a => cases a with
      | none => simp [ren]
      | some a => simp only [ren]; rw [ha.σ]
    | func f x y =>
      simp only [lowN, Bool.and_eq_true] at h
      simp only [ren]
      rw [map_two (fun v hv => ih v (shutL_all h.1 v hv)), map_two (fun v hv => ih v (shutL_all h.2 v hv))]
    | iface t v =>
      simp only [lowN] at h
      simp only [ren]
      rw [ih v h]
    | agg cs =>
      simp only [lowN] at h
      simp only [ren]
      rw [map_two (fun v hv => ih v (shutL_all h v hv))]
    | tuple cs =>
      simp only [lowN] at h
      simp only [ren]
      rw [map_two (fun v hv => ih v (shutL_all h v hv))]
    | _ => simp_all [lowN, ren]
theorem VR.low {N : Nat → Prop} {k : Nat} {ρ : Ren} {v v' : Value} (h : VR N ρ v v') {n : Nat} (hv : lowN k n v = true) : VR (· < k) ρ v v' :=
  fun r hr => by rw [ren_lowN hr n v hv]; exact h.eq
theorem LR.low {N : Nat → Prop} {k : Nat} {ρ : Ren} {l l' : List Value} (h : LR N ρ l l') {n : Nat} (hv : shutL (lowN k n) l = true) : LR (· < k) ρ l l' :=
  fun r hr => by rw [← h.eq]; exact List.map_congr_left (fun v hm => ren_lowN hr n v (shutL_all hv v hm))
def lowEs (k : Nat) : List MapEntry → Bool
  | [] => true
  | e :: r => lowN k 20 e.key && (lowN k 20 e.val && lowEs k r)
theorem lowEs_all {k : Nat} : ∀ {l : List MapEntry}, lowEs k l = true → ∀ e ∈ l, lowN k 20 e.key = true ∧ lowN k 20 e.val = true
  | [], _, e, he => by cases he
  | x :: r, h, e, he => by
    simp only [lowEs, Bool.and_eq_true] at h
    rcases List.mem_cons.1 he with rfl | he
    · exact ⟨h.1, h.2.1⟩
    · exact lowEs_all h.2.2 e he
def lowO (k : Nat) : AObj → Bool
  | .row cs _ _ _ => shutL (lowN k 20) cs
  | .map es _ => lowEs k es
  | .iter .. => false
theorem Holds.low {N : Nat → Prop} {k : Nat} {ρ : Ren} {n : Nat} {w : World} {o : AObj} (h : Holds N ρ n w o) (hl : lowO k o = true) : Holds (· < k) ρ n w o := by
  cases o with
  | row cs e op mk =>
    obtain ⟨c, fr, h1, h2, h3⟩ := h
    exact ⟨c, fr, h1, h2.low hl, h3⟩
  | map es cl =>
    obtain ⟨es', h1, h2, h3⟩ := h
    refine ⟨es', h1, h2, fun i e he => ?_⟩
    obtain ⟨e', he', r⟩ := h3 i e he
    obtain ⟨q1, q2⟩ := lowEs_all hl e (List.mem_of_getElem? he)
    exact ⟨e', he', r.key.low q1, r.val.low q2, r.born⟩
  | iter m s e t => cases hl
/-- below k it has just names below k, and of those from k on none -/
def lowT (k : Nat) : Nat → Nat → Tr → Bool
  | _, _, .lf => true
  | a, b, .nd o l r => (match o with
    | none => true
    | some x => Nat.blt b k && lowO k x) && (lowT k (2 * a) (a + b) l && lowT k (2 * a) (2 * a + b) r)
theorem lowT_get {k : Nat} : ∀ {t : Tr} {a b : Nat}, lowT k a b t = true → ∀ (j : Nat) (o : AObj), t.get j = some o → a * j + b < k ∧ lowO k o = true
  | .lf, a, b, _, j, o, e => by rw [Tr.get_lf] at e; cases e
  | .nd x l r, a, b, h, j, o, e => by
    simp only [lowT, Bool.and_eq_true] at h
    cases j with
    | zero =>
      simp only [Tr.get] at e
      subst e
      have h1 := h.1
      simp only [Bool.and_eq_true] at h1
      exact ⟨by have := blt_lt h1.1; omega, h1.2⟩
    | succ m =>
      simp only [Tr.get] at e
      by_cases hm : m % 2 = 0
      · simp only [hm, if_true] at e
        obtain ⟨h1, h2⟩ := lowT_get h.2.1 _ _ e
        refine ⟨?_, h2⟩
        have e : 2 * a * (m / 2) = a * m := by
          rw [Nat.mul_comm 2 a, Nat.mul_assoc]; congr 1; omega
        rw [e] at h1
        rw [Nat.mul_succ]; omega
      · simp only [hm, if_false] at e
        obtain ⟨h1, h2⟩ := lowT_get h.2.2 _ _ e
        refine ⟨?_, h2⟩
        have e : 2 * a * (m / 2) + a = a * m := by
          rw [Nat.mul_comm 2 a, Nat.mul_assoc, ← Nat.mul_succ]; congr 1; omega
        rw [Nat.mul_succ]; omega
/-- every object of t lies in u -/
def inT : Tr → Tr → Bool
  | .lf, _ => true
  | .nd o l r, u => (match u with
    | .lf => oNone o && (noneT l && noneT r)
    | .nd o' l' r' => (match o with
      | none => true
      | some x => eqO1 (some x) o') && (inT l l' && inT r r'))
theorem inT_get : ∀ {t u : Tr}, inT t u = true → ∀ (j : Nat) (o : AObj), t.get j = some o → u.get j = some o
  | .lf, u, _, j, o, e => by rw [Tr.get_lf] at e; cases e
  | .nd x l r, u, h, j, o, e => by
    unfold inT at h
    split at h
    · have := noneT_ok (t := .nd x l r) (by simpa [noneT] using h) j
      rw [this] at e; cases e
    · rename_i o' l' r'
      simp only [Bool.and_eq_true] at h
      cases j with
      | zero =>
        simp only [Tr.get] at e ⊢
        subst e
        exact (eqO1_eq h.1).symm
      | succ m =>
        simp only [Tr.get] at e ⊢
        split at e
        · rename_i hm; simp only [hm, if_true]; exact inT_get h.2.1 _ _ e
        · rename_i hm; simp only [hm, if_false]; exact inT_get h.2.2 _ _ e
/-- the world has the heap m, whose names are below k -/
def StH (m : Tr) (k : Nat) (ρ : Ren) (w : World) : Prop := Rel (fun _ => True) (· < k) ρ m.get w
/-- every end: value v, and a heap that has all of m' -/
def endsIn (k' : Nat) (m' : Tr) (v : Value) : List (Value × AH) → Bool
  | [] => true
  | p :: r => eqV 20 p.1 v && (Nat.ble k' p.2.next && (inT m' p.2.m && endsIn k' m' v r))
theorem endsIn_all {k' : Nat} {m' : Tr} {v : Value} : ∀ {l : List (Value × AH)}, endsIn k' m' v l = true → ∀ p ∈ l, p.1 = v ∧ k' ≤ p.2.next ∧ inT m' p.2.m = true
  | [], _, p, hp => by cases hp
  | x :: r, h, p, hp => by
    simp only [endsIn, Bool.and_eq_true] at h
    rcases List.mem_cons.1 hp with rfl | hp
    · exact ⟨eqV_eq _ _ _ h.1, Nat.le_of_ble_eq_true h.2.1, h.2.2.1⟩
    · exact endsIn_all h.2.2.2 p hp
/-- a run at the heap m comes to v and a heap that has all of m' -/
def runTo (P : Program) (orc : OrcL) (T : FuncId → Option FF) (tab : FTab) (f : FuncId) (args : List Value) (m : Tr) (k : Nat) (m' : Tr) (k' : Nat) (v : Value) : Bool :=
  (lowT k 1 0 m && (lowT k' 1 0 m' && (lowN k' 20 v && shutL (lowN k 20) args))) && (match fCallT P orc 100000 T tab 90 f args ⟨m, k, k, [], []⟩ with
    | some l => endsIn k' m' v l
    | none => false)
/-- what became of the world, seen from outside -/
structure Out (m : Tr) (k k' : Nat) (ρ : Ren) (w : World) (ρ' : Ren) (w' : World) : Prop where
  σ : ρ'.σ = ρ.σ
  φ : ∀ n, n < k → ρ'.φ n = ρ.φ n
  κ : ∀ n, n < k → ρ'.κ n = ρ.κ n
  os : w'.os = w.os
  tape : w'.tape = w.tape
  output : w'.output = w.output
  size : w.heap.size ≤ w'.heap.size
  fresh : ∀ n, k ≤ n → n < k' → w.heap.size ≤ ρ'.φ n ∨ ∃ j, j < k ∧ (m.get j).isSome ∧ ρ'.φ n = ρ.φ j
  frame : ∀ j, j < w.heap.size → (∀ n, n < k → (m.get n).isSome → ρ.φ n ≠ j) → w'.heap[j]? = w.heap[j]?
theorem calls_of_runTo {P : Program} (hm : P.follows .mixedOrders = true) (hn : NameOK P) {SQ : (Nat → Value) → Prop} {orc : OrcL} (ho : OrcLOK P SQ orc) {T : FuncId → Option FF} (hT : TableOKL P T) {tab : FTab} (ht : TabOK P SQ tab)
    {f : FuncId} {args : List Value} {m : Tr} {k : Nat} {m' : Tr} {k' : Nat} {v : Value} (h : runTo P orc T tab f args m k m' k' v = true) (hk : ∀ s, SQ s → ∀ g, s (gsym g) = .nilFunc → g < k')
    {ρ : Ren} {w : World} (hsq : SQ ρ.σ) (hst : StH m k ρ w) {args' : Array Value} (ha : args'.toList = args.map (ren ρ)) :
    Calls P f args' w fun r w' => ∃ ρ', r = .returned (ren ρ' v) ∧ StH m' k' ρ' w' ∧ Out m k k' ρ w ρ' w' := by
  unfold runTo at h
  simp only [Bool.and_eq_true] at h
  obtain ⟨⟨h1, h2, h3, h4⟩, h5⟩ := h
  split at h5
  case h_2 => cases h5
  case h_1 l hc =>
    have he : EnOK P SQ ⟨f, args, ⟨m, k, k, [], []⟩, l⟩ := EnOK.of_run hm hn ho hT ht (n := 90) (fuel := 100000) hc
    have hall := endsIn_all h5
    refine (he.ok args' (· < k) ρ hsq (fun r hr => ?_) (fun _ => True) w (fun _ _ => ⟨fun _ _ => trivial, fun _ _ => trivial⟩) (fun n hge => ?_) (fun p _ n hs hlt => ?_) hst).mono ?_
    · rw [ha]; exact List.map_congr_left (fun v hv => ren_lowN hr 20 v (shutL_all h4 v hv))
    · cases hg : m.get n with
      | none => exact hg
      | some o => have := (lowT_get h1 n o hg).1; dsimp only at hge; omega
    · have := hs.1; dsimp only at this; omega
    · rintro r w' ⟨p, hp, ρ', v', rfl, hstep, hrel, hv⟩
      obtain ⟨e1, e2, e3⟩ := hall p hp
      refine ⟨ρ', by rw [← hv.eq, e1], ⟨fun a b _ _ ha hb => ?_, fun n o _ hno => ?_, fun n _ hs => ?_, hrel.sym, fun g hg => ?_⟩, ⟨hstep.agree.σ, fun n hn => hstep.agree.φ n (fun hs => by have := hs.1; dsimp only at this; omega), fun n hn => hstep.agree.κ n (fun hs => by have := hs.1; dsimp only at this; omega), hstep.os, hstep.tape, hstep.output, hstep.size, fun n h1 h2 => ?_, fun j hj hne => hstep.frame j hj (fun n _ hn hs _ => hne n hn hs)⟩⟩
      · have la : (p.2.get a).isSome := by
          cases hq : m'.get a with
          | none => rw [hq] at ha; cases ha
          | some o => have := inT_get e3 a o hq; show (p.2.m.get a).isSome; rw [this]; rfl
        have lb : (p.2.get b).isSome := by
          cases hq : m'.get b with
          | none => rw [hq] at hb; cases hb
          | some o => have := inT_get e3 b o hq; show (p.2.m.get b).isSome; rw [this]; rfl
        exact hrel.inj a b trivial trivial la lb
      · obtain ⟨q1, q2⟩ := lowT_get h2 n o hno
        exact (hrel.holds n o trivial (inT_get e3 n o hno)).low q2
      · cases hq : m'.get n with
        | none => rw [hq] at hs; cases hs
        | some o => have := (lowT_get h2 n o hq).1; omega
      · exact ⟨hk _ (by rw [hstep.agree.σ]; exact hsq) g hg, (hrel.glob g hg).2⟩
      · rcases hstep.fresh n ⟨h1, by omega⟩ with h | ⟨j, _, q1, q2, _, q3⟩
        · exact .inl h
        · exact .inr ⟨j, q1, q2, q3⟩
end Go.Proofs.YtdbhmcldfikkmaaGreatDoor
