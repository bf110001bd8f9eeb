/- An evaluator of Go code whose memory has names of its own: heaps as contracts, where octet's two tables lie at 0 and 1. -/
import Derived.Test.YtdbhmcldfikkmaaGreatDoorEwCt
namespace Go.Proofs.YtdbhmcldfikkmaaGreatDoor
set_option linter.unusedVariables false
set_option linter.unusedSimpArgs false

/-- a heap with fewer objects, of fewer names -/
theorem StH.shrink {m m' : Tr} {k k' : Nat} {ρ : Ren} {w : World} (h : StH m' k' ρ w) (hi : ∀ j o, m.get j = some o → m'.get j = some o) (hl : lowT k 1 0 m = true) (hg : ∀ g, ρ.σ (gsym g) = .nilFunc → g < k) : StH m k ρ w := by
  refine ⟨fun a b _ _ ha hb => ?_, fun n o _ hno => ?_, fun n _ hs => ?_, h.sym, fun g hgl => ⟨hg g hgl, (h.glob g hgl).2⟩⟩
  · have la : (m'.get a).isSome := by
      cases hq : m.get a with
      | none => rw [hq] at ha; cases ha
      | some o => rw [hi a o hq]; rfl
    have lb : (m'.get b).isSome := by
      cases hq : m.get b with
      | none => rw [hq] at hb; cases hb
      | some o => rw [hi b o hq]; rfl
    exact h.inj a b trivial trivial la lb
  · exact (h.holds n o trivial (hi n o hno)).low (lowT_get hl n o hno).2
  · cases hq : m.get n with
    | none => rw [hq] at hs; cases hs
    | some o => have := (lowT_get hl n o hq).1; omega
/-- a heap of more names than it needs -/
theorem StH.grow {m : Tr} {k k' : Nat} {ρ : Ren} {w : World} (h : StH m k ρ w) (hk : k ≤ k') : StH m k' ρ w :=
  Rel.of_eq h (fun n (hn : n < k) => show n < k' by omega)

/-- the two tables, and more -/
def tabsT (s t : TypeId) (a b : List Value) (l r u : Tr) : Tr := .nd (some (.row a s 0 false)) (.nd (some (.row b t 0 false)) l r) u
def inTx : Tr → Tr → Bool
  | .nd o (.nd p l r) u, .nd o' (.nd p' l' r') u' => eqR o o' && (eqR p p' && (inT l l' && (inT r r' && inT u u')))
  | _, _ => false
theorem inTx_get {a b : Tr} (h : inTx a b = true) : (b.get 0).isSome ∧ (b.get 1).isSome ∧ ∀ j o, 2 ≤ j → a.get j = some o → b.get j = some o := by
  unfold inTx at h
  split at h
  · rename_i o p l r u o' p' l' r' u'
    simp only [Bool.and_eq_true] at h
    obtain ⟨x, s, s', pp, m, rfl, rfl⟩ := eqR_row h.1
    obtain ⟨y, t, t', q, n, rfl, rfl⟩ := eqR_row h.2.1
    refine ⟨rfl, rfl, fun j o hj e => ?_⟩
    match j, hj with
    | j + 2, _ =>
      simp only [Tr.get] at e ⊢
      by_cases hm : (j + 1) % 2 = 0
      · simp only [hm, if_true] at e ⊢
        have hz : (j + 1) / 2 ≠ 0 := by omega
        obtain ⟨i, hi⟩ : ∃ i, (j + 1) / 2 = i + 1 := ⟨(j + 1) / 2 - 1, by omega⟩
        rw [hi] at e ⊢
        simp only [Tr.get] at e ⊢
        by_cases hk : i % 2 = 0
        · simp only [hk, if_true] at e ⊢; exact inT_get h.2.2.1 _ _ e
        · simp only [hk, if_false] at e ⊢; exact inT_get h.2.2.2.1 _ _ e
      · simp only [hm, if_false] at e ⊢
        exact inT_get h.2.2.2.2 _ _ e
  · cases h
def all2 : List Nat → Bool
  | [] => true
  | n :: r => Nat.ble 2 n && all2 r
theorem all2_mem : ∀ {l : List Nat}, all2 l = true → ∀ n ∈ l, 2 ≤ n
  | [], _, n, hn => by cases hn
  | x :: r, h, n, hn => by
    simp only [all2, Bool.and_eq_true] at h
    rcases List.mem_cons.1 hn with rfl | hn
    · exact Nat.le_of_ble_eq_true h.1
    · exact all2_mem h.2 n hn
def endsInG (k' : Nat) (m' : Tr) (v : Value) : List (Value × AH) → Bool
  | [] => true
  | p :: r => eqV 20 p.1 v && (Nat.ble k' p.2.next && (all2 p.2.wrt && (inTx m' p.2.m && endsInG k' m' v r)))
theorem endsInG_all {k' : Nat} {m' : Tr} {v : Value} : ∀ {l : List (Value × AH)}, endsInG k' m' v l = true → ∀ p ∈ l, p.1 = v ∧ k' ≤ p.2.next ∧ all2 p.2.wrt = true ∧ inTx m' p.2.m = true
  | [], _, p, hp => by cases hp
  | x :: r, h, p, hp => by
    simp only [endsInG, Bool.and_eq_true] at h
    rcases List.mem_cons.1 hp with rfl | hp
    · exact ⟨eqV_eq _ _ _ h.1, Nat.le_of_ble_eq_true h.2.1, h.2.2.1, h.2.2.2.1⟩
    · exact endsInG_all h.2.2.2.2 p hp
/-- both heaps have the same two tables -/
def sameG : Tr → Tr → Bool
  | .nd o (.nd p _ _) _, .nd o' (.nd p' _ _) _ => eqR o o' && eqR p p'
  | _, _ => false
/-- a run at the heap m comes to v and a heap that has all of m' -/
def runToG (P : Program) (orc : OrcL) (T : FuncId → Option FF) (tab : FTab) (f : FuncId) (args : List Value) (m : Tr) (k : Nat) (m' : Tr) (k' : Nat) (v : Value) : Bool :=
  (lowT k 1 0 m && (lowT k' 1 0 m' && (lowN k' 20 v && (shutL (lowN k 20) args && Nat.ble 2 k)))) && (match fCallT P orc 100000 T tab 90 f args ⟨m, k, k, [], []⟩ with
    | some l => endsInG k' m' v l
    | none => false)
/-- what became of the world, seen from outside; the tables are as they were -/
structure OutG (m : Tr) (k k' : Nat) (ρ : Ren) (w : World) (ρ' : Ren) (w' : World) : Prop where
  σ : ρ'.σ = ρ.σ
  φ : ∀ n, n < k → ρ'.φ n = ρ.φ n
  κ : ∀ n, n < k → ρ'.κ n = ρ.κ n
  os : w'.os = w.os
  tape : w'.tape = w.tape
  output : w'.output = w.output
  size : w.heap.size ≤ w'.heap.size
  fresh : ∀ n, k ≤ n → n < k' → w.heap.size ≤ ρ'.φ n ∨ ∃ j, 2 ≤ j ∧ j < k ∧ (m.get j).isSome ∧ ρ'.φ n = ρ.φ j
  frame : ∀ j, j < w.heap.size → (∀ n, 2 ≤ n → n < k → (m.get n).isSome → ρ.φ n ≠ j) → w'.heap[j]? = w.heap[j]?
theorem calls_of_runToG {P : Program} (hm : P.follows .mixedOrders = true) (hn : NameOK P) {SQ : (Nat → Value) → Prop} {orc : OrcL} (ho : OrcLOK P SQ orc) {T : FuncId → Option FF} (hT : TableOKL P T) {tab : FTab} (ht : TabOK P SQ tab)
    {f : FuncId} {args : List Value} {m : Tr} {k : Nat} {m' : Tr} {k' : Nat} {v : Value} (h : runToG P orc T tab f args m k m' k' v = true) (hsame : ∀ j, j < 2 → m'.get j = m.get j) (htab : ∀ j, j < 2 → (m.get j).isSome) (hlow2 : ∀ j o, j < 2 → m.get j = some o → lowO 2 o = true)
    (hk : ∀ s, SQ s → ∀ g, s (gsym g) = .nilFunc → g < k')
    {ρ : Ren} {w : World} (hsq : SQ ρ.σ) (hst : StH m k ρ w) {args' : Array Value} (ha : args'.toList = args.map (ren ρ)) :
    Calls P f args' w fun r w' => ∃ ρ', r = .returned (ren ρ' v) ∧ StH m' k' ρ' w' ∧ OutG m k k' ρ w ρ' w' := by
  unfold runToG at h
  simp only [Bool.and_eq_true] at h
  obtain ⟨⟨h1, h2, h3, h4, h6⟩, h5⟩ := h
  have h6 := Nat.le_of_ble_eq_true h6
  split at h5
  case h_2 => cases h5
  case h_1 l hc =>
    have he : EnOK P SQ ⟨f, args, ⟨m, k, k, [], []⟩, l⟩ := EnOK.of_run hm hn ho hT ht (n := 90) (fuel := 100000) hc
    have hall := endsInG_all h5
    refine (he.ok args' (· < k) ρ hsq (fun r hr => ?_) (fun _ => True) w (fun _ _ => ⟨fun _ _ => trivial, fun _ _ => trivial⟩) (fun n hge => ?_) (fun p _ n hs hlt => ?_) hst).mono ?_
    · rw [ha]; exact List.map_congr_left (fun v hv => ren_lowN hr 20 v (shutL_all h4 v hv))
    · cases hg : m.get n with
      | none => exact hg
      | some o => have := (lowT_get h1 n o hg).1; dsimp only at hge; omega
    · have := hs.1; dsimp only at this; omega
    · rintro r w' ⟨p, hp, ρ', v', rfl, hstep, hrel, hv⟩
      obtain ⟨e1, e2, e4, e3⟩ := hall p hp
      obtain ⟨i0, i1, i2⟩ := inTx_get e3
      have hφ : ∀ n, n < k → ρ'.φ n = ρ.φ n := fun n hn => hstep.agree.φ n (fun hs => by have := hs.1; dsimp only at this; omega)
      have hκ : ∀ n, n < k → ρ'.κ n = ρ.κ n := fun n hn => hstep.agree.κ n (fun hs => by have := hs.1; dsimp only at this; omega)
      have hk2 : ∀ j, j < 2 → j < k := fun j hj => by omega
      have some2 : ∀ j, j < 2 → (p.2.m.get j).isSome := fun j hj => by
        rcases (show j = 0 ∨ j = 1 by omega) with rfl | rfl
        · exact i0
        · exact i1
      have isS : ∀ j, (m'.get j).isSome → (p.2.get j).isSome := fun j hs => by
        by_cases hj : j < 2
        · exact some2 j hj
        · cases hq : m'.get j with
          | none => rw [hq] at hs; cases hs
          | some o => have := i2 j o (by omega) hq; show (p.2.m.get j).isSome; rw [this]; rfl
      have hfr : ∀ j, j < w.heap.size → (∀ n, 2 ≤ n → n < k → (m.get n).isSome → ρ.φ n ≠ j) → w'.heap[j]? = w.heap[j]? := fun j hj hne => hstep.frame j hj (fun n _ hn hs hor => by
        rcases hor with h7 | h7
        · exact hne n (all2_mem e4 n h7) hn hs
        · dsimp only at hn h7; omega)
      have h0 : ∀ j, j < 2 → w'.heap[ρ.φ j]? = w.heap[ρ.φ j]? := fun j hj => by
        obtain ⟨o, ho⟩ := Option.isSome_iff_exists.1 (htab j hj)
        refine hfr _ (hst.holds j o trivial ho).lt (fun n h8 hn hs e => ?_)
        have := hst.inj n j trivial trivial hs (htab j hj) e
        omega
      refine ⟨ρ', by rw [← hv.eq, e1], ⟨fun a b _ _ ha hb => hrel.inj a b trivial trivial (isS a ha) (isS b hb), fun n o _ hno => ?_, fun n _ hs => ?_, hrel.sym, fun g hg => ?_⟩, ⟨hstep.agree.σ, hφ, hκ, hstep.os, hstep.tape, hstep.output, hstep.size, fun n h1 h2 => ?_, hfr⟩⟩
      · obtain ⟨q1, q2⟩ := lowT_get h2 n o hno
        by_cases hj : n < 2
        · have hno' : m.get n = some o := by rw [← hsame n hj]; exact hno
          have k2 : 2 ≤ k' := by
            obtain ⟨o1, ho1⟩ := Option.isSome_iff_exists.1 (htab 1 (by decide))
            rw [← hsame 1 (by decide)] at ho1
            have := (lowT_get h2 1 o1 ho1).1; omega
          exact ((hst.holds n o trivial hno').low (hlow2 n o hj hno')).mono ⟨hstep.agree.σ, fun x hx => hφ x (hk2 x hx), fun x hx => hκ x (hk2 x hx)⟩ (fun x (hx : x < 2) => show x < k' by omega) hj (h0 n hj)
        · exact (hrel.holds n o trivial (i2 n o (by omega) hno)).low q2
      · cases hq : m'.get n with
        | none => rw [hq] at hs; cases hs
        | some o => have := (lowT_get h2 n o hq).1; omega
      · exact ⟨hk _ (by rw [hstep.agree.σ]; exact hsq) g hg, (hrel.glob g hg).2⟩
      · rcases hstep.fresh n ⟨h1, by omega⟩ with h | ⟨j, _, q1, q2, q4, q3⟩
        · exact .inl h
        · refine .inr ⟨j, ?_, q1, q2, q3⟩
          rcases q4 with h7 | h7
          · exact all2_mem e4 j h7
          · dsimp only at q1 h7; omega
end Go.Proofs.YtdbhmcldfikkmaaGreatDoor
