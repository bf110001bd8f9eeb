/- GateMoved: the walk of the statement, by hand over heaps of the evaluator's. -/
import Derived.Test.YtdbhmcldfikkmaaGreatDoorGateMH
import Derived.Test.YtdbhmcldfikkmaaGreatDoorGateMH
import Derived.Test.YtdbhmcldfikkmaaGreatDoorBase
import Derived.Deep.DeepCutAuto
import Derived.Deep.RegionLaw
import Derived.Deep.Light
import Derived.ProofKit
namespace Go.Proofs.YtdbhmcldfikkmaaGreatDoor
open Go.RowKit
set_option linter.unusedVariables false
set_option linter.unusedSimpArgs false

def gmSym (f h : Int) : List (Nat × Value) := [(0, .int .i64 f), (1, .int .i64 h), (2, .int .i64 (Int.tmod 1 h)), (3, .int .i64 (8 + h)), (5000000, .nilFunc), (5000001, .nilFunc)]
def gmσ (f h : Int) : Nat → Value := symF (gmSym f h)
theorem gmA_ok (f h : Int) (h1 : 1 ≤ h) (h2 : h ≤ 6) : ArcOK Tryz.prog gmA (gmσ f h) := by
  intro p hp t x y w
  simp only [gmA, List.mem_cons, List.not_mem_nil, or_false] at hp
  rcases hp with rfl | rfl
  · have hne : h ≠ 0 := by omega
    have hw : IntKind.i64.wrap (Int.tmod 1 h) = Int.tmod 1 h := by
      have : h = 1 ∨ h = 2 ∨ h = 3 ∨ h = 4 ∨ h = 5 ∨ h = 6 := by omega
      rcases this with rfl | rfl | rfl | rfl | rfl | rfl <;> rfl
    simp [atomOf, gmσ, symF, gmSym, eqGuard, binOp, Op.intArith, Op.intDiv, hne, hw]
  · exact arith_run (a := 8) (b := h) (c := 8 + h) (.inl ⟨rfl, rfl⟩) (by omega) (by omega) t x y w
theorem gmM_ok (f h : Int) (h1 : 1 ≤ h) : MncOK gmM (gmσ f h) := by
  intro p hp
  simp only [gmM, List.mem_cons, List.not_mem_nil, or_false] at hp
  subst hp
  exact ⟨h, 1, by simp [atomOf, gmσ, symF, gmSym], by simp [atomOf], by simp [atomOf, gmσ, symF, gmSym]; omega⟩
theorem gmOrc_ok {f h : Int} (h1 : 1 ≤ h) (h2 : h ≤ 6) {F : Fct} (hF : FctOK Tryz.prog F (gmσ f h)) : OrcLOK Tryz.prog (· = gmσ f h) (gmOrc F) := by
  have h0 : gmσ f h (gsym 0) = .nilFunc := by simp [gsym, gmσ, symF, gmSym]
  have h1' : gmσ f h (gsym 1) = .nilFunc := by simp [gsym, gmσ, symF, gmSym]
  have hsq : ∀ x, x = gmσ f h → SQG x := fun x hx => by rw [hx]; exact ⟨h0, h1'⟩
  exact OrcLOK.mk' (orcOr_ok (fctOrc_ok hF) (orcOr_ok (arcOrc_ok (gmA_ok f h h1 h2)) (orcOr_ok (mncOrc_ok (gmM_ok f h h1)) (OrcOK.weak hsq (globG _))))) gmHook_ok
theorem gmF_ok (f h : Int) (h1 : 1 ≤ h) (h2 : h ≤ 6) : FctOK Tryz.prog gmF (gmσ f h) := by
  intro p hp t x y w
  simp only [gmF, List.mem_cons, List.not_mem_nil, or_false] at hp
  rcases hp with rfl | rfl
  all_goals (simp [atomOf, gmσ, symF, gmSym, eqGuard, binOp, Op.intCmp]; try omega)
theorem gmFa_ok (f h : Int) (h1 : f < 8) : FctOK Tryz.prog gmFa (gmσ f h) := by
  intro p hp t x y w
  simp only [gmFa, List.mem_cons, List.not_mem_nil, or_false] at hp
  subst hp
  simp [atomOf, gmσ, symF, gmSym, eqGuard, binOp, Op.intCmp]; try omega
theorem gmFb_ok (f h : Int) (h1 : 8 ≤ f) (h2 : 8 + h ≤ f) : FctOK Tryz.prog gmFb (gmσ f h) := by
  intro p hp t x y w
  simp only [gmFb, List.mem_cons, List.not_mem_nil, or_false] at hp
  rcases hp with rfl | rfl
  all_goals (simp [atomOf, gmσ, symF, gmSym, eqGuard, binOp, Op.intCmp]; try omega)
theorem gmFc_ok (f h : Int) (h1 : 8 ≤ f) (h2 : f < 8 + h) : FctOK Tryz.prog gmFc (gmσ f h) := by
  intro p hp t x y w
  simp only [gmFc, List.mem_cons, List.not_mem_nil, or_false] at hp
  rcases hp with rfl | rfl
  all_goals (simp [atomOf, gmσ, symF, gmSym, eqGuard, binOp, Op.intCmp]; try omega)
theorem gmFh_ok (f h n : Int) (h1 : 8 ≤ f) (h2 : f < 8 + h) : FctOK Tryz.prog (gmFh n (decide (n < 8 + h))) (gmσ f h) := by
  intro p hp t x y w
  simp only [gmFh, List.mem_cons, List.not_mem_nil, or_false] at hp
  rcases hp with rfl | rfl | rfl
  all_goals (simp [atomOf, gmσ, symF, gmSym, eqGuard, binOp, Op.intCmp]; try omega)
theorem gmσ_glob {f h : Int} : ∀ s : Nat → Value, s = gmσ f h → ∀ (g k : Nat), 2 ≤ k → s (gsym g) = .nilFunc → g < k := by
  intro s hs g k hk hg
  subst hs
  rcases Nat.lt_or_ge g 2 with h | h
  · omega
  · exfalso
    have n : ∀ k : Nat, k < 5000002 → ¬ k = 5000000 + g := fun k hk => by omega
    simp only [gsym, gmσ, symF, gmSym] at hg
    simp only [n _ (show 0 < 5000002 by decide), n 1 (by decide), n 2 (by decide), n 3 (by decide), n 5000000 (by decide), n 5000001 (by decide), if_false] at hg
    cases hg
/-- the two tables lie in m -/
def TabsOK (s t : TypeId) (m : Tr) : Prop := m.get 0 = some (.row gateLow s 0 false) ∧ m.get 1 = some (.row gateHigh t 0 false)
theorem tabsOK0 (s t : TypeId) (g : Option AObj) : TabsOK s t (gmT s t g []) := ⟨rfl, rfl⟩
theorem tabsOK97 (s t : TypeId) (g x : Option AObj) : TabsOK s t (gmT s t g [(97, x)]) := ⟨rfl, rfl⟩
theorem tabsOK249 (s t : TypeId) (g x : Option AObj) : TabsOK s t (gmT s t g [(249, x)]) := ⟨rfl, rfl⟩
theorem tabsOKn (s t : TypeId) : TabsOK s t (twoRows gateLow gateHigh s t) := ⟨rfl, rfl⟩
/-- a world with the heap m: no object of it but the tables lies below B -/
structure Gs (f h : Int) (m : Tr) (k B : Nat) (ρ : Ren) (w : World) : Prop where
  σ : ρ.σ = gmσ f h
  st : StH m k ρ w
  low : ∀ n, 2 ≤ n → n < k → B ≤ ρ.φ n
theorem StH.keep {m : Tr} {k : Nat} {ρ : Ren} {w w' : World} (h : StH m k ρ w) (hw : ∀ j, j < w.heap.size → w'.heap[j]? = w.heap[j]?) : StH m k ρ w' :=
  ⟨h.inj, fun n o hD ho => (h.holds n o hD ho).mono (Agree.refl _ _) (fun _ hn => hn) (h.known n hD (by rw [ho]; rfl)) (hw _ (h.holds n o hD ho).lt), h.known, h.sym, h.glob⟩
theorem Gs.keep {f h : Int} {m : Tr} {k B : Nat} {ρ : Ren} {w w' : World} (g : Gs f h m k B ρ w) (hb : Below w.heap.size w w') : Gs f h m k B ρ w' :=
  ⟨g.σ, g.st.keep (fun j hj => hb.block j hj), g.low⟩
theorem stepG {f h : Int} (h1 : 1 ≤ h) (h2 : h ≤ 6) {F : Fct} (hF : FctOK Tryz.prog F (gmσ f h)) {fn : FuncId} {args : List Value} {m m' : Tr} {k k' : Nat} {v : Value} (hr : runToG Tryz.prog (gmOrc F) (cFnL Tryz.prog) noTab fn args m k m' k' v = true)
    {s t : TypeId} (hm : TabsOK s t m) (hm' : TabsOK s t m') (hk : 2 ≤ k') {B : Nat} {ρ : Ren} {w0 w : World} (g : Gs f h m k B ρ w) (hb : Below B w0 w) (hB : B ≤ w.heap.size) {args' : Array Value} (ha : args'.toList = args.map (ren ρ)) :
    Calls Tryz.prog fn args' w fun e w' => ∃ ρ' : Ren, e = .returned (ren ρ' v) ∧ Gs f h m' k' B ρ' w' ∧ Below B w0 w' ∧ OutG m k k' ρ w ρ' w' := by
  have hlow : ∀ x, lowO 2 (.row gateLow x 0 false) = true := fun x => by rfl
  have hhigh : ∀ x, lowO 2 (.row gateHigh x 0 false) = true := fun x => by rfl
  refine (calls_of_runToG evMixed evNames (gmOrc_ok h1 h2 hF) (tableL_self _) (noTab_ok _ _) hr (fun j hj => ?_) (fun j hj => ?_) (fun j o hj ho => ?_) (fun s hs g hg => gmσ_glob s hs g _ hk hg) g.σ g.st ha).mono ?_
  · rcases (show j = 0 ∨ j = 1 by omega) with rfl | rfl
    · rw [hm.1, hm'.1]
    · rw [hm.2, hm'.2]
  · rcases (show j = 0 ∨ j = 1 by omega) with rfl | rfl
    · rw [hm.1]; rfl
    · rw [hm.2]; rfl
  · rcases (show j = 0 ∨ j = 1 by omega) with rfl | rfl
    · rw [hm.1] at ho; injection ho with ho; subst ho; exact hlow s
    · rw [hm.2] at ho; injection ho with ho; subst ho; exact hhigh t
  · rintro e w' ⟨ρ', rfl, hst, ho⟩
    refine ⟨ρ', rfl, ⟨ho.σ.trans g.σ, hst, fun n hn hn' => ?_⟩, hb.trans ⟨ho.os, ho.tape, ho.output, ho.size, fun j hj => ho.frame j (by omega) (fun n hn2 hn _ e => by have := g.low n hn2 hn; omega)⟩, ho⟩
    by_cases hnk : n < k
    · rw [ho.φ n hnk]; exact g.low n hn hnk
    · rcases ho.fresh n (by omega) hn' with hq | ⟨j, q0, q1, _, q3⟩
      · omega
      · rw [q3]; exact g.low j q0 q1
theorem get249 (s t : TypeId) (g x : Option AObj) : (gmT s t g [(249, x)]).get 249 = x := by rfl
def SubT (t u : Tr) : Prop := ∀ j o, t.get j = some o → u.get j = some o
theorem SubT.lf (u : Tr) : SubT .lf u := fun j o e => by rw [Tr.get_lf] at e; cases e
theorem SubT.nd {o : Option AObj} {l r l' r' : Tr} (hl : SubT l l') (hr : SubT r r') : SubT (.nd o l r) (.nd o l' r') := by
  intro j x e
  cases j with
  | zero => exact e
  | succ m =>
    simp only [Tr.get] at e ⊢
    by_cases hm : m % 2 = 0
    · simp only [hm, if_true] at e ⊢; exact hl _ _ e
    · simp only [hm, if_false] at e ⊢; exact hr _ _ e
theorem sub3 {s t : TypeId} {g : Option AObj} {l r l' r' : Tr} : SubT (gmT s t g []) (.nd (some (.row gateLow s 0 false)) (.nd (some (.row gateHigh t 0 false)) l r) (.nd g l' r')) :=
  SubT.nd (SubT.nd (SubT.lf _) (SubT.lf _)) (SubT.nd (SubT.lf _) (SubT.lf _))
theorem inT2_97 (s t : TypeId) (g x : Option AObj) : ∀ j o, (gmT s t g []).get j = some o → (gmT s t g [(97, x)]).get j = some o := sub3
theorem in3_249 (s t : TypeId) (n : Nat) (x : Option AObj) : ∀ j o, (gmT3 s t n).get j = some o → (gmT s t (gmRow (gmGate 1 true (gI (n - 8)) 4)) [(249, x)]).get j = some o := sub3
theorem newG {f h : Int} (h1 : 1 ≤ h) (h2 : h ≤ 6) {s t : TypeId} {w : World} (g0 : w.heap[0]? = some (.cells gateLow.toArray s (0, 0))) (g1 : w.heap[1]? = some (.cells gateHigh.toArray t (0, 0))) :
    Calls Tryz.prog 5 #[.int .i64 32, .int .i64 h] w fun e w' => ∃ ρ : Ren, e = .returned (.tuple #[.pointer (some ⟨ρ.φ 2, 0, none⟩), .int .i64 0]) ∧ Gs f h (gmT0 s t) 3 w.heap.size ρ w' ∧ Below w.heap.size w w' := by
  have hone : ∀ q, (gmσ f h q).oneCell' = true := symF_one (by intro p hp; simp [gmSym] at hp; rcases hp with rfl | rfl | rfl | rfl | rfl | rfl <;> rfl)
  have hst : StH (twoRows gateLow gateHigh s t) 2 ⟨fun g => g, fun _ => 0, gmσ f h⟩ w := ⟨fun a b _ _ _ _ e => e, fun n o _ ho => twoRows_holds rfl rfl g0 g1 n o ho, fun n _ hs => (by
    rcases Nat.lt_or_ge n 2 with h | h
    · exact h
    · rw [twoRows_none n h] at hs; cases hs), hone, fun g hg => ⟨gmσ_glob _ rfl g 2 (Nat.le_refl _) hg, rfl⟩⟩
  refine (stepG (args' := #[.int .i64 32, .int .i64 h]) h1 h2 (gmF_ok f h h1 h2) (gmNew s t) (tabsOKn s t) (tabsOK0 s t _) (by decide) (B := w.heap.size) (w0 := w) ⟨rfl, hst, fun n h1 h2 => by omega⟩ (Below.refl _ _) (Nat.le_refl _) (by simp [ren, gI, gmσ, symF, gmSym])).mono ?_
  rintro e w' ⟨ρ', rfl, hg, hb, _⟩
  exact ⟨ρ', by simp [ren, gmP, renA, gI], hg, hb⟩
theorem lookG {f h : Int} (h1 : 1 ≤ h) (h2 : h ≤ 6) {s t : TypeId} {B : Nat} {ρ : Ren} {w0 w : World} (g : Gs f h (gmT0 s t) 3 B ρ w) (hb : Below B w0 w) (hB : B ≤ w.heap.size) :
    Calls Tryz.prog 7 #[] w fun e w' => ∃ ρ' : Ren, e = .returned (.agg #[.int .i64 5, .int .i64 0, .int .i64 0, .string ⟨#[97]⟩, .string ⟨#[98]⟩, .string ⟨#[]⟩, .string ⟨#[]⟩, .int .i64 0, .int .i64 0, .int .i64 0, .bool false, .int .i64 0]) ∧ ρ'.φ 2 = ρ.φ 2 ∧ Gs f h (gmT0 s t) 3 B ρ' w' ∧ Below B w0 w' := by
  refine (stepG (args' := #[]) h1 h2 (gmF_ok f h h1 h2) (gmLook s t) (tabsOK0 s t _) (tabsOK0 s t _) (by decide) g hb hB rfl).mono ?_
  rintro e w' ⟨ρ', rfl, hg, hb, ho⟩
  exact ⟨ρ', by simp [ren, gI], ho.φ 2 (by decide), hg, hb⟩
theorem submitG {f h : Int} (h1 : 1 ≤ h) (h2 : h ≤ 6) {s t : TypeId} {B p : Nat} {ρ : Ren} {w0 w : World} (g : Gs f h (gmT0 s t) 3 B ρ w) (hp : ρ.φ 2 = p) (hb : Below B w0 w) (hB : B ≤ w.heap.size) :
    Calls Tryz.prog 6 #[.pointer (some ⟨p, 0, none⟩), .agg #[.int .i64 5, .int .i64 0, .int .i64 0, .string ⟨#[97]⟩, .string ⟨#[98]⟩, .string ⟨#[]⟩, .string ⟨#[]⟩, .int .i64 0, .int .i64 0, .int .i64 0, .bool false, .int .i64 0]] w fun e w' => ∃ ρ' : Ren, e = .returned (.tuple #[.agg #[.int .i64 5, .int .i64 1, .int .i64 1, .string ⟨#[97]⟩, .string ⟨#[98]⟩, .string ⟨#[]⟩, .string ⟨#[]⟩, .int .i64 0, .int .i64 0, .int .i64 0, .bool false, .int .i64 0], .int .i64 0]) ∧ ρ'.φ 2 = p ∧ Gs f h (gmT1 s t) 3 B ρ' w' ∧ Below B w0 w' := by
  refine (stepG (args' := #[.pointer (some ⟨p, 0, none⟩), .agg #[.int .i64 5, .int .i64 0, .int .i64 0, .string ⟨#[97]⟩, .string ⟨#[98]⟩, .string ⟨#[]⟩, .string ⟨#[]⟩, .int .i64 0, .int .i64 0, .int .i64 0, .bool false, .int .i64 0]]) h1 h2 (gmF_ok f h h1 h2) (gmSubmit s t) (tabsOK0 s t _) (tabsOK0 s t _) (by decide) g hb hB (by simp [ren, gI, gmP, renA, hp])).mono ?_
  rintro e w' ⟨ρ', rfl, hg, hb, ho⟩
  exact ⟨ρ', by simp [ren, gI], (ho.φ 2 (by decide)).trans hp, hg, hb⟩
theorem gmT2_in (s t : TypeId) : ∀ j o, (gmT2 s t).get j = some o → (gmT2 s t).get j = some o := fun _ _ h => h
theorem tickG {f h : Int} (h1 : 1 ≤ h) (h2 : h ≤ 6) {s t : TypeId} {B p : Nat} {ρ : Ren} {w0 w : World} (g : Gs f h (gmT1 s t) 3 B ρ w) (hp : ρ.φ 2 = p) (hb : Below B w0 w) (hB : B ≤ w.heap.size) :
    Calls Tryz.prog 8 #[.pointer (some ⟨p, 0, none⟩)] w fun e w' => ∃ (ρ' : Ren) (v : Value), e = .returned v ∧ ρ'.φ 2 = p ∧ Gs f h (gmT2 s t) 3 B ρ' w' ∧ Below B w0 w' ∧ (∀ j, j < w.heap.size → 2 ≤ j → j ≠ p → w'.heap[j]? = w.heap[j]?) := by
  refine (stepG (args' := #[.pointer (some ⟨p, 0, none⟩)]) h1 h2 (gmF_ok f h h1 h2) (gmTick s t) (tabsOK0 s t _) (tabsOK0 s t _) (by decide) g hb hB (by simp [ren, gI, gmP, renA, hp])).mono ?_
  rintro e w' ⟨ρ', rfl, hg, hb, ho⟩
  refine ⟨ρ', _, rfl, (ho.φ 2 (by decide)).trans hp, ⟨hg.σ, hg.st.shrink (fun _ _ h => h) (by rfl) (fun g' hg' => gmσ_glob _ hg.σ g' 3 (by decide) hg'), fun n q1 q2 => hg.low n q1 (by omega)⟩, hb, fun j hj _ hne => ho.frame j hj (fun n q1 q2 _ => ?_)⟩
  obtain rfl : n = 2 := by omega
  rw [hp]; exact fun e => hne e.symm
theorem msgG {f h : Int} (h1 : 1 ≤ h) (h2 : h ≤ 6) {s t : TypeId} {n : Nat} (hok : okMsg s t n = true) {B p : Nat} {ρ : Ren} {w0 w : World} (g : Gs f h (gmT2 s t) 3 B ρ w) (hp : ρ.φ 2 = p) (hb : Below B w0 w) (hB : B ≤ w.heap.size) {args' : Array Value} (ha : args' = #[.int .i64 f, .int .i64 32, gmW (n : Int)]) :
    Calls Tryz.prog 10 args' w fun e w' => ∃ ρ' : Ren, e = .returned (ren ρ' gmMv) ∧ ρ'.φ 2 = p ∧ Gs f h (gmTm s t n) 98 B ρ' w' ∧ Below B w0 w' := by
  subst ha
  refine (stepG (args' := #[.int .i64 f, .int .i64 32, gmW (n : Int)]) h1 h2 (gmF_ok f h h1 h2) hok (tabsOK0 s t _) (tabsOK97 s t _ _) (by decide) g hb hB (by simp [ren, gI, gmW, g.σ, gmσ, symF, gmSym])).mono ?_
  rintro e w' ⟨ρ', rfl, hg, hb, ho⟩
  exact ⟨ρ', rfl, (ho.φ 2 (by decide)).trans hp, hg, hb⟩
/-- what the gate makes of it: nothing, or it asks the other host -/
theorem hearG {f h : Int} (h1 : 1 ≤ h) (h2 : h ≤ 6) {s t : TypeId} {n : Nat} (hn : n ≤ 100) (hL : ∀ i, i < 8 → okHearN gmFc s t i = true) (hN : ∀ i, 8 ≤ i → i < 101 → okHearN (gmFh (Int.ofNat i) false) s t i = true) (hY : ∀ i, 8 ≤ i → i < 14 → okHearY s t i = true)
    {B p : Nat} {ρ : Ren} {w0 w : World} (g : Gs f h (gmTm s t n) 98 B ρ w) (hp : ρ.φ 2 = p) (hb : Below B w0 w) (hB : B ≤ w.heap.size) :
    Calls Tryz.prog 9 #[.pointer (some ⟨p, 0, none⟩), ren ρ gmMv] w fun e w' => ((¬ (8 ≤ f ∧ f < 8 + h ∧ 8 ≤ n ∧ (n : Int) < 8 + h) → e = .returned (.slice none 0 0) ∧ Below B w0 w') ∧ ((8 ≤ f ∧ f < 8 + h ∧ 8 ≤ n ∧ (n : Int) < 8 + h) →
      ∃ (ρ' : Ren) (b c : Nat), e = .returned (.slice (some ⟨b, 0, none⟩) 1 c) ∧ w'.cell? ⟨b, 1, none⟩ = some (.int .i64 n) ∧ ρ'.φ 2 = p ∧ Gs f h (gmT3 s t n) 3 B ρ' w' ∧ Below B w0 w')) := by
  have ha : ∀ r : Ren, r = ρ → (#[.pointer (some ⟨p, 0, none⟩), ren ρ gmMv] : Array Value).toList = [gmP, gmMv].map (ren r) := fun r hr => by
    subst hr; simp [ren, gmP, renA, hp]
  have ib : ∀ j o, (gmT2 s t).get j = some o → (gmTm s t n).get j = some o := inT2_97 s t _ _
  have g2 : Gs f h (gmT2 s t) 98 B ρ w := ⟨g.σ, (g.st.shrink (k := 98) ib (by rfl) (fun g' hg' => gmσ_glob _ g.σ g' 98 (by decide) hg')), g.low⟩
  have nil : ∀ {m : Tr} {F : Fct}, FctOK Tryz.prog F (gmσ f h) → TabsOK s t m → Gs f h m 98 B ρ w → runToG Tryz.prog (gmOrc F) (cFnL Tryz.prog) noTab 9 [gmP, gmMv] m 98 (gmT2 s t) 98 nilS = true →
      Calls Tryz.prog 9 #[.pointer (some ⟨p, 0, none⟩), ren ρ gmMv] w fun e w' => e = .returned (.slice none 0 0) ∧ Below B w0 w' := fun hF hm gg hr => by
    refine (stepG h1 h2 hF hr hm (tabsOK0 s t _) (by decide) gg hb hB (ha ρ rfl)).mono ?_
    rintro e w' ⟨ρ', rfl, _, hb', _⟩
    exact ⟨by simp [nilS, ren], hb'⟩
  by_cases c1 : 8 ≤ f
  · by_cases c2 : f < 8 + h
    · by_cases c3 : 8 ≤ n
      · by_cases c4 : (n : Int) < 8 + h
        · have hF := gmFh_ok f h n c1 c2
          rw [decide_eq_true c4] at hF
          refine (stepG h1 h2 hF (hY n c3 (by omega)) (tabsOK97 s t _ _) (tabsOK249 s t _ _) (by decide) g hb hB (ha ρ rfl)).mono ?_
          rintro e w' ⟨ρ', rfl, hg, hb', ho⟩
          refine ⟨fun hc => absurd ⟨c1, c2, c3, c4⟩ hc, fun _ => ?_⟩
          obtain ⟨c, fr, b1, b2, b3, b4, b5⟩ := hg.st.holds 249 _ trivial (get249 s t _ _)
          have b2 := b2.eq
          simp [ren] at b2
          have hc1 : c[1]? = some (.int .i64 n) := by
            have h0 : (c.toList.take 3)[1]? = c[1]? := by rw [List.getElem?_take, if_pos (by decide), Array.getElem?_toList]
            rw [← h0, ← b2]; simp [gI, ren]
          exact ⟨ρ', ρ'.φ 249, 1, by simp [ren, renB, renA, renCap, capTop], by simp [World.cell?, b1, hc1], (ho.φ 2 (by decide)).trans hp, ⟨hg.σ, hg.st.shrink (in3_249 s t n _) (by rfl) (fun g' hg' => gmσ_glob _ hg.σ g' 3 (by decide) hg'), fun n q1 q2 => hg.low n q1 (by omega)⟩, hb'⟩
        · have hF := gmFh_ok f h n c1 c2
          rw [decide_eq_false c4] at hF
          exact (nil hF (tabsOK97 s t _ _) g (hN n c3 (by omega))).mono fun e w' hq => ⟨fun _ => hq, fun hc => absurd hc.2.2.2 c4⟩
      · exact (nil (gmFc_ok f h c1 c2) (tabsOK97 s t _ _) g (hL n (by omega))).mono fun e w' hq => ⟨fun _ => hq, fun hc => absurd hc.2.2.1 c3⟩
    · exact (nil (gmFb_ok f h c1 (by omega)) (tabsOK0 s t _) g2 (gmHearB s t)).mono fun e w' hq => ⟨fun _ => hq, fun hc => absurd hc.2.1 c2⟩
  · exact (nil (gmFa_ok f h (by omega)) (tabsOK0 s t _) g2 (gmHearA s t)).mono fun e w' hq => ⟨fun _ => hq, fun hc => absurd hc.1 c1⟩
theorem ansG {f h : Int} (h1 : 1 ≤ h) (h2 : h ≤ 6) {s t : TypeId} {n : Nat} (hok : okAns s t n = true) {B p : Nat} {ρ : Ren} {w0 w : World} (g : Gs f h (gmT3 s t n) 3 B ρ w) (hp : ρ.φ 2 = p) (hb : Below B w0 w) (hB : B ≤ w.heap.size) :
    Calls Tryz.prog 12 #[.pointer (some ⟨p, 0, none⟩)] w fun e w' => e = .returned (.slice none 0 0) ∧ Below B w0 w' := by
  refine (stepG (args' := #[.pointer (some ⟨p, 0, none⟩)]) h1 h2 (gmF_ok f h h1 h2) hok (tabsOK0 s t _) (tabsOK0 s t _) (by decide) g hb hB (by simp [ren, gI, gmP, renA, hp])).mono ?_
  rintro e w' ⟨ρ', rfl, _, hb, ho⟩
  exact ⟨by simp [nilS, ren], hb⟩
end Go.Proofs.YtdbhmcldfikkmaaGreatDoor
