/- An evaluator of Go code whose memory has names of its own (22): any oracle beside what is known of numbers; facts on two atoms. -/
import Derived.Test.YtljhlnpbomehkaaEwW
namespace Go.Proofs.Ytljhlnpbomehkaa
set_option linter.unusedVariables false
set_option linter.unusedSimpArgs false

def okKX (P : Program) (kn : KN) (X : Orc) (S : List Nat) (E : ET) (fuel n : Nat) (f : FuncId) (args : Array Value) (K : KB) : Bool :=
  match (aCallK P kn (orcOr (kOrc P S E K) X) fuel n f args).run ⟨.lf, 0, 0, [], []⟩ with
  | some (.bool true, _) => true
  | _ => false
theorem Calls.of_treeX {P : Program} (hm : P.follows .mixedOrders = true) (hn : NameOK P) {kn : KN} (hk : KnOK P kn) {X : Orc} {S : List Nat} {E : ET} {K : KB} {σ : Nat → Value} (hσ : ∀ k, (σ k).oneCell' = true) (hX : OrcOK P (· = σ) X) (hE : EqOK P E) (hK : KOK K σ) (hS : SOK S σ) {fuel n : Nat} {f : FuncId} {args args' : Array Value}
    (ha : ∀ r : Ren, r.σ = σ → args.map (ren r) = args') {t : DT} (ht : t.check (okKX P kn X S E fuel n f args) K = true) (w : World) (hg : ∀ g, σ (gsym g) ≠ .nilFunc := by first | exact fun g => symF_glob rfl g | (intro g h; cases h; done)) : Calls P f args' w fun e w' => e = .returned (.bool true) ∧ RowKit.Below w.heap.size w w' := by
  obtain ⟨K', h1, h2⟩ := DT.sound t K ht hK
  unfold okKX at h2
  split at h2
  case h_2 => cases h2
  case h_1 h' he => exact Calls.of_evalK hm hn hk hσ (orcOr_ok (kOrc_ok hE h1 hS) hX) ha (by rw [he]; rfl) rfl w hg
/-- the same atom: a symbol, a text, a number -/
def sameA : Value → Value → Bool
  | .chan (some a), .chan (some b) => a == b
  | .string s, .string t => decide (s = t)
  | .int .i64 a, .int .i64 b => a == b
  | _, _ => false
/-- what an atom stands for -/
def atomOf (σ : Nat → Value) : Value → Value
  | .chan (some k) => σ k
  | v => v
theorem sameA_ren {x v : Value} (h : sameA x v = true) (r : Ren) : ren r v = atomOf r.σ x := by
  unfold sameA at h
  split at h
  · rename_i a b
    have : a = b := by simpa using h
    subst this
    rw [ren_sym]; rfl
  · rename_i a b
    have : a = b := by simpa using h
    subst this
    simp [ren, atomOf]
  · rename_i a b
    have : a = b := by simpa using h
    subst this
    simp [ren, atomOf]
  · cases h
/-- (operation, atom, atom, what comes out) -/
abbrev Fct := List (BinOp × Value × Value × Bool)
def fctAsk (F : Fct) : OrcF := fun ev o =>
  match o.op with
  | .binOp op _ x y _ => (F.find? fun p => decide (p.1 = op) && (sameA p.2.1 (ev x) && sameA p.2.2.1 (ev y))).map fun p => .bool p.2.2.2
  | _ => none
def FctOK (P : Program) (F : Fct) (σ : Nat → Value) : Prop := ∀ p ∈ F, ∀ (t : TypeId) (x y : Operand) (w : World),
  ((do eqGuard p.1 t x y (atomOf σ p.2.1) (atomOf σ p.2.2.1); binOp p.1 t (atomOf σ p.2.1) (atomOf σ p.2.2.1)) : Sem Value).run P w = .ok (.bool p.2.2.2) w
theorem fctAsk_ok {P : Program} {F : Fct} {σ : Nat → Value} (h : FctOK P F σ) : AskOK P (· = σ) (fctAsk F) := by
  intro ev o v he
  unfold fctAsk at he
  split at he
  case h_2 => cases he
  case h_1 op t x y yt ho =>
    cases hf : F.find? (fun p => decide (p.1 = op) && (sameA p.2.1 (ev x) && sameA p.2.2.1 (ev y))) with
    | none => rw [hf] at he; cases he
    | some p =>
      rw [hf] at he
      simp only [Option.map_some, Option.some.injEq] at he
      subst he
      have hp := List.find?_some hf
      simp only [Bool.and_eq_true, decide_eq_true_eq] at hp
      obtain ⟨h1, h2, h3⟩ := hp
      have g := h p (List.mem_of_find?_eq_some hf)
      refine ⟨by rw [ho]; rfl, fun r hr _ w => ?_⟩
      have e1 : ren r (ev x) = atomOf σ p.2.1 := by rw [sameA_ren h2, hr]
      have e2 : ren r (ev y) = atomOf σ p.2.2.1 := by rw [sameA_ren h3, hr]
      unfold execOp
      simp only [ho, e1, e2, ren_bool]
      rw [← h1, Sem.run_bind, g t x y w]
      rfl
def fctOrc (F : Fct) : Orc := ⟨fctAsk F, [], fun _ => none⟩
theorem fctOrc_ok {P : Program} {F : Fct} {σ : Nat → Value} (h : FctOK P F σ) : OrcOK P (· = σ) (fctOrc F) := ⟨fctAsk_ok h, (fun g hg => nomatch hg), fun _ _ h => nomatch h⟩
end Go.Proofs.Ytljhlnpbomehkaa
