/- An evaluator of Go code whose memory has names of its own (20): numbers made of symbols are symbols again. -/
import Derived.Test.YtljhlnpbomehkaaEwU
namespace Go.Proofs.Ytljhlnpbomehkaa
set_option linter.unusedVariables false
set_option linter.unusedSimpArgs false

/-- (operation, symbol, number, the symbol of what comes out) -/
abbrev Der := List (BinOp × Nat × Int × Nat)
def derAsk (D : Der) : OrcF := fun ev o =>
  match o.op with
  | .binOp op _ x y _ => (match ev x, ev y with
    | .chan (some k), .int .i64 c => (D.find? fun p => decide (p.1 = op) && p.2.1 == k && p.2.2.1 == c).map fun p => .chan (some p.2.2.2)
    | _, _ => none)
  | _ => none
def DerOK (P : Program) (D : Der) (σ : Nat → Value) : Prop := ∀ p ∈ D, ∃ n : Int, σ p.2.1 = .int .i64 n ∧ ∀ (t : TypeId) (x y : Operand) (w : World),
  ((do eqGuard p.1 t x y (.int .i64 n) (.int .i64 p.2.2.1); binOp p.1 t (.int .i64 n) (.int .i64 p.2.2.1)) : Sem Value).run P w = .ok (σ p.2.2.2) w
theorem derAsk_ok {P : Program} {D : Der} {σ : Nat → Value} (h : DerOK P D σ) : AskOK P (· = σ) (derAsk D) := by
  intro ev o v he
  unfold derAsk at he
  split at he
  case h_2 => cases he
  case h_1 op t x y yt ho =>
    split at he
    case h_2 => cases he
    case h_1 k c hx hy =>
      cases hf : D.find? (fun p => decide (p.1 = op) && p.2.1 == k && p.2.2.1 == c) with
      | none => rw [hf] at he; cases he
      | some p =>
        rw [hf] at he
        simp only [Option.map_some, Option.some.injEq] at he
        subst he
        have hp := List.find?_some hf
        simp only [Bool.and_eq_true, beq_iff_eq, decide_eq_true_eq] at hp
        obtain ⟨⟨h1, h2⟩, h3⟩ := hp
        obtain ⟨n, g1, g2⟩ := h p (List.mem_of_find?_eq_some hf)
        refine ⟨by rw [ho]; rfl, fun r hr _ w => ?_⟩
        unfold execOp
        simp only [ho, hx, hy, ren_sym, hr, ren_int]
        rw [← h2, g1, ← h3, ← h1, Sem.run_bind, g2 t x y w]
        rfl
def derOrc (D : Der) : Orc := ⟨derAsk D, [], fun _ => none⟩
theorem derOrc_ok {P : Program} {D : Der} {σ : Nat → Value} (h : DerOK P D σ) : OrcOK P (· = σ) (derOrc D) := ⟨derAsk_ok h, (fun g hg => nomatch hg), fun _ _ h => nomatch h⟩
def orcOr (a b : Orc) : Orc := ⟨fun ev o => match a ev o with
  | some v => some v
  | none => b ev o, a.glob ++ b.glob, fun f => match a.hook f with
  | some m => some m
  | none => b.hook f⟩
theorem orcOr_ok {P : Program} {SQ : (Nat → Value) → Prop} {a b : Orc} (ha : OrcOK P SQ a) (hb : OrcOK P SQ b) : OrcOK P SQ (orcOr a b) := by
  refine ⟨fun ev o v he => ?_, fun g hg => (List.mem_append.1 hg).elim (ha.2.1 g) (hb.2.1 g), fun f m hm => ?_⟩
  · unfold orcOr at he
    dsimp only at he
    split at he
    · rename_i v' h'; injection he with he; subst he; exact ha.1 ev o v' h'
    · exact hb.1 ev o v he
  · unfold orcOr at hm
    dsimp only at hm
    split at hm
    · rename_i m' h'; injection hm with hm; subst hm; exact ha.2.2 f m' h'
    · exact hb.2.2 f m hm
def okKD (P : Program) (kn : KN) (D : Der) (S : List Nat) (E : ET) (fuel n : Nat) (f : FuncId) (args : Array Value) (K : KB) : Bool :=
  match (aCallK P kn (orcOr (kOrc P S E K) (derOrc D)) fuel n f args).run ⟨.lf, 0, 0, [], []⟩ with
  | some (.bool true, _) => true
  | _ => false
theorem Calls.of_treeD {P : Program} (hm : P.follows .mixedOrders = true) (hn : NameOK P) {kn : KN} (hk : KnOK P kn) {D : Der} {S : List Nat} {E : ET} {K : KB} {σ : Nat → Value} (hσ : ∀ k, (σ k).oneCell' = true) (hD : DerOK P D σ) (hE : EqOK P E) (hK : KOK K σ) (hS : SOK S σ) {fuel n : Nat} {f : FuncId} {args args' : Array Value}
    (ha : ∀ r : Ren, r.σ = σ → args.map (ren r) = args') {t : DT} (ht : t.check (okKD P kn D S E fuel n f args) K = true) (w : World) (hg : ∀ g, σ (gsym g) ≠ .nilFunc := by first | exact fun g => symF_glob rfl g | (intro g h; cases h; done)) : Calls P f args' w fun e w' => e = .returned (.bool true) ∧ RowKit.Below w.heap.size w w' := by
  obtain ⟨K', h1, h2⟩ := DT.sound t K ht hK
  unfold okKD at h2
  split at h2
  case h_2 => cases h2
  case h_1 h' he => exact Calls.of_evalK hm hn hk hσ (orcOr_ok (kOrc_ok hE h1 hS) (derOrc_ok hD)) ha (by rw [he]; rfl) rfl w hg
end Go.Proofs.Ytljhlnpbomehkaa
