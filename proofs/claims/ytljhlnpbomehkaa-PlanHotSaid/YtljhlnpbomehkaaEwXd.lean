/- An evaluator of Go code whose memory has names of its own (22b): what operations on atoms come to, atoms again. -/
import Derived.Test.YtljhlnpbomehkaaEwX
namespace Go.Proofs.Ytljhlnpbomehkaa
set_option linter.unusedVariables false
set_option linter.unusedSimpArgs false

/-- (operation, atom, atom, the atom that comes out) -/
abbrev Arc := List (BinOp × Value × Value × Value)
def arcAsk (F : Arc) : OrcF := fun ev o =>
  match o.op with
  | .binOp op _ x y _ => (F.find? fun p => decide (p.1 = op) && (sameA p.2.1 (ev x) && (sameA p.2.2.1 (ev y) && sameA p.2.2.2 p.2.2.2))).map fun p => p.2.2.2
  | _ => none
def ArcOK (P : Program) (F : Arc) (σ : Nat → Value) : Prop := ∀ p ∈ F, ∀ (t : TypeId) (x y : Operand) (w : World),
  ((do eqGuard p.1 t x y (atomOf σ p.2.1) (atomOf σ p.2.2.1); binOp p.1 t (atomOf σ p.2.1) (atomOf σ p.2.2.1)) : Sem Value).run P w = .ok (atomOf σ p.2.2.2) w
theorem arcAsk_ok {P : Program} {F : Arc} {σ : Nat → Value} (h : ArcOK P F σ) : AskOK P (· = σ) (arcAsk F) := by
  intro ev o v he
  unfold arcAsk at he
  split at he
  case h_2 => cases he
  case h_1 op t x y yt ho =>
    cases hf : F.find? (fun p => decide (p.1 = op) && (sameA p.2.1 (ev x) && (sameA p.2.2.1 (ev y) && sameA p.2.2.2 p.2.2.2))) with
    | none => rw [hf] at he; cases he
    | some p =>
      rw [hf] at he
      simp only [Option.map_some, Option.some.injEq] at he
      subst he
      have hp := List.find?_some hf
      simp only [Bool.and_eq_true, decide_eq_true_eq] at hp
      obtain ⟨h1, h2, h3, h4⟩ := hp
      have g := h p (List.mem_of_find?_eq_some hf)
      refine ⟨by rw [ho]; rfl, fun r hr _ w => ?_⟩
      have e1 : ren r (ev x) = atomOf σ p.2.1 := by rw [sameA_ren h2, hr]
      have e2 : ren r (ev y) = atomOf σ p.2.2.1 := by rw [sameA_ren h3, hr]
      have e3 : ren r p.2.2.2 = atomOf σ p.2.2.2 := by rw [sameA_ren h4, hr]
      unfold execOp
      simp only [ho, e1, e2, e3]
      rw [← h1, Sem.run_bind, g t x y w]
      rfl
def arcOrc (F : Arc) : Orc := ⟨arcAsk F, [], fun _ => none⟩
theorem arcOrc_ok {P : Program} {F : Arc} {σ : Nat → Value} (h : ArcOK P F σ) : OrcOK P (· = σ) (arcOrc F) := ⟨arcAsk_ok h, (fun g hg => nomatch hg), fun _ _ h => nomatch h⟩
/-- (min?, atom, atom, the atom that comes out) -/
abbrev Mnc := List (Bool × Value × Value × Value)
def mncAsk (F : Mnc) : OrcF := fun ev o =>
  match o.op with
  | .call c => (match c.callee, c.args.toList with
    | .builtin .min, [x, y] => (F.find? fun p => p.1 && (sameA p.2.1 (ev x) && (sameA p.2.2.1 (ev y) && sameA p.2.2.2 p.2.2.2))).map fun p => p.2.2.2
    | .builtin .max, [x, y] => (F.find? fun p => !p.1 && (sameA p.2.1 (ev x) && (sameA p.2.2.1 (ev y) && sameA p.2.2.2 p.2.2.2))).map fun p => p.2.2.2
    | _, _ => none)
  | _ => none
def MncOK (F : Mnc) (σ : Nat → Value) : Prop := ∀ p ∈ F, ∃ a b : Int, atomOf σ p.2.1 = .int .i64 a ∧ atomOf σ p.2.2.1 = .int .i64 b ∧ atomOf σ p.2.2.2 = .int .i64 (if p.1 = true then (if b < a then b else a) else (if a < b then b else a))
theorem mncAsk_ok {P : Program} {F : Mnc} {σ : Nat → Value} (h : MncOK F σ) : AskOK P (· = σ) (mncAsk F) := by
  intro ev o v he
  unfold mncAsk at he
  split at he
  case h_2 => cases he
  case h_1 c ho =>
    split at he
    case h_3 => cases he
    case h_1 x y hc ha =>
      cases hf : F.find? (fun p => p.1 && (sameA p.2.1 (ev x) && (sameA p.2.2.1 (ev y) && sameA p.2.2.2 p.2.2.2))) with
      | none => rw [hf] at he; cases he
      | some p =>
        rw [hf] at he
        simp only [Option.map_some, Option.some.injEq] at he
        subst he
        have hp := List.find?_some hf
        simp only [Bool.and_eq_true] at hp
        obtain ⟨h1, h2, h3, h4⟩ := hp
        obtain ⟨a, b, g1, g2, g3⟩ := h p (List.mem_of_find?_eq_some hf)
        refine ⟨by rw [ho]; rfl, fun r hr _ w => ?_⟩
        have e1 : ren r (ev x) = .int .i64 a := by rw [sameA_ren h2, hr, g1]
        have e2 : ren r (ev y) = .int .i64 b := by rw [sameA_ren h3, hr, g2]
        have e3 := (by rw [sameA_ren h4, hr] : ren r p.2.2.2 = atomOf σ p.2.2.2).trans g3
        have e4 : c.args = #[x, y] := by apply Array.ext'; simpa using ha
        rw [e3, h1]
        unfold execOp
        simp [ho, resolve, hc, e4, invoke, builtin, Builtin.min_, Builtin.min2, e1, e2]
    case h_2 x y hc ha =>
      cases hf : F.find? (fun p => !p.1 && (sameA p.2.1 (ev x) && (sameA p.2.2.1 (ev y) && sameA p.2.2.2 p.2.2.2))) with
      | none => rw [hf] at he; cases he
      | some p =>
        rw [hf] at he
        simp only [Option.map_some, Option.some.injEq] at he
        subst he
        have hp := List.find?_some hf
        simp only [Bool.and_eq_true] at hp
        obtain ⟨h1, h2, h3, h4⟩ := hp
        obtain ⟨a, b, g1, g2, g3⟩ := h p (List.mem_of_find?_eq_some hf)
        refine ⟨by rw [ho]; rfl, fun r hr _ w => ?_⟩
        have e1 : ren r (ev x) = .int .i64 a := by rw [sameA_ren h2, hr, g1]
        have e2 : ren r (ev y) = .int .i64 b := by rw [sameA_ren h3, hr, g2]
        have e3 := (by rw [sameA_ren h4, hr] : ren r p.2.2.2 = atomOf σ p.2.2.2).trans g3
        have e4 : c.args = #[x, y] := by apply Array.ext'; simpa using ha
        have h1' : p.1 = false := by simpa using h1
        rw [e3, h1']
        unfold execOp
        simp [ho, resolve, hc, e4, invoke, builtin, Builtin.max_, Builtin.max2, e1, e2]
def mncOrc (F : Mnc) : Orc := ⟨mncAsk F, [], fun _ => none⟩
theorem mncOrc_ok {P : Program} {F : Mnc} {σ : Nat → Value} (h : MncOK F σ) : OrcOK P (· = σ) (mncOrc F) := ⟨mncAsk_ok h, (fun g hg => nomatch hg), fun _ _ h => nomatch h⟩
theorem wrap_id {n : Int} (h1 : -9223372036854775808 ≤ n) (h2 : n ≤ 9223372036854775807) : IntKind.i64.wrap n = n := by
  show (if decide (n % 18446744073709551616 ≥ 9223372036854775808) = true then n % 18446744073709551616 - 18446744073709551616 else n % 18446744073709551616) = n
  simp only [decide_eq_true_eq]
  split <;> omega
theorem arith_run {P : Program} {op : BinOp} {a b c : Int} (h : (op = .add ∧ c = a + b) ∨ (op = .sub ∧ c = a - b) ∨ (op = .mul ∧ c = a * b)) (h1 : -9223372036854775808 ≤ c) (h2 : c ≤ 9223372036854775807) (t : TypeId) (x y : Operand) (w : World) :
    ((do eqGuard op t x y (.int .i64 a) (.int .i64 b); binOp op t (.int .i64 a) (.int .i64 b)) : Sem Value).run P w = .ok (.int .i64 c) w := by
  rcases h with ⟨rfl, rfl⟩ | ⟨rfl, rfl⟩ | ⟨rfl, rfl⟩ <;> simp [eqGuard, binOp, Op.intArith, wrap_id h1 h2]
end Go.Proofs.Ytljhlnpbomehkaa
