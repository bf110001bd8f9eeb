/- An evaluator of Go code whose memory has names of its own (18): lengths of texts and slices that are symbols. -/
import Derived.Test.YtljhlnpbomehkaaEwQ
namespace Go.Proofs.Ytljhlnpbomehkaa
set_option linter.unusedVariables false
set_option linter.unusedSimpArgs false

/-- (symbol, whether a text, bound, whether its length is above the bound) -/
abbrev LenT := List (Nat × Bool × Nat × Bool)
def LenT.has (T : LenT) (k : Nat) (s : Bool) : Bool := T.any fun p => p.1 == k && p.2.1 == s
def LenT.ans (T : LenT) (k b : Nat) : Option Bool := (T.find? fun p => p.1 == k && p.2.2.1 == b).map (·.2.2.2)
def lenAsk (P : Program) (T : LenT) : OrcF := fun ev o =>
  match o.op with
  | .call c => (match c.callee, c.args.toList, c.argTypes.toList with
    | .builtin .len, [x], [t] => (match ev x, P.underlying t with
      | .chan (some k), some .string => if T.has k true then some (.chan (some (k + 1000))) else none
      | .chan (some k), some (.slice _) => if T.has k false then some (.chan (some (k + 1000))) else none
      | _, _ => none)
    | _, _, _ => none)
  | .binOp .gtr _ x y _ => (match ev x, ev y with
    | .chan (some k), .int .i64 b => if 1000 ≤ k ∧ 0 ≤ b then (T.ans (k - 1000) b.toNat).map .bool else none
    | _, _ => none)
  | _ => none
/-- the symbols are what the table says -/
def LenOK (T : LenT) (σ : Nat → Value) : Prop :=
  ∀ p ∈ T, ∃ n : Nat, σ (p.1 + 1000) = .int .i64 n ∧ decide (p.2.2.1 < n) = p.2.2.2 ∧ (if p.2.1 then ∃ s : ByteArray, σ p.1 = .string s ∧ s.size = n else ∃ a c, σ p.1 = .slice a n c)
theorem ren_sym {r : Ren} {k : Nat} : ren r (.chan (some k)) = r.σ k := by simp [ren]
theorem lenAsk_ok (P : Program) (T : LenT) (σ : Nat → Value) (h : LenOK T σ) : AskOK P (· = σ) (lenAsk P T) := by
  intro ev o v he
  unfold lenAsk at he
  split at he
  case h_3 => cases he
  case h_1 c ho =>
    split at he
    case h_2 => cases he
    case h_1 x t hc ha ht =>
      refine ⟨by rw [ho]; rfl, fun r hr _ w => ?_⟩
      have e1 : c.args = #[x] := by apply Array.ext'; simpa using ha
      have e2 : c.argTypes = #[t] := by apply Array.ext'; simpa using ht
      split at he
      case h_3 => cases he
      case h_1 k hx hu =>
        split at he
        case isFalse => cases he
        case isTrue hT =>
          injection he with he; subst he
          obtain ⟨p, hp, hpk⟩ := List.any_eq_true.1 hT
          simp only [Bool.and_eq_true, beq_iff_eq] at hpk
          obtain ⟨n, g1, g2, g3⟩ := h p hp
          rw [hpk.2, if_pos rfl, hpk.1] at g3
          rw [hpk.1] at g1
          obtain ⟨s, g4, g5⟩ := g3
          unfold execOp
          simp [ho, resolve, hc, e1, e2, invoke, builtin, Builtin.len_, hx, ren_sym, hr, g4, run_underlying hu w, goInt, g1, g5]
      case h_2 k e hx hu =>
        split at he
        case isFalse => cases he
        case isTrue hT =>
          injection he with he; subst he
          obtain ⟨p, hp, hpk⟩ := List.any_eq_true.1 hT
          simp only [Bool.and_eq_true, beq_iff_eq] at hpk
          obtain ⟨n, g1, g2, g3⟩ := h p hp
          rw [hpk.2, if_neg (by simp), hpk.1] at g3
          rw [hpk.1] at g1
          obtain ⟨a, cc, g4⟩ := g3
          unfold execOp
          simp [ho, resolve, hc, e1, e2, invoke, builtin, Builtin.len_, hx, ren_sym, hr, g4, run_underlying hu w, goInt, g1]
  case h_2 t x y yt ho =>
    split at he
    case h_2 => cases he
    case h_1 k b hx hy =>
      split at he
      case isFalse => cases he
      case isTrue hk =>
        cases ha : T.ans (k - 1000) b.toNat with
        | none => rw [ha] at he; cases he
        | some res =>
          rw [ha] at he
          simp only [Option.map_some, Option.some.injEq] at he
          subst he
          refine ⟨by rw [ho]; rfl, fun r hr _ w => ?_⟩
          unfold LenT.ans at ha
          cases hf : T.find? (fun p => p.1 == k - 1000 && p.2.2.1 == b.toNat) with
          | none => rw [hf] at ha; cases ha
          | some p =>
            rw [hf] at ha
            simp only [Option.map_some, Option.some.injEq] at ha
            have hp := List.find?_some hf
            simp only [Bool.and_eq_true, beq_iff_eq] at hp
            obtain ⟨n, g1, g2, g3⟩ := h p (List.mem_of_find?_eq_some hf)
            have hk2 : p.1 + 1000 = k := by omega
            rw [hk2] at g1
            have hcmp : decide (b < (n : Int)) = res := by
              rw [← ha, ← g2, hp.2]
              congr 1
              apply propext
              omega
            unfold execOp
            simp only [ho, hx, hy, ren_sym, hr, g1, ren_int, ren_bool, Sem.run_bind]
            have h1 : (eqGuard .gtr t x y (.int .i64 n) (.int .i64 b)).run P w = .ok () w := rfl
            have h2 : (binOp .gtr t (.int .i64 n) (.int .i64 b)).run P w = .ok (.bool (decide ((n : Int) > b))) w := by simp [binOp, Op.intCmp]
            rw [h1]
            simp only [Result.andThen_ok, h2, Sem.run_pure]
            rw [← hcmp]
def lenOrc (P : Program) (T : LenT) : Orc := ⟨lenAsk P T, [], fun _ => none⟩
theorem lenOrc_ok (P : Program) (T : LenT) (σ : Nat → Value) (h : LenOK T σ) : OrcOK P (· = σ) (lenOrc P T) := ⟨lenAsk_ok P T σ h, (fun g hg => nomatch hg), fun _ _ h => nomatch h⟩
theorem symF_one {l : List (Nat × Value)} (h : ∀ p ∈ l, p.2.oneCell' = true) : ∀ k, (symF l k).oneCell' = true := by
  induction l with
  | nil => intro k; rfl
  | cons p r ih =>
    intro k
    unfold symF
    split
    · exact h p (by simp)
    · exact ih (fun q hq => h q (List.mem_cons_of_mem _ hq)) k
end Go.Proofs.Ytljhlnpbomehkaa
