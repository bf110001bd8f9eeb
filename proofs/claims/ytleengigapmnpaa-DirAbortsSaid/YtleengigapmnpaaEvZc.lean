/- An evaluator of Go code whose memory has names of its own (27): made ready for the kernel: beside known calls, at a leaf of a tree of questions. -/
import Derived.Test.YtleengigapmnpaaEvZb
import Derived.Test.YtleengigapmnpaaEvX
namespace Go.Proofs.Ytleengigapmnpaa
set_option linter.unusedVariables false
set_option linter.unusedSimpArgs false

def fCallK (P : Program) (kn : KN) (orc : Orc) (fuel : Nat) (T : FuncId → Option FF) : Nat → FuncId → List Value → AH → Option (Value × AH)
  | 0, _, _, _ => none
  | n + 1, f, args, h => match kn.find f with
    | some v => (match args with
      | [] => some (v, h)
      | _ :: _ => none)
    | none => fFn P orc fuel T (fCallK P kn orc fuel T n) f args h
theorem fCallK_ok {P : Program} {kn : KN} {orc : Orc} {fuel : Nat} {T : FuncId → Option FF} (hT : TableOK P T) : ∀ n, CallF (fCallK P kn orc fuel T n) (aCallK P kn orc fuel n)
  | 0 => fun f args h r e => by cases e
  | n + 1 => fun f args h r e => by
    simp only [fCallK] at e
    simp only [aCallK]
    split at e
    · rename_i v hv
      rw [hv]
      cases args with
      | nil => simpa [AM.pure] using e
      | cons a l => cases e
    · rename_i hv
      rw [hv]
      exact fFn_ok hT (fCallK_ok hT n) f args h r e
/-- a table that was made beforehand -/
def AllOK (P : Program) : List (Nat × FF) → Prop
  | [] => True
  | p :: r => cFn P p.1 = some p.2 ∧ AllOK P r
def tblFind : List (Nat × FF) → Nat → Option FF
  | [], _ => none
  | p :: r, f => match Nat.beq p.1 f with
    | true => some p.2
    | false => tblFind r f
theorem tblFind_ok {P : Program} : ∀ {l : List (Nat × FF)}, AllOK P l → TableOK P (tblFind l)
  | [], _, f, ff, e => by cases e
  | p :: r, h, f, ff, e => by
    simp only [tblFind] at e
    split at e
    · rename_i hb
      injection e with e; subst e
      rw [← Nat.eq_of_beq_eq_true hb]; exact h.1
    · exact tblFind_ok h.2 f ff e
def regsOf : Code → List (Array Oper)
  | .region _ ops _ => [ops]
  | .seq a b => regsOf a ++ regsOf b
  | .cond _ a b => regsOf a ++ regsOf b
  | .block _ b => regsOf b
  | .loop b => regsOf b
  | .scope b => regsOf b
  | _ => []
/-- an operation of a program, by its place -/
def opAt (P : Program) (f i j : Nat) : Oper :=
  match P.funcs[f]? with
  | some fn => (match fn.body with
    | some c => (((regsOf c).getD i #[]).toList.getD j default)
    | none => default)
  | none => default
def h00 : AH := ⟨.lf, 0, 0, [], []⟩
def isTrue' : Option (Value × AH) → Bool
  | some (.bool true, _) => true
  | _ => false
theorem isTrue'_spec {x : Option (Value × AH)} (h : isTrue' x = true) : ∃ a, x = some (.bool true, a) := by
  unfold isTrue' at h
  split at h
  · exact ⟨_, rfl⟩
  · cases h
theorem leafX_fast {P : Program} {kn : KN} {X : Orc} {S : List Nat} {E : ET} {fuel n : Nat} {f : FuncId} {args : Array Value} {K : KB} {T : FuncId → Option FF} (hT : TableOK P T)
    (h : isTrue' (fCallK P kn (orcOr (kOrc P S E K) X) fuel T n f args.toList h00) = true) : DT.leaf.check (okKX P kn X S E fuel n f args) K = true := by
  obtain ⟨a, ha⟩ := isTrue'_spec h
  have := fCallK_ok hT n f args.toList h00 _ ha
  refine check_leaf ?_
  unfold okKX
  rw [show (⟨.lf, 0, 0, [], []⟩ : AH) = h00 from rfl]
  rw [show args.toList.toArray = args from by simp] at this
  rw [this]
theorem leafK_fast {P : Program} {kn : KN} {S : List Nat} {E : ET} {fuel n : Nat} {f : FuncId} {args : Array Value} {K : KB} {T : FuncId → Option FF} (hT : TableOK P T)
    (h : isTrue' (fCallK P kn (kOrc P S E K) fuel T n f args.toList h00) = true) : DT.leaf.check (okK P kn S E fuel n f args) K = true := by
  obtain ⟨a, ha⟩ := isTrue'_spec h
  have := fCallK_ok hT n f args.toList h00 _ ha
  refine check_leaf ?_
  unfold okK
  rw [show (⟨.lf, 0, 0, [], []⟩ : AH) = h00 from rfl]
  rw [show args.toList.toArray = args from by simp] at this
  rw [this]
theorem eval_fast {P : Program} {orc : Orc} {fuel n : Nat} {f : FuncId} {args : Array Value} {T : FuncId → Option FF} (hT : TableOK P T)
    (h : isTrue' (fCall P orc fuel T n f args.toList h00) = true) : ((aCall P orc fuel n f args).run ⟨.lf, 0, 0, [], []⟩).map (·.1) = some (.bool true) := by
  obtain ⟨a, ha⟩ := isTrue'_spec h
  have := fCall_ok hT n f args.toList h00 _ ha
  rw [show (⟨.lf, 0, 0, [], []⟩ : AH) = h00 from rfl]
  rw [show args.toList.toArray = args from by simp] at this
  rw [this]; rfl
theorem evalK_fast {P : Program} {kn : KN} {orc : Orc} {fuel n : Nat} {f : FuncId} {args : Array Value} {T : FuncId → Option FF} (hT : TableOK P T)
    (h : isTrue' (fCallK P kn orc fuel T n f args.toList h00) = true) : ((aCallK P kn orc fuel n f args).run ⟨.lf, 0, 0, [], []⟩).map (·.1) = some (.bool true) := by
  obtain ⟨a, ha⟩ := isTrue'_spec h
  have := fCallK_ok hT n f args.toList h00 _ ha
  rw [show (⟨.lf, 0, 0, [], []⟩ : AH) = h00 from rfl]
  rw [show args.toList.toArray = args from by simp] at this
  rw [this]; rfl
end Go.Proofs.Ytleengigapmnpaa
