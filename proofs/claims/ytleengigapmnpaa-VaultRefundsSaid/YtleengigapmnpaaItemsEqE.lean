/- purse: '==' of two purses is that of their four numbers; beside that of requests. -/
import Derived.Test.YtleengigapmnpaaEvS
import Derived.Test.YtleengigapmnpaaEvU
import Derived.Test.YtleengigapmnpaaItemsEq
namespace Go.Proofs.Ytleengigapmnpaa
open Go.RowKit
set_option linter.unusedVariables false
set_option linter.unusedSimpArgs false

def itCK : List CK := [.i, .i, .i, .i]
theorem itCK_open {l : List Value} (h : CKs itCK l) : ∃ (a b c d : Int), l = [.int .i64 a, .int .i64 b, .int .i64 c, .int .i64 d] := by
  unfold itCK at h
  cases h with | cons h0 h => cases h with | cons h1 h => cases h with | cons h2 h => cases h with | cons h3 h => cases h with
  | nil =>
    obtain ⟨a, rfl⟩ := h0; obtain ⟨b, rfl⟩ := h1; obtain ⟨c, rfl⟩ := h2; obtain ⟨d, rfl⟩ := h3
    exact ⟨a, b, c, d, rfl⟩
theorem itGuard : Try.prog.eqGuardType Try.prog.depth 37 = false := by kernel_rfl
theorem itBin {P : Program} {t : TypeId} {xs ys : Array Value} {b : Bool} {w : World} (hg : P.eqGuardType P.depth t = false) (h : (Op.equal t (.agg xs) (.agg ys)).run P w = .ok b w) (x y : Operand) :
    ((do eqGuard .eql t x y (.agg xs) (.agg ys); binOp .eql t (.agg xs) (.agg ys)) : Sem Value).run P w = .ok (.bool b) w ∧
    ((do eqGuard .neq t x y (.agg xs) (.agg ys); binOp .neq t (.agg xs) (.agg ys)) : Sem Value).run P w = .ok (.bool (!b)) w := by
  have g1 : (eqGuard .eql t x y (.agg xs) (.agg ys)).run P w = .ok () w := by simp [eqGuard, hg]
  have g2 : (eqGuard .neq t x y (.agg xs) (.agg ys)).run P w = .ok () w := by simp [eqGuard, hg]
  constructor
  · rw [Sem.run_bind, g1]; simp only [Result.andThen_ok, binOp, Sem.run_bind, h]; rfl
  · rw [Sem.run_bind, g2]; simp only [Result.andThen_ok, binOp, Sem.run_bind, h]; rfl
theorem itEqOK : EqOK Try.prog [(37, itCK)] := by
  intro p hp xs ys hx hy x y w
  simp only [List.mem_cons, List.not_mem_nil, or_false] at hp
  subst hp
  obtain ⟨a, b, c, d, e1⟩ := itCK_open hx
  obtain ⟨a', b', c', d', e2⟩ := itCK_open hy
  have e1' : xs = #[.int .i64 a, .int .i64 b, .int .i64 c, .int .i64 d] := by apply Array.ext'; simpa using e1
  have e2' : ys = #[.int .i64 a', .int .i64 b', .int .i64 c', .int .i64 d'] := by apply Array.ext'; simpa using e2
  subst e1'; subst e2'
  have h : (Op.equal 37 (.agg #[.int .i64 a, .int .i64 b, .int .i64 c, .int .i64 d]) (.agg #[.int .i64 a', .int .i64 b', .int .i64 c', .int .i64 d'])).run Try.prog w = .ok (cellsB [.int .i64 a, .int .i64 b, .int .i64 c, .int .i64 d] [.int .i64 a', .int .i64 b', .int .i64 c', .int .i64 d']) w := by
    have := eqItems w a b c d a' b' c' d'
    rw [show Op.equal 37 = Op.equalIn 10000 37 from rfl, this]
    simp [cellsB, cellB, Bool.and_assoc]
  exact itBin itGuard h x y
theorem EqOK.append {P : Program} {a b : ET} (ha : EqOK P a) (hb : EqOK P b) : EqOK P (a ++ b) := fun p hp => (List.mem_append.1 hp).elim (ha p) (hb p)
end Go.Proofs.Ytleengigapmnpaa
