/- '==' of structs is that of their cells. -/
import Derived.Test.YtljhlnpbomehkaaEwS
import Derived.Test.YtljhlnpbomehkaaEwU
import Derived.WalkKit
namespace Go.Proofs.Ytljhlnpbomehkaa
open Go.RowKit
set_option linter.unusedVariables false
set_option linter.unusedSimpArgs false

theorem equal_of_bin' {P : Program} {t : TypeId} {xs ys : Array Value} {b : Bool} {w : World} (h : (binOp .eql t (.agg xs) (.agg ys)).run P w = .ok (.bool b) w) : (Op.equal t (.agg xs) (.agg ys)).run P w = .ok b w := by
  have h1 : (binOp .eql t (.agg xs) (.agg ys)).run P w = ((Op.equal t (.agg xs) (.agg ys)).run P w).andThen fun b w' => .ok (.bool b) w' := by
    simp only [binOp, Sem.run_bind]; rfl
  rw [h1] at h
  cases hr : (Op.equal t (.agg xs) (.agg ys)).run P w with
  | ok b' w' => rw [hr] at h; simp only [Result.andThen] at h; injection h with h2 h3; injection h2 with h2; rw [h2, h3]
  | halt e w' => rw [hr] at h; simp [Result.andThen] at h
theorem agg_bin' {P : Program} {t : TypeId} {xs ys : Array Value} {b : Bool} {w : World} (hg : P.eqGuardType P.depth t = false) (h : (Op.equal t (.agg xs) (.agg ys)).run P w = .ok b w) (x y : Operand) :
    ((do eqGuard .eql t x y (.agg xs) (.agg ys); binOp .eql t (.agg xs) (.agg ys)) : Sem Value).run P w = .ok (.bool b) w ∧
    ((do eqGuard .neq t x y (.agg xs) (.agg ys); binOp .neq t (.agg xs) (.agg ys)) : Sem Value).run P w = .ok (.bool (!b)) w := by
  have g1 : (eqGuard .eql t x y (.agg xs) (.agg ys)).run P w = .ok () w := by simp [eqGuard, hg]
  have g2 : (eqGuard .neq t x y (.agg xs) (.agg ys)).run P w = .ok () w := by simp [eqGuard, hg]
  constructor
  · rw [Sem.run_bind, g1]; simp only [Result.andThen_ok, binOp, Sem.run_bind, h]; rfl
  · rw [Sem.run_bind, g2]; simp only [Result.andThen_ok, binOp, Sem.run_bind, h]; rfl
def changeEqCK0 : List CK := [.i, .i, .i, .i, .s]
theorem changeEqCK0_open {l : List Value} (h : CKs changeEqCK0 l) : ∃ (x0 : Int) (x1 : Int) (x2 : Int) (x3 : Int) (x4 : ByteArray), l = [.int .i64 x0, .int .i64 x1, .int .i64 x2, .int .i64 x3, .string x4] := by
  unfold changeEqCK0 at h
  cases h with | cons h0 h => cases h with | cons h1 h => cases h with | cons h2 h => cases h with | cons h3 h => cases h with | cons h4 h => cases h with
  | nil =>
    obtain ⟨x0, rfl⟩ := h0
    obtain ⟨x1, rfl⟩ := h1
    obtain ⟨x2, rfl⟩ := h2
    obtain ⟨x3, rfl⟩ := h3
    obtain ⟨x4, rfl⟩ := h4
    exact ⟨x0, x1, x2, x3, x4, rfl⟩
def changeEqCB0 (x0 : Int) (x1 : Int) (x2 : Int) (x3 : Int) (x4 : ByteArray) (y0 : Int) (y1 : Int) (y2 : Int) (y3 : Int) (y4 : ByteArray) : Bool := (x0 == y0 && (x1 == y1 && (x2 == y2 && (x3 == y3 && (x4.toList == y4.toList && true)))))
set_option maxHeartbeats 4000000 in
set_option maxRecDepth 100000 in
theorem changeEqEqC0 (x0 : Int) (x1 : Int) (x2 : Int) (x3 : Int) (x4 : ByteArray) (y0 : Int) (y1 : Int) (y2 : Int) (y3 : Int) (y4 : ByteArray) (w : World) :
    (binOp .eql 48 (.agg #[.int .i64 x0, .int .i64 x1, .int .i64 x2, .int .i64 x3, .string x4]) (.agg #[.int .i64 y0, .int .i64 y1, .int .i64 y2, .int .i64 y3, .string y4])).run Try.prog w = .ok (.bool (changeEqCB0 x0 x1 x2 x3 x4 y0 y1 y2 y3 y4)) w := by
  unfold changeEqCB0
  go_simp
  repeat' split
  all_goals simp [*]
theorem changeEqGuard0 : Try.prog.eqGuardType Try.prog.depth 48 = false := by kernel_rfl
theorem changeEqEqOK : EqOK Try.prog [(48, changeEqCK0)] := by
  intro p hp xs ys hx hy x y w
  simp only [List.mem_cons, List.not_mem_nil, or_false] at hp
  rcases hp with rfl
  · obtain ⟨x0, x1, x2, x3, x4, e1⟩ := changeEqCK0_open hx
    obtain ⟨y0, y1, y2, y3, y4, e2⟩ := changeEqCK0_open hy
    have e1' : xs = #[.int .i64 x0, .int .i64 x1, .int .i64 x2, .int .i64 x3, .string x4] := by apply Array.ext'; simpa using e1
    have e2' : ys = #[.int .i64 y0, .int .i64 y1, .int .i64 y2, .int .i64 y3, .string y4] := by apply Array.ext'; simpa using e2
    subst e1'; subst e2'
    exact agg_bin' changeEqGuard0 (equal_of_bin' (changeEqEqC0 x0 x1 x2 x3 x4 y0 y1 y2 y3 y4 w)) x y
end Go.Proofs.Ytljhlnpbomehkaa
