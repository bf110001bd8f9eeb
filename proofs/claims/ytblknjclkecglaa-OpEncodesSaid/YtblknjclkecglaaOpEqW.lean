/- op: '==' of two requests is that of their cells. -/
import Derived.Test.YtblknjclkecglaaEwM8
import Derived.WalkKit
namespace Go.Proofs.Ytblknjclkecglaa
open Go.RowKit
set_option linter.unusedVariables false
set_option linter.unusedSimpArgs false

def opCK : List CK := [.i, .i, .i, .s, .s, .s, .s, .i, .i, .i, .b, .i]
theorem opCK_open {l : List Value} (h : CKs opCK l) : ∃ (k cl sq : Int) (ak aw tk tw : ByteArray) (it ct pr : Int) (bu : Bool) (id : Int), l = [.int .i64 k, .int .i64 cl, .int .i64 sq, .string ak, .string aw, .string tk, .string tw, .int .i64 it, .int .i64 ct, .int .i64 pr, .bool bu, .int .i64 id] := by
  unfold opCK at h
  cases h with | cons h0 h => cases h with | cons h1 h => cases h with | cons h2 h => cases h with | cons h3 h => cases h with | cons h4 h => cases h with | cons h5 h => cases h with | cons h6 h => cases h with | cons h7 h => cases h with | cons h8 h => cases h with | cons h9 h => cases h with | cons h10 h => cases h with | cons h11 h => cases h with
  | nil =>
    obtain ⟨k, rfl⟩ := h0; obtain ⟨cl, rfl⟩ := h1; obtain ⟨sq, rfl⟩ := h2; obtain ⟨ak, rfl⟩ := h3; obtain ⟨aw, rfl⟩ := h4; obtain ⟨tk, rfl⟩ := h5; obtain ⟨tw, rfl⟩ := h6
    obtain ⟨it, rfl⟩ := h7; obtain ⟨ct, rfl⟩ := h8; obtain ⟨pr, rfl⟩ := h9; obtain ⟨bu, rfl⟩ := h10; obtain ⟨id, rfl⟩ := h11
    exact ⟨k, cl, sq, ak, aw, tk, tw, it, ct, pr, bu, id, rfl⟩
def opCB (k cl sq : Int) (ak aw tk tw : ByteArray) (it ct pr : Int) (bu : Bool) (id : Int) (k' cl' sq' : Int) (ak' aw' tk' tw' : ByteArray) (it' ct' pr' : Int) (bu' : Bool) (id' : Int) : Bool :=
  k == k' && (cl == cl' && (sq == sq' && (ak.toList == ak'.toList && (aw.toList == aw'.toList && (tk.toList == tk'.toList && (tw.toList == tw'.toList && (it == it' && (ct == ct' && (pr == pr' && (bu == bu' && (id == id' && true)))))))))))
set_option maxHeartbeats 4000000 in
set_option maxRecDepth 100000 in
theorem opEqC (k cl sq : Int) (ak aw tk tw : ByteArray) (it ct pr : Int) (bu : Bool) (id : Int) (k' cl' sq' : Int) (ak' aw' tk' tw' : ByteArray) (it' ct' pr' : Int) (bu' : Bool) (id' : Int) (w : World) :
    (binOp .eql 25 (.agg #[.int .i64 k, .int .i64 cl, .int .i64 sq, .string ak, .string aw, .string tk, .string tw, .int .i64 it, .int .i64 ct, .int .i64 pr, .bool bu, .int .i64 id]) (.agg #[.int .i64 k', .int .i64 cl', .int .i64 sq', .string ak', .string aw', .string tk', .string tw', .int .i64 it', .int .i64 ct', .int .i64 pr', .bool bu', .int .i64 id'])).run Try.prog w = .ok (.bool (opCB k cl sq ak aw tk tw it ct pr bu id k' cl' sq' ak' aw' tk' tw' it' ct' pr' bu' id')) w := by
  unfold opCB
  go_simp
  repeat' split
  all_goals simp [*]
set_option maxHeartbeats 4000000 in
set_option maxRecDepth 100000 in
theorem opEqD (k cl sq : Int) (ak aw tk tw : ByteArray) (it ct pr : Int) (bu : Bool) (id : Int) (k' cl' sq' : Int) (ak' aw' tk' tw' : ByteArray) (it' ct' pr' : Int) (bu' : Bool) (id' : Int) (w : World) :
    (binOp .eql 65 (.agg #[.int .i64 k, .int .i64 cl, .int .i64 sq, .string ak, .string aw, .string tk, .string tw, .int .i64 it, .int .i64 ct, .int .i64 pr, .bool bu, .int .i64 id]) (.agg #[.int .i64 k', .int .i64 cl', .int .i64 sq', .string ak', .string aw', .string tk', .string tw', .int .i64 it', .int .i64 ct', .int .i64 pr', .bool bu', .int .i64 id'])).run Try.prog w = .ok (.bool (opCB k cl sq ak aw tk tw it ct pr bu id k' cl' sq' ak' aw' tk' tw' it' ct' pr' bu' id')) w := by
  unfold opCB
  go_simp
  repeat' split
  all_goals simp [*]
theorem equal_of_bin {P : Program} {t : TypeId} {xs ys : Array Value} {b : Bool} {w : World} (h : (binOp .eql t (.agg xs) (.agg ys)).run P w = .ok (.bool b) w) : (Op.equal t (.agg xs) (.agg ys)).run P w = .ok b w := by
  have h1 : (binOp .eql t (.agg xs) (.agg ys)).run P w = ((Op.equal t (.agg xs) (.agg ys)).run P w).andThen fun b w' => .ok (.bool b) w' := by
    simp only [binOp, Sem.run_bind]; rfl
  rw [h1] at h
  cases hr : (Op.equal t (.agg xs) (.agg ys)).run P w with
  | ok b' w' => rw [hr] at h; simp only [Result.andThen] at h; injection h with h2 h3; injection h2 with h2; rw [h2, h3]
  | halt e w' => rw [hr] at h; simp [Result.andThen] at h
theorem opGuards : Try.prog.eqGuardType Try.prog.depth 25 = false ∧ Try.prog.eqGuardType Try.prog.depth 65 = false := ⟨by kernel_rfl, by kernel_rfl⟩
theorem agg_bin {P : Program} {t : TypeId} {xs ys : Array Value} {b : Bool} {w : World} (hg : P.eqGuardType P.depth t = false) (h : (Op.equal t (.agg xs) (.agg ys)).run P w = .ok b w) (x y : Operand) :
    ((do eqGuard .eql t x y (.agg xs) (.agg ys); binOp .eql t (.agg xs) (.agg ys)) : Sem Value).run P w = .ok (.bool b) w ∧
    ((do eqGuard .neq t x y (.agg xs) (.agg ys); binOp .neq t (.agg xs) (.agg ys)) : Sem Value).run P w = .ok (.bool (!b)) w := by
  have g1 : (eqGuard .eql t x y (.agg xs) (.agg ys)).run P w = .ok () w := by simp [eqGuard, hg]
  have g2 : (eqGuard .neq t x y (.agg xs) (.agg ys)).run P w = .ok () w := by simp [eqGuard, hg]
  constructor
  · rw [Sem.run_bind, g1]; simp only [Result.andThen_ok, binOp, Sem.run_bind, h]; rfl
  · rw [Sem.run_bind, g2]; simp only [Result.andThen_ok, binOp, Sem.run_bind, h]; rfl
theorem opEqOK : EqOK Try.prog [(25, opCK), (65, opCK)] := by
  intro p hp xs ys hx hy x y w
  simp only [List.mem_cons, List.not_mem_nil, or_false] at hp
  have hxs : ∀ {q : TypeId × List CK}, q.2 = opCK → CKs q.2 xs.toList → CKs opCK xs.toList := fun e h => e ▸ h
  rcases hp with rfl | rfl
  · obtain ⟨k, cl, sq, ak, aw, tk, tw, it, ct, pr, bu, id, e1⟩ := opCK_open hx
    obtain ⟨k', cl', sq', ak', aw', tk', tw', it', ct', pr', bu', id', e2⟩ := opCK_open hy
    have e1' : xs = #[.int .i64 k, .int .i64 cl, .int .i64 sq, .string ak, .string aw, .string tk, .string tw, .int .i64 it, .int .i64 ct, .int .i64 pr, .bool bu, .int .i64 id] := by apply Array.ext'; simpa using e1
    have e2' : ys = #[.int .i64 k', .int .i64 cl', .int .i64 sq', .string ak', .string aw', .string tk', .string tw', .int .i64 it', .int .i64 ct', .int .i64 pr', .bool bu', .int .i64 id'] := by apply Array.ext'; simpa using e2
    subst e1'; subst e2'
    exact agg_bin opGuards.1 (equal_of_bin (opEqC k cl sq ak aw tk tw it ct pr bu id k' cl' sq' ak' aw' tk' tw' it' ct' pr' bu' id' w)) x y
  · obtain ⟨k, cl, sq, ak, aw, tk, tw, it, ct, pr, bu, id, e1⟩ := opCK_open hx
    obtain ⟨k', cl', sq', ak', aw', tk', tw', it', ct', pr', bu', id', e2⟩ := opCK_open hy
    have e1' : xs = #[.int .i64 k, .int .i64 cl, .int .i64 sq, .string ak, .string aw, .string tk, .string tw, .int .i64 it, .int .i64 ct, .int .i64 pr, .bool bu, .int .i64 id] := by apply Array.ext'; simpa using e1
    have e2' : ys = #[.int .i64 k', .int .i64 cl', .int .i64 sq', .string ak', .string aw', .string tk', .string tw', .int .i64 it', .int .i64 ct', .int .i64 pr', .bool bu', .int .i64 id'] := by apply Array.ext'; simpa using e2
    subst e1'; subst e2'
    exact agg_bin opGuards.2 (equal_of_bin (opEqD k cl sq ak aw tk tw it ct pr bu id k' cl' sq' ak' aw' tk' tw' it' ct' pr' bu' id' w)) x y
end Go.Proofs.Ytblknjclkecglaa
