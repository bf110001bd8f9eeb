/- op: '==' of two requests. -/
import Derived.Test.YtblknjclkecglaaBase
namespace Go.Proofs.Ytblknjclkecglaa
open Go.RowKit
set_option linter.unusedVariables false
set_option linter.unusedSimpArgs false

/-- two requests are one -/
def opEqB (k cl sq : Int) (ak aw tk tw : ByteArray) (it ct pr : Int) (bu : Bool) (id : Int) (k' cl' sq' : Int) (ak' aw' tk' tw' : ByteArray) (it' ct' pr' : Int) (bu' : Bool) (id' : Int) : Bool := decide (k = k' ∧ cl = cl' ∧ sq = sq' ∧ ak.toList = ak'.toList ∧ aw.toList = aw'.toList ∧ tk.toList = tk'.toList ∧ tw.toList = tw'.toList ∧ it = it' ∧ ct = ct' ∧ pr = pr' ∧ bu = bu' ∧ id = id')
set_option maxHeartbeats 4000000 in
set_option maxRecDepth 100000 in
theorem opEqR (k cl sq : Int) (ak aw tk tw : ByteArray) (it ct pr : Int) (bu : Bool) (id : Int) (k' cl' sq' : Int) (ak' aw' tk' tw' : ByteArray) (it' ct' pr' : Int) (bu' : Bool) (id' : Int) (w : World) :
    (binOp .eql 65 (.agg #[.int .i64 k, .int .i64 cl, .int .i64 sq, .string ak, .string aw, .string tk, .string tw, .int .i64 it, .int .i64 ct, .int .i64 pr, .bool bu, .int .i64 id]) (.agg #[.int .i64 k', .int .i64 cl', .int .i64 sq', .string ak', .string aw', .string tk', .string tw', .int .i64 it', .int .i64 ct', .int .i64 pr', .bool bu', .int .i64 id'])).run Try.prog w = .ok (.bool (opEqB k cl sq ak aw tk tw it ct pr bu id k' cl' sq' ak' aw' tk' tw' it' ct' pr' bu' id')) w := by
  unfold opEqB
  go_simp
  repeat' split
  all_goals simp [*]
set_option maxHeartbeats 4000000 in
set_option maxRecDepth 100000 in
theorem opEqO (k cl sq : Int) (ak aw tk tw : ByteArray) (it ct pr : Int) (bu : Bool) (id : Int) (k' cl' sq' : Int) (ak' aw' tk' tw' : ByteArray) (it' ct' pr' : Int) (bu' : Bool) (id' : Int) (w : World) :
    (binOp .eql 25 (.agg #[.int .i64 k, .int .i64 cl, .int .i64 sq, .string ak, .string aw, .string tk, .string tw, .int .i64 it, .int .i64 ct, .int .i64 pr, .bool bu, .int .i64 id]) (.agg #[.int .i64 k', .int .i64 cl', .int .i64 sq', .string ak', .string aw', .string tk', .string tw', .int .i64 it', .int .i64 ct', .int .i64 pr', .bool bu', .int .i64 id'])).run Try.prog w = .ok (.bool (opEqB k cl sq ak aw tk tw it ct pr bu id k' cl' sq' ak' aw' tk' tw' it' ct' pr' bu' id')) w := by
  unfold opEqB
  go_simp
  repeat' split
  all_goals simp [*]

end Go.Proofs.Ytblknjclkecglaa
