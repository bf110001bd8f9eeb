/- book: may, meet, tradeOf, New. -/
import Derived.Test.YtgppgbiebfdnlaaBookL
namespace Go.Proofs.Ytgppgbiebfdnlaa
open Go.RowKit
set_option linter.unusedVariables false
set_option linter.unusedSimpArgs false

def ordC (id : Int) (who : ByteArray) (buy : Bool) (item ct pr : Int) : Array Value := #[.int .i64 id, .string who, .bool buy, .int .i64 item, .int .i64 ct, .int .i64 pr]

set_option maxHeartbeats 1000000 in
theorem bkMay (id item ct pr : Int) (who : ByteArray) (buy : Bool) (w : World) (h1 : 1 ≤ id) (h2 : id ≤ 1099511627776) (h3 : 1 ≤ who.size) (h4 : who.size ≤ 16) (h5 : 1 ≤ item) (h6 : item < 4) (h7 : 1 ≤ ct) (h8 : ct ≤ 1048576) (h9 : 1 ≤ pr) (h10 : pr ≤ 1024) :
    Calls Try.prog 43 #[.agg #[.int .i64 id, .string who, .bool buy, .int .i64 item, .int .i64 ct, .int .i64 pr]] w fun e w' => e = .returned (.bool true) ∧ Below w.heap.size w w' := by
  go_enter Try.func43, Try.ntmps43
  go_wp2_with fail
  go_ret
  exact ⟨ret_bool (by simp [*]), by ((repeat (first | (with_reducible exact Below.refl _ _) | (with_reducible assumption) | ((with_reducible refine b_set ?_ ?_); · (first | omega | (simp; done) | (simp; omega))) | ((with_reducible refine b_alloc ?_ ?_); · (first | omega | (simp; done) | (simp; omega))) | (with_reducible refine Below.drew ?_) | (with_reducible refine b_drewN ?_) | ((with_reducible refine b_call (by assumption) ?_ ?_); · (first | omega | (simp; done) | (simp; omega))))); done)⟩

set_option maxHeartbeats 1000000 in
theorem bkMeet (id item ct pr id' item' ct' pr' : Int) (who who' : ByteArray) (b' : Bool) (w : World) (h1 : pr' ≤ pr) :
    Calls Try.prog 44 #[.agg #[.int .i64 id, .string who, .bool true, .int .i64 item, .int .i64 ct, .int .i64 pr], .agg #[.int .i64 id', .string who', .bool b', .int .i64 item', .int .i64 ct', .int .i64 pr']] w fun e w' => e = .returned (.bool true) ∧ Below w.heap.size w w' := by
  go_enter Try.func44, Try.ntmps44
  go_wp2_with fail
  go_ret
  exact ⟨ret_bool (by simp [*]), by ((repeat (first | (with_reducible exact Below.refl _ _) | (with_reducible assumption) | ((with_reducible refine b_set ?_ ?_); · (first | omega | (simp; done) | (simp; omega))) | ((with_reducible refine b_alloc ?_ ?_); · (first | omega | (simp; done) | (simp; omega))) | (with_reducible refine Below.drew ?_) | (with_reducible refine b_drewN ?_) | ((with_reducible refine b_call (by assumption) ?_ ?_); · (first | omega | (simp; done) | (simp; omega))))); done)⟩

set_option maxHeartbeats 1000000 in
set_option maxRecDepth 10000 in
theorem bkTrade (w : World) :
    Calls Try.prog 45 #[.agg #[.int .i64 2, .string ⟨#[98]⟩, .bool true, .int .i64 1, .int .i64 2, .int .i64 7], .agg #[.int .i64 1, .string ⟨#[97]⟩, .bool false, .int .i64 1, .int .i64 3, .int .i64 5], .int .i64 2] w fun e w' => e = .returned (.agg #[.string ⟨#[98]⟩, .string ⟨#[97]⟩, .int .i64 2, .int .i64 1, .int .i64 1, .int .i64 2, .int .i64 5, .int .i64 7]) ∧ Below w.heap.size w w' := by
  go_enter Try.func45, Try.ntmps45
  go_wp2_with fail
  all_goals go_region
  all_goals go_wp2_with fail
  all_goals go_region
  all_goals go_wp2_with fail
  all_goals (refine bodyPost_ret (v := .agg #[.string ⟨#[98]⟩, .string ⟨#[97]⟩, .int .i64 2, .int .i64 1, .int .i64 1, .int .i64 2, .int .i64 5, .int .i64 7]) (by simp [results, Try.results45, go_sem, ↓IntWalk.iteOmega, *]) rfl ⟨rfl, ?_⟩; ((repeat (first | (with_reducible exact Below.refl _ _) | (with_reducible assumption) | ((with_reducible refine b_set ?_ ?_); · (first | omega | (simp; done) | (simp; omega))) | ((with_reducible refine b_alloc ?_ ?_); · (first | omega | (simp; done) | (simp; omega))) | (with_reducible refine Below.drew ?_) | (with_reducible refine b_drewN ?_) | ((with_reducible refine b_call (by assumption) ?_ ?_); · (first | omega | (simp; done) | (simp; omega))))); done))

theorem bkNew (w : World) :
    Calls Try.prog 53 #[] w fun e w' => e = .returned (.pointer (some ⟨w.heap.size, 0, none⟩)) ∧ w' = w.alloc (.cells #[.slice none 0 0, .slice none 0 0, .slice none 0 0, .slice none 0 0, .slice none 0 0, .slice none 0 0, .slice none 0 0, .slice none 0 0, .int .i64 0] 96) := by
  go_enter Try.func53, Try.ntmps53
  go_wp2_with fail
  go_ret
  exact ⟨rfl, rfl⟩

end Go.Proofs.Ytgppgbiebfdnlaa
