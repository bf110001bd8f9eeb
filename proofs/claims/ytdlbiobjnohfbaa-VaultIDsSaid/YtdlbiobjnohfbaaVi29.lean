/- book: may, meet, tradeOf, New. -/
import Derived.ProofKit
import Derived.Test.YtdlbiobjnohfbaaProg
import Derived.WalkKit
import Derived.WalkSpells
import Derived.WalkLawsBesides
import Derived.Deep.QuietTactic
import Derived.BigQuiet
import Derived.RegionTactic
import Derived.BigRegion
import Derived.Outline
import Derived.LoopTactic
import Derived.Lib.Hide
import Derived.Deep.RegionHeld3
import Derived.Laws.AppendOwnNone
import Derived.Deep.AppendLies
import Derived.Maps.AppendAt
import Derived.Laws.Rows
import Derived.Laws.OwnMore
import Derived.Deep.RegionLaw
import Derived.Deep.Onto
import Derived.Test.YtdlbiobjnohfbaaVi0
import Derived.Test.YtdlbiobjnohfbaaVi1
import Derived.Test.YtdlbiobjnohfbaaVi2
import Derived.Test.YtdlbiobjnohfbaaVi3
import Derived.Test.YtdlbiobjnohfbaaVi4
import Derived.Test.YtdlbiobjnohfbaaVi5
import Derived.Test.YtdlbiobjnohfbaaVi6
import Derived.Test.YtdlbiobjnohfbaaVi7
import Derived.Test.YtdlbiobjnohfbaaVi10
namespace Go.Proofs.Ytdlbiobjnohfbaa
open Go.RowKit
set_option linter.unusedVariables false
set_option linter.unusedSimpArgs false
theorem OkO_iff (o : Od) : OkO o ↔ (1 ≤ o.id ∧ o.id ≤ 1099511627776 ∧ 1 ≤ o.who.size ∧ o.who.size ≤ 16 ∧ 1 ≤ o.item ∧ o.item < 4 ∧ 1 ≤ o.ct ∧ o.ct ≤ 1048576 ∧ 1 ≤ o.pr ∧ o.pr ≤ 1024) :=
  ⟨fun h => ⟨h.id.1, h.id.2, h.who.1, h.who.2, h.item.1, by have := h.item.2; omega, h.ct.1, h.ct.2, h.pr.1, h.pr.2⟩, fun ⟨a, b, c, d, e, f, g, h, i, j⟩ => ⟨⟨a, b⟩, ⟨c, d⟩, ⟨e, by omega⟩, ⟨g, h⟩, ⟨i, j⟩⟩⟩
instance (o : Od) : Decidable (OkO o) := decidable_of_iff _ (OkO_iff o).symm
set_option maxHeartbeats 2000000 in
theorem bkMay (o : Od) (w : World) :
    Calls Try.prog 35 #[.agg #[.int .i64 o.id, .string o.who, .bool o.buy, .int .i64 o.item, .int .i64 o.ct, .int .i64 o.pr]] w fun e w' => e = .returned (.bool (decide (OkO o))) ∧ Below w.heap.size w w' := by
  by_cases h0 : 1 ≤ o.id
  case neg =>
    have hno : decide (OkO o) = false := decide_eq_false (fun h => h0 (by have := (OkO_iff o).1 h; omega))
    rw [hno]
    go_enter Try.func35, Try.ntmps35
    go_wp2_with fail
    go_ret
    exact ⟨ret_bool (by simp [*]), by ((repeat (first | (with_reducible exact Below.refl _ _) | (with_reducible assumption) | ((with_reducible refine b_set ?_ ?_); · (first | omega | (simp; done) | (simp; omega))) | ((with_reducible refine b_alloc ?_ ?_); · (first | omega | (simp; done) | (simp; omega))) | (with_reducible refine Below.drew ?_) | (with_reducible refine b_drewN ?_) | ((with_reducible refine b_call (by assumption) ?_ ?_); · (first | omega | (simp; done) | (simp; omega))))); done)⟩
  by_cases h1 : o.id ≤ 1099511627776
  case neg =>
    have hno : decide (OkO o) = false := decide_eq_false (fun h => h1 (by have := (OkO_iff o).1 h; omega))
    rw [hno]
    go_enter Try.func35, Try.ntmps35
    go_wp2_with fail
    go_ret
    exact ⟨ret_bool (by simp [*]), by ((repeat (first | (with_reducible exact Below.refl _ _) | (with_reducible assumption) | ((with_reducible refine b_set ?_ ?_); · (first | omega | (simp; done) | (simp; omega))) | ((with_reducible refine b_alloc ?_ ?_); · (first | omega | (simp; done) | (simp; omega))) | (with_reducible refine Below.drew ?_) | (with_reducible refine b_drewN ?_) | ((with_reducible refine b_call (by assumption) ?_ ?_); · (first | omega | (simp; done) | (simp; omega))))); done)⟩
  by_cases h2 : 1 ≤ o.who.size
  case neg =>
    have hno : decide (OkO o) = false := decide_eq_false (fun h => h2 (by have := (OkO_iff o).1 h; omega))
    rw [hno]
    have g2 : ¬ (1 : Int) ≤ (o.who.size : Int) := by omega
    go_enter Try.func35, Try.ntmps35
    go_wp2_with fail
    go_ret
    exact ⟨ret_bool (by simp [*]), by ((repeat (first | (with_reducible exact Below.refl _ _) | (with_reducible assumption) | ((with_reducible refine b_set ?_ ?_); · (first | omega | (simp; done) | (simp; omega))) | ((with_reducible refine b_alloc ?_ ?_); · (first | omega | (simp; done) | (simp; omega))) | (with_reducible refine Below.drew ?_) | (with_reducible refine b_drewN ?_) | ((with_reducible refine b_call (by assumption) ?_ ?_); · (first | omega | (simp; done) | (simp; omega))))); done)⟩
  have g2 : (1 : Int) ≤ (o.who.size : Int) := by omega
  by_cases h3 : o.who.size ≤ 16
  case neg =>
    have hno : decide (OkO o) = false := decide_eq_false (fun h => h3 (by have := (OkO_iff o).1 h; omega))
    rw [hno]
    have g3 : ¬ (o.who.size : Int) ≤ 16 := by omega
    go_enter Try.func35, Try.ntmps35
    go_wp2_with fail
    go_ret
    exact ⟨ret_bool (by simp [*]), by ((repeat (first | (with_reducible exact Below.refl _ _) | (with_reducible assumption) | ((with_reducible refine b_set ?_ ?_); · (first | omega | (simp; done) | (simp; omega))) | ((with_reducible refine b_alloc ?_ ?_); · (first | omega | (simp; done) | (simp; omega))) | (with_reducible refine Below.drew ?_) | (with_reducible refine b_drewN ?_) | ((with_reducible refine b_call (by assumption) ?_ ?_); · (first | omega | (simp; done) | (simp; omega))))); done)⟩
  have g3 : (o.who.size : Int) ≤ 16 := by omega
  by_cases h4 : 1 ≤ o.item
  case neg =>
    have hno : decide (OkO o) = false := decide_eq_false (fun h => h4 (by have := (OkO_iff o).1 h; omega))
    rw [hno]
    go_enter Try.func35, Try.ntmps35
    go_wp2_with fail
    go_ret
    exact ⟨ret_bool (by simp [*]), by ((repeat (first | (with_reducible exact Below.refl _ _) | (with_reducible assumption) | ((with_reducible refine b_set ?_ ?_); · (first | omega | (simp; done) | (simp; omega))) | ((with_reducible refine b_alloc ?_ ?_); · (first | omega | (simp; done) | (simp; omega))) | (with_reducible refine Below.drew ?_) | (with_reducible refine b_drewN ?_) | ((with_reducible refine b_call (by assumption) ?_ ?_); · (first | omega | (simp; done) | (simp; omega))))); done)⟩
  by_cases h5 : o.item < 4
  case neg =>
    have hno : decide (OkO o) = false := decide_eq_false (fun h => h5 (by have := (OkO_iff o).1 h; omega))
    rw [hno]
    go_enter Try.func35, Try.ntmps35
    go_wp2_with fail
    go_ret
    exact ⟨ret_bool (by simp [*]), by ((repeat (first | (with_reducible exact Below.refl _ _) | (with_reducible assumption) | ((with_reducible refine b_set ?_ ?_); · (first | omega | (simp; done) | (simp; omega))) | ((with_reducible refine b_alloc ?_ ?_); · (first | omega | (simp; done) | (simp; omega))) | (with_reducible refine Below.drew ?_) | (with_reducible refine b_drewN ?_) | ((with_reducible refine b_call (by assumption) ?_ ?_); · (first | omega | (simp; done) | (simp; omega))))); done)⟩
  by_cases h6 : 1 ≤ o.ct
  case neg =>
    have hno : decide (OkO o) = false := decide_eq_false (fun h => h6 (by have := (OkO_iff o).1 h; omega))
    rw [hno]
    go_enter Try.func35, Try.ntmps35
    go_wp2_with fail
    go_ret
    exact ⟨ret_bool (by simp [*]), by ((repeat (first | (with_reducible exact Below.refl _ _) | (with_reducible assumption) | ((with_reducible refine b_set ?_ ?_); · (first | omega | (simp; done) | (simp; omega))) | ((with_reducible refine b_alloc ?_ ?_); · (first | omega | (simp; done) | (simp; omega))) | (with_reducible refine Below.drew ?_) | (with_reducible refine b_drewN ?_) | ((with_reducible refine b_call (by assumption) ?_ ?_); · (first | omega | (simp; done) | (simp; omega))))); done)⟩
  by_cases h7 : o.ct ≤ 1048576
  case neg =>
    have hno : decide (OkO o) = false := decide_eq_false (fun h => h7 (by have := (OkO_iff o).1 h; omega))
    rw [hno]
    go_enter Try.func35, Try.ntmps35
    go_wp2_with fail
    go_ret
    exact ⟨ret_bool (by simp [*]), by ((repeat (first | (with_reducible exact Below.refl _ _) | (with_reducible assumption) | ((with_reducible refine b_set ?_ ?_); · (first | omega | (simp; done) | (simp; omega))) | ((with_reducible refine b_alloc ?_ ?_); · (first | omega | (simp; done) | (simp; omega))) | (with_reducible refine Below.drew ?_) | (with_reducible refine b_drewN ?_) | ((with_reducible refine b_call (by assumption) ?_ ?_); · (first | omega | (simp; done) | (simp; omega))))); done)⟩
  by_cases h8 : 1 ≤ o.pr
  case neg =>
    have hno : decide (OkO o) = false := decide_eq_false (fun h => h8 (by have := (OkO_iff o).1 h; omega))
    rw [hno]
    go_enter Try.func35, Try.ntmps35
    go_wp2_with fail
    go_ret
    exact ⟨ret_bool (by simp [*]), by ((repeat (first | (with_reducible exact Below.refl _ _) | (with_reducible assumption) | ((with_reducible refine b_set ?_ ?_); · (first | omega | (simp; done) | (simp; omega))) | ((with_reducible refine b_alloc ?_ ?_); · (first | omega | (simp; done) | (simp; omega))) | (with_reducible refine Below.drew ?_) | (with_reducible refine b_drewN ?_) | ((with_reducible refine b_call (by assumption) ?_ ?_); · (first | omega | (simp; done) | (simp; omega))))); done)⟩
  by_cases h9 : o.pr ≤ 1024
  case neg =>
    have hno : decide (OkO o) = false := decide_eq_false (fun h => h9 (by have := (OkO_iff o).1 h; omega))
    rw [hno]
    go_enter Try.func35, Try.ntmps35
    go_wp2_with fail
    go_ret
    exact ⟨ret_bool (by simp [*]), by ((repeat (first | (with_reducible exact Below.refl _ _) | (with_reducible assumption) | ((with_reducible refine b_set ?_ ?_); · (first | omega | (simp; done) | (simp; omega))) | ((with_reducible refine b_alloc ?_ ?_); · (first | omega | (simp; done) | (simp; omega))) | (with_reducible refine Below.drew ?_) | (with_reducible refine b_drewN ?_) | ((with_reducible refine b_call (by assumption) ?_ ?_); · (first | omega | (simp; done) | (simp; omega))))); done)⟩
  have hyes : decide (OkO o) = true := decide_eq_true ((OkO_iff o).2 ⟨h0, h1, h2, h3, h4, h5, h6, h7, h8, h9⟩)
  rw [hyes]
  go_enter Try.func35, Try.ntmps35
  go_wp2_with fail
  go_ret
  exact ⟨ret_bool (by simp [*]), by ((repeat (first | (with_reducible exact Below.refl _ _) | (with_reducible assumption) | ((with_reducible refine b_set ?_ ?_); · (first | omega | (simp; done) | (simp; omega))) | ((with_reducible refine b_alloc ?_ ?_); · (first | omega | (simp; done) | (simp; omega))) | (with_reducible refine Below.drew ?_) | (with_reducible refine b_drewN ?_) | ((with_reducible refine b_call (by assumption) ?_ ?_); · (first | omega | (simp; done) | (simp; omega))))); done)⟩
set_option maxHeartbeats 1000000 in
theorem bkMeet (o x : Od) (w : World) :
    Calls Try.prog 36 #[.agg #[.int .i64 o.id, .string o.who, .bool o.buy, .int .i64 o.item, .int .i64 o.ct, .int .i64 o.pr], .agg #[.int .i64 x.id, .string x.who, .bool x.buy, .int .i64 x.item, .int .i64 x.ct, .int .i64 x.pr]] w fun e w' => e = .returned (.bool (meetP o x)) ∧ Below w.heap.size w w' := by
  cases hb : o.buy with
  | true =>
    go_enter Try.func36, Try.ntmps36
    go_wp2_with fail
    go_ret
    exact ⟨ret_bool (by simp [meetP, hb]), by ((repeat (first | (with_reducible exact Below.refl _ _) | (with_reducible assumption) | ((with_reducible refine b_set ?_ ?_); · (first | omega | (simp; done) | (simp; omega))) | ((with_reducible refine b_alloc ?_ ?_); · (first | omega | (simp; done) | (simp; omega))) | (with_reducible refine Below.drew ?_) | (with_reducible refine b_drewN ?_) | ((with_reducible refine b_call (by assumption) ?_ ?_); · (first | omega | (simp; done) | (simp; omega))))); done)⟩
  | false =>
    go_enter Try.func36, Try.ntmps36
    go_wp2_with fail
    go_ret
    exact ⟨ret_bool (by simp [meetP, hb]), by ((repeat (first | (with_reducible exact Below.refl _ _) | (with_reducible assumption) | ((with_reducible refine b_set ?_ ?_); · (first | omega | (simp; done) | (simp; omega))) | ((with_reducible refine b_alloc ?_ ?_); · (first | omega | (simp; done) | (simp; omega))) | (with_reducible refine Below.drew ?_) | (with_reducible refine b_drewN ?_) | ((with_reducible refine b_call (by assumption) ?_ ?_); · (first | omega | (simp; done) | (simp; omega))))); done)⟩
def tdA (t : Td) : Value := .agg #[.string t.buyer, .string t.seller, .int .i64 t.buy, .int .i64 t.sell, .int .i64 t.item, .int .i64 t.ct, .int .i64 t.pr, .int .i64 t.bid]
set_option maxHeartbeats 4000000 in
set_option maxRecDepth 10000 in
theorem bkTrade (o x : Od) (n : Int) (w : World) :
    Calls Try.prog 37 #[.agg #[.int .i64 o.id, .string o.who, .bool o.buy, .int .i64 o.item, .int .i64 o.ct, .int .i64 o.pr], .agg #[.int .i64 x.id, .string x.who, .bool x.buy, .int .i64 x.item, .int .i64 x.ct, .int .i64 x.pr], .int .i64 n] w fun e w' => e = .returned (tdA (tradeP o x n)) ∧ Below w.heap.size w w' := by
  cases hb : o.buy with
  | true =>
    go_enter Try.func37, Try.ntmps37
    go_wp2_with fail
    all_goals go_region
    all_goals go_wp2_with fail
    all_goals go_region
    all_goals go_wp2_with fail
    all_goals (refine bodyPost_ret (v := tdA (tradeP o x n)) (by simp [results, Try.results37, go_sem, ↓IntWalk.iteOmega, tdA, tradeP, hb, *]) rfl ⟨rfl, ?_⟩; ((repeat (first | (with_reducible exact Below.refl _ _) | (with_reducible assumption) | ((with_reducible refine b_set ?_ ?_); · (first | omega | (simp; done) | (simp; omega))) | ((with_reducible refine b_alloc ?_ ?_); · (first | omega | (simp; done) | (simp; omega))) | (with_reducible refine Below.drew ?_) | (with_reducible refine b_drewN ?_) | ((with_reducible refine b_call (by assumption) ?_ ?_); · (first | omega | (simp; done) | (simp; omega))))); done))
  | false =>
    go_enter Try.func37, Try.ntmps37
    go_wp2_with fail
    all_goals go_region
    all_goals go_wp2_with fail
    all_goals (refine bodyPost_ret (v := tdA (tradeP o x n)) (by simp [results, Try.results37, go_sem, ↓IntWalk.iteOmega, tdA, tradeP, hb, *]) rfl ⟨rfl, ?_⟩; ((repeat (first | (with_reducible exact Below.refl _ _) | (with_reducible assumption) | ((with_reducible refine b_set ?_ ?_); · (first | omega | (simp; done) | (simp; omega))) | ((with_reducible refine b_alloc ?_ ?_); · (first | omega | (simp; done) | (simp; omega))) | (with_reducible refine Below.drew ?_) | (with_reducible refine b_drewN ?_) | ((with_reducible refine b_call (by assumption) ?_ ?_); · (first | omega | (simp; done) | (simp; omega))))); done))
theorem bkNew (w : World) :
    Calls Try.prog 33 #[] w fun e w' => e = .returned (.pointer (some ⟨w.heap.size, 0, none⟩)) ∧ w' = w.alloc (.cells #[.slice none 0 0, .slice none 0 0, .slice none 0 0, .slice none 0 0, .slice none 0 0, .slice none 0 0, .slice none 0 0, .slice none 0 0, .int .i64 0] 52) := by
  go_enter Try.func33, Try.ntmps33
  go_wp2_with fail
  go_ret
  exact ⟨rfl, rfl⟩
end Go.Proofs.Ytdlbiobjnohfbaa
