/- vault: Has, may, set, held. -/
import Derived.ProofKit
import Derived.Test.YtdlbiobjnohfbaaProg
import Derived.WalkKit
import Derived.WalkSpells
import Derived.WalkLawsBesides
import Derived.Deep.QuietTactic
import Derived.BigQuiet
import Derived.RegionTactic
import Derived.BigRegion
import Derived.Outline
import Derived.LoopTactic
import Derived.Lib.Hide
import Derived.Deep.RegionHeld3
import Derived.Laws.AppendOwnNone
import Derived.Deep.AppendLies
import Derived.Maps.AppendAt
import Derived.Laws.Rows
import Derived.Laws.OwnMore
import Derived.Deep.RegionLaw
import Derived.Deep.Onto
import Derived.Maps.Own
import Derived.Maps.RangeRun
import Derived.Carry
import Derived.Maps.Range
import Derived.Deep.DeepMust
import Derived.Test.YtdlbiobjnohfbaaVi0
import Derived.Test.YtdlbiobjnohfbaaVi1
import Derived.Test.YtdlbiobjnohfbaaVi2
import Derived.Test.YtdlbiobjnohfbaaVi3
import Derived.Test.YtdlbiobjnohfbaaVi4
import Derived.Test.YtdlbiobjnohfbaaVi5
import Derived.Test.YtdlbiobjnohfbaaVi6
import Derived.Test.YtdlbiobjnohfbaaVi7
import Derived.Test.YtdlbiobjnohfbaaVi8
import Derived.Test.YtdlbiobjnohfbaaVi9
import Derived.Test.YtdlbiobjnohfbaaVi10
import Derived.Test.YtdlbiobjnohfbaaVi11
import Derived.Test.YtdlbiobjnohfbaaVi12
import Derived.Test.YtdlbiobjnohfbaaVi13
import Derived.Test.YtdlbiobjnohfbaaVi14
import Derived.Test.YtdlbiobjnohfbaaVi15
import Derived.Test.YtdlbiobjnohfbaaVi16
import Derived.Test.YtdlbiobjnohfbaaVi17
import Derived.Test.YtdlbiobjnohfbaaVi18
import Derived.Test.YtdlbiobjnohfbaaVi19
namespace Go.Proofs.Ytdlbiobjnohfbaa
open Go.RowKit Go.ChangeMaps Go.MapKept
set_option linter.unusedVariables false
set_option linter.unusedSimpArgs false
theorem zIt : ∀ w, (zeroValue 27).run Try.prog w = .ok (itV z4) w := fun _ => by kernel_rfl
theorem PuH.look {w : World} {p : Value} {l : Pm} (h : PuH w p l) (s : ByteArray) : (Instr.lookup 48 p (.string s) false).run Try.prog w = .ok (itV (hasP l s.data.toList)) w := by
  rcases h with ⟨rfl, rfl⟩ | ⟨m, rfl, h⟩
  · have := look_nil (w := w) kB Try.underlying48 (zIt w) s.data.toList
    rw [bytes_dataB] at this
    exact this
  · have := h.look kB Try.underlying48 (zIt w) s.data.toList
    rw [bytes_dataB, get_vPm] at this
    exact this
set_option maxHeartbeats 2000000 in
set_option maxRecDepth 10000 in
theorem vtHas (b : Nat) (p : Value) (l : Pm) (s : ByteArray) (w : World) (hb : b < w.heap.size) (hc : w.cell? ⟨b, 0, none⟩ = some p) (hp : PuH w p l) :
    Calls Try.prog 14 #[.pointer (some ⟨b, 0, none⟩), .string s] w fun e w' => e = .returned (itV (hasP l s.data.toList)) ∧ Below w.heap.size w w' := by
  have hB : Below w.heap.size w (w.alloc (.cells #[.int .i64 0, .int .i64 0, .int .i64 0, .int .i64 0] 27)) := (Below.refl _ _).alloc (Nat.le_refl _) _
  have hl := (hp.keep (Touch.of_below hB) (fun x hx hd => by have := hp.lows x hx; omega)).look s
  obtain ⟨r, hr⟩ : ∃ r, r = hasP l s.data.toList := ⟨_, rfl⟩
  rw [← hr] at hl ⊢
  obtain ⟨r0, r1, r2, r3⟩ := r
  simp only [itV] at hl ⊢
  clear hr hp hB
  go_enter Try.func14, Try.ntmps14
  go_wp2_with fail
  refine bodyPost_ret (v := .agg #[.int .i64 r0, .int .i64 r1, .int .i64 r2, .int .i64 r3]) (by simp [results, Try.results14, go_sem, ↓IntWalk.iteOmega, *]) rfl ⟨rfl, by ((repeat (first | (with_reducible exact Below.refl _ _) | (with_reducible assumption) | ((with_reducible refine b_set ?_ ?_); · (first | omega | (simp; done) | (simp; omega))) | ((with_reducible refine b_alloc ?_ ?_); · (first | omega | (simp; done) | (simp; omega))) | (with_reducible refine Below.drew ?_) | (with_reducible refine b_drewN ?_) | ((with_reducible refine b_call (by assumption) ?_ ?_); · (first | omega | (simp; done) | (simp; omega))))); done)⟩
set_option maxHeartbeats 2000000 in
set_option maxRecDepth 10000 in
theorem vtMay (b : Nat) (s : ByteArray) (i : It4) (w : World) :
    Calls Try.prog 16 #[.pointer (some ⟨b, 0, none⟩), .string s, itV i] w fun e w' => e = .returned (.bool (decide (1 ≤ s.size) && (decide (s.size ≤ 16) && isP i.1 i.2.1 i.2.2.1 i.2.2.2))) ∧ Below w.heap.size w w' := by
  obtain ⟨r0, r1, r2, r3⟩ := i
  simp only [itV]
  by_cases h1 : 1 ≤ s.size
  · by_cases h2 : s.size ≤ 16
    · have k1 : (1 : Int) ≤ (s.size : Int) := by omega
      have k2 : (s.size : Int) ≤ 16 := by omega
      go_enter Try.func16, Try.ntmps16
      go_wp2_with (first
        | (go_at_call 31; refine (purseIs r0 r1 r2 r3 _).mono ?_; rintro e w3 ⟨rfl, hb3⟩)
        | fail)
      refine bodyPost_ret (v := .bool (isP r0 r1 r2 r3)) (by simp [results, Try.results16, go_sem]) rfl ⟨by simp [h1, h2], by ((repeat (first | (with_reducible exact Below.refl _ _) | (with_reducible assumption) | ((with_reducible refine b_set ?_ ?_); · (first | omega | (simp; done) | (simp; omega))) | ((with_reducible refine b_alloc ?_ ?_); · (first | omega | (simp; done) | (simp; omega))) | (with_reducible refine Below.drew ?_) | (with_reducible refine b_drewN ?_) | ((with_reducible refine b_call (by assumption) ?_ ?_); · (first | omega | (simp; done) | (simp; omega))))); done)⟩
    · have k1 : (1 : Int) ≤ (s.size : Int) := by omega
      have k2 : ¬ (s.size : Int) ≤ 16 := by omega
      go_enter Try.func16, Try.ntmps16
      go_wp2_with fail
      refine bodyPost_ret (v := .bool false) (by simp [results, Try.results16, go_sem]) rfl ⟨by simp [h2], by ((repeat (first | (with_reducible exact Below.refl _ _) | (with_reducible assumption) | ((with_reducible refine b_set ?_ ?_); · (first | omega | (simp; done) | (simp; omega))) | ((with_reducible refine b_alloc ?_ ?_); · (first | omega | (simp; done) | (simp; omega))) | (with_reducible refine Below.drew ?_) | (with_reducible refine b_drewN ?_) | ((with_reducible refine b_call (by assumption) ?_ ?_); · (first | omega | (simp; done) | (simp; omega))))); done)⟩
  · have k1 : ¬ (1 : Int) ≤ (s.size : Int) := by omega
    go_enter Try.func16, Try.ntmps16
    go_wp2_with fail
    refine bodyPost_ret (v := .bool false) (by simp [results, Try.results16, go_sem]) rfl ⟨by simp [h1], by ((repeat (first | (with_reducible exact Below.refl _ _) | (with_reducible assumption) | ((with_reducible refine b_set ?_ ?_); · (first | omega | (simp; done) | (simp; omega))) | ((with_reducible refine b_alloc ?_ ?_); · (first | omega | (simp; done) | (simp; omega))) | (with_reducible refine Below.drew ?_) | (with_reducible refine b_drewN ?_) | ((with_reducible refine b_call (by assumption) ?_ ?_); · (first | omega | (simp; done) | (simp; omega))))); done)⟩
/-- what an order holds -/
def heldP (o : Od) : It4 := if o.buy then (o.ct * o.pr, 0, 0, 0) else if o.item = 1 then (0, o.ct, 0, 0) else if o.item = 2 then (0, 0, o.ct, 0) else if o.item = 3 then (0, 0, 0, o.ct) else (o.ct, 0, 0, 0)
set_option maxHeartbeats 2000000 in
set_option maxRecDepth 10000 in
theorem vtHeldB (o : Od) (w : World) (hb : o.buy = true) (hc : 0 ≤ o.ct ∧ o.ct ≤ 1048576) (hp : 0 ≤ o.pr ∧ o.pr ≤ 1024) :
    Calls Try.prog 22 #[odA o] w fun e w' => e = .returned (itV (heldP o)) ∧ Below w.heap.size w w' := by
  have hm : IntKind.i64.wrap (o.ct * o.pr) = o.ct * o.pr := by
    obtain ⟨n, hn⟩ : ∃ n, n = o.ct * o.pr := ⟨_, rfl⟩
    have h1 : 0 ≤ n := by rw [hn]; exact Int.mul_nonneg hc.1 hp.1
    have h2 : n ≤ 1048576 * 1024 := by rw [hn]; exact Int.mul_le_mul hc.2 hp.2 hp.1 (by omega)
    rw [← hn]; rw [IntKind.wrap_i64]; omega
  have hh : heldP o = (o.ct * o.pr, 0, 0, 0) := by unfold heldP; rw [if_pos hb]
  rw [hh]
  unfold odA itV
  rw [hb]
  go_enter Try.func22, Try.ntmps22
  go_wp2_with fail
  refine bodyPost_ret (v := .agg #[.int .i64 (o.ct * o.pr), .int .i64 0, .int .i64 0, .int .i64 0]) (by simp [results, Try.results22, go_sem, ↓IntWalk.iteOmega, *]) rfl ⟨rfl, by ((repeat (first | (with_reducible exact Below.refl _ _) | (with_reducible assumption) | ((with_reducible refine b_set ?_ ?_); · (first | omega | (simp; done) | (simp; omega))) | ((with_reducible refine b_alloc ?_ ?_); · (first | omega | (simp; done) | (simp; omega))) | (with_reducible refine Below.drew ?_) | (with_reducible refine b_drewN ?_) | ((with_reducible refine b_call (by assumption) ?_ ?_); · (first | omega | (simp; done) | (simp; omega))))); done)⟩
set_option maxHeartbeats 2000000 in
set_option maxRecDepth 10000 in
theorem vtHeldS (o : Od) (w : World) (hb : o.buy = false) (hi : 1 ≤ o.item ∧ o.item ≤ 3) :
    Calls Try.prog 22 #[odA o] w fun e w' => e = .returned (itV (heldP o)) ∧ Below w.heap.size w w' := by
  unfold heldP
  rw [if_neg (by rw [hb]; decide)]
  rcases (show o.item = 1 ∨ o.item = 2 ∨ o.item = 3 by omega) with h | h | h
  · rw [if_pos h]
    unfold odA itV
    rw [hb, h]
    go_enter Try.func22, Try.ntmps22
    go_wp2_with fail
    refine bodyPost_ret (v := .agg #[.int .i64 0, .int .i64 o.ct, .int .i64 0, .int .i64 0]) (by simp [results, Try.results22, go_sem, ↓IntWalk.iteOmega, *]) rfl ⟨rfl, by ((repeat (first | (with_reducible exact Below.refl _ _) | (with_reducible assumption) | ((with_reducible refine b_set ?_ ?_); · (first | omega | (simp; done) | (simp; omega))) | ((with_reducible refine b_alloc ?_ ?_); · (first | omega | (simp; done) | (simp; omega))) | (with_reducible refine Below.drew ?_) | (with_reducible refine b_drewN ?_) | ((with_reducible refine b_call (by assumption) ?_ ?_); · (first | omega | (simp; done) | (simp; omega))))); done)⟩
  · rw [if_neg (by omega), if_pos h]
    unfold odA itV
    rw [hb, h]
    go_enter Try.func22, Try.ntmps22
    go_wp2_with fail
    refine bodyPost_ret (v := .agg #[.int .i64 0, .int .i64 0, .int .i64 o.ct, .int .i64 0]) (by simp [results, Try.results22, go_sem, ↓IntWalk.iteOmega, *]) rfl ⟨rfl, by ((repeat (first | (with_reducible exact Below.refl _ _) | (with_reducible assumption) | ((with_reducible refine b_set ?_ ?_); · (first | omega | (simp; done) | (simp; omega))) | ((with_reducible refine b_alloc ?_ ?_); · (first | omega | (simp; done) | (simp; omega))) | (with_reducible refine Below.drew ?_) | (with_reducible refine b_drewN ?_) | ((with_reducible refine b_call (by assumption) ?_ ?_); · (first | omega | (simp; done) | (simp; omega))))); done)⟩
  · rw [if_neg (by omega), if_neg (by omega), if_pos h]
    unfold odA itV
    rw [hb, h]
    go_enter Try.func22, Try.ntmps22
    go_wp2_with fail
    refine bodyPost_ret (v := .agg #[.int .i64 0, .int .i64 0, .int .i64 0, .int .i64 o.ct]) (by simp [results, Try.results22, go_sem, ↓IntWalk.iteOmega, *]) rfl ⟨rfl, by ((repeat (first | (with_reducible exact Below.refl _ _) | (with_reducible assumption) | ((with_reducible refine b_set ?_ ?_); · (first | omega | (simp; done) | (simp; omega))) | ((with_reducible refine b_alloc ?_ ?_); · (first | omega | (simp; done) | (simp; omega))) | (with_reducible refine Below.drew ?_) | (with_reducible refine b_drewN ?_) | ((with_reducible refine b_call (by assumption) ?_ ?_); · (first | omega | (simp; done) | (simp; omega))))); done)⟩
theorem vtHeld (o : Od) (w : World) (h : OkO o) : Calls Try.prog 22 #[odA o] w fun e w' => e = .returned (itV (heldP o)) ∧ Below w.heap.size w w' := by
  cases hb : o.buy with
  | true => exact vtHeldB o w hb (by have := h.ct; omega) (by have := h.pr; omega)
  | false => exact vtHeldS o w hb h.item
end Go.Proofs.Ytdlbiobjnohfbaa
