/- vault: VaultOthers, out of the law's range. -/
import Derived.ProofKit
import Derived.Test.YtdlbiobjnohfbaaProg
import Derived.WalkKit
import Derived.WalkSpells
import Derived.WalkLawsBesides
import Derived.Deep.QuietTactic
import Derived.BigQuiet
import Derived.RegionTactic
import Derived.BigRegion
import Derived.Outline
import Derived.LoopTactic
import Derived.Lib.Hide
import Derived.Deep.RegionHeld3
import Derived.Laws.AppendOwnNone
import Derived.Deep.AppendLies
import Derived.Maps.AppendAt
import Derived.Laws.Rows
import Derived.Laws.OwnMore
import Derived.Deep.RegionLaw
import Derived.Deep.Onto
import Derived.Maps.Own
import Derived.Maps.RangeRun
import Derived.Carry
import Derived.Maps.Range
import Derived.Deep.DeepMust
import Derived.Deep.Cut
import Derived.StillTailTactics
import Derived.Deep.Light
import Derived.Test.YtdlbiobjnohfbaaLay
import Derived.Shelf.SlSortCmp.NoneTotal
import Derived.Test.YtdlbiobjnohfbaaVo0
import Derived.Test.YtdlbiobjnohfbaaVo1
import Derived.Test.YtdlbiobjnohfbaaVo2
import Derived.Test.YtdlbiobjnohfbaaVo3
import Derived.Test.YtdlbiobjnohfbaaVo4
import Derived.Test.YtdlbiobjnohfbaaVo5
import Derived.Test.YtdlbiobjnohfbaaVo6
import Derived.Test.YtdlbiobjnohfbaaVo7
import Derived.Test.YtdlbiobjnohfbaaVo8
import Derived.Test.YtdlbiobjnohfbaaVo9
import Derived.Test.YtdlbiobjnohfbaaVo10
import Derived.Test.YtdlbiobjnohfbaaVo11
import Derived.Test.YtdlbiobjnohfbaaVo12
import Derived.Test.YtdlbiobjnohfbaaVo13
import Derived.Test.YtdlbiobjnohfbaaVo14
import Derived.Test.YtdlbiobjnohfbaaVo15
import Derived.Test.YtdlbiobjnohfbaaVo16
import Derived.Test.YtdlbiobjnohfbaaVo17
import Derived.Test.YtdlbiobjnohfbaaVo18
import Derived.Test.YtdlbiobjnohfbaaVo19
import Derived.Test.YtdlbiobjnohfbaaVo20
import Derived.Test.YtdlbiobjnohfbaaVo21
import Derived.Test.YtdlbiobjnohfbaaVo22
import Derived.Test.YtdlbiobjnohfbaaVo23
import Derived.Test.YtdlbiobjnohfbaaVo24
import Derived.Test.YtdlbiobjnohfbaaVo25
import Derived.Test.YtdlbiobjnohfbaaVo26
import Derived.Test.YtdlbiobjnohfbaaVo27
import Derived.Test.YtdlbiobjnohfbaaVo28
import Derived.Test.YtdlbiobjnohfbaaVo29
import Derived.Test.YtdlbiobjnohfbaaVo30
import Derived.Test.YtdlbiobjnohfbaaVo31
import Derived.Test.YtdlbiobjnohfbaaVo32
import Derived.Test.YtdlbiobjnohfbaaVo33
import Derived.Test.YtdlbiobjnohfbaaVo34
import Derived.Test.YtdlbiobjnohfbaaVo35
import Derived.Test.YtdlbiobjnohfbaaVo36
import Derived.Test.YtdlbiobjnohfbaaVo37
import Derived.Test.YtdlbiobjnohfbaaVo38
import Derived.Test.YtdlbiobjnohfbaaVo39
import Derived.Test.YtdlbiobjnohfbaaVo40
namespace Go.Proofs.Ytdlbiobjnohfbaa
open Go.RowKit Go.ChangeMaps Go.MapKept
set_option linter.unusedVariables false
set_option linter.unusedSimpArgs false
set_option maxHeartbeats 8000000 in
set_option maxRecDepth 10000 in
theorem othersNo1 (a b : ByteArray) (n : Int) (w : World)  (q1 : (a.size : Int) < 1) :
    Calls Try.prog 4 #[.string a, .string b, .int .i64 n] w fun e w' => e = .returned (.bool true) ∧ Below w.heap.size w w' := by
  go_enter Try.func4, Try.ntmps4
  go_wp2_with (first
    | (go_at_call 8; refine (vtKnown _).mono ?_; rintro e w3 ⟨rfl, hb3⟩)
    | fail)
  refine bodyPost_ret (v := .bool true) (by simp [results, Try.results4, go_sem]) rfl ⟨rfl, hb3⟩
set_option maxHeartbeats 8000000 in
set_option maxRecDepth 10000 in
theorem othersNo2 (a b : ByteArray) (n : Int) (w : World) (q1 : ¬ (a.size : Int) < 1) (q2 : (b.size : Int) < 1) :
    Calls Try.prog 4 #[.string a, .string b, .int .i64 n] w fun e w' => e = .returned (.bool true) ∧ Below w.heap.size w w' := by
  go_enter Try.func4, Try.ntmps4
  go_wp2_with (first
    | (go_at_call 8; refine (vtKnown _).mono ?_; rintro e w3 ⟨rfl, hb3⟩)
    | fail)
  refine bodyPost_ret (v := .bool true) (by simp [results, Try.results4, go_sem]) rfl ⟨rfl, hb3⟩
set_option maxHeartbeats 8000000 in
set_option maxRecDepth 10000 in
theorem othersNo3 (a b : ByteArray) (n : Int) (w : World) (q1 : ¬ (a.size : Int) < 1) (q2 : ¬ (b.size : Int) < 1) (q3 : (16 : Int) < (a.size : Int)) :
    Calls Try.prog 4 #[.string a, .string b, .int .i64 n] w fun e w' => e = .returned (.bool true) ∧ Below w.heap.size w w' := by
  go_enter Try.func4, Try.ntmps4
  go_wp2_with (first
    | (go_at_call 8; refine (vtKnown _).mono ?_; rintro e w3 ⟨rfl, hb3⟩)
    | fail)
  refine bodyPost_ret (v := .bool true) (by simp [results, Try.results4, go_sem]) rfl ⟨rfl, hb3⟩
set_option maxHeartbeats 8000000 in
set_option maxRecDepth 10000 in
theorem othersNo4 (a b : ByteArray) (n : Int) (w : World) (q1 : ¬ (a.size : Int) < 1) (q2 : ¬ (b.size : Int) < 1) (q3 : ¬ (16 : Int) < (a.size : Int)) (q4 : (16 : Int) < (b.size : Int)) :
    Calls Try.prog 4 #[.string a, .string b, .int .i64 n] w fun e w' => e = .returned (.bool true) ∧ Below w.heap.size w w' := by
  go_enter Try.func4, Try.ntmps4
  go_wp2_with (first
    | (go_at_call 8; refine (vtKnown _).mono ?_; rintro e w3 ⟨rfl, hb3⟩)
    | fail)
  refine bodyPost_ret (v := .bool true) (by simp [results, Try.results4, go_sem]) rfl ⟨rfl, hb3⟩
set_option maxHeartbeats 8000000 in
set_option maxRecDepth 10000 in
theorem othersNo5 (a b : ByteArray) (n : Int) (w : World) (q1 : ¬ (a.size : Int) < 1) (q2 : ¬ (b.size : Int) < 1) (q3 : ¬ (16 : Int) < (a.size : Int)) (q4 : ¬ (16 : Int) < (b.size : Int)) (q5 : n < 1) :
    Calls Try.prog 4 #[.string a, .string b, .int .i64 n] w fun e w' => e = .returned (.bool true) ∧ Below w.heap.size w w' := by
  go_enter Try.func4, Try.ntmps4
  go_wp2_with (first
    | (go_at_call 8; refine (vtKnown _).mono ?_; rintro e w3 ⟨rfl, hb3⟩)
    | fail)
  refine bodyPost_ret (v := .bool true) (by simp [results, Try.results4, go_sem]) rfl ⟨rfl, hb3⟩
set_option maxHeartbeats 8000000 in
set_option maxRecDepth 10000 in
theorem othersNo6 (a b : ByteArray) (n : Int) (w : World) (q1 : ¬ (a.size : Int) < 1) (q2 : ¬ (b.size : Int) < 1) (q3 : ¬ (16 : Int) < (a.size : Int)) (q4 : ¬ (16 : Int) < (b.size : Int)) (q5 : ¬ n < 1) (q6 : 1000 < n) :
    Calls Try.prog 4 #[.string a, .string b, .int .i64 n] w fun e w' => e = .returned (.bool true) ∧ Below w.heap.size w w' := by
  go_enter Try.func4, Try.ntmps4
  go_wp2_with (first
    | (go_at_call 8; refine (vtKnown _).mono ?_; rintro e w3 ⟨rfl, hb3⟩)
    | fail)
  refine bodyPost_ret (v := .bool true) (by simp [results, Try.results4, go_sem]) rfl ⟨rfl, hb3⟩
set_option maxHeartbeats 8000000 in
set_option maxRecDepth 10000 in
theorem othersNo7 (a b : ByteArray) (n : Int) (w : World) (q1 : ¬ (a.size : Int) < 1) (q2 : ¬ (b.size : Int) < 1) (q3 : ¬ (16 : Int) < (a.size : Int)) (q4 : ¬ (16 : Int) < (b.size : Int)) (q5 : ¬ n < 1) (q6 : ¬ 1000 < n) (q7 : (a.toList == b.toList) = true) :
    Calls Try.prog 4 #[.string a, .string b, .int .i64 n] w fun e w' => e = .returned (.bool true) ∧ Below w.heap.size w w' := by
  go_enter Try.func4, Try.ntmps4
  go_wp2_with (first
    | (go_at_call 8; refine (vtKnown _).mono ?_; rintro e w3 ⟨rfl, hb3⟩)
    | fail)
  refine bodyPost_ret (v := .bool true) (by simp [results, Try.results4, go_sem]) rfl ⟨rfl, hb3⟩
end Go.Proofs.Ytdlbiobjnohfbaa
