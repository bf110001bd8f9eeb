/- vault: VaultOthers, in the law's range. -/
import Derived.ProofKit
import Derived.Test.YtdlbiobjnohfbaaProg
import Derived.WalkKit
import Derived.WalkSpells
import Derived.WalkLawsBesides
import Derived.Deep.QuietTactic
import Derived.BigQuiet
import Derived.RegionTactic
import Derived.BigRegion
import Derived.Outline
import Derived.LoopTactic
import Derived.Lib.Hide
import Derived.Deep.RegionHeld3
import Derived.Laws.AppendOwnNone
import Derived.Deep.AppendLies
import Derived.Maps.AppendAt
import Derived.Laws.Rows
import Derived.Laws.OwnMore
import Derived.Deep.RegionLaw
import Derived.Deep.Onto
import Derived.Maps.Own
import Derived.Maps.RangeRun
import Derived.Carry
import Derived.Maps.Range
import Derived.Deep.DeepMust
import Derived.Deep.Cut
import Derived.StillTailTactics
import Derived.Deep.Light
import Derived.Test.YtdlbiobjnohfbaaLay
import Derived.Shelf.SlSortCmp.NoneTotal
import Derived.Test.YtdlbiobjnohfbaaVo0
import Derived.Test.YtdlbiobjnohfbaaVo1
import Derived.Test.YtdlbiobjnohfbaaVo2
import Derived.Test.YtdlbiobjnohfbaaVo3
import Derived.Test.YtdlbiobjnohfbaaVo4
import Derived.Test.YtdlbiobjnohfbaaVo5
import Derived.Test.YtdlbiobjnohfbaaVo6
import Derived.Test.YtdlbiobjnohfbaaVo7
import Derived.Test.YtdlbiobjnohfbaaVo8
import Derived.Test.YtdlbiobjnohfbaaVo9
import Derived.Test.YtdlbiobjnohfbaaVo10
import Derived.Test.YtdlbiobjnohfbaaVo11
import Derived.Test.YtdlbiobjnohfbaaVo12
import Derived.Test.YtdlbiobjnohfbaaVo13
import Derived.Test.YtdlbiobjnohfbaaVo14
import Derived.Test.YtdlbiobjnohfbaaVo15
import Derived.Test.YtdlbiobjnohfbaaVo16
import Derived.Test.YtdlbiobjnohfbaaVo17
import Derived.Test.YtdlbiobjnohfbaaVo18
import Derived.Test.YtdlbiobjnohfbaaVo19
import Derived.Test.YtdlbiobjnohfbaaVo20
import Derived.Test.YtdlbiobjnohfbaaVo21
import Derived.Test.YtdlbiobjnohfbaaVo22
import Derived.Test.YtdlbiobjnohfbaaVo23
import Derived.Test.YtdlbiobjnohfbaaVo24
import Derived.Test.YtdlbiobjnohfbaaVo25
import Derived.Test.YtdlbiobjnohfbaaVo26
import Derived.Test.YtdlbiobjnohfbaaVo27
import Derived.Test.YtdlbiobjnohfbaaVo28
import Derived.Test.YtdlbiobjnohfbaaVo29
import Derived.Test.YtdlbiobjnohfbaaVo30
import Derived.Test.YtdlbiobjnohfbaaVo31
import Derived.Test.YtdlbiobjnohfbaaVo32
import Derived.Test.YtdlbiobjnohfbaaVo33
import Derived.Test.YtdlbiobjnohfbaaVo34
import Derived.Test.YtdlbiobjnohfbaaVo35
import Derived.Test.YtdlbiobjnohfbaaVo36
import Derived.Test.YtdlbiobjnohfbaaVo37
import Derived.Test.YtdlbiobjnohfbaaVo38
import Derived.Test.YtdlbiobjnohfbaaVo39
import Derived.Test.YtdlbiobjnohfbaaVo40
import Derived.Test.YtdlbiobjnohfbaaVo41
namespace Go.Proofs.Ytdlbiobjnohfbaa
open Go.RowKit Go.ChangeMaps Go.MapKept
set_option linter.unusedVariables false
set_option linter.unusedSimpArgs false
set_option maxHeartbeats 8000000 in
set_option maxRecDepth 10000 in
theorem othersYes (a b : ByteArray) (n : Int) (w : World) (ha : 1 ≤ a.size ∧ a.size ≤ 16) (hb : 1 ≤ b.size ∧ b.size ≤ 16) (hn : 1 ≤ n ∧ n ≤ 1000) (hab : a ≠ b) :
    Calls Try.prog 4 #[.string a, .string b, .int .i64 n] w fun e w' => e = .returned (.bool true) ∧ Below w.heap.size w w' := by
  have HA := Lib.hid ha
  have HBb := Lib.hid hb
  have HN := Lib.hid hn
  have HAB := Lib.hid hab
  have q1 : ¬ (a.size : Int) < 1 := by omega
  have q2 : ¬ (b.size : Int) < 1 := by omega
  have q3 : ¬ (16 : Int) < (a.size : Int) := by omega
  have q4 : ¬ (16 : Int) < (b.size : Int) := by omega
  have q5 : ¬ n < 1 := by omega
  have q6 : ¬ 1000 < n := by omega
  have q7 : (a.toList == b.toList) = false := by rw [beq_eq_false_iff_ne]; exact fun h => hab (toL_inj h)
  clear ha hb hn hab
  go_enter Try.func4, Try.ntmps4
  go_wp2_with (first
    | (go_at_call 8; have hgg := HU9; clear hgg; refine (vtKnown _).mono ?_; rintro e w10 ⟨rfl, hb10⟩; have HB10 := Lib.hid (HU9.out.bel.trans (hb10.mono HU9.out.bel.size)); clear hb10)
    | (go_at_call 14; have hgg := HA8; clear hgg; go_loud (refine (othHas w.heap.size p8 v8 a n L8 _ HN.out HA8.out).mono ?_; rintro e w9 ⟨rfl, hb9⟩; have HU9 := Lib.hid (HU8.out.same hb9); clear hb9))
    | (go_at_call 12; have hgg := HA7; clear hgg; go_loud (refine (othCanA w.heap.size p4 v4 a n _ HA7.out).mono ?_; rintro e w8 ⟨rfl, p8, v8, L8, hv8, ht8, hf8⟩; have HA8 := Lib.hid hv8; have HU8 := Lib.hid (HU7.out.step ht8 hf8); clear hv8 ht8 hf8))
    | (go_at_call 10; have hgg := HA6; clear hgg; go_loud (refine (othTake w.heap.size p4 v4 a n _ HA.out HA6.out).mono ?_; rintro e w7 ⟨rfl, hb7⟩; have HA7 := Lib.hid (HA6.out.below hb7); have HU7 := Lib.hid (HU6.out.same hb7); clear hb7))
    | (go_at_call 12; have hgg := HA4; clear hgg; go_loud (refine (othCanB w.heap.size p4 v4 a b n _ HAB.out HA4.out).mono ?_; rintro e w6 ⟨rfl, hb6⟩; have HA6 := Lib.hid (HA4.out.below hb6); have HU6 := Lib.hid (HU4.out.same hb6); clear hb6))
    | (go_at_call 11; have hgg := HA3; clear hgg; go_loud (refine (othOrdA w.heap.size p2 _ a n _ HA.out HN.out HA3.out).mono ?_; rintro e w4 ⟨rfl, p4, v4, hv4, ht4, hf4⟩; have HA4 := Lib.hid hv4; have HU4 := Lib.hid (HU3.out.step ht4 hf4); clear hv4 ht4 hf4))
    | (go_at_call 11; have hgg := HA2; clear hgg; go_loud (refine (othOrdB w.heap.size p2 _ a b n _ HBb.out HN.out HAB.out HA2.out).mono ?_; rintro e w3 ⟨rfl, hb3⟩; have HA3 := Lib.hid (HA2.out.below hb3); have HU3 := Lib.hid (HU2.out.same hb3); clear hb3))
    | (go_at_call 9; have hgg := HA1; clear hgg; go_loud (refine (othPut w.heap.size (fun _ => []) a n _ HA.out HN.out HA1.out).mono ?_; rintro e w2 ⟨rfl, p2, hv2, ht2, hf2⟩; have HA2 := Lib.hid hv2; have HU2 := Lib.hid (HU1.out.step ht2 hf2); clear hv2 ht2 hf2))
    | (go_at_call 7; refine (newVault _).mono ?_; rintro e w1 ⟨rfl, hv1, hb1⟩; have HA1 := Lib.hid hv1; have HU1 : Hid (Up w w1 w.heap.size (.map none) (fun _ => .slice none 0 0)) := Lib.hid ⟨hb1, fun x hx => by rcases hx with (e | ⟨i, _, e⟩) | e; exact Nat.le_of_eq e.symm; cases e; cases e⟩; clear hv1 hb1)
    | fail)
  refine bodyPost_ret (v := .bool true) (by simp [results, Try.results4, go_sem]) rfl ⟨rfl, HB10.out⟩
end Go.Proofs.Ytdlbiobjnohfbaa
