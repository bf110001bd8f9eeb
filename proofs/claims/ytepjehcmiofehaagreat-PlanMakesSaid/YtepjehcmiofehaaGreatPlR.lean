/- the law's heavy. -/
import Derived.Test.YtepjehcmiofehaaGreatPlQ
namespace Go.Proofs.YtepjehcmiofehaaGreat
open Go.RowKit
set_option linter.unusedVariables false
set_option linter.unusedSimpArgs false

def HvQ (m : Mp) (hs : List Int) (l : List Lr) (w : World) (e : Ending) (w' : World) : Prop := ∃ b, e = .returned (.bool b) ∧ (b = false → Lt60 m ∧ hs.length ≤ 20 ∧ l.length ≤ 60) ∧ Below w.heap.size w w'
theorem HvQ.yes {m : Mp} {hs : List Int} {l : List Lr} {w w' : World} (h : Below w.heap.size w w') : HvQ m hs l w (.returned (.bool true)) w' := ⟨true, rfl, fun h => (by cases h), h⟩
theorem HvQ.no {m : Mp} {hs : List Int} {l : List Lr} {w w' : World} (h1 : Lt60 m) (h2 : hs.length ≤ 20) (h3 : l.length ≤ 60) (h : Below w.heap.size w w') : HvQ m hs l w (.returned (.bool false)) w' := ⟨false, rfl, fun _ => ⟨h1, h2, h3⟩, h⟩
set_option maxHeartbeats 8000000 in
set_option maxRecDepth 10000 in
theorem plHeavy (A : Option Addr) (cp : Nat) (m : Mp) (Ah : Option Addr) (ch : Nat) (hs : List Int) (Al : Option Addr) (cl : Nat) (l : List Lr) (w : World) (hz : RowZ w A cp m.zs) (hl : RowL w Al cl l) :
    Calls Tryz.prog 4 #[.agg #[.int .i64 m.ver, .int .i64 m.nxt, .slice A m.zs.length cp], .slice Ah hs.length ch, .slice Al l.length cl] w fun e w' => HvQ m hs l w e w' := by
  have hB : Below w.heap.size w (w.alloc (.cells #[.int .i64 m.ver, .int .i64 m.nxt, .slice A m.zs.length cp] 24)) := (Below.refl _ _).alloc (Nat.le_refl _) _
  have HB := Lib.hid hB
  have HZ := Lib.hid (hz.below hB)
  have HL := Lib.hid (hl.below hB)
  clear hz hl hB
  by_cases hT : Lt60 m
  case neg =>
    have HT := Lib.hid hT
    clear hT
    go_enter Tryz.func4, Tryz.ntmps4
    go_wp2_with (first
      | (go_at_call 12; go_loud (refine (drHeavyMap A cp m _ HZ.out.cells (b := true) ⟨fun h => (by cases h), fun h => absurd h HT.out⟩).mono ?_; rintro e w1 ⟨rfl, hb1⟩; have HB1 := Lib.hid (HB.out.trans (hb1.mono HB.out.size)); have HB1b := Lib.hid hb1; have hs1 := hb1.size; clear hb1))
      | fail)
    go_ret
    exact HvQ.yes HB1.out
  have HT := Lib.hid hT
  clear hT
  by_cases h20 : (20 : Int) < (hs.length : Int)
  case pos =>
    go_enter Tryz.func4, Tryz.ntmps4
    go_wp2_with (first
      | (go_at_call 12; go_loud (refine (drHeavyMap A cp m _ HZ.out.cells (b := false) ⟨fun _ => HT.out, fun _ => rfl⟩).mono ?_; rintro e w1 ⟨rfl, hb1⟩; have HB1 := Lib.hid (HB.out.trans (hb1.mono HB.out.size)); have HB1b := Lib.hid hb1; have hs1 := hb1.size; clear hb1))
      | fail)
    go_ret
    exact HvQ.yes HB1.out
  by_cases h60 : (60 : Int) < (l.length : Int)
  case pos =>
    go_enter Tryz.func4, Tryz.ntmps4
    go_wp2_with (first
      | (go_at_call 12; go_loud (refine (drHeavyMap A cp m _ HZ.out.cells (b := false) ⟨fun _ => HT.out, fun _ => rfl⟩).mono ?_; rintro e w1 ⟨rfl, hb1⟩; have HB1 := Lib.hid (HB.out.trans (hb1.mono HB.out.size)); have HB1b := Lib.hid hb1; have hs1 := hb1.size; clear hb1))
      | fail)
    go_ret
    exact HvQ.yes HB1.out
  case neg =>
    go_enter Tryz.func4, Tryz.ntmps4
    go_wp2_with (first
      | (go_at_call 12; go_loud (refine (drHeavyMap A cp m _ HZ.out.cells (b := false) ⟨fun _ => HT.out, fun _ => rfl⟩).mono ?_; rintro e w1 ⟨rfl, hb1⟩; have HB1 := Lib.hid (HB.out.trans (hb1.mono HB.out.size)); have HB1b := Lib.hid hb1; have hs1 := hb1.size; clear hb1))
      | fail)
    go_loopw [7] (fun iv wr => ∃ i : Nat, i ≤ l.length ∧ iv = .int .i64 i ∧ wr = w1) (fun iv _ => l.length - (intOf iv).toNat)
    case atStart => exact ⟨0, Nat.zero_le _, rfl, rfl⟩
    case round =>
      obtain ⟨i, hil, rfl, rfl⟩ := hrel
      by_cases hlt : i < l.length
      · obtain ⟨g, o, rfl, hg, r0, r1, r2⟩ := (HL.out.below HB1b.out).at_ hlt
        have q5 : (i : Int) < (l.length : Int) := by omega
        have hwk : IntKind.i64.wrap ((i : Int) + 1) = (i : Int) + 1 := by rw [IntKind.wrap_i64]; omega
        obtain ⟨x, hx⟩ : ∃ x, x = l[i] := ⟨_, rfl⟩
        rw [← hx] at r0 r1 r2
        clear hx
        by_cases c1 : (60 : Int) < (x.mid.size : Int)
        · go_wp2_with fail
          go_ret
          exact HvQ.yes HB1.out
        · go_wp2_with fail
          exact ⟨⟨i + 1, hlt, by go_num, by trivial⟩, measZ hlt⟩
      · have q5 : ¬ (i : Int) < (l.length : Int) := by omega
        go_wp2_with fail
        go_ret
        exact HvQ.no HT.out (by omega) (by omega) HB1.out
end Go.Proofs.YtepjehcmiofehaaGreat
