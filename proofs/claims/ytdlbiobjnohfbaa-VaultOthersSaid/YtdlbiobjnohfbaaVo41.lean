/- vault: VaultOthers, its steps. -/
import Derived.ProofKit
import Derived.Test.YtdlbiobjnohfbaaProg
import Derived.WalkKit
import Derived.WalkSpells
import Derived.WalkLawsBesides
import Derived.Deep.QuietTactic
import Derived.BigQuiet
import Derived.RegionTactic
import Derived.BigRegion
import Derived.Outline
import Derived.LoopTactic
import Derived.Lib.Hide
import Derived.Deep.RegionHeld3
import Derived.Laws.AppendOwnNone
import Derived.Deep.AppendLies
import Derived.Maps.AppendAt
import Derived.Laws.Rows
import Derived.Laws.OwnMore
import Derived.Deep.RegionLaw
import Derived.Deep.Onto
import Derived.Maps.Own
import Derived.Maps.RangeRun
import Derived.Carry
import Derived.Maps.Range
import Derived.Deep.DeepMust
import Derived.Deep.Cut
import Derived.StillTailTactics
import Derived.Deep.Light
import Derived.Test.YtdlbiobjnohfbaaLay
import Derived.Shelf.SlSortCmp.NoneTotal
import Derived.Test.YtdlbiobjnohfbaaVo0
import Derived.Test.YtdlbiobjnohfbaaVo1
import Derived.Test.YtdlbiobjnohfbaaVo2
import Derived.Test.YtdlbiobjnohfbaaVo3
import Derived.Test.YtdlbiobjnohfbaaVo4
import Derived.Test.YtdlbiobjnohfbaaVo5
import Derived.Test.YtdlbiobjnohfbaaVo6
import Derived.Test.YtdlbiobjnohfbaaVo7
import Derived.Test.YtdlbiobjnohfbaaVo8
import Derived.Test.YtdlbiobjnohfbaaVo9
import Derived.Test.YtdlbiobjnohfbaaVo10
import Derived.Test.YtdlbiobjnohfbaaVo11
import Derived.Test.YtdlbiobjnohfbaaVo12
import Derived.Test.YtdlbiobjnohfbaaVo13
import Derived.Test.YtdlbiobjnohfbaaVo14
import Derived.Test.YtdlbiobjnohfbaaVo15
import Derived.Test.YtdlbiobjnohfbaaVo16
import Derived.Test.YtdlbiobjnohfbaaVo17
import Derived.Test.YtdlbiobjnohfbaaVo18
import Derived.Test.YtdlbiobjnohfbaaVo19
import Derived.Test.YtdlbiobjnohfbaaVo20
import Derived.Test.YtdlbiobjnohfbaaVo21
import Derived.Test.YtdlbiobjnohfbaaVo22
import Derived.Test.YtdlbiobjnohfbaaVo23
import Derived.Test.YtdlbiobjnohfbaaVo24
import Derived.Test.YtdlbiobjnohfbaaVo25
import Derived.Test.YtdlbiobjnohfbaaVo26
import Derived.Test.YtdlbiobjnohfbaaVo27
import Derived.Test.YtdlbiobjnohfbaaVo28
import Derived.Test.YtdlbiobjnohfbaaVo29
import Derived.Test.YtdlbiobjnohfbaaVo30
import Derived.Test.YtdlbiobjnohfbaaVo31
import Derived.Test.YtdlbiobjnohfbaaVo32
import Derived.Test.YtdlbiobjnohfbaaVo33
import Derived.Test.YtdlbiobjnohfbaaVo34
import Derived.Test.YtdlbiobjnohfbaaVo35
import Derived.Test.YtdlbiobjnohfbaaVo36
import Derived.Test.YtdlbiobjnohfbaaVo37
import Derived.Test.YtdlbiobjnohfbaaVo38
import Derived.Test.YtdlbiobjnohfbaaVo39
import Derived.Test.YtdlbiobjnohfbaaVo40
namespace Go.Proofs.Ytdlbiobjnohfbaa
open Go.RowKit Go.ChangeMaps Go.MapKept
set_option linter.unusedVariables false
set_option linter.unusedSimpArgs false
theorem keys_ne {a b : ByteArray} (hab : a ≠ b) : ¬ a.data.toList = b.data.toList := fun h => hab (toL_inj (by rw [Lib.toList_data, Lib.toList_data]; exact h))
theorem laid_oW (a : ByteArray) {n : Int} (hn : 1 ≤ n ∧ n ≤ 1000) : laid ((oW a n).num 1) [] = [(oW a n).num 1] := if_pos (show 0 < n by omega)
theorem othPut (k : Nat) (S : Nat → List Od) (a : ByteArray) (n : Int) (w : World) (ha : 1 ≤ a.size ∧ a.size ≤ 16) (hn : 1 ≤ n ∧ n ≤ 1000) (h : VtAt w k (.map none) (fun _ => .slice none 0 0) [] [] 0 0) :
    Calls Try.prog 9 #[.pointer (some ⟨k, 0, none⟩), .string a, .agg #[.int .i64 0, .int .i64 n, .int .i64 0, .int .i64 0]] w fun e w' =>
      e = .returned (.int .i64 0) ∧ ∃ p, VtAt w' k p (fun _ => .slice none 0 0) (lP a n) [] 0 0 ∧ Touch (Fv k (.map none) (fun _ => .slice none 0 0)) w w' ∧ ∀ x, Fv k p (fun _ => .slice none 0 0) x → Fv k (.map none) (fun _ => .slice none 0 0) x ∨ w.heap.size ≤ x := by
  obtain ⟨S, h1, h2⟩ := h
  refine (vtPut k _ _ S [] 0 0 a (0, n, 0, 0) w h1).mono ?_
  rintro e w2 hq
  rcases hq with ⟨hno, _⟩ | ⟨_, hno, _⟩ | ⟨_, _, rfl, p2, hv2, ht2, hf2⟩
  · rw [may_n ha (by omega)] at hno; cases hno
  · rw [hasNil, add_n, isI_n (by omega)] at hno; cases hno
  · exact ⟨rfl, p2, ⟨S, hv2, h2⟩, ht2, hf2⟩
theorem othOrdB (k : Nat) (p : Value) (v : Nat → Value) (a b : ByteArray) (n : Int) (w : World) (hb : 1 ≤ b.size ∧ b.size ≤ 16) (hn : 1 ≤ n ∧ n ≤ 1000) (hab : a ≠ b) (h : VtAt w k p v (lP a n) [] 0 0) :
    Calls Try.prog 11 #[.pointer (some ⟨k, 0, none⟩), .agg #[.int .i64 0, .string b, .bool false, .int .i64 1, .int .i64 n, .int .i64 1]] w fun e w' =>
      e = .returned (.tuple #[.int .i64 0, .int .i64 14]) ∧ Below w.heap.size w w' := by
  refine (vtOrder k p v (lP a n) [] 0 0 (oW b n) w h).mono ?_
  rintro e w3 hq
  have hL : hasP (lP a n) (oW b n).who.data.toList = z4 := by
    show hasP (lP a n) b.data.toList = z4
    rw [lP_has, if_neg (keys_ne hab)]
  rcases hq with ⟨c, _, hc, _, h3, h4⟩ | ⟨_, _, hno, _⟩
  · have e14 : c = 14 := hc (oW_ok 1 (by omega) hb hn) ⟨by simp, by omega⟩
    subst e14
    exact ⟨h3, h4⟩
  · rw [hL, held_oW, less_z hn.1] at hno
    cases hno
theorem othOrdA (k : Nat) (p : Value) (v : Nat → Value) (a : ByteArray) (n : Int) (w : World) (ha : 1 ≤ a.size ∧ a.size ≤ 16) (hn : 1 ≤ n ∧ n ≤ 1000) (h : VtAt w k p v (lP a n) [] 0 0) :
    Calls Try.prog 11 #[.pointer (some ⟨k, 0, none⟩), .agg #[.int .i64 0, .string a, .bool false, .int .i64 1, .int .i64 n, .int .i64 1]] w fun e w' =>
      e = .returned (.tuple #[.int .i64 1, .int .i64 0]) ∧ ∃ p' v', VtAt w' k p' v' (lQ a n) [(oW a n).num 1] 1 1 ∧ Touch (Fv k p v) w w' ∧ ∀ x, Fv k p' v' x → Fv k p v x ∨ w.heap.size ≤ x := by
  refine (vtOrder k p v (lP a n) [] 0 0 (oW a n) w h).mono ?_
  rintro e w3 hq
  have hL : hasP (lP a n) (oW a n).who.data.toList = (0, n, 0, 0) := by
    show hasP (lP a n) a.data.toList = _
    rw [lP_has, if_pos rfl]
  rcases hq with ⟨c, _, hc, hno, h3, h4⟩ | ⟨_, _, _, h3, T, o1, L1, p4, v4, hpl, hv4, ht4, hf4⟩
  · exact absurd ⟨oW_ok 1 (by omega) ha hn, ⟨by simp, by omega⟩, by rw [hL, held_oW]; exact less_n⟩ hno
  · obtain ⟨e1, e2, e3⟩ := hpl.nil_det
    subst e1
    subst e2
    subst e3
    refine ⟨h3, p4, v4, ?_, ht4, hf4⟩
    have hx : VtAt w3 k p4 v4 (lQ a n) (laid ((oW a n).num 1) []) 1 1 := hv4
    rw [laid_oW a hn] at hx
    exact hx
theorem othCanB (k : Nat) (p : Value) (v : Nat → Value) (a b : ByteArray) (n : Int) (w : World) (hab : a ≠ b) (h : VtAt w k p v (lQ a n) [(oW a n).num 1] 1 1) :
    Calls Try.prog 12 #[.pointer (some ⟨k, 0, none⟩), .string b, .int .i64 1] w fun e w' => e = .returned (.int .i64 7) ∧ Below w.heap.size w w' := by
  refine (vtCancel k p v (lQ a n) [(oW a n).num 1] 1 1 b 1 w h).mono ?_
  rintro e w6 hq
  rcases hq with ⟨_, h⟩ | ⟨x, hx, _, hw, _⟩
  · exact h
  · have hx : x = (oW a n).num 1 := by simpa using hx
    subst hx
    exact absurd hw hab
theorem othTake (k : Nat) (p : Value) (v : Nat → Value) (a : ByteArray) (n : Int) (w : World) (ha : 1 ≤ a.size ∧ a.size ≤ 16) (h : VtAt w k p v (lQ a n) [(oW a n).num 1] 1 1) :
    Calls Try.prog 10 #[.pointer (some ⟨k, 0, none⟩), .string a, .agg #[.int .i64 0, .int .i64 1, .int .i64 0, .int .i64 0]] w fun e w' => e = .returned (.int .i64 14) ∧ Below w.heap.size w w' := by
  obtain ⟨S, h1, h2⟩ := h
  refine (vtTake k p v S (lQ a n) 1 1 a (0, 1, 0, 0) w h1).mono ?_
  rintro e w7 hq
  rcases hq with ⟨hno, _⟩ | ⟨_, _, h3, h4⟩ | ⟨_, hno, _⟩
  · rw [may_n ha (by omega)] at hno; cases hno
  · exact ⟨h3, h4⟩
  · rw [lQ_has, less_z (by omega)] at hno; cases hno
theorem othCanA (k : Nat) (p : Value) (v : Nat → Value) (a : ByteArray) (n : Int) (w : World) (h : VtAt w k p v (lQ a n) [(oW a n).num 1] 1 1) :
    Calls Try.prog 12 #[.pointer (some ⟨k, 0, none⟩), .string a, .int .i64 1] w fun e w' => e = .returned (.int .i64 0) ∧
      ∃ p' v' L, VtAt w' k p' v' (gainsP (lQ a n) a (heldP ((oW a n).num 1)) 4) L 1 1 ∧ Touch (Fv k p v) w w' ∧ ∀ x, Fv k p' v' x → Fv k p v x ∨ w.heap.size ≤ x := by
  refine (vtCancel k p v (lQ a n) [(oW a n).num 1] 1 1 a 1 w h).mono ?_
  rintro e w8 hq
  rcases hq with ⟨hno, _⟩ | ⟨x, hx, _, _, h3, p8, v8, hv8, ht8, hf8⟩
  · exact absurd ⟨rfl, rfl⟩ (hno ((oW a n).num 1) (by simp))
  · have hx : x = (oW a n).num 1 := by simpa using hx
    subst hx
    exact ⟨h3, p8, v8, _, hv8, ht8, hf8⟩
theorem othHas (k : Nat) (p : Value) (v : Nat → Value) (a : ByteArray) (n : Int) (L : List Od) (w : World) (hn : 1 ≤ n ∧ n ≤ 1000) (h : VtAt w k p v (gainsP (lQ a n) a (heldP ((oW a n).num 1)) 4) L 1 1) :
    Calls Try.prog 14 #[.pointer (some ⟨k, 0, none⟩), .string a] w fun e w' => e = .returned (.agg #[.int .i64 0, .int .i64 n, .int .i64 0, .int .i64 0]) ∧ Below w.heap.size w w' := by
  obtain ⟨S, h1, _⟩ := h
  refine (vtHas k _ _ a w h1.bk.whl.low h1.cell h1.pu).mono ?_
  rintro e w9 ⟨he, hb9⟩
  rw [lR_has a hn] at he
  exact ⟨he, hb9⟩
end Go.Proofs.Ytdlbiobjnohfbaa
