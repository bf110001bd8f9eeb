/- Plain facts on the order of texts, byte by byte. vault: pure: its rows by their names. -/
import GoSem.Op.String
import Derived.Lib.Strings
import Derived.Test.YtdlbiobjnohfbaaLayK
import Derived.ProofKit
import Derived.Test.YtdlbiobjnohfbaaProg
import Derived.WalkKit
import Derived.WalkSpells
import Derived.WalkLawsBesides
import Derived.Deep.QuietTactic
import Derived.BigQuiet
import Derived.RegionTactic
import Derived.BigRegion
import Derived.Outline
import Derived.LoopTactic
import Derived.Lib.Hide
import Derived.Deep.RegionHeld3
import Derived.Laws.AppendOwnNone
import Derived.Deep.AppendLies
import Derived.Maps.AppendAt
import Derived.Laws.Rows
import Derived.Laws.OwnMore
import Derived.Deep.RegionLaw
import Derived.Deep.Onto
import Derived.Maps.Own
import Derived.Maps.RangeRun
import Derived.Carry
import Derived.Maps.Range
import Derived.Deep.DeepMust
import Derived.WideShapes
import Derived.Sort.KeysCollected
import Derived.StringKeys
import Derived.Shelf.SlIter.Nil
import Derived.Shelf.SlIter.Sorted
import Derived.Shelf.SortM.Plain
import Derived.Shelf.SortM.SortNone
import Derived.Deep.Cut
import Derived.StillTailTactics
import Derived.Deep.Light
import Derived.Test.YtdlbiobjnohfbaaLay
import Derived.Shelf.SlSortCmp.NoneTotal
import Derived.Test.YtdlbiobjnohfbaaVi0
import Derived.Test.YtdlbiobjnohfbaaVi1
import Derived.Test.YtdlbiobjnohfbaaVi2
import Derived.Test.YtdlbiobjnohfbaaVi3
import Derived.Test.YtdlbiobjnohfbaaVi4
import Derived.Test.YtdlbiobjnohfbaaVi5
import Derived.Test.YtdlbiobjnohfbaaVi6
import Derived.Test.YtdlbiobjnohfbaaVi7
import Derived.Test.YtdlbiobjnohfbaaVi8
import Derived.Test.YtdlbiobjnohfbaaVi9
import Derived.Test.YtdlbiobjnohfbaaVi10
import Derived.Test.YtdlbiobjnohfbaaVi11
import Derived.Test.YtdlbiobjnohfbaaVi12
import Derived.Test.YtdlbiobjnohfbaaVi13
import Derived.Test.YtdlbiobjnohfbaaVi14
import Derived.Test.YtdlbiobjnohfbaaVi15
import Derived.Test.YtdlbiobjnohfbaaVi16
import Derived.Test.YtdlbiobjnohfbaaVi17
import Derived.Test.YtdlbiobjnohfbaaVi18
import Derived.Test.YtdlbiobjnohfbaaVi19
import Derived.Test.YtdlbiobjnohfbaaVi20
import Derived.Test.YtdlbiobjnohfbaaVi21
import Derived.Test.YtdlbiobjnohfbaaVi22
import Derived.Test.YtdlbiobjnohfbaaVi23
import Derived.Test.YtdlbiobjnohfbaaVi24
import Derived.Test.YtdlbiobjnohfbaaVi25
import Derived.Test.YtdlbiobjnohfbaaVi26
import Derived.Test.YtdlbiobjnohfbaaVi27
import Derived.Test.YtdlbiobjnohfbaaVi28
import Derived.Test.YtdlbiobjnohfbaaVi29
import Derived.Test.YtdlbiobjnohfbaaVi30
import Derived.Test.YtdlbiobjnohfbaaVi31
import Derived.Test.YtdlbiobjnohfbaaVi32
import Derived.Test.YtdlbiobjnohfbaaVi33
import Derived.Test.YtdlbiobjnohfbaaVi34
import Derived.Test.YtdlbiobjnohfbaaVi35
import Derived.Test.YtdlbiobjnohfbaaVi36
import Derived.Test.YtdlbiobjnohfbaaVi37
import Derived.Test.YtdlbiobjnohfbaaVi38
import Derived.Test.YtdlbiobjnohfbaaVi39
import Derived.Test.YtdlbiobjnohfbaaVi40
import Derived.Test.YtdlbiobjnohfbaaVi41
import Derived.Test.YtdlbiobjnohfbaaVi42
import Derived.Test.YtdlbiobjnohfbaaVi43
namespace Go.Proofs.Ytdlbiobjnohfbaa
theorem bytesLess_eq : ∀ (x y : List UInt8), Op.bytesLess x y = decide (x < y)
  | [], [] => by simp [Op.bytesLess]
  | _ :: _, [] => by simp [Op.bytesLess]
  | [], _ :: _ => by simp [Op.bytesLess]
  | a :: x, b :: y => by
    rw [Op.bytesLess, bytesLess_eq x y]
    simp only [List.cons_lt_cons_iff]
    by_cases h1 : a < b <;> by_cases h2 : a = b <;> by_cases h3 : x < y <;> simp [h1, h2, h3]
theorem less_trans {a b c : List UInt8} (h : Op.bytesLess a b = true) (h2 : Op.bytesLess b c = true) : Op.bytesLess a c = true := by
  rw [bytesLess_eq, decide_eq_true_iff] at *; exact List.lt_trans h h2
end Go.Proofs.Ytdlbiobjnohfbaa
namespace Go.Proofs.Ytdlbiobjnohfbaa
open Go.RowKit Go.ChangeMaps Go.MapKept
set_option linter.unusedVariables false
set_option linter.unusedSimpArgs false
theorem Try.infoHold : (Try.prog.info? 47).map (fun i => (i.zero, i.size, i.bytes)) = some (some (.agg #[.string ⟨#[]⟩, .int .i64 0, .int .i64 0, .int .i64 0, .int .i64 0]), 5, 48) := by kernel_rfl
abbrev Hd := By × It4
def rowH (r : Hd) : List Value := [encB r.1, .int .i64 r.2.1, .int .i64 r.2.2.1, .int .i64 r.2.2.2.1, .int .i64 r.2.2.2.2]
def flatH (l : List Hd) : List Value := l.flatMap rowH
theorem flatH_app (a b : List Hd) : flatH (a ++ b) = flatH a ++ flatH b := by simp [flatH]
theorem flatH_at : ∀ (l : List Hd) (j : Nat) (h : j < l.length), (flatH l)[j * 5]? = some (encB l[j].1) ∧ (flatH l)[j * 5 + 1]? = some (.int .i64 l[j].2.1) ∧ (flatH l)[j * 5 + 2]? = some (.int .i64 l[j].2.2.1) ∧ (flatH l)[j * 5 + 3]? = some (.int .i64 l[j].2.2.2.1) ∧ (flatH l)[j * 5 + 4]? = some (.int .i64 l[j].2.2.2.2)
  | [], j, h => by cases h
  | a :: r, 0, h => by simp [flatH, rowH]
  | a :: r, j + 1, h => by
    have := flatH_at r j (by simpa using h)
    have e : (j + 1) * 5 = j * 5 + 5 := by omega
    simp only [flatH, List.flatMap_cons, rowH, List.getElem_cons_succ] at this ⊢
    rw [e]
    exact this
/-- the names, in their order -/
def keysP (l : Pm) : List By := sortB (l.map (·.1))
def rowsP (l : Pm) : List Hd := (keysP l).map fun k => (k, hasP l k)
theorem keysP_len (l : Pm) : (keysP l).length = l.length := by
  have := (sortB_perm (l.map (·.1))).length_eq
  simpa [keysP] using this
theorem rowsP_len (l : Pm) : (rowsP l).length = l.length := by simp [rowsP, keysP_len]
theorem keysP_mem {l : Pm} {k : By} : k ∈ keysP l ↔ k ∈ l.map (·.1) := (sortB_perm _).mem_iff
theorem has_mem {l : Pm} (h : (l.map (·.1)).Nodup) {p : By × It4} (hp : p ∈ l) : hasP l p.1 = p.2 := by
  unfold hasP
  rw [get1_of_mem h hp]; rfl
theorem rowsP_perm {l : Pm} (h : (l.map (·.1)).Nodup) : (rowsP l).Perm l := by
  have h1 : (rowsP l).Perm ((l.map (·.1)).map fun k => (k, hasP l k)) := (sortB_perm _).map _
  refine h1.trans (List.Perm.of_eq ?_)
  rw [List.map_map]
  conv => rhs; rw [← List.map_id l]
  exact List.map_congr_left fun p hp => by show (p.1, hasP l p.1) = p; rw [has_mem h hp]
theorem rowsP_at {l : Pm} {j : Nat} (h : j < l.length) : ∃ k, (keysP l)[j]? = some k ∧ (rowsP l)[j]? = some (k, hasP l k) ∧ k ∈ l.map (·.1) := by
  have hk : j < (keysP l).length := by rw [keysP_len]; exact h
  refine ⟨(keysP l)[j], List.getElem?_eq_getElem hk, ?_, keysP_mem.1 (List.getElem_mem hk)⟩
  unfold rowsP
  rw [List.getElem?_map, List.getElem?_eq_getElem hk]; rfl
/-- one name ahead of another -/
def BL (a b : By) : Prop := Op.bytesLess a b = true
instance (a b : By) : Decidable (BL a b) := inferInstanceAs (Decidable (_ = true))
theorem BL.trans {a b c : By} (h : BL a b) (h2 : BL b c) : BL a c := less_trans h h2
def SortedH (r : Pm) : Prop := r.Pairwise fun a b => BL a.1 b.1
theorem keysP_sorted {l : Pm} (hn : (l.map (·.1)).Nodup) : (keysP l).Pairwise BL := by
  have h1 : (keysP l).Pairwise (fun a b => leB a b = true) := sortB_sorted _
  have h2 : (sortB (l.map (·.1))).Nodup := (sortB_perm (l.map (·.1))).nodup_iff.2 hn
  refine (List.Pairwise.and h1 h2).imp (fun {a b} h => ?_)
  have hle : a ≤ b := by simpa [leB] using h.1
  unfold BL
  rw [bytesLess_eq, decide_eq_true_iff]
  exact List.not_le.1 (fun h3 => h.2 (List.le_antisymm hle h3))
theorem rowsP_sorted {l : Pm} (hn : (l.map (·.1)).Nodup) : SortedH (rowsP l) := by
  unfold SortedH rowsP
  rw [List.pairwise_map]
  exact keysP_sorted hn
end Go.Proofs.Ytdlbiobjnohfbaa
