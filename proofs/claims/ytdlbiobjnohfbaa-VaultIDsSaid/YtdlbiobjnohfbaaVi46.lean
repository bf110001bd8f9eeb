/- vault: what the law knows. vault: VaultOthers, pure. vault: Total. -/
import Derived.ProofKit
import Derived.Test.YtdlbiobjnohfbaaProg
import Derived.WalkKit
import Derived.WalkSpells
import Derived.WalkLawsBesides
import Derived.Deep.QuietTactic
import Derived.BigQuiet
import Derived.RegionTactic
import Derived.BigRegion
import Derived.Outline
import Derived.LoopTactic
import Derived.Lib.Hide
import Derived.Deep.RegionHeld3
import Derived.Laws.AppendOwnNone
import Derived.Deep.AppendLies
import Derived.Maps.AppendAt
import Derived.Laws.Rows
import Derived.Laws.OwnMore
import Derived.Deep.RegionLaw
import Derived.Deep.Onto
import Derived.Maps.Own
import Derived.Maps.RangeRun
import Derived.Carry
import Derived.Maps.Range
import Derived.Deep.DeepMust
import Derived.Deep.Cut
import Derived.StillTailTactics
import Derived.Deep.Light
import Derived.Test.YtdlbiobjnohfbaaLay
import Derived.Shelf.SlSortCmp.NoneTotal
import Derived.Test.YtdlbiobjnohfbaaLayK
import Derived.WideShapes
import Derived.Sort.KeysCollected
import Derived.StringKeys
import Derived.Shelf.SlIter.Nil
import Derived.Shelf.SlIter.Sorted
import Derived.Shelf.SortM.Plain
import Derived.Shelf.SortM.SortNone
import GoSem.Op.String
import Derived.Lib.Strings
import Derived.Test.YtdlbiobjnohfbaaVi0
import Derived.Test.YtdlbiobjnohfbaaVi1
import Derived.Test.YtdlbiobjnohfbaaVi2
import Derived.Test.YtdlbiobjnohfbaaVi3
import Derived.Test.YtdlbiobjnohfbaaVi4
import Derived.Test.YtdlbiobjnohfbaaVi5
import Derived.Test.YtdlbiobjnohfbaaVi6
import Derived.Test.YtdlbiobjnohfbaaVi7
import Derived.Test.YtdlbiobjnohfbaaVi8
import Derived.Test.YtdlbiobjnohfbaaVi9
import Derived.Test.YtdlbiobjnohfbaaVi10
import Derived.Test.YtdlbiobjnohfbaaVi11
import Derived.Test.YtdlbiobjnohfbaaVi12
import Derived.Test.YtdlbiobjnohfbaaVi13
import Derived.Test.YtdlbiobjnohfbaaVi14
import Derived.Test.YtdlbiobjnohfbaaVi15
import Derived.Test.YtdlbiobjnohfbaaVi16
import Derived.Test.YtdlbiobjnohfbaaVi17
import Derived.Test.YtdlbiobjnohfbaaVi18
import Derived.Test.YtdlbiobjnohfbaaVi19
import Derived.Test.YtdlbiobjnohfbaaVi20
import Derived.Test.YtdlbiobjnohfbaaVi21
import Derived.Test.YtdlbiobjnohfbaaVi22
import Derived.Test.YtdlbiobjnohfbaaVi23
import Derived.Test.YtdlbiobjnohfbaaVi24
import Derived.Test.YtdlbiobjnohfbaaVi25
import Derived.Test.YtdlbiobjnohfbaaVi26
import Derived.Test.YtdlbiobjnohfbaaVi27
import Derived.Test.YtdlbiobjnohfbaaVi28
import Derived.Test.YtdlbiobjnohfbaaVi29
import Derived.Test.YtdlbiobjnohfbaaVi30
import Derived.Test.YtdlbiobjnohfbaaVi31
import Derived.Test.YtdlbiobjnohfbaaVi32
import Derived.Test.YtdlbiobjnohfbaaVi33
import Derived.Test.YtdlbiobjnohfbaaVi34
import Derived.Test.YtdlbiobjnohfbaaVi35
import Derived.Test.YtdlbiobjnohfbaaVi36
import Derived.Test.YtdlbiobjnohfbaaVi37
import Derived.Test.YtdlbiobjnohfbaaVi38
import Derived.Test.YtdlbiobjnohfbaaVi39
import Derived.Test.YtdlbiobjnohfbaaVi40
import Derived.Test.YtdlbiobjnohfbaaVi41
import Derived.Test.YtdlbiobjnohfbaaVi42
import Derived.Test.YtdlbiobjnohfbaaVi43
import Derived.Test.YtdlbiobjnohfbaaVi44
import Derived.Test.YtdlbiobjnohfbaaVi45
namespace Go.Proofs.Ytdlbiobjnohfbaa
open Go.RowKit Go.ChangeMaps Go.MapKept
set_option linter.unusedVariables false
set_option linter.unusedSimpArgs false
def sA : ByteArray := ⟨#[97]⟩
def kO : Od := ⟨0, sA, false, 1, 3, 2⟩
theorem kO_ok (g : Int) (h : 1 ≤ g ∧ g ≤ 1099511627776) : OkO (kO.num g) := ⟨h, show 1 ≤ sA.size ∧ sA.size ≤ 16 by decide, show (1:Int) ≤ 1 ∧ (1:Int) ≤ 3 by decide, show (1:Int) ≤ 3 ∧ (3:Int) ≤ 1048576 by decide, show (1:Int) ≤ 2 ∧ (2:Int) ≤ 1024 by decide⟩
theorem Places.nil_det {o : Od} {T : List Td} {o1 : Od} {L1 : List Od} (h : Places o [] T o1 L1) : T = [] ∧ o1 = o ∧ L1 = [] := by
  cases h with
  | done o L h => exact ⟨rfl, rfl, rfl⟩
  | step o x L T o' L' h0 hb h => exact absurd hb.1 (by simp)
set_option maxHeartbeats 4000000 in
set_option maxRecDepth 10000 in
theorem vtKnown (w : World) : Calls Try.prog 8 #[] w fun e w' => e = .returned (.bool true) ∧ Below w.heap.size w w' := by
  go_enter Try.func8, Try.ntmps8
  go_wp2_with (first
    | (go_at_call 14; have hgg := HV3; clear hgg; go_loud (refine (vtHas w.heap.size _ _ sA _ HV3.out.bk.whl.low HV3.out.cell HV3.out.pu).mono ?_; rintro e w4 ⟨he, hb4⟩; have hv : hasP (List.foldl settleP (setP (setP [] sA.data.toList (addI (hasP [] sA.data.toList) (0, 5, 0, 0))) kO.who.data.toList (subI (hasP (setP [] sA.data.toList (addI (hasP [] sA.data.toList) (0, 5, 0, 0))) kO.who.data.toList) (heldP kO))) []) sA.data.toList = (0, 2, 0, 0) := (by decide); rw [hv] at he; simp only [itV] at he; subst he; have HB4 := Lib.hid hb4; clear hb4))
    | (go_at_call 11; have hgg := HV2; clear hgg; go_loud (refine (vtOrder w.heap.size _ _ (setP [] sA.data.toList (addI (hasP [] sA.data.toList) (0, 5, 0, 0))) [] 0 0 kO _ HV2.out).mono ?_; rintro e w3 hq; rcases hq with ⟨c, _, _, hn, _⟩ | ⟨_, _, _, rfl, T, o1, L1, p', v', hpl, hvt, ht, hf⟩; exact absurd ⟨kO_ok 1 (by decide), ⟨by decide, by decide⟩, by decide⟩ hn; obtain ⟨rfl, rfl, rfl⟩ := hpl.nil_det; obtain ⟨S3, hv3, _⟩ := hvt; have HV3 := Lib.hid hv3; have HT3 := Lib.hid ht; have HF3 := Lib.hid hf; clear hv3 ht hf hpl))
    | (go_at_call 9; have hgg := HV1; clear hgg; go_loud (refine (vtPut w.heap.size _ _ _ [] 0 0 sA (0, 5, 0, 0) _ HS1.out).mono ?_; rintro e w2 hq; rcases hq with ⟨hn, _⟩ | ⟨_, hn, _⟩ | ⟨_, _, rfl, p2, hv2, ht2, hf2⟩; exact absurd hn (by decide); exact absurd hn (by decide); have HV2 := Lib.hid (show VtAt w2 w.heap.size p2 (fun _ => .slice none 0 0) (setP [] sA.data.toList (addI (hasP [] sA.data.toList) (0, 5, 0, 0))) [] 0 0 from ⟨S1, hv2, HR1.out⟩); have HT2 := Lib.hid ht2; have HF2 := Lib.hid hf2; clear hv2 ht2 hf2))
    | (go_at_call 7; refine (newVault _).mono ?_; rintro e w1 ⟨rfl, hv1, hb1⟩; obtain ⟨S1, hv1, hr1⟩ := hv1; have HV1 := Lib.hid (show True from trivial); have HS1 := Lib.hid hv1; have HR1 := Lib.hid hr1; have HB1 := Lib.hid hb1; clear hv1 hr1 hb1)
    | fail)
  have hz1 : ∀ x, Fv w.heap.size (.map none) (fun _ => .slice none 0 0) x → w.heap.size ≤ x := fun x hx => by
    rcases hx with (e | ⟨i, _, e⟩) | e
    · omega
    · cases e
    · cases e
  have b2 := HB1.out.trans (HT2.out.below HB1.out.size hz1)
  have hz2 : ∀ x, Fv w.heap.size p2 (fun _ => .slice none 0 0) x → w.heap.size ≤ x := fun x hx => by
    rcases HF2.out x hx with h | h
    · exact hz1 x h
    · exact Nat.le_trans HB1.out.size h
  have b3 := b2.trans (HT3.out.below b2.size hz2)
  refine bodyPost_ret (v := .bool true) (by simp [results, Try.results8, go_sem]) rfl ⟨rfl, b3.trans (HB4.out.mono b3.size)⟩
end Go.Proofs.Ytdlbiobjnohfbaa
namespace Go.Proofs.Ytdlbiobjnohfbaa
open Go.RowKit Go.ChangeMaps Go.MapKept
set_option linter.unusedVariables false
set_option linter.unusedSimpArgs false
theorem VtAt.below {w w' : World} {b : Nat} {p : Value} {v : Nat → Value} {l : Pm} {L : List Od} {last gone : Int} (h : VtAt w b p v l L last gone) (hb : Below w.heap.size w w') : VtAt w' b p v l L last gone := by
  obtain ⟨S, h1, h2⟩ := h
  exact ⟨S, h1.below hb, h2⟩
/-- all that a walk has touched lies above -/
structure Up (w w' : World) (b : Nat) (p : Value) (v : Nat → Value) : Prop where
  bel : Below w.heap.size w w'
  top : ∀ x, Fv b p v x → w.heap.size ≤ x
theorem Up.step {w w1 w2 : World} {b : Nat} {p p2 : Value} {v v2 : Nat → Value} (h : Up w w1 b p v) (ht : Touch (Fv b p v) w1 w2) (hf : ∀ x, Fv b p2 v2 x → Fv b p v x ∨ w1.heap.size ≤ x) : Up w w2 b p2 v2 :=
  ⟨h.bel.trans (ht.below h.bel.size h.top), fun x hx => by
    rcases hf x hx with h1 | h1
    · exact h.top x h1
    · exact Nat.le_trans h.bel.size h1⟩
theorem Up.same {w w1 w2 : World} {b : Nat} {p : Value} {v : Nat → Value} (h : Up w w1 b p v) (hb : Below w1.heap.size w1 w2) : Up w w2 b p v := ⟨h.bel.trans (hb.mono h.bel.size), h.top⟩
end Go.Proofs.Ytdlbiobjnohfbaa
namespace Go.Proofs.Ytdlbiobjnohfbaa
open Go.RowKit Go.ChangeMaps Go.MapKept
set_option linter.unusedVariables false
set_option linter.unusedSimpArgs false
theorem rowsP_get {l : Pm} {j : Nat} (h : j < l.length) : ∃ r : Hd, (rowsP l)[j]? = some r ∧ (flatH (rowsP l))[j * 5]? = some (encB r.1) ∧ (flatH (rowsP l))[j * 5 + 1]? = some (.int .i64 r.2.1) ∧ (flatH (rowsP l))[j * 5 + 2]? = some (.int .i64 r.2.2.1) ∧ (flatH (rowsP l))[j * 5 + 3]? = some (.int .i64 r.2.2.2.1) ∧ (flatH (rowsP l))[j * 5 + 4]? = some (.int .i64 r.2.2.2.2) := by
  have hk : j < (rowsP l).length := by rw [rowsP_len]; exact h
  exact ⟨(rowsP l)[j], List.getElem?_eq_getElem hk, flatH_at _ j hk⟩
end Go.Proofs.Ytdlbiobjnohfbaa
