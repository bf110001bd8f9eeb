/- vault: set. -/
import Derived.ProofKit
import Derived.Test.YtdlbiobjnohfbaaProg
import Derived.WalkKit
import Derived.WalkSpells
import Derived.WalkLawsBesides
import Derived.Deep.QuietTactic
import Derived.BigQuiet
import Derived.RegionTactic
import Derived.BigRegion
import Derived.Outline
import Derived.LoopTactic
import Derived.Lib.Hide
import Derived.Deep.RegionHeld3
import Derived.Laws.AppendOwnNone
import Derived.Deep.AppendLies
import Derived.Maps.AppendAt
import Derived.Laws.Rows
import Derived.Laws.OwnMore
import Derived.Deep.RegionLaw
import Derived.Deep.Onto
import Derived.Maps.Own
import Derived.Maps.RangeRun
import Derived.Carry
import Derived.Maps.Range
import Derived.Deep.DeepMust
import Derived.Deep.Cut
import Derived.StillTailTactics
import Derived.Test.YtdlbiobjnohfbaaVi0
import Derived.Test.YtdlbiobjnohfbaaVi1
import Derived.Test.YtdlbiobjnohfbaaVi2
import Derived.Test.YtdlbiobjnohfbaaVi3
import Derived.Test.YtdlbiobjnohfbaaVi4
import Derived.Test.YtdlbiobjnohfbaaVi5
import Derived.Test.YtdlbiobjnohfbaaVi6
import Derived.Test.YtdlbiobjnohfbaaVi7
import Derived.Test.YtdlbiobjnohfbaaVi8
import Derived.Test.YtdlbiobjnohfbaaVi9
import Derived.Test.YtdlbiobjnohfbaaVi10
import Derived.Test.YtdlbiobjnohfbaaVi11
import Derived.Test.YtdlbiobjnohfbaaVi12
import Derived.Test.YtdlbiobjnohfbaaVi13
import Derived.Test.YtdlbiobjnohfbaaVi14
import Derived.Test.YtdlbiobjnohfbaaVi15
import Derived.Test.YtdlbiobjnohfbaaVi16
import Derived.Test.YtdlbiobjnohfbaaVi17
import Derived.Test.YtdlbiobjnohfbaaVi18
import Derived.Test.YtdlbiobjnohfbaaVi19
import Derived.Test.YtdlbiobjnohfbaaVi21
import Derived.Test.YtdlbiobjnohfbaaVi22
namespace Go.Proofs.Ytdlbiobjnohfbaa
open Go.RowKit Go.ChangeMaps Go.MapKept
set_option linter.unusedVariables false
set_option linter.unusedSimpArgs false
theorem eqM3 : ∀ (m : Option Nat) w, (binOp .eql 48 (.map m) (.map none)).run Try.prog w = .ok (.bool m.isNone) w := fun m _ => by cases m <;> kernel_rfl
theorem vtouch_grown {D : Nat → Prop} {a w w' : World} {g : Nat} (h : Touch D a w) (hg : w.grownBy w' (some g)) (hD : g < a.heap.size → D g) : Touch D a w' :=
  h.trans (Touch.of_grown hg) (fun n hn e => by injection e with e; subst e; exact hD hn)
theorem vwhl_grown {w w' : World} {b g : Nat} {t : TypeId} {cs : Array Value} (h : Whl w b t cs) (hg : w.grownBy w' (some g)) (hne : b ≠ g) : Whl w' b t cs := (hg.block b h.low (by intro e; injection e with e; exact hne e)).trans h
theorem vmap_alloc {α : Type} {enc : α → Value} {w : World} {b : Nat} {l : List (α × Value)} (h : MapOf enc w b l) (o : Obj) : MapOf enc (w.alloc o) b l := h.grown (World.grownBy_alloc w o none) (by simp)
/-- what set leaves -/
def SetQ (b : Nat) (p : Value) (v : Nat → Value) (S : Nat → List Od) (l : Pm) (last gone : Int) (w w' : World) : Prop :=
  ∃ p', VtH w' b p' v S l last gone ∧ Touch (Fv b p v) w w' ∧ (∀ x, Fv b p' v x → Fv b p v x ∨ w.heap.size ≤ x)
abbrev bxA (w : World) (i : It4) : World := w.alloc (.cells #[.int .i64 i.1, .int .i64 i.2.1, .int .i64 i.2.2.1, .int .i64 i.2.2.2] 27)
set_option maxHeartbeats 2000000 in
set_option maxRecDepth 10000 in
theorem vtSet0 (b : Nat) (p : Value) (v : Nat → Value) (S : Nat → List Od) (l : Pm) (last gone : Int) (s : ByteArray) (hk : KeyOk s.data.toList) (w : World) (h : VtH w b p v S l last gone) :
    Calls Try.prog 18 #[.pointer (some ⟨b, 0, none⟩), .string s, .agg #[.int .i64 0, .int .i64 0, .int .i64 0, .int .i64 0]] w fun e w' => e = .returned (.tuple #[]) ∧ SetQ b p v S (setP l s.data.toList z4) last gone w w' := by
  have hs : setP l s.data.toList z4 = del1 s.data.toList l := by unfold setP; rw [if_pos rfl]
  have hok := h.ok.set hk (i := z4) (by decide)
  rw [hs] at hok ⊢
  have c0 := h.cell
  have hB : Below w.heap.size w (bxA w z4) := (Below.refl _ _).alloc (Nat.le_refl _) _
  have h1 := h.below hB
  have hbl := h.bk.whl.low
  rcases h.pu with ⟨rfl, rfl⟩ | ⟨m, rfl, hm⟩
  · have hd := fun ty => del_nil (w := bxA w z4) kB Try.underlying48 s.data.toList ty
    rw [bytes_dataB] at hd
    simp only [z4] at hd
    have HQ : Hid (SetQ b (.map none) v S (del1 s.data.toList []) last gone w (bxA w z4)) := Lib.hid ⟨_, h1, (Touch.of_below hB).mono'' (fun k hk hd => by omega), fun x hx => .inl hx⟩
    clear h h1 hok hB hs
    go_enter Try.func18, Try.ntmps18
    go_wp2_with fail
    refine bodyPost_ret (v := .tuple #[]) (by simp [results, Try.results18, go_sem]) rfl ⟨rfl, HQ.out⟩
  · have hmb : m ≠ b := fun e => h.ne (by rw [e]; rfl)
    obtain ⟨w2, hd, hM, hg, hz⟩ := (vmap_alloc hm (.cells #[.int .i64 0, .int .i64 0, .int .i64 0, .int .i64 0] 27)).del (P := Try.prog) kB Try.underlying48 s.data.toList
    rw [bytes_dataB] at hd
    rw [del_vPm] at hM
    have hw2 : Whl w2 b 54 ((lay1 (.map (some m)) (.int .i64 gone)).C v last) := vwhl_grown h1.bk.whl hg (fun e => hmb e.symm)
    have HQ : Hid (SetQ b (.map (some m)) v S (del1 s.data.toList l) last gone w w2) := Lib.hid ⟨_, h.other (vtouch_grown ((Touch.refl _ w).alloc _) hg (fun _ => .inr rfl)) hw2 (.inr ⟨m, rfl, hM⟩) hok (.inl rfl)⟩
    clear h h1 hok hB hs hm hM hg hw2
    go_enter Try.func18, Try.ntmps18
    go_wp2_with fail
    refine bodyPost_ret (v := .tuple #[]) (by simp [results, Try.results18, go_sem]) rfl ⟨rfl, HQ.out⟩
set_option maxHeartbeats 2000000 in
set_option maxRecDepth 10000 in
theorem vtSet1 (b : Nat) (p : Value) (v : Nat → Value) (S : Nat → List Od) (l : Pm) (last gone : Int) (s : ByteArray) (hk : KeyOk s.data.toList) (i : It4) (hi : i ≠ z4) (hii : isI i = true) (w : World) (h : VtH w b p v S l last gone) :
    Calls Try.prog 18 #[.pointer (some ⟨b, 0, none⟩), .string s, itV i] w fun e w' => e = .returned (.tuple #[]) ∧ SetQ b p v S (setP l s.data.toList i) last gone w w' := by
  have hs : setP l s.data.toList i = put1 s.data.toList i l := by unfold setP; rw [if_neg hi]
  have hok := h.ok.set hk hii
  rw [hs] at hok ⊢
  have c0 := h.cell
  have hB : Below w.heap.size w (bxA w i) := (Below.refl _ _).alloc (Nat.le_refl _) _
  have h1 := h.below hB
  have hbl := h.bk.whl.low
  have hq := eqM3
  have hmm := @run_makeMap Try.prog
  have f0 := h.bk.whl.free 0
  have hne : (i.1 == 0 && i.2.1 == 0 && i.2.2.1 == 0 && i.2.2.2 == 0) = false := by
    rw [Bool.eq_false_iff]; intro hh; apply hi
    obtain ⟨a, b, c, d⟩ := i
    simp at hh
    obtain ⟨⟨⟨rfl, rfl⟩, rfl⟩, rfl⟩ := hh
    rfl
  rcases h.pu with ⟨rfl, rfl⟩ | ⟨m, rfl, hm⟩
  · obtain ⟨W, hW⟩ : ∃ W, W = (((w.setCell ⟨b, 0, none⟩ (.map (some (w.heap.size + 1)))).alloc (.cells #[.int .i64 i.1, .int .i64 i.2.1, .int .i64 i.2.2.1, .int .i64 i.2.2.2] 27)).alloc (.map #[] 0)) := ⟨_, rfl⟩
    have hsz : W.heap.size = w.heap.size + 2 := by rw [hW]; simp [World.setCell]
    have hWh : Whl W b 54 ((lay1 (.map (some (w.heap.size + 1))) (.int .i64 gone)).C v last) := by rw [hW]; exact ((h.bk.whl.set 0 _).alloc _).alloc _
    have hX : Whl W w.heap.size 27 #[.int .i64 i.1, .int .i64 i.2.1, .int .i64 i.2.2.1, .int .i64 i.2.2.2] := by
      rw [hW]
      have := (Whl.new (w := w.setCell ⟨b, 0, none⟩ (.map (some (w.heap.size + 1)))) (t := 27) (cs := #[.int .i64 i.1, .int .i64 i.2.1, .int .i64 i.2.2.1, .int .i64 i.2.2.2]) rfl).alloc (.map #[] 0)
      simpa [World.setCell] using this
    have hM : MapOf encB W (w.heap.size + 1) (vPm []) := by
      rw [hW]
      have := MapOf.made (enc := encB) ((w.setCell ⟨b, 0, none⟩ (.map (some (w.heap.size + 1)))).alloc (.cells #[.int .i64 i.1, .int .i64 i.2.1, .int .i64 i.2.2.1, .int .i64 i.2.2.2] 27))
      simpa [World.setCell, vPm] using this
    have hT : Touch (fun x => x = b ∨ mb (.map none) = some x) w W := by rw [hW]; exact (((Touch.refl _ w).set (fun _ => .inl rfl)).alloc _).alloc _
    have d0 : W.drew.cell? ⟨b, 0, none⟩ = some (.map (some (w.heap.size + 1))) := hWh.cell 0
    have x0 : W.drew.cell? ⟨w.heap.size, 0, none⟩ = some (.int .i64 i.1) := hX.cell 0
    have x1 : W.drew.cell? ⟨w.heap.size, 1, none⟩ = some (.int .i64 i.2.1) := hX.cell 1
    have x2 : W.drew.cell? ⟨w.heap.size, 2, none⟩ = some (.int .i64 i.2.2.1) := hX.cell 2
    have x3 : W.drew.cell? ⟨w.heap.size, 3, none⟩ = some (.int .i64 i.2.2.2) := hX.cell 3
    have hMd : MapOf encB W.drew (w.heap.size + 1) (vPm []) := hM
    have hTd : Touch (fun x => x = b ∨ mb (.map none) = some x) w W.drew := hT.drew'
    have hWd : Whl W.drew b 54 ((lay1 (.map (some (w.heap.size + 1))) (.int .i64 gone)).C v last) := hWh
    obtain ⟨w5, up5, H5, gr5, hz5⟩ := hMd.put (P := Try.prog) kB Try.underlying48 s.data.toList (itV i)
    rw [bytes_dataB] at up5
    rw [put_vPm] at H5
    have HQ : Hid (SetQ b (.map none) v S (put1 s.data.toList i []) last gone w w5) := Lib.hid ⟨_, h.other (vtouch_grown hTd gr5 (fun hl => by omega)) (vwhl_grown hWd gr5 (by omega)) (.inr ⟨_, rfl, H5⟩) hok (.inr (fun x hx => by simp only [mb, Option.some.injEq] at hx; omega))⟩
    clear h h1 hok hB hs hWh hX hM hT hMd hTd hWd H5 gr5 hz5
    unfold itV at up5 ⊢
    go_enter Try.func18, Try.ntmps18
    go_wp2_with fail
    rw [← hW]
    clear hW c0 f0 hq hmm
    go_still_tail 6, (by kernel_rfl)
    change wpList _ _ _ _ _ W.drew
    generalize W.drew = wd at *
    go_wp2_with fail
    refine bodyPost_end (v := .tuple #[]) (by simp [results, Try.results18, go_sem]) rfl ⟨rfl, HQ.out⟩
  · have hmb : m ≠ b := fun e => h.ne (by rw [e]; rfl)
    have hml := hm.lt
    obtain ⟨W, hW⟩ : ∃ W, W = bxA w i := ⟨_, rfl⟩
    have hX : Whl W w.heap.size 27 #[.int .i64 i.1, .int .i64 i.2.1, .int .i64 i.2.2.1, .int .i64 i.2.2.2] := by rw [hW]; exact Whl.new rfl
    have hWh : Whl W b 54 ((lay1 (.map (some m)) (.int .i64 gone)).C v last) := by rw [hW]; exact h1.bk.whl
    have hM : MapOf encB W m (vPm l) := by rw [hW]; exact vmap_alloc hm _
    have hT : Touch (fun x => x = b ∨ mb (.map (some m)) = some x) w W := by rw [hW]; exact (Touch.refl _ w).alloc _
    have d0 : W.drew.cell? ⟨b, 0, none⟩ = some (.map (some m)) := hWh.cell 0
    have x0 : W.drew.cell? ⟨w.heap.size, 0, none⟩ = some (.int .i64 i.1) := hX.cell 0
    have x1 : W.drew.cell? ⟨w.heap.size, 1, none⟩ = some (.int .i64 i.2.1) := hX.cell 1
    have x2 : W.drew.cell? ⟨w.heap.size, 2, none⟩ = some (.int .i64 i.2.2.1) := hX.cell 2
    have x3 : W.drew.cell? ⟨w.heap.size, 3, none⟩ = some (.int .i64 i.2.2.2) := hX.cell 3
    have hMd : MapOf encB W.drew m (vPm l) := hM
    have hTd : Touch (fun x => x = b ∨ mb (.map (some m)) = some x) w W.drew := hT.drew'
    have hWd : Whl W.drew b 54 ((lay1 (.map (some m)) (.int .i64 gone)).C v last) := hWh
    obtain ⟨w5, up5, H5, gr5, hz5⟩ := hMd.put (P := Try.prog) kB Try.underlying48 s.data.toList (itV i)
    rw [bytes_dataB] at up5
    rw [put_vPm] at H5
    have HQ : Hid (SetQ b (.map (some m)) v S (put1 s.data.toList i l) last gone w w5) := Lib.hid ⟨_, h.other (vtouch_grown hTd gr5 (fun hl => .inr rfl)) (vwhl_grown hWd gr5 (fun e => hmb e.symm)) (.inr ⟨_, rfl, H5⟩) hok (.inl rfl)⟩
    clear h h1 hok hB hs hWh hX hM hT hMd hTd hWd H5 gr5 hz5 hm
    unfold itV at up5 ⊢
    go_enter Try.func18, Try.ntmps18
    go_wp2_with fail
    rw [show w.alloc _ = W from hW.symm]
    clear hW c0 f0 hq hmm
    go_still_tail 6, (by kernel_rfl)
    change wpList _ _ _ _ _ W.drew
    generalize W.drew = wd at *
    go_wp2_with fail
    refine bodyPost_end (v := .tuple #[]) (by simp [results, Try.results18, go_sem]) rfl ⟨rfl, HQ.out⟩
theorem vtSet (b : Nat) (p : Value) (v : Nat → Value) (S : Nat → List Od) (l : Pm) (last gone : Int) (s : ByteArray) (hk : KeyOk s.data.toList) (i : It4) (hii : isI i = true) (w : World) (h : VtH w b p v S l last gone) :
    Calls Try.prog 18 #[.pointer (some ⟨b, 0, none⟩), .string s, itV i] w fun e w' => e = .returned (.tuple #[]) ∧ SetQ b p v S (setP l s.data.toList i) last gone w w' := by
  by_cases hi : i = z4
  · subst hi; exact vtSet0 b p v S l last gone s hk w h
  · exact vtSet1 b p v S l last gone s hk i hi hii w h
end Go.Proofs.Ytdlbiobjnohfbaa
