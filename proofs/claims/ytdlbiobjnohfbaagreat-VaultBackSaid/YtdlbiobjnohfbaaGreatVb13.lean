/- vault: set. What purse.Less, Sub and One, and the document's own answers to them, return. What purse.Sub and One, and the document's own answers to them, return. -/
import Derived.Deep.Cut
import Derived.StillTailTactics
import Derived.Test.YtdlbiobjnohfbaaGreatVb12
namespace Go.Proofs.YtdlbiobjnohfbaaGreat
open Go.RowKit Go.ChangeMaps Go.MapKept
set_option linter.unusedVariables false
set_option linter.unusedSimpArgs false
theorem eqM3 : ∀ (m : Option Nat) w, (binOp .eql 74 (.map m) (.map none)).run Tryz.prog w = .ok (.bool m.isNone) w := fun m _ => by cases m <;> kernel_rfl
theorem vtouch_grown {D : Nat → Prop} {a w w' : World} {g : Nat} (h : Touch D a w) (hg : w.grownBy w' (some g)) (hD : g < a.heap.size → D g) : Touch D a w' :=
 h.trans (Touch.of_grown hg) (fun n hn e => by injection e with e; subst e; exact hD hn)
theorem vwhl_grown {w w' : World} {b g : Nat} {t : TypeId} {cs : Array Value} (h : Whl w b t cs) (hg : w.grownBy w' (some g)) (hne : b ≠ g) : Whl w' b t cs := (hg.block b h.low (by intro e; injection e with e; exact hne e)).trans h
theorem vmap_alloc {α : Type} {enc : α → Value} {w : World} {b : Nat} {l : List (α × Value)} (h : MapOf enc w b l) (o : Obj) : MapOf enc (w.alloc o) b l := h.grown (World.grownBy_alloc w o none) (by simp)
def SetQ (b : Nat) (p : Value) (v : Nat → Value) (S : Nat → List Od) (l : Pm) (last gone : Int) (w w' : World) : Prop :=
 ∃ p', VtH w' b p' v S l last gone ∧ Touch (Fv b p v) w w' ∧ (∀ x, Fv b p' v x → Fv b p v x ∨ w.heap.size ≤ x)
abbrev bxA (w : World) (i : It4) : World := w.alloc (.cells #[.int .i64 i.1, .int .i64 i.2.1, .int .i64 i.2.2.1, .int .i64 i.2.2.2] 36)
set_option maxHeartbeats 2000000 in
set_option maxRecDepth 10000 in
theorem vtSet0 (b : Nat) (p : Value) (v : Nat → Value) (S : Nat → List Od) (l : Pm) (last gone : Int) (s : ByteArray) (hk : KeyOk s.data.toList) (w : World) (h : VtH w b p v S l last gone) :
  Calls Tryz.prog 59 #[.pointer (some ⟨b, 0, none⟩), .string s, .agg #[.int .i64 0, .int .i64 0, .int .i64 0, .int .i64 0]] w fun e w' => e = .returned (.tuple #[]) ∧ SetQ b p v S (setP l s.data.toList z4) last gone w w' := by
 have hs : setP l s.data.toList z4 = del1 s.data.toList l := by unfold setP; rw [if_pos rfl]
 have hok := h.ok.set hk (i := z4) (by decide)
 rw [hs] at hok ⊢
 have c0 := h.cell
 have hB : Below w.heap.size w (bxA w z4) := (Below.refl _ _).alloc (Nat.le_refl _) _
 have h1 := h.below hB
 have hbl := h.bk.whl.low
 rcases h.pu with ⟨rfl, rfl⟩ | ⟨m, rfl, hm⟩
 ·
  have hd := fun ty => del_nil (w := bxA w z4) kB Tryz.underlying74 s.data.toList ty
  rw [bytes_dataB] at hd
  simp only [z4] at hd
  have HQ : Hid (SetQ b (.map none) v S (del1 s.data.toList []) last gone w (bxA w z4)) := Lib.hid ⟨_, h1, (Touch.of_below hB).mono'' (fun k hk hd => by omega), fun x hx => .inl hx⟩
  clear h h1 hok hB hs
  go_enter Tryz.func59, Tryz.ntmps59
  go_wp2_with fail
  refine bodyPost_ret (v := .tuple #[]) (by simp [results, Tryz.results59, go_sem]) rfl ⟨rfl, HQ.out⟩
 ·
  have hmb : m ≠ b := fun e => h.ne (by rw [e]; rfl)
  obtain ⟨w2, hd, hM, hg, hz⟩ := (vmap_alloc hm (.cells #[.int .i64 0, .int .i64 0, .int .i64 0, .int .i64 0] 36)).del (P := Tryz.prog) kB Tryz.underlying74 s.data.toList
  rw [bytes_dataB] at hd
  rw [del_vPm] at hM
  have hw2 : Whl w2 b 80 ((lay1 (.map (some m)) (.int .i64 gone)).C v last) := vwhl_grown h1.bk.whl hg (fun e => hmb e.symm)
  have HQ : Hid (SetQ b (.map (some m)) v S (del1 s.data.toList l) last gone w w2) := Lib.hid ⟨_, h.other (vtouch_grown ((Touch.refl _ w).alloc _) hg (fun _ => .inr rfl)) hw2 (.inr ⟨m, rfl, hM⟩) hok (.inl rfl)⟩
  clear h h1 hok hB hs hm hM hg hw2
  go_enter Tryz.func59, Tryz.ntmps59
  go_wp2_with fail
  refine bodyPost_ret (v := .tuple #[]) (by simp [results, Tryz.results59, go_sem]) rfl ⟨rfl, HQ.out⟩
set_option maxHeartbeats 2000000 in
set_option maxRecDepth 10000 in
theorem vtSet1 (b : Nat) (p : Value) (v : Nat → Value) (S : Nat → List Od) (l : Pm) (last gone : Int) (s : ByteArray) (hk : KeyOk s.data.toList) (i : It4) (hi : i ≠ z4) (hii : isI i = true) (w : World) (h : VtH w b p v S l last gone) :
  Calls Tryz.prog 59 #[.pointer (some ⟨b, 0, none⟩), .string s, itV i] w fun e w' => e = .returned (.tuple #[]) ∧ SetQ b p v S (setP l s.data.toList i) last gone w w' := by
 have hs : setP l s.data.toList i = put1 s.data.toList i l := by unfold setP; rw [if_neg hi]
 have hok := h.ok.set hk hii
 rw [hs] at hok ⊢
 have c0 := h.cell
 have hB : Below w.heap.size w (bxA w i) := (Below.refl _ _).alloc (Nat.le_refl _) _
 have h1 := h.below hB
 have hbl := h.bk.whl.low
 have hq := eqM3
 have hmm := @run_makeMap Tryz.prog
 have f0 := h.bk.whl.free 0
 have hne : (i.1 == 0 && i.2.1 == 0 && i.2.2.1 == 0 && i.2.2.2 == 0) = false := by
  rw [Bool.eq_false_iff]; intro hh; apply hi
  obtain ⟨a, b, c, d⟩ := i
  simp at hh
  obtain ⟨⟨⟨rfl, rfl⟩, rfl⟩, rfl⟩ := hh
  rfl
 rcases h.pu with ⟨rfl, rfl⟩ | ⟨m, rfl, hm⟩
 ·
  obtain ⟨W, hW⟩ : ∃ W, W = (((w.setCell ⟨b, 0, none⟩ (.map (some (w.heap.size + 1)))).alloc (.cells #[.int .i64 i.1, .int .i64 i.2.1, .int .i64 i.2.2.1, .int .i64 i.2.2.2] 36)).alloc (.map #[] 0)) := ⟨_, rfl⟩
  have hsz : W.heap.size = w.heap.size + 2 := by rw [hW]; simp [World.setCell]
  have hWh : Whl W b 80 ((lay1 (.map (some (w.heap.size + 1))) (.int .i64 gone)).C v last) := by rw [hW]; exact ((h.bk.whl.set 0 _).alloc _).alloc _
  have hX : Whl W w.heap.size 36 #[.int .i64 i.1, .int .i64 i.2.1, .int .i64 i.2.2.1, .int .i64 i.2.2.2] := by
   rw [hW]
   have := (Whl.new (w := w.setCell ⟨b, 0, none⟩ (.map (some (w.heap.size + 1)))) (t := 36) (cs := #[.int .i64 i.1, .int .i64 i.2.1, .int .i64 i.2.2.1, .int .i64 i.2.2.2]) rfl).alloc (.map #[] 0)
   simpa [World.setCell] using this
  have hM : MapOf encB W (w.heap.size + 1) (vPm []) := by
   rw [hW]
   have := MapOf.made (enc := encB) ((w.setCell ⟨b, 0, none⟩ (.map (some (w.heap.size + 1)))).alloc (.cells #[.int .i64 i.1, .int .i64 i.2.1, .int .i64 i.2.2.1, .int .i64 i.2.2.2] 36))
   simpa [World.setCell, vPm] using this
  have hT : Touch (fun x => x = b ∨ mb (.map none) = some x) w W := by rw [hW]; exact (((Touch.refl _ w).set (fun _ => .inl rfl)).alloc _).alloc _
  have d0 : W.drew.cell? ⟨b, 0, none⟩ = some (.map (some (w.heap.size + 1))) := hWh.cell 0
  have x0 : W.drew.cell? ⟨w.heap.size, 0, none⟩ = some (.int .i64 i.1) := hX.cell 0
  have x1 : W.drew.cell? ⟨w.heap.size, 1, none⟩ = some (.int .i64 i.2.1) := hX.cell 1
  have x2 : W.drew.cell? ⟨w.heap.size, 2, none⟩ = some (.int .i64 i.2.2.1) := hX.cell 2
  have x3 : W.drew.cell? ⟨w.heap.size, 3, none⟩ = some (.int .i64 i.2.2.2) := hX.cell 3
  have hMd : MapOf encB W.drew (w.heap.size + 1) (vPm []) := hM
  have hTd : Touch (fun x => x = b ∨ mb (.map none) = some x) w W.drew := hT.drew'
  have hWd : Whl W.drew b 80 ((lay1 (.map (some (w.heap.size + 1))) (.int .i64 gone)).C v last) := hWh
  obtain ⟨w5, up5, H5, gr5, hz5⟩ := hMd.put (P := Tryz.prog) kB Tryz.underlying74 s.data.toList (itV i)
  rw [bytes_dataB] at up5
  rw [put_vPm] at H5
  have HQ : Hid (SetQ b (.map none) v S (put1 s.data.toList i []) last gone w w5) := Lib.hid ⟨_, h.other (vtouch_grown hTd gr5 (fun hl => by omega)) (vwhl_grown hWd gr5 (by omega)) (.inr ⟨_, rfl, H5⟩) hok (.inr (fun x hx => by simp only [mb, Option.some.injEq] at hx; omega))⟩
  clear h h1 hok hB hs hWh hX hM hT hMd hTd hWd H5 gr5 hz5
  unfold itV at up5 ⊢
  go_enter Tryz.func59, Tryz.ntmps59
  go_wp2_with fail
  rw [← hW]
  clear hW c0 f0 hq hmm
  go_still_tail 6, (by kernel_rfl)
  change wpList _ _ _ _ _ W.drew
  generalize W.drew = wd at *
  go_wp2_with fail
  refine bodyPost_end (v := .tuple #[]) (by simp [results, Tryz.results59, go_sem]) rfl ⟨rfl, HQ.out⟩
 ·
  have hmb : m ≠ b := fun e => h.ne (by rw [e]; rfl)
  have hml := hm.lt
  obtain ⟨W, hW⟩ : ∃ W, W = bxA w i := ⟨_, rfl⟩
  have hX : Whl W w.heap.size 36 #[.int .i64 i.1, .int .i64 i.2.1, .int .i64 i.2.2.1, .int .i64 i.2.2.2] := by rw [hW]; exact Whl.new rfl
  have hWh : Whl W b 80 ((lay1 (.map (some m)) (.int .i64 gone)).C v last) := by rw [hW]; exact h1.bk.whl
  have hM : MapOf encB W m (vPm l) := by rw [hW]; exact vmap_alloc hm _
  have hT : Touch (fun x => x = b ∨ mb (.map (some m)) = some x) w W := by rw [hW]; exact (Touch.refl _ w).alloc _
  have d0 : W.drew.cell? ⟨b, 0, none⟩ = some (.map (some m)) := hWh.cell 0
  have x0 : W.drew.cell? ⟨w.heap.size, 0, none⟩ = some (.int .i64 i.1) := hX.cell 0
  have x1 : W.drew.cell? ⟨w.heap.size, 1, none⟩ = some (.int .i64 i.2.1) := hX.cell 1
  have x2 : W.drew.cell? ⟨w.heap.size, 2, none⟩ = some (.int .i64 i.2.2.1) := hX.cell 2
  have x3 : W.drew.cell? ⟨w.heap.size, 3, none⟩ = some (.int .i64 i.2.2.2) := hX.cell 3
  have hMd : MapOf encB W.drew m (vPm l) := hM
  have hTd : Touch (fun x => x = b ∨ mb (.map (some m)) = some x) w W.drew := hT.drew'
  have hWd : Whl W.drew b 80 ((lay1 (.map (some m)) (.int .i64 gone)).C v last) := hWh
  obtain ⟨w5, up5, H5, gr5, hz5⟩ := hMd.put (P := Tryz.prog) kB Tryz.underlying74 s.data.toList (itV i)
  rw [bytes_dataB] at up5
  rw [put_vPm] at H5
  have HQ : Hid (SetQ b (.map (some m)) v S (put1 s.data.toList i l) last gone w w5) := Lib.hid ⟨_, h.other (vtouch_grown hTd gr5 (fun hl => .inr rfl)) (vwhl_grown hWd gr5 (fun e => hmb e.symm)) (.inr ⟨_, rfl, H5⟩) hok (.inl rfl)⟩
  clear h h1 hok hB hs hWh hX hM hT hMd hTd hWd H5 gr5 hz5 hm
  unfold itV at up5 ⊢
  go_enter Tryz.func59, Tryz.ntmps59
  go_wp2_with fail
  rw [show w.alloc _ = W from hW.symm]
  clear hW c0 f0 hq hmm
  go_still_tail 6, (by kernel_rfl)
  change wpList _ _ _ _ _ W.drew
  generalize W.drew = wd at *
  go_wp2_with fail
  refine bodyPost_end (v := .tuple #[]) (by simp [results, Tryz.results59, go_sem]) rfl ⟨rfl, HQ.out⟩
theorem vtSet (b : Nat) (p : Value) (v : Nat → Value) (S : Nat → List Od) (l : Pm) (last gone : Int) (s : ByteArray) (hk : KeyOk s.data.toList) (i : It4) (hii : isI i = true) (w : World) (h : VtH w b p v S l last gone) :
  Calls Tryz.prog 59 #[.pointer (some ⟨b, 0, none⟩), .string s, itV i] w fun e w' => e = .returned (.tuple #[]) ∧ SetQ b p v S (setP l s.data.toList i) last gone w w' := by
 by_cases hi : i = z4
 · subst hi; exact vtSet0 b p v S l last gone s hk w h
 · exact vtSet1 b p v S l last gone s hk i hi hii w h
end Go.Proofs.YtdlbiobjnohfbaaGreat
namespace Go.Proofs.YtdlbiobjnohfbaaGreat
open Go.RowKit
set_option linter.unusedVariables false
set_option linter.unusedSimpArgs false
def lessP (a b c d e f g h : Int) : Bool := decide (a < e) || decide (b < f) || decide (c < g) || decide (d < h)
set_option maxHeartbeats 1000000 in
theorem purseLess (a b c d e f g h : Int) (w : World) :
  Calls Tryz.prog 94 #[.agg #[.int .i64 a, .int .i64 b, .int .i64 c, .int .i64 d], .agg #[.int .i64 e, .int .i64 f, .int .i64 g, .int .i64 h]] w fun z w' => z = .returned (.bool (lessP a b c d e f g h)) ∧ Below w.heap.size w w' := by
 have i0 : ∀ w, (Instr.index 36 (.agg #[.int .i64 e, .int .i64 f, .int .i64 g, .int .i64 h]) (.int .i64 0)).run Tryz.prog w = .ok (.int .i64 (e)) w := fun _ => by kernel_rfl
 have i1 : ∀ w, (Instr.index 36 (.agg #[.int .i64 e, .int .i64 f, .int .i64 g, .int .i64 h]) (.int .i64 1)).run Tryz.prog w = .ok (.int .i64 (f)) w := fun _ => by kernel_rfl
 have i2 : ∀ w, (Instr.index 36 (.agg #[.int .i64 e, .int .i64 f, .int .i64 g, .int .i64 h]) (.int .i64 2)).run Tryz.prog w = .ok (.int .i64 (g)) w := fun _ => by kernel_rfl
 have i3 : ∀ w, (Instr.index 36 (.agg #[.int .i64 e, .int .i64 f, .int .i64 g, .int .i64 h]) (.int .i64 3)).run Tryz.prog w = .ok (.int .i64 (h)) w := fun _ => by kernel_rfl
 go_enter Tryz.func94, Tryz.ntmps94
 go_wp2_with fail
 refine wp_loop_rounds 5 ?_; rw [rounds_succ]
 by_cases l0 : a < e
 ·
  go_wp2_with fail
  go_ret
  exact ⟨ret_bool (by simp [lessP, l0]), by exact tB⟩
 go_wp2_with fail
 rw [rounds_succ]
 by_cases l1 : b < f
 ·
  go_wp2_with fail
  go_ret
  exact ⟨ret_bool (by simp [lessP, l1]), by exact tB⟩
 go_wp2_with fail
 rw [rounds_succ]
 by_cases l2 : c < g
 ·
  go_wp2_with fail
  go_ret
  exact ⟨ret_bool (by simp [lessP, l2]), by exact tB⟩
 go_wp2_with fail
 rw [rounds_succ]
 by_cases l3 : d < h
 ·
  go_wp2_with fail
  go_ret
  exact ⟨ret_bool (by simp [lessP, l3]), by exact tB⟩
 go_wp2_with fail
 rw [rounds_succ]
 go_wp2_with fail
 go_ret
 exact ⟨ret_bool (by simp only [lessP]; simp; omega), by exact tB⟩
set_option maxHeartbeats 1000000 in
theorem refLess (a b c d e f g h : Int) (w : World) :
  Calls Tryz.prog 95 #[.agg #[.int .i64 a, .int .i64 b, .int .i64 c, .int .i64 d], .agg #[.int .i64 e, .int .i64 f, .int .i64 g, .int .i64 h]] w fun z w' => z = .returned (.bool (lessP a b c d e f g h)) ∧ Below w.heap.size w w' := by
 go_enter Tryz.func95, Tryz.ntmps95
 go_wp2_with fail
 refine wp_loop_rounds 5 ?_; rw [rounds_succ]
 by_cases l0 : a < e
 ·
  go_wp2_with fail
  go_quiet (fail)
  go_wp2_with fail
  go_ret
  exact ⟨ret_bool (by simp [lessP, l0]), by exact tB⟩
 go_wp2_with fail
 go_quiet (fail)
 go_wp2_with fail
 rw [rounds_succ]
 by_cases l1 : b < f
 ·
  go_wp2_with fail
  go_quiet (fail)
  go_wp2_with fail
  go_ret
  exact ⟨ret_bool (by simp [lessP, l1]), by exact tB⟩
 go_wp2_with fail
 go_quiet (fail)
 go_wp2_with fail
 rw [rounds_succ]
 by_cases l2 : c < g
 ·
  go_wp2_with fail
  go_quiet (fail)
  go_wp2_with fail
  go_ret
  exact ⟨ret_bool (by simp [lessP, l2]), by exact tB⟩
 go_wp2_with fail
 go_quiet (fail)
 go_wp2_with fail
 rw [rounds_succ]
 by_cases l3 : d < h
 ·
  go_wp2_with fail
  go_quiet (fail)
  go_wp2_with fail
  go_ret
  exact ⟨ret_bool (by simp [lessP, l3]), by exact tB⟩
 go_wp2_with fail
 go_quiet (fail)
 go_wp2_with fail
 rw [rounds_succ]
 go_wp2_with fail
 go_ret
 exact ⟨ret_bool (by simp only [lessP]; simp; omega), by exact tB⟩
theorem isP_iff {a b c d : Int} : isP a b c d = true ↔ (0 ≤ a ∧ a ≤ 1152921504606846976) ∧ (0 ≤ b ∧ b ≤ 1152921504606846976) ∧ (0 ≤ c ∧ c ≤ 1152921504606846976) ∧ (0 ≤ d ∧ d ≤ 1152921504606846976) := by
 unfold isP; simp only [Bool.and_eq_true, heldB_iff]; omega
theorem lessP_iff {a b c d e f g h : Int} : lessP a b c d e f g h = false ↔ e ≤ a ∧ f ≤ b ∧ g ≤ c ∧ h ≤ d := by
 unfold lessP; simp; omega
set_option maxHeartbeats 1000000 in
theorem purseSub_2 (a b c d e f g h : Int) (w : World) (h1 : isP a b c d = true) (h2 : isP e f g h = true) (h3 : lessP a b c d e f g h = true) :
  Calls Tryz.prog 64 #[.agg #[.int .i64 a, .int .i64 b, .int .i64 c, .int .i64 d], .agg #[.int .i64 e, .int .i64 f, .int .i64 g, .int .i64 h]] w fun z w' => z = .returned (.tuple #[.agg #[.int .i64 0, .int .i64 0, .int .i64 0, .int .i64 0], .bool false]) ∧ Below w.heap.size w w' := by
 go_enter Tryz.func64, Tryz.ntmps64
 go_wp2_with (first
  | (go_at_call 93; refine (purseIs _ _ _ _ _).mono ?_; rintro z w' ⟨rfl, hb⟩; have hs := hb.size; (try simp at hs); obtain ⟨hc, hf⟩ := bcell hb)
  | (go_at_call 94; refine (purseLess _ _ _ _ _ _ _ _ _).mono ?_; rintro z w' ⟨rfl, hb⟩; have hs := hb.size; (try simp at hs); obtain ⟨hc, hf⟩ := bcell hb))
 refine bodyPost_ret (v := .tuple #[.agg #[.int .i64 0, .int .i64 0, .int .i64 0, .int .i64 0], .bool false]) (by simp [results, Tryz.results64, go_sem, ↓IntWalk.iteOmega, *]) rfl ⟨rfl, ?_⟩
 clear hc hf
 exact tB
set_option maxHeartbeats 1000000 in
theorem purseSub_3 (a b c d e f g h : Int) (w : World) (h1 : isP a b c d = true) (h2 : isP e f g h = true) (h3 : lessP a b c d e f g h = false) :
  Calls Tryz.prog 64 #[.agg #[.int .i64 a, .int .i64 b, .int .i64 c, .int .i64 d], .agg #[.int .i64 e, .int .i64 f, .int .i64 g, .int .i64 h]] w fun z w' => z = .returned (.tuple #[.agg #[.int .i64 (a - e), .int .i64 (b - f), .int .i64 (c - g), .int .i64 (d - h)], .bool true]) ∧ Below w.heap.size w w' := by
 obtain ⟨⟨a1, a2⟩, ⟨b1, b2⟩, ⟨c1, c2⟩, ⟨d1, d2⟩⟩ := isP_iff.1 h1
 obtain ⟨⟨e1, e2⟩, ⟨f1, f2⟩, ⟨g1, g2⟩, ⟨p1, p2⟩⟩ := isP_iff.1 h2
 obtain ⟨l1, l2, l3, l4⟩ := lessP_iff.1 h3
 have i0 : ∀ w, (Instr.index 36 (.agg #[.int .i64 e, .int .i64 f, .int .i64 g, .int .i64 h]) (.int .i64 0)).run Tryz.prog w = .ok (.int .i64 (e)) w := fun _ => by kernel_rfl
 have i1 : ∀ w, (Instr.index 36 (.agg #[.int .i64 e, .int .i64 f, .int .i64 g, .int .i64 h]) (.int .i64 1)).run Tryz.prog w = .ok (.int .i64 (f)) w := fun _ => by kernel_rfl
 have i2 : ∀ w, (Instr.index 36 (.agg #[.int .i64 e, .int .i64 f, .int .i64 g, .int .i64 h]) (.int .i64 2)).run Tryz.prog w = .ok (.int .i64 (g)) w := fun _ => by kernel_rfl
 have i3 : ∀ w, (Instr.index 36 (.agg #[.int .i64 e, .int .i64 f, .int .i64 g, .int .i64 h]) (.int .i64 3)).run Tryz.prog w = .ok (.int .i64 (h)) w := fun _ => by kernel_rfl
 go_enter Tryz.func64, Tryz.ntmps64
 go_wp2_with (first
  | (go_at_call 93; refine (purseIs _ _ _ _ _).mono ?_; rintro z w' ⟨rfl, hb⟩; have hs := hb.size; (try simp at hs); obtain ⟨hc, hf⟩ := bcell hb)
  | (go_at_call 94; refine (purseLess _ _ _ _ _ _ _ _ _).mono ?_; rintro z w' ⟨rfl, hb⟩; have hs := hb.size; (try simp at hs); obtain ⟨hc, hf⟩ := bcell hb))
 refine wp_loop_rounds 5 ?_; rw [rounds_succ]
 go_wp2_with fail
 rw [rounds_succ]
 go_wp2_with fail
 rw [rounds_succ]
 go_wp2_with fail
 rw [rounds_succ]
 go_wp2_with fail
 rw [rounds_succ]
 go_wp2_with fail
 refine bodyPost_ret (v := .tuple #[.agg #[.int .i64 (a - e), .int .i64 (b - f), .int .i64 (c - g), .int .i64 (d - h)], .bool true]) (by simp [results, Tryz.results64, go_sem, ↓IntWalk.iteOmega, *]) rfl ⟨rfl, ?_⟩
 clear hc hf
 exact tB
set_option maxHeartbeats 1000000 in
theorem refSub_2 (a b c d e f g h : Int) (w : World) (h1 : isP a b c d = true) (h2 : isP e f g h = true) (h3 : lessP a b c d e f g h = true) :
  Calls Tryz.prog 65 #[.agg #[.int .i64 a, .int .i64 b, .int .i64 c, .int .i64 d], .agg #[.int .i64 e, .int .i64 f, .int .i64 g, .int .i64 h]] w fun z w' => z = .returned (.tuple #[.agg #[.int .i64 0, .int .i64 0, .int .i64 0, .int .i64 0], .bool false]) ∧ Below w.heap.size w w' := by
 go_enter Tryz.func65, Tryz.ntmps65
 go_wp2_with (first
  | (go_at_call 61; refine (refPIs _ _ _ _ _).mono ?_; rintro z w' ⟨rfl, hb⟩; have hs := hb.size; (try simp at hs); obtain ⟨hc, hf⟩ := bcell hb)
  | (go_at_call 95; refine (refLess _ _ _ _ _ _ _ _ _).mono ?_; rintro z w' ⟨rfl, hb⟩; have hs := hb.size; (try simp at hs); obtain ⟨hc, hf⟩ := bcell hb))
 refine bodyPost_ret (v := .tuple #[.agg #[.int .i64 0, .int .i64 0, .int .i64 0, .int .i64 0], .bool false]) (by simp [results, Tryz.results65, go_sem, ↓IntWalk.iteOmega, *]) rfl ⟨rfl, ?_⟩
 clear hc hf
 exact tB
set_option maxHeartbeats 1000000 in
theorem refSub_3 (a b c d e f g h : Int) (w : World) (h1 : isP a b c d = true) (h2 : isP e f g h = true) (h3 : lessP a b c d e f g h = false) :
  Calls Tryz.prog 65 #[.agg #[.int .i64 a, .int .i64 b, .int .i64 c, .int .i64 d], .agg #[.int .i64 e, .int .i64 f, .int .i64 g, .int .i64 h]] w fun z w' => z = .returned (.tuple #[.agg #[.int .i64 (a - e), .int .i64 (b - f), .int .i64 (c - g), .int .i64 (d - h)], .bool true]) ∧ Below w.heap.size w w' := by
 obtain ⟨⟨a1, a2⟩, ⟨b1, b2⟩, ⟨c1, c2⟩, ⟨d1, d2⟩⟩ := isP_iff.1 h1
 obtain ⟨⟨e1, e2⟩, ⟨f1, f2⟩, ⟨g1, g2⟩, ⟨p1, p2⟩⟩ := isP_iff.1 h2
 obtain ⟨l1, l2, l3, l4⟩ := lessP_iff.1 h3
 go_enter Tryz.func65, Tryz.ntmps65
 go_wp2_with fail
 refine (refPIs _ _ _ _ _).mono ?_; rintro z w1 ⟨rfl, hb1⟩
 obtain ⟨hc, hf⟩ := bcell hb1
 go_wp2_with fail
 refine (refPIs _ _ _ _ _).mono ?_; rintro z w2 ⟨rfl, hb2⟩
 replace hb2 := hb1.trans (hb2.mono hb1.size)
 clear hc hf hb1
 obtain ⟨hc, hf⟩ := bcell hb2
 go_wp2_with fail
 refine (refLess _ _ _ _ _ _ _ _ _).mono ?_; rintro z w3 ⟨rfl, hb3⟩
 replace hb3 := hb2.trans (hb3.mono hb2.size)
 clear hc hf hb2
 have k00 := bkeep hb3 (b := w.heap.size) (o := 0) (v := .int .i64 a) (by exact tC) (by (first | omega | (simp; done) | (simp; omega)))
 have m00 := bfree hb3 (b := w.heap.size) (o := 0) (v := false) (by exact tF) (by (first | omega | (simp; done) | (simp; omega)))
 have k01 := bkeep hb3 (b := w.heap.size) (o := 1) (v := .int .i64 b) (by exact tC) (by (first | omega | (simp; done) | (simp; omega)))
 have m01 := bfree hb3 (b := w.heap.size) (o := 1) (v := false) (by exact tF) (by (first | omega | (simp; done) | (simp; omega)))
 have k02 := bkeep hb3 (b := w.heap.size) (o := 2) (v := .int .i64 c) (by exact tC) (by (first | omega | (simp; done) | (simp; omega)))
 have m02 := bfree hb3 (b := w.heap.size) (o := 2) (v := false) (by exact tF) (by (first | omega | (simp; done) | (simp; omega)))
 have k03 := bkeep hb3 (b := w.heap.size) (o := 3) (v := .int .i64 d) (by exact tC) (by (first | omega | (simp; done) | (simp; omega)))
 have m03 := bfree hb3 (b := w.heap.size) (o := 3) (v := false) (by exact tF) (by (first | omega | (simp; done) | (simp; omega)))
 have k10 := bkeep hb3 (b := w.heap.size + 1) (o := 0) (v := .int .i64 e) (by exact tC) (by (first | omega | (simp; done) | (simp; omega)))
 have k11 := bkeep hb3 (b := w.heap.size + 1) (o := 1) (v := .int .i64 f) (by exact tC) (by (first | omega | (simp; done) | (simp; omega)))
 have k12 := bkeep hb3 (b := w.heap.size + 1) (o := 2) (v := .int .i64 g) (by exact tC) (by (first | omega | (simp; done) | (simp; omega)))
 have k13 := bkeep hb3 (b := w.heap.size + 1) (o := 3) (v := .int .i64 h) (by exact tC) (by (first | omega | (simp; done) | (simp; omega)))
 have k20 := bkeep hb3 (b := w.heap.size + 1 + 1) (o := 0) (v := .int .i64 0) (by exact tC) (by (first | omega | (simp; done) | (simp; omega)))
 have m20 := bfree hb3 (b := w.heap.size + 1 + 1) (o := 0) (v := false) (by exact tF) (by (first | omega | (simp; done) | (simp; omega)))
 have k21 := bkeep hb3 (b := w.heap.size + 1 + 1) (o := 1) (v := .int .i64 0) (by exact tC) (by (first | omega | (simp; done) | (simp; omega)))
 have m21 := bfree hb3 (b := w.heap.size + 1 + 1) (o := 1) (v := false) (by exact tF) (by (first | omega | (simp; done) | (simp; omega)))
 have k22 := bkeep hb3 (b := w.heap.size + 1 + 1) (o := 2) (v := .int .i64 0) (by exact tC) (by (first | omega | (simp; done) | (simp; omega)))
 have m22 := bfree hb3 (b := w.heap.size + 1 + 1) (o := 2) (v := false) (by exact tF) (by (first | omega | (simp; done) | (simp; omega)))
 have k23 := bkeep hb3 (b := w.heap.size + 1 + 1) (o := 3) (v := .int .i64 0) (by exact tC) (by (first | omega | (simp; done) | (simp; omega)))
 have m23 := bfree hb3 (b := w.heap.size + 1 + 1) (o := 3) (v := false) (by exact tF) (by (first | omega | (simp; done) | (simp; omega)))
 have hs3 := hb3.size; simp at hs3
 have hB : Below w.heap.size w w3 := by exact tB
 clear hb3
 go_wp2_with fail
 refine wp_loop_rounds 5 ?_; rw [rounds_succ]
 go_wp2_with fail
 go_region
 go_wp2_with fail
 rw [rounds_succ]
 go_wp2_with fail
 go_region
 go_wp2_with fail
 rw [rounds_succ]
 go_wp2_with fail
 go_region
 go_wp2_with fail
 rw [rounds_succ]
 go_wp2_with fail
 go_region
 go_wp2_with fail
 rw [rounds_succ]
 go_wp2_with fail
 refine bodyPost_ret (v := .tuple #[.agg #[.int .i64 (a - e), .int .i64 (b - f), .int .i64 (c - g), .int .i64 (d - h)], .bool true]) (by simp [results, Tryz.results65, go_sem, ↓IntWalk.iteOmega, *]) rfl ⟨rfl, ?_⟩
 skip
 exact tB
end Go.Proofs.YtdlbiobjnohfbaaGreat
