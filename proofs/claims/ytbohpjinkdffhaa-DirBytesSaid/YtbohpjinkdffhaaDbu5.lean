/- The document's own Reader: so many bytes, and rows of bytes. -/
import Derived.Test.YtbohpjinkdffhaaProg
import Derived.WalkKit
import Derived.WalkSpells
import Derived.WalkLawsBesides
import Derived.Deep.QuietTactic
import Derived.BigQuiet
import Derived.RegionTactic
import Derived.BigRegion
import Derived.Outline
import Derived.LoopTactic
import Derived.Lib.Hide
import Derived.Deep.RegionHeld3
import Derived.Laws.AppendOwnNone
import Derived.Deep.AppendLies
import Derived.Deep.Light
import Derived.Lib.VarintBits
import Derived.Deep.Heap
import Derived.IntWalk
import Derived.Maps.AppendAt
import Derived.Laws.Rows
import Derived.Deep.Onto
import Derived.Test.YtbohpjinkdffhaaDbu0
import Derived.Test.YtbohpjinkdffhaaDbu1
import Derived.Test.YtbohpjinkdffhaaDbu2
import Derived.Test.YtbohpjinkdffhaaDbu3
namespace Go.Proofs.Ytbohpjinkdffhaa
open Go.RowKit
set_option linter.unusedVariables false
set_option linter.unusedSimpArgs false
set_option maxHeartbeats 2000000 in
set_option maxRecDepth 10000 in
theorem rfRawT (b n : Nat) (r : List Nat) (w : World) (hl : r.length ≤ 1000000) (hr : Rd w b r false) (hn : n ≤ r.length) :
    Calls Try.prog 84 #[.pointer (some ⟨b, 0, none⟩), .int .i64 n] w fun e w' => ∃ v', e = .returned v' ∧ w'.ownsRow w.heap.size 5 1 v' (r.take n).length (flatU (r.take n)) ∧ Rd w' b (r.drop n) false ∧ Tch b w w' := by
  obtain ⟨i0, hi, hz0, hz1, hz2⟩ := info_parts Try.infoByte
  obtain ⟨A, c, h0, hc, hm, hx⟩ := hr.row
  have hlow := hr.low
  have h1 := hr.flag
  have f0 := hr.free 0
  have HR := Lib.hid hr
  have HX := Lib.hid hx
  have hlt : (r.take n).length = n := by rw [List.length_take]; omega
  have HLT := Lib.hid hlt
  have k0 : ¬ ((n : Int) < 0) := by omega
  have k1 : ¬ ((r.length : Int) < (n : Int)) := by omega
  have k2 : (n : Int) ≤ (r.length : Int) := by omega
  have k3 : (n : Int) ≤ (c : Int) := by omega
  have k4 : (0 : Int) ≤ (n : Int) := by omega
  cases A with
  | none =>
    obtain ⟨hr0, hc0⟩ := hx.2.1 rfl
    have hr1 : r = [] := List.eq_nil_of_length_eq_zero hr0
    subst hr1
    obtain rfl : n = 0 := by simpa using hn
    subst hc0
    simp only [List.length_nil] at *
    clear hx hr
    have HXx : Hid (Cells (w.alloc (.cells #[] 5)) w.heap.size none 0 0 1 (flatU [])) := Lib.hid ⟨rfl, (fun _ => ⟨rfl, rfl⟩), fun j u hu => by simp [flatU] at hu⟩
    go_enter Try.func84, Try.ntmps84
    go_wp2_with (at_builtin; go_must (refine wpList_append_row rfl (.tmp 23) (.tmp 29) 50 rfl w.heap.size 5 i0 (.int .u8 0) 1 1 Try.underlying50 hi hz0 hz1 hz2 rfl (by decide) _ 0 [] rfl (World.ownsRow_lit w #[] 0 (Nat.le_refl _) (by decide) rfl) w.heap.size none 0 0 (flatU []) rfl HXx.out (flatU_one _) (by unfold maxLen; omega) (by omega) (by (first | omega | (simp; done) | (simp; omega))) ?_); intro v5 w5 hown5 hb5; have c5 := bkeep hb5 (c_alloc hlow h0) hlow; have g5 := bfree hb5 (f_alloc hlow f0) hlow; have c6 := bkeep hb5 (c_alloc hlow h1) hlow; have hs5 := hb5.size; (try simp at hs5))
    have hB5 : Below w.heap.size w w5 := ((Below.refl w.heap.size w).alloc (Nat.le_refl _) _).trans hb5
    have h6 : w5.ownsRow w.heap.size 5 1 v5 0 (flatU []) := by simpa using hown5
    have R5 := HR.out.touchBelow hB5 hlow
    go_ret
    refine ⟨_, rfl, row_set h6 hlow _, ?_, (Tch.of_fresh b hB5).set _ _⟩
    exact ⟨⟨none, 0, c_set_same (h_of c5), Nat.le_refl _, hm, ⟨rfl, fun _ => ⟨rfl, rfl⟩, fun j u hu => by simp [flatU] at hu⟩⟩, c_set_other (Or.inr (by decide)) R5.flag, fun j => f_set (R5.free j), by simpa [World.setCell] using R5.low⟩
  | some ad =>
    obtain ⟨ab, ao, sp⟩ := ad
    have hsp : sp = none ∨ r = [] := by
      cases r with
      | nil => exact .inr rfl
      | cons x t =>
        obtain ⟨b', o', e, _, _⟩ := hx.2.2 0 (.int .u8 x) rfl
        injection e with e; injection e with e1 e2 e3
        exact .inl e3
    have HXx : Hid (Cells (w.alloc (.cells #[] 5)) w.heap.size (some ⟨ab, ao, sp⟩) n c 1 (flatU (r.take n))) := Lib.hid (cells_keep (cells_take hx hn c) ((Below.refl b w).alloc (Nat.le_of_lt hlow) _) (Nat.le_of_lt hlow))
    clear hx hr
    by_cases hcn : n = c
    · subst hcn
      have hrl : r.length = n := by omega
      go_enter Try.func84, Try.ntmps84
      go_wp2_with (at_builtin; go_must (refine wpList_append_row rfl (.tmp 23) (.tmp 29) 50 rfl w.heap.size 5 i0 (.int .u8 0) 1 1 Try.underlying50 hi hz0 hz1 hz2 rfl (by decide) _ 0 [] rfl (World.ownsRow_lit w #[] 0 (Nat.le_refl _) (by decide) rfl) w.heap.size (some ⟨ab, ao, sp⟩) n n (flatU (r.take n)) rfl HXx.out (flatU_one _) (by unfold maxLen; omega) (by omega) (by (first | omega | (simp; done) | (simp; omega))) ?_); intro v5 w5 hown5 hb5; have c5 := bkeep hb5 (c_alloc hlow h0) hlow; have g5 := bfree hb5 (f_alloc hlow f0) hlow; have c6 := bkeep hb5 (c_alloc hlow h1) hlow; have hs5 := hb5.size; (try simp at hs5))
      have hB5 : Below w.heap.size w w5 := ((Below.refl w.heap.size w).alloc (Nat.le_refl _) _).trans hb5
      have h6 : w5.ownsRow w.heap.size 5 1 v5 n (flatU (r.take n)) := by simpa using hown5
      have R5 := HR.out.touchBelow hB5 hlow
      go_ret
      refine ⟨_, rfl, by first | (rw [HLT.out]; exact row_set h6 hlow _) | exact row_set h6 hlow _, Rd.cutAll R5 c5 (by omega), (Tch.of_fresh b hB5).set _ _⟩
    · have q1 : ¬ c = n := fun e => hcn e.symm
      go_enter Try.func84, Try.ntmps84
      go_wp2_with (at_builtin; go_must (refine wpList_append_row rfl (.tmp 23) (.tmp 29) 50 rfl w.heap.size 5 i0 (.int .u8 0) 1 1 Try.underlying50 hi hz0 hz1 hz2 rfl (by decide) _ 0 [] rfl (World.ownsRow_lit w #[] 0 (Nat.le_refl _) (by decide) rfl) w.heap.size (some ⟨ab, ao, sp⟩) n c (flatU (r.take n)) rfl HXx.out (flatU_one _) (by unfold maxLen; omega) (by omega) (by (first | omega | (simp; done) | (simp; omega))) ?_); intro v5 w5 hown5 hb5; have c5 := bkeep hb5 (c_alloc hlow h0) hlow; have g5 := bfree hb5 (f_alloc hlow f0) hlow; have c6 := bkeep hb5 (c_alloc hlow h1) hlow; have hs5 := hb5.size; (try simp at hs5))
      have hB5 : Below w.heap.size w w5 := ((Below.refl w.heap.size w).alloc (Nat.le_refl _) _).trans hb5
      have h6 : w5.ownsRow w.heap.size 5 1 v5 n (flatU (r.take n)) := by simpa using hown5
      have R5 := HR.out.touchBelow hB5 hlow
      have HX1 := Lib.hid (cells_keep HX.out (hB5.mono (Nat.le_of_lt hlow)) (Nat.le_refl _))
      go_ret
      rcases hsp with rfl | rfl
      · exact ⟨_, rfl, by first | (rw [HLT.out]; exact row_set h6 hlow _) | exact row_set h6 hlow _, by rw [add_none]; exact Rd.cut R5 c5 HX1.out hc hm hn, (Tch.of_fresh b hB5).set _ _⟩
      · obtain rfl : n = 0 := by simpa using hn
        refine ⟨_, rfl, row_set h6 hlow _, ?_, (Tch.of_fresh b hB5).set _ _⟩
        exact ⟨⟨_, _, c_set_same (h_of c5), by simp, by omega, ⟨rfl, (fun e => by cases e), fun j u hu => by simp [flatU] at hu⟩⟩, c_set_other (Or.inr (by decide)) R5.flag, fun j => f_set (R5.free j), by simpa [World.setCell] using R5.low⟩
set_option maxHeartbeats 1000000 in
theorem rfRawNoT (b n : Nat) (r : List Nat) (w : World) (hr : Rd w b r false) (hn : r.length < n) (hl : r.length ≤ 1000000) :
    Calls Try.prog 84 #[.pointer (some ⟨b, 0, none⟩), .int .i64 n] w fun e w' => e = .returned (.slice none 0 0) ∧ Rd w' b [] true ∧ Tch b w w' := by
  obtain ⟨A, c, h0, hc, hm, hx⟩ := hr.row
  have HR := Lib.hid hr
  have k0 : ¬ ((n : Int) < 0) := by omega
  have k1 : ((r.length : Int) < (n : Int)) := by omega
  clear hx hr
  go_enter Try.func84, Try.ntmps84
  go_wp2_with fail
  refine (rfBadT b _ _ _ HR.out).mono ?_
  rintro e w1 ⟨rfl, hr1, hb1⟩
  have HR1 := Lib.hid hr1
  have h1 := hr1.flag
  clear hr1
  go_wp2_with fail
  go_ret
  exact ⟨rfl, HR1.out, hb1⟩
set_option maxHeartbeats 1000000 in
theorem rfNb (b : Nat) (st : Option (List Nat)) (w : World) (hr : RS w b st) :
    Calls Try.prog 56 #[.pointer (some ⟨b, 0, none⟩)] w fun e w' => ∃ v', e = .returned v' ∧ w'.ownsRow w.heap.size 5 1 v' (nb st).1.length (flatU (nb st).1) ∧ RS w' b (nb st).2 ∧ Tch b w w' := by
  have hlow := hr.low
  have HR := Lib.hid hr
  clear hr
  go_enter Try.func56, Try.ntmps56
  go_wp2_with fail
  refine (rfNxT b st _ HR.out).mono ?_
  rintro e w1 ⟨rfl, hr1, hb1⟩
  have hs1 := hb1.size
  have hnb := nx_le st
  cases h2 : (nx st).2 with
  | none =>
    have hv : nb st = ([], none) := by
      unfold nb
      rw [show nx st = ((nx st).1, (nx st).2) from rfl, h2]
    rw [h2] at hr1
    have HR1 := Lib.hid hr1
    have HV := Lib.hid hv
    have hf := hr1.rd.flag
    simp only [Option.isNone_none] at hf
    clear hr1 hv h2 hnb
    go_wp2_with fail
    go_ret
    rw [HV.out]
    exact ⟨_, rfl, World.ownsRow_nil _ _ _ _, HR1.out, hb1⟩
  | some r =>
    rw [h2] at hr1
    have hlr := hr1.len
    simp only [Option.getD_some] at hlr
    have hbr := hr1.byt
    simp only [Option.getD_some] at hbr
    have hf := hr1.rd.flag
    simp only [Option.isNone_some] at hf
    generalize hN : (nx st).1 = N at *
    have HR1 := Lib.hid hr1
    by_cases hle : N ≤ r.length
    · have hv : nb st = (r.take N, some (r.drop N)) := by
        unfold nb
        rw [show nx st = ((nx st).1, (nx st).2) from rfl, h2, hN]
        simp only; rw [if_pos hle]
      have HV := Lib.hid hv
      have HBR := Lib.hid hbr
      clear hr1 hv h2 hnb hbr
      go_wp2_with fail
      refine (rfRawT b N r _ (by omega) HR1.out.rd hle).mono ?_
      rintro e w2 ⟨v2, rfl, hown2, hr2, hb2⟩
      have HO := Lib.hid (World.ownsRow.mono hown2 hs1)
      have HR2 := Lib.hid hr2
      clear hown2 hr2
      go_wp2_with fail
      go_ret
      rw [HV.out]
      exact ⟨_, rfl, HO.out, RS.of HR2.out (by rw [List.length_drop]; omega) (fun x hx => HBR.out x (List.mem_of_mem_drop hx)), hb1.trans hb2⟩
    · have hv : nb st = ([], none) := by
        unfold nb
        rw [show nx st = ((nx st).1, (nx st).2) from rfl, h2, hN]
        simp only; rw [if_neg hle]
      have HV := Lib.hid hv
      clear hr1 hv h2 hnb hbr
      go_wp2_with fail
      refine (rfRawNoT b N r _ HR1.out.rd (by omega) (by omega)).mono ?_
      rintro e w2 ⟨rfl, hr2, hb2⟩
      have HR2 := Lib.hid hr2
      clear hr2
      go_wp2_with fail
      go_ret
      rw [HV.out]
      exact ⟨_, rfl, World.ownsRow_nil _ _ _ _, RS.bad HR2.out, hb1.trans hb2⟩
end Go.Proofs.Ytbohpjinkdffhaa
