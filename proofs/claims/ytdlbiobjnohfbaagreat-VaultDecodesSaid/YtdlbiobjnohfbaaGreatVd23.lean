/- The document's own Reader once more: it writes its own block alone. -/
import Derived.Test.YtdlbiobjnohfbaaGreatVd21
namespace Go.Proofs.YtdlbiobjnohfbaaGreat
open Go.RowKit
set_option linter.unusedVariables false
set_option linter.unusedSimpArgs false
/-- os, tape, output as they were; of what was there block b alone may have changed -/
structure Tch (b : Nat) (w w' : World) : Prop where
  os : w'.os = w.os
  tape : w'.tape = w.tape
  output : w'.output = w.output
  size : w.heap.size ≤ w'.heap.size
  block : ∀ k, k < w.heap.size → k ≠ b → w'.heap[k]? = w.heap[k]?
theorem Tch.refl (b : Nat) (w : World) : Tch b w w := ⟨rfl, rfl, rfl, Nat.le_refl _, fun _ _ _ => rfl⟩
theorem Tch.trans {b : Nat} {x y z : World} (h : Tch b x y) (k : Tch b y z) : Tch b x z := ⟨k.os.trans h.os, k.tape.trans h.tape, k.output.trans h.output, Nat.le_trans h.size k.size, fun i hi hn => (k.block i (Nat.lt_of_lt_of_le hi h.size) hn).trans (h.block i hi hn)⟩
theorem Tch.of_fresh (b : Nat) {w w' : World} (h : Below w.heap.size w w') : Tch b w w' := ⟨h.os, h.tape, h.output, h.size, fun k hk _ => h.block k hk⟩
theorem Tch.set {b : Nat} {w w' : World} (h : Tch b w w') (i : Nat) (v : Value) : Tch b w (w'.setCell ⟨b, i, none⟩ v) := ⟨h.os, h.tape, h.output, by simpa [World.setCell] using h.size, fun k hk hn => (Below.heap_setCell _ _ _ _ hn).trans (h.block k hk hn)⟩
theorem Tch.below {b B : Nat} {w w' : World} (h : Tch b w w') (hb : B ≤ b) (hB : B ≤ w.heap.size) : Below B w w' := ⟨h.os, h.tape, h.output, h.size, fun k hk => h.block k (by omega) (by omega)⟩
theorem rfBadT (b : Nat) (rest : List Nat) (bad : Bool) (w : World) (hr : Rd w b rest bad) :
    Calls Tryz.prog 54 #[.pointer (some ⟨b, 0, none⟩)] w fun e w' => e = .returned (.tuple #[]) ∧ Rd w' b [] true ∧ Tch b w w' := by
  obtain ⟨A, c, h0, _, _, _⟩ := hr.row
  have h1 := hr.flag
  have f := hr.free
  have f0 := f 0
  have f1 := f 1
  have hlow := hr.low
  go_enter Tryz.func54, Tryz.ntmps54
  go_wp2_with fail
  refine bodyPost_end (v := .tuple #[]) (by simp [results, Tryz.results54, go_sem]) rfl ⟨rfl, ⟨⟨none, 0, (by simp only [List.length_nil]; ((repeat (first | (with_reducible assumption) | ((with_reducible refine c_set_same ?_); ((repeat (first | (with_reducible exact h_of (by assumption)) | (with_reducible assumption) | (with_reducible refine h_set ?_) | ((with_reducible refine h_alloc ?_ ?_); · (first | omega | (simp; done) | (simp; omega))) | ((with_reducible refine h_new ?_ ?_) <;> (first | omega | (simp; done) | (simp; omega))) | (with_reducible refine h_drew ?_) | (with_reducible refine h_drewN ?_) | ((with_reducible refine h_keep (by assumption) ?_ ?_); · (first | omega | (simp; done) | (simp; omega))))); done)) | ((with_reducible refine c_set_other ?_ ?_); · (first | omega | (simp; done) | (simp; omega))) | ((with_reducible refine c_alloc ?_ ?_); · (first | omega | (simp; done) | (simp; omega))) | ((with_reducible refine c_new ?_ ?_) <;> (first | omega | (simp; done) | (simp; omega))) | (with_reducible refine c_drew ?_) | (with_reducible refine c_drewN ?_) | ((with_reducible refine c_keep (by assumption) ?_ ?_); · (first | omega | (simp; done) | (simp; omega))))); done)), Nat.le_refl _, by unfold maxLen; omega, ⟨rfl, fun _ => ⟨rfl, rfl⟩, fun j u hu => by simp [flatU] at hu⟩⟩, by ((repeat (first | (with_reducible assumption) | ((with_reducible refine c_set_same ?_); ((repeat (first | (with_reducible exact h_of (by assumption)) | (with_reducible assumption) | (with_reducible refine h_set ?_) | ((with_reducible refine h_alloc ?_ ?_); · (first | omega | (simp; done) | (simp; omega))) | ((with_reducible refine h_new ?_ ?_) <;> (first | omega | (simp; done) | (simp; omega))) | (with_reducible refine h_drew ?_) | (with_reducible refine h_drewN ?_) | ((with_reducible refine h_keep (by assumption) ?_ ?_); · (first | omega | (simp; done) | (simp; omega))))); done)) | ((with_reducible refine c_set_other ?_ ?_); · (first | omega | (simp; done) | (simp; omega))) | ((with_reducible refine c_alloc ?_ ?_); · (first | omega | (simp; done) | (simp; omega))) | ((with_reducible refine c_new ?_ ?_) <;> (first | omega | (simp; done) | (simp; omega))) | (with_reducible refine c_drew ?_) | (with_reducible refine c_drewN ?_) | ((with_reducible refine c_keep (by assumption) ?_ ?_); · (first | omega | (simp; done) | (simp; omega))))); done), by intro j; have fj := f j; ((repeat (first | (with_reducible assumption) | (with_reducible refine f_set ?_) | ((with_reducible refine f_alloc ?_ ?_); · (first | omega | (simp; done) | (simp; omega))) | ((with_reducible refine f_new ?_); (first | omega | (simp; done) | (simp; omega)); done) | (with_reducible refine f_drew ?_) | (with_reducible refine f_drewN ?_) | ((with_reducible refine f_keep (by assumption) ?_ ?_); · (first | omega | (simp; done) | (simp; omega))))); done), by simp; omega⟩, Tch.set (Tch.set (Tch.refl _ _) _ _) _ _⟩
theorem rfRaw0T (b : Nat) (bad : Bool) (w : World) (hr : Rd w b [] bad) :
    Calls Tryz.prog 92 #[.pointer (some ⟨b, 0, none⟩), .int .i64 1] w fun e w' => e = .returned (.slice none 0 0) ∧ Rd w' b [] true ∧ Tch b w w' := by
  obtain ⟨A, c, h0, _, _, _⟩ := hr.row
  simp only [List.length_nil] at h0
  have HR := Lib.hid hr
  clear hr
  go_enter Tryz.func92, Tryz.ntmps92
  go_wp2_with fail
  refine (rfBadT b [] bad _ HR.out).mono ?_
  rintro e w1 ⟨rfl, hw1, hb1⟩
  have h1 := hw1.flag
  go_wp2_with fail
  go_ret
  exact ⟨rfl, hw1, hb1⟩
set_option maxHeartbeats 1000000 in
set_option maxRecDepth 10000 in
theorem rfRaw1T (b x : Nat) (r : List Nat) (w : World) (hl : r.length ≤ 1000000) (hr : Rd w b (x :: r) false) :
    Calls Tryz.prog 92 #[.pointer (some ⟨b, 0, none⟩), .int .i64 1] w fun e w' => ∃ v', e = .returned v' ∧ w'.ownsRow w.heap.size 5 1 v' 1 (flatU [x]) ∧ Rd w' b r false ∧ Tch b w w' := by
  obtain ⟨i0, hi, hz0, hz1, hz2⟩ := info_parts Tryz.infoByte
  obtain ⟨A, c, h0, hc, hm, hx⟩ := hr.row
  have h1 := hr.flag
  have f := hr.free
  have f0 := f 0
  have f1 := f 1
  have hlow := hr.low
  obtain ⟨b1, o1, rfl, hb1, hx0⟩ := hx.2.2 0 (.int .u8 x) rfl
  simp only [List.length_cons] at h0 hc
  have HXx : Hid (Cells (w.alloc (.cells #[] 5)) w.heap.size (some ⟨b1, o1, none⟩) 1 c 1 (flatU [x])) := by
    refine Lib.hid ⟨rfl, (fun e => by cases e), fun j u hu => ⟨b1, o1, rfl, by omega, ?_⟩⟩
    match j, hu with
    | 0, hu => exact c_alloc (by omega) (hx0.trans hu)
  have HX := Lib.hid hx
  clear hx hx0 hr
  have hd : decide ((r.length : Int) + 1 < 1) = false := by simp; omega
  have k1 : (1 : Int) ≤ (c : Int) := by omega
  have k2 : (1 : Int) ≤ (r.length : Int) + 1 := by omega
  by_cases hc1 : c = 1
  · subst hc1
    obtain rfl : r = [] := List.eq_nil_of_length_eq_zero (by omega)
    simp only [List.length_nil] at *
    go_enter Tryz.func92, Tryz.ntmps92
    go_wp2_with (at_builtin; go_must (refine wpList_append_row rfl (.tmp 23) (.tmp 29) 33 rfl w.heap.size 5 i0 (.int .u8 0) 1 1 Tryz.underlying33 hi hz0 hz1 hz2 rfl (by decide) _ 0 [] rfl (World.ownsRow_lit w #[] 0 (Nat.le_refl _) (by decide) rfl) w.heap.size (some ⟨b1, o1, none⟩) 1 1 (flatU [x]) rfl HXx.out (flatU_one _) (by unfold maxLen; omega) (by omega) (by (first | omega | (simp; done) | (simp; omega))) ?_); intro v5 w5 hown5 hb5; have c5 := bkeep hb5 (c_alloc hlow h0) hlow; have g5 := bfree hb5 (f_alloc hlow f0) hlow; have c6 := bkeep hb5 (c_alloc hlow h1) hlow; have hs5 := hb5.size; (try simp at hs5))
    have hB5 : Below w.heap.size w w5 := ((Below.refl w.heap.size w).alloc (Nat.le_refl _) _).trans hb5
    have h6 : w5.ownsRow w.heap.size 5 1 v5 1 (flatU [x]) := by simpa using hown5
    go_ret
    refine ⟨_, rfl, row_set h6 hlow _, ⟨⟨some ⟨b1, o1, none⟩, 0, c_set_same (h_of c5), by (first | omega | (simp; done) | (simp; omega)), by unfold maxLen at *; omega, ?_⟩, c_set_other (Or.inr (by decide)) c6, fun j => f_set (bfree hb5 (f_alloc hlow (f j)) hlow), by simp; omega⟩, (Tch.of_fresh b hB5).set _ _⟩
    exact ⟨rfl, (fun e => by cases e), fun j u hu => by simp [flatU] at hu⟩
  · have k3 : ¬ c = 1 := hc1
    go_enter Tryz.func92, Tryz.ntmps92
    go_wp2_with (at_builtin; go_must (refine wpList_append_row rfl (.tmp 23) (.tmp 29) 33 rfl w.heap.size 5 i0 (.int .u8 0) 1 1 Tryz.underlying33 hi hz0 hz1 hz2 rfl (by decide) _ 0 [] rfl (World.ownsRow_lit w #[] 0 (Nat.le_refl _) (by decide) rfl) w.heap.size (some ⟨b1, o1, none⟩) 1 c (flatU [x]) rfl HXx.out (flatU_one _) (by unfold maxLen; omega) (by omega) (by (first | omega | (simp; done) | (simp; omega))) ?_); intro v5 w5 hown5 hb5; have c5 := bkeep hb5 (c_alloc hlow h0) hlow; have g5 := bfree hb5 (f_alloc hlow f0) hlow; have c6 := bkeep hb5 (c_alloc hlow h1) hlow; have hs5 := hb5.size; (try simp at hs5))
    have hB5 : Below w.heap.size w w5 := ((Below.refl w.heap.size w).alloc (Nat.le_refl _) _).trans hb5
    have h6 : w5.ownsRow w.heap.size 5 1 v5 1 (flatU [x]) := by simpa using hown5
    go_ret
    refine ⟨_, rfl, row_set h6 hlow _, ⟨⟨some ⟨b1, o1 + 1, none⟩, c - 1, c_set_same (h_of c5), by (first | omega | (simp; done) | (simp; omega)), by unfold maxLen at *; omega, ?_⟩, c_set_other (Or.inr (by decide)) c6, fun j => f_set (bfree hb5 (f_alloc hlow (f j)) hlow), by simp; omega⟩, (Tch.of_fresh b hB5).set _ _⟩
    refine ⟨by simp [flatU], (fun e => by cases e), fun j u hu => ?_⟩
    obtain ⟨b2, o2, e, hlt2, hcell⟩ := HX.out.2.2 (j + 1) u hu
    injection e with e; injection e with e1 e2 e3; subst e1 e2
    refine ⟨b1, o1 + 1, rfl, hlt2, c_set_other (Or.inl (by omega)) ?_⟩
    rw [show o1 + 1 + j = o1 + (j + 1) from by omega]
    exact bkeep hb5 (c_alloc (by omega) hcell) (by omega)
set_option maxHeartbeats 2000000 in
set_option maxRecDepth 10000 in
theorem rfNumT (b : Nat) (rest : List Nat) (w : World) (hl : rest.length ≤ 1000000) (h256 : ∀ x ∈ rest, x < 256) (hr : Rd w b rest false) :
    Calls Tryz.prog 52 #[.pointer (some ⟨b, 0, none⟩)] w fun e w' => NumPost w' b e (rd 0 0 rest) ∧ Tch b w w' := by
  have HR := Lib.hid hr
  clear hr
  go_enter Tryz.func52, Tryz.ntmps52
  go_wp2_with fail
  go_loopw [3, 4] (fun u i wr => ∃ (k acc : Nat) (r : List Nat), k ≤ 9 ∧ i = .int .i64 k ∧ u = .int .u64 acc ∧ Hid (acc < 128 ^ k) ∧ Hid (rd 0 0 rest = rd k acc r) ∧ r.length ≤ rest.length ∧ Hid (∀ x ∈ r, x < 256) ∧ Hid (Rd wr b r false) ∧ Tch b w wr) (fun _ i _ => 10 - (intOf i).toNat)
  case atStart => exact ⟨0, 0, rest, by omega, rfl, rfl, Lib.hid (by simp), Lib.hid rfl, Nat.le_refl _, Lib.hid h256, HR, Tch.refl _ _⟩
  case round =>
    obtain ⟨k, acc, r, hk, rfl, rfl, HA, HD, hrl, hx, HW, hB⟩ := hrel
    cases r with
    | nil =>
      go_wp2_with fail
      refine (rfRaw0T b false _ HW.out).mono ?_
      rintro e w1 ⟨rfl, hw1, hb1⟩
      have h1 := hw1.flag
      go_wp2_with fail
      go_ret
      exact ⟨numBad (by rw [HD.out, rd]) rfl hw1, hB.trans hb1⟩
    | cons x r =>
      have hx256 : x < 256 := hx.out x (by simp)
      go_wp2_with fail
      refine (rfRaw1T b x r _ (by simp at hrl; omega) HW.out).mono ?_
      rintro e w1 ⟨v1, rfl, hown1, hw1, hb1⟩
      have h1 := hw1.flag
      obtain ⟨g, cap, rfl, _, hg, hc1, hc2⟩ := own_form hown1 (by omega)
      have hg0 := hown1.cellAt 0 (by omega)
      simp only [flatU, List.map_cons, List.getElem?_cons_zero] at hg0
      have ha := u8_and127 (x := (x : Int)) (by omega) (by omega)
      have k1 : (1 : Int) ≤ (cap : Int) := by omega
      have k2 : (k : Int) ≤ 9 := by omega
      have HW1 := Lib.hid hw1
      clear hown1 hw1
      by_cases hk9 : k = 9
      · have k3 : ((k : Int) == 9) = true := by subst hk9; rfl
        have hrd : rd 0 0 rest = none := by rw [HD.out, rd, if_pos (by omega)]
        have HRD := Lib.hid hrd
        clear hrd
        by_cases h128 : 128 ≤ x
        · have d1 : (127 : Int) < (x : Int) := by omega
          go_wp2_with fail
          refine (rfBadT b _ _ _ HW1.out).mono ?_
          rintro e w2 ⟨rfl, hw2, hb2⟩
          go_wp2_with fail
          go_ret
          exact ⟨numBad HRD.out rfl hw2, (hB.trans hb1).trans hb2⟩
        · have d1 : ¬ (127 : Int) < (x : Int) := by omega
          by_cases hx1 : 1 < x
          · have d2 : (1 : Int) < (x : Int) := by omega
            go_wp2_with fail
            refine (rfBadT b _ _ _ HW1.out).mono ?_
            rintro e w2 ⟨rfl, hw2, hb2⟩
            go_wp2_with fail
            go_ret
            exact ⟨numBad HRD.out rfl hw2, (hB.trans hb1).trans hb2⟩
          · have d2 : ¬ (1 : Int) < (x : Int) := by omega
            have hsm : x % 128 * 128 ^ k < 18446744073709551616 := by
              have := pow128_le hk
              have h2 : x % 128 ≤ 1 := by omega
              have := Nat.mul_le_mul h2 (pow128_le hk)
              omega
            obtain ⟨M, hM⟩ : ∃ M, M = acc + x % 128 * 128 ^ k := ⟨_, rfl⟩
            have hor := orU hk HA.out hsm
            rw [← hM] at hor
            have HM := Lib.hid hM
            have k4 : (0 : Int) < (k : Int) := by omega
            clear hM hsm
            by_cases hx0 : x = 0
            · have d3 : ((x : Int) == 0) = true := by subst hx0; rfl
              clear hk9
              go_wp2_with fail
              refine (rfBadT b _ _ _ HW1.out).mono ?_
              rintro e w2 ⟨rfl, hw2, hb2⟩
              go_wp2_with fail
              go_ret
              exact ⟨numBad HRD.out rfl hw2, (hB.trans hb1).trans hb2⟩
            · have d3 : ((x : Int) == 0) = false := by rw [beq_eq_false_iff_ne]; omega
              have d4 : (4611686018427387904 : Int) < (M : Int) := by
                have h1 : x = 1 := by omega
                have := HM.out
                subst hk9 h1
                have : 128 ^ 9 = 9223372036854775808 := by decide
                omega
              clear hk9
              go_wp2_with fail
              refine (rfBadT b _ _ _ HW1.out).mono ?_
              rintro e w2 ⟨rfl, hw2, hb2⟩
              go_wp2_with fail
              go_ret
              exact ⟨numBad HRD.out rfl hw2, (hB.trans hb1).trans hb2⟩
      · have k3 : ((k : Int) == 9) = false := by rw [beq_eq_false_iff_ne]; omega
        have hk8 : k ≤ 8 := by omega
        have hsm := small_shift (x := x) hk8
        obtain ⟨M, hM⟩ : ∃ M, M = acc + x % 128 * 128 ^ k := ⟨_, rfl⟩
        have hor := orU hk HA.out (by omega : x % 128 * 128 ^ k < 18446744073709551616)
        rw [← hM] at hor
        have HM := Lib.hid hM
        have hM63 : M < 18446744073709551616 := by have := pow128_le hk; have := HA.out; omega
        clear hM hsm
        by_cases h128 : 128 ≤ x
        · have d1 : (127 : Int) < (x : Int) := by omega
          go_wp2_with fail
          have hrd : rd 0 0 rest = rd (k + 1) M r := by rw [HD.out, rd, if_neg (by omega), if_pos h128, HM.out]
          have hlt : M < 128 ^ (k + 1) := by
            have h1 := HM.out
            have h2 := HA.out
            have h3 : x % 128 ≤ 127 := by omega
            have h4 := Nat.mul_le_mul_right (128 ^ k) h3
            rw [Nat.pow_succ]; omega
          first
            | (go_roundw
               case rel => exact ⟨k + 1, M, r, by omega, by go_num, rfl, Lib.hid hlt, Lib.hid hrd, by simp at hrl; omega, Lib.hid (fun y hy => hx.out y (by simp [hy])), HW1, hB.trans hb1⟩
               case measure => simp [intOf]; omega)
            | (refine ⟨⟨k + 1, M, r, by omega, by go_num, rfl, Lib.hid hlt, Lib.hid hrd, by simp at hrl; omega, Lib.hid (fun y hy => hx.out y (by simp [hy])), HW1, hB.trans hb1⟩, ?_⟩
               simp [intOf]; omega)
        · have d1 : ¬ (127 : Int) < (x : Int) := by omega
          have hxm : x % 128 = x := by omega
          have hrd : rd 0 0 rest = if (0 < k ∧ x = 0) ∨ 4611686018427387904 < M then none else some (M, r) := by
            rw [HD.out, rd, if_neg (by omega), if_neg h128, HM.out, hxm]
          have HRD := Lib.hid hrd
          clear hrd hxm
          by_cases hz : 0 < k ∧ x = 0
          · obtain ⟨z1, z2⟩ := hz
            have k4 : (0 : Int) < (k : Int) := by omega
            have d3 : ((x : Int) == 0) = true := by subst z2; rfl
            have HB : Hid (rd 0 0 rest = none) := Lib.hid (by rw [HRD.out, if_pos (Or.inl ⟨z1, z2⟩)])
            clear z2 hk9
            go_wp2_with fail
            refine (rfBadT b _ _ _ HW1.out).mono ?_
            rintro e w2 ⟨rfl, hw2, hb2⟩
            go_wp2_with fail
            go_ret
            exact ⟨numBad HB.out rfl hw2, (hB.trans hb1).trans hb2⟩
          · by_cases hbig : 4611686018427387904 < M
            · have d4 : (4611686018427387904 : Int) < (M : Int) := by omega
              have HB : Hid (rd 0 0 rest = none) := Lib.hid (by rw [HRD.out, if_pos (Or.inr hbig)])
              by_cases hk0 : k = 0
              · have k4 : ¬ (0 : Int) < (k : Int) := by omega
                clear hk0 hz hk9
                go_wp2_with fail
                refine (rfBadT b _ _ _ HW1.out).mono ?_
                rintro e w2 ⟨rfl, hw2, hb2⟩
                go_wp2_with fail
                go_ret
                exact ⟨numBad HB.out rfl hw2, (hB.trans hb1).trans hb2⟩
              · have k4 : (0 : Int) < (k : Int) := by omega
                have d3 : ((x : Int) == 0) = false := by rw [beq_eq_false_iff_ne]; omega
                clear hk0 hz hk9
                go_wp2_with fail
                refine (rfBadT b _ _ _ HW1.out).mono ?_
                rintro e w2 ⟨rfl, hw2, hb2⟩
                go_wp2_with fail
                go_ret
                exact ⟨numBad HB.out rfl hw2, (hB.trans hb1).trans hb2⟩
            · have d4 : ¬ (4611686018427387904 : Int) < (M : Int) := by omega
              have HB : Hid (rd 0 0 rest = some (M, r)) := Lib.hid (by rw [HRD.out, if_neg (by omega)])
              have HM62 : (M : Int) ≤ 4611686018427387904 := by omega
              by_cases hk0 : k = 0
              · have k4 : ¬ (0 : Int) < (k : Int) := by omega
                clear hk0 hz hk9 hbig
                go_wp2_with fail
                go_ret
                exact ⟨numGood HB.out rfl HW1.out, hB.trans hb1⟩
              · have k4 : (0 : Int) < (k : Int) := by omega
                have d3 : ((x : Int) == 0) = false := by rw [beq_eq_false_iff_ne]; omega
                clear hk0 hz hk9 hbig
                go_wp2_with fail
                go_ret
                exact ⟨numGood HB.out rfl HW1.out, hB.trans hb1⟩
set_option maxHeartbeats 1000000 in
set_option maxRecDepth 10000 in
theorem rfNumErrT (b : Nat) (w : World) (hr : Rd w b [] true) :
    Calls Tryz.prog 52 #[.pointer (some ⟨b, 0, none⟩)] w fun e w' => e = .returned (.int .i64 0) ∧ Rd w' b [] true ∧ Tch b w w' := by
  have HR := Lib.hid hr
  clear hr
  go_enter Tryz.func52, Tryz.ntmps52
  go_wp2_with fail
  go_loopw [3, 4] (fun u i wr => i = .int .i64 0 ∧ wr = w) (fun _ i _ => 0)
  case atStart => exact ⟨rfl, rfl⟩
  case round =>
    obtain ⟨rfl, rfl⟩ := hrel
    go_wp2_with fail
    refine (rfRaw0T b true _ HR.out).mono ?_
    rintro e w1 ⟨rfl, hw1, hb1⟩
    have h1 := hw1.flag
    go_wp2_with fail
    go_ret
    exact ⟨rfl, hw1, hb1⟩
theorem rfNxT (b : Nat) (st : Option (List Nat)) (w : World) (hr : RS w b st) :
    Calls Tryz.prog 52 #[.pointer (some ⟨b, 0, none⟩)] w fun e w' => e = .returned (.int .i64 (nx st).1) ∧ RS w' b (nx st).2 ∧ Tch b w w' := by
  cases st with
  | none => exact (rfNumErrT b w hr.rd).mono fun e w' ⟨he, h1, h2⟩ => ⟨he, RS.bad h1, h2⟩
  | some r => exact (rfNumT b r w (Nat.le_trans hr.len (by decide)) hr.byt hr.rd).mono fun e w' ⟨hp, hb⟩ => ⟨(numPost_of hr.len hr.byt hp).1, (numPost_of hr.len hr.byt hp).2, hb⟩
theorem rfBadST (b : Nat) (st : Option (List Nat)) (w : World) (hr : RS w b st) :
    Calls Tryz.prog 54 #[.pointer (some ⟨b, 0, none⟩)] w fun e w' => e = .returned (.tuple #[]) ∧ RS w' b none ∧ Tch b w w' :=
  (rfBadT b _ _ w hr.rd).mono fun e w' ⟨he, h1, h2⟩ => ⟨he, RS.bad h1, h2⟩
end Go.Proofs.YtdlbiobjnohfbaaGreat
