/- vault: Take, Put. -/
import Derived.Test.YtdlbiobjnohfbaaGreatVb14
namespace Go.Proofs.YtdlbiobjnohfbaaGreat
open Go.RowKit Go.ChangeMaps Go.MapKept
set_option linter.unusedVariables false
set_option linter.unusedSimpArgs false
theorem k0Vb15 {p : Prop} (h : p := by exact ⟨hh, bkeep hh x0 hs3, bkeep hh x1 hs3, bkeep hh x2 hs3, bkeep hh x3 hs3⟩) : p := h
def mayB (s : ByteArray) (i : It4) : Bool := decide (1 ≤ s.size) && (decide (s.size ≤ 16) && isI i)
theorem mayB_key {s : ByteArray} {i : It4} (h : mayB s i = true) : KeyOk s.data.toList ∧ isI i = true := by
 unfold mayB at h
 simp only [Bool.and_eq_true, decide_eq_true_eq] at h
 have e : s.data.toList.length = s.size := Array.length_toList
 exact ⟨⟨by omega, by omega⟩, h.2.2⟩
def subI (a b : It4) : It4 := (a.1 - b.1, a.2.1 - b.2.1, a.2.2.1 - b.2.2.1, a.2.2.2 - b.2.2.2)
def addI (a b : It4) : It4 := (a.1 + b.1, a.2.1 + b.2.1, a.2.2.1 + b.2.2.1, a.2.2.2 + b.2.2.2)
def lessI (a b : It4) : Bool := lessP a.1 a.2.1 a.2.2.1 a.2.2.2 b.1 b.2.1 b.2.2.1 b.2.2.2
theorem subI_is {a b : It4} (ha : isI a = true) (hb : isI b = true) (h : lessI a b = false) : isI (subI a b) = true := by
 unfold isI at ha hb ⊢
 unfold lessI at h
 rw [isP_iff] at ha hb ⊢
 rw [lessP_iff] at h
 unfold subI
 simp only
 omega
def subA (a b : It4) : It4 × Bool := if lessI a b then (z4, false) else (subI a b, true)
theorem vSub (a b : It4) (ha : isI a = true) (hb : isI b = true) (w : World) : Calls Tryz.prog 64 #[itV a, itV b] w fun z w' => z = .returned (.tuple #[itV (subA a b).1, .bool (subA a b).2]) ∧ Below w.heap.size w w' := by
 unfold subA
 cases h : lessI a b with
 | true => exact purseSub_2 _ _ _ _ _ _ _ _ w ha hb h
 | false => exact purseSub_3 _ _ _ _ _ _ _ _ w ha hb h
theorem subA_no {a b : It4} {r : It4} (h : (r, false) = subA a b) : lessI a b = true := by
 unfold subA at h
 cases hl : lessI a b with
 | true => rfl
 | false => rw [hl] at h; simp at h
theorem subA_yes {a b : It4} {r : It4} (h : (r, true) = subA a b) : lessI a b = false ∧ r = subI a b := by
 unfold subA at h
 cases hl : lessI a b with
 | true => rw [hl] at h; simp at h
 | false => rw [hl] at h; simp at h; exact ⟨rfl, h⟩
def TakeQ (b : Nat) (p : Value) (v : Nat → Value) (S : Nat → List Od) (l : Pm) (last gone : Int) (s : ByteArray) (i : It4) (w : World) (e : Ending) (w' : World) : Prop :=
 (mayB s i = false ∧ e = .returned (.int .i64 1) ∧ Below w.heap.size w w') ∨
 (mayB s i = true ∧ lessI (hasP l s.data.toList) i = true ∧ e = .returned (.int .i64 14) ∧ Below w.heap.size w w') ∨
 (mayB s i = true ∧ lessI (hasP l s.data.toList) i = false ∧ e = .returned (.int .i64 0) ∧ SetQ b p v S (setP l s.data.toList (subI (hasP l s.data.toList) i)) last gone w w')
theorem SetQ.ahead {b : Nat} {p : Value} {v : Nat → Value} {S : Nat → List Od} {l : Pm} {last gone : Int} {w w1 w' : World} (hb : Below w.heap.size w w1) (hl : ∀ x, Fv b p v x → x < w.heap.size) (h : SetQ b p v S l last gone w1 w') : SetQ b p v S l last gone w w' := by
 obtain ⟨p', h1, h2, h3⟩ := h
 refine ⟨p', h1, ((Touch.of_below hb).mono'' (fun k hk hd => by omega)).trans h2 (fun _ _ h => h), fun x hx => ?_⟩
 rcases h3 x hx with h | h
 · exact .inl h
 · exact .inr (Nat.le_trans hb.size h)
set_option maxHeartbeats 4000000 in
set_option maxRecDepth 10000 in
theorem vtTake (b : Nat) (p : Value) (v : Nat → Value) (S : Nat → List Od) (l : Pm) (last gone : Int) (s : ByteArray) (i : It4) (w : World) (h : VtH w b p v S l last gone) :
  Calls Tryz.prog 19 #[.pointer (some ⟨b, 0, none⟩), .string s, itV i] w fun e w' => TakeQ b p v S l last gone s i w e w' := by
 cases hmay : mayB s i with
 | false =>
  have hm' : (decide (1 ≤ s.size) && (decide (s.size ≤ 16) && isP i.1 i.2.1 i.2.2.1 i.2.2.2)) = false := hmay
  have HM := Lib.hid hmay
  have HM' := Lib.hid hm'
  clear hmay hm' h
  unfold itV
  go_enter Tryz.func19, Tryz.ntmps19
  go_wp2_with (first
   | (go_at_call 57; refine (vtMay b s i _).mono ?_; rintro e w3 ⟨he, hb3⟩; rw [HM'.out] at he; subst he)
   | fail)
  refine bodyPost_ret (v := .int .i64 1) (by simp [results, Tryz.results19, go_sem]) rfl (.inl ⟨HM.out, rfl, by exact tB⟩)
 | true =>
  obtain ⟨hk, hii⟩ := mayB_key hmay
  have hm' : (decide (1 ≤ s.size) && (decide (s.size ≤ 16) && isP i.1 i.2.1 i.2.2.1 i.2.2.2)) = true := hmay
  have HH := Lib.hid h
  have hbl := h.bk.whl.low
  have HL := Lib.hid h.lows
  obtain ⟨r, hr⟩ : ∃ r, r = subA (hasP l s.data.toList) i := ⟨_, rfl⟩
  have HSUB : Hid (∀ w, Calls Tryz.prog 64 #[itV (hasP l s.data.toList), itV i] w fun z w' => z = .returned (.tuple #[itV r.1, .bool r.2]) ∧ Below w.heap.size w w') := Lib.hid (fun w => by rw [hr]; exact vSub _ _ (h.ok.has _) hii w)
  have HM := Lib.hid hmay
  have HM' := Lib.hid hm'
  have HR := Lib.hid hr
  have HK := Lib.hid (And.intro hk hii)
  clear hmay hm' h hr hk hii
  obtain ⟨i0, i1, i2, i3⟩ := i
  obtain ⟨⟨r0, r1, r2, r3⟩, f⟩ := r
  unfold itV
  unfold itV at HSUB
  simp only at HSUB ⊢
  have P0 : Whl (w.alloc (.cells #[.int .i64 i0, .int .i64 i1, .int .i64 i2, .int .i64 i3] 36)) w.heap.size 36 #[.int .i64 i0, .int .i64 i1, .int .i64 i2, .int .i64 i3] := Whl.new rfl
  have B0 : Below w.heap.size w (w.alloc (.cells #[.int .i64 i0, .int .i64 i1, .int .i64 i2, .int .i64 i3] 36)) := (Below.refl _ _).alloc (Nat.le_refl _) _
  have HP0 := Lib.hid P0
  have HB0 := Lib.hid B0
  clear P0 B0
  go_enter Tryz.func19, Tryz.ntmps19
  go_wp2_with (first
   | (go_at_call 57; go_loud (refine (vtMay b s (i0, i1, i2, i3) _).mono ?_; rintro e w3 ⟨he, hb3⟩; rw [HM'.out] at he; subst he))
   | fail)
  have P3 := HP0.out.below hb3 HP0.out.low
  have HB3 := Lib.hid (HB0.out.trans (hb3.mono HB0.out.size))
  have HH3 := Lib.hid (HH.out.below HB3.out)
  have hs3 : w.heap.size < w3.heap.size := P3.low
  have x0 := P3.cell 0
  have x1 := P3.cell 1
  have x2 := P3.cell 2
  have x3 := P3.cell 3
  simp only [List.getElem?_toArray, List.getElem?_cons_succ, List.getElem?_cons_zero] at x0 x1 x2 x3
  clear P3 hb3
  refine wp_region_held_drew (S := (fun W => Below w3.heap.size w3 W ∧ W.cell? ⟨w.heap.size, 0, none⟩ = some (.int .i64 i0) ∧ W.cell? ⟨w.heap.size, 1, none⟩ = some (.int .i64 i1) ∧ W.cell? ⟨w.heap.size, 2, none⟩ = some (.int .i64 i2) ∧ W.cell? ⟨w.heap.size, 3, none⟩ = some (.int .i64 i3))) (by kernel_rfl) ⟨(Below.refl _ _).drew, x0, x1, x2, x3⟩ (fun hHeld => ?_)
  refine tkY 0 (some 15) ?v0t_1 rfl ?y0t_1 ?r0t_1
  case y0t_1 => exact tY
  case r0t_1 =>
  try simp only [q1,q2,q3,q4,q5]
  refine tkY 1 (some 16) ?v1t_4 rfl ?y1t_4 ?r1t_4
  case y1t_4 => exact tY
  case r1t_4 =>
  try simp only [q1,q2,q3,q4,q5]
  refine tkY 3 (some 18) ?v3t_7 rfl ?y3t_7 ?r3t_7
  case y3t_7 => exact tY
  case r3t_7 =>
  try simp only [q1,q2,q3,q4,q5]
  refine wpAnyH_ready (rs := [2, 8]) (by kernel_rfl) (by simp) ?_
  refine AllReadyH.cons (o := ⟨some 17, _, _, _, _, _⟩) rfl (fun K hK => ?_) (AllReadyH.cons (o := ⟨some 7, _, _, _, _, _⟩) rfl (fun K hK => ?_) AllReadyH.nil)
  ·
   go_simp
   refine (vtHas b p l s _ (HH3.out.below hHeld.1).bk.whl.low (HH3.out.below hHeld.1).cell (HH3.out.below hHeld.1).pu).mono ?_; rintro e w4 ⟨rfl, hb4⟩
   unfold itV
   go_wp2_with fail
   have hh := hHeld.1.trans (hb4.mono hHeld.1.size)
   refine hK.out _ _ k0Vb15 (fun hHeld => ?_)
   clear hK K
   try simp only [q1,q2,q3,q4,q5]
   refine wpAnyH_ready (rs := [4, 8]) (by kernel_rfl) (by simp) ?_
   refine AllReadyH.cons (o := ⟨some 19, _, _, _, _, _⟩) rfl (fun K hK => ?_) (AllReadyH.cons (o := ⟨some 7, _, _, _, _, _⟩) rfl (fun K hK => ?_) AllReadyH.nil)
   ·
    go_simp
    refine (HSUB.out _).mono ?_; rintro e w5 ⟨rfl, hb5⟩
    go_wp2_with fail
    have hh := hHeld.1.trans (hb5.mono hHeld.1.size)
    refine hK.out _ _ k0Vb15 (fun hHeld => ?_)
    clear hK K
    try simp only [q1,q2,q3,q4,q5]
    refine tkY 5 (some 14) ?v5t_29 rfl ?y5t_29 ?r5t_29
    case y5t_29 => exact tY
    case r5t_29 =>
    try simp only [q1,q2,q3,q4,q5]
    refine tkY 6 (some 20) ?v6t_32 rfl ?y6t_32 ?r6t_32
    case y6t_32 => exact tY
    case r6t_32 =>
    try simp only [q1,q2,q3,q4,q5]
    refine tkY 7 (some 21) ?v7t_35 rfl ?y7t_35 ?r7t_35
    case y7t_35 => exact tY
    case r7t_35 =>
    try simp only [q1,q2,q3,q4,q5]
    refine wpAnyH_ready (rs := [8]) (by kernel_rfl) (by simp) ?_
    refine AllReadyH.cons (o := ⟨some 7, _, _, _, _, _⟩) rfl (fun K hK => ?_) AllReadyH.nil
    go_simp
    have hh : Below w3.heap.size w3 (w5.alloc (.cells #[.int .i64 0, .int .i64 0, .int .i64 0, .int .i64 0] 36)) := hHeld.1.alloc hHeld.1.size (.cells #[.int .i64 0, .int .i64 0, .int .i64 0, .int .i64 0] 36)
    have P7 : Whl (w5.alloc (.cells #[.int .i64 0, .int .i64 0, .int .i64 0, .int .i64 0] 36)) w5.heap.size 36 #[.int .i64 0, .int .i64 0, .int .i64 0, .int .i64 0] := Whl.new rfl
    have hal : w3.heap.size ≤ w5.heap.size := hHeld.1.size
    generalize w5.alloc (.cells #[.int .i64 0, .int .i64 0, .int .i64 0, .int .i64 0] 36) = w7 at hh P7 ⊢
    refine hK.out _ _ k0Vb15 (fun hHeld => ?_)
    clear hK K
    try simp only [q1,q2,q3,q4,q5]
    refine wpAnyH_ready (rs := [9]) (by kernel_rfl) (by simp) ?_
    refine AllReadyH.cons (o := ⟨none, _, _, _, _, _⟩) rfl (fun K hK => ?_) AllReadyH.nil
    have f0 := P7.free 0
    have f1 := P7.free 1
    have f2 := P7.free 2
    have f3 := P7.free 3
    have c0 := P7.cell 0
    have c1 := P7.cell 1
    have c2 := P7.cell 2
    have c3 := P7.cell 3
    simp only [List.getElem?_toArray, List.getElem?_cons_succ, List.getElem?_cons_zero] at c0 c1 c2 c3
    go_simp
    have hh : Below w3.heap.size w3 ((((w7.setCell ⟨w5.heap.size, 0, none⟩ (.int .i64 r0)).setCell ⟨w5.heap.size, 1, none⟩ (.int .i64 r1)).setCell ⟨w5.heap.size, 2, none⟩ (.int .i64 r2)).setCell ⟨w5.heap.size, 3, none⟩ (.int .i64 r3)) := (((hHeld.1.setCell hal _).setCell hal _).setCell hal _).setCell hal _
    have P9 : Whl ((((w7.setCell ⟨w5.heap.size, 0, none⟩ (.int .i64 r0)).setCell ⟨w5.heap.size, 1, none⟩ (.int .i64 r1)).setCell ⟨w5.heap.size, 2, none⟩ (.int .i64 r2)).setCell ⟨w5.heap.size, 3, none⟩ (.int .i64 r3)) w5.heap.size 36 #[.int .i64 r0, .int .i64 r1, .int .i64 r2, .int .i64 r3] := (((P7.set 0 _).set 1 _).set 2 _).set 3 _
    show K _ ((((w7.setCell ⟨w5.heap.size, 0, none⟩ (.int .i64 r0)).setCell ⟨w5.heap.size, 1, none⟩ (.int .i64 r1)).setCell ⟨w5.heap.size, 2, none⟩ (.int .i64 r2)).setCell ⟨w5.heap.size, 3, none⟩ (.int .i64 r3))
    generalize ((((w7.setCell ⟨w5.heap.size, 0, none⟩ (.int .i64 r0)).setCell ⟨w5.heap.size, 1, none⟩ (.int .i64 r1)).setCell ⟨w5.heap.size, 2, none⟩ (.int .i64 r2)).setCell ⟨w5.heap.size, 3, none⟩ (.int .i64 r3)) = V9 at hh P9 ⊢
    clear P7 f0 f1 f2 f3 c0 c1 c2 c3
    refine hK.out _ _ k0Vb15 (fun hHeld => ?_)
    clear hK K
    try simp only [q1,q2,q3,q4,q5]
    refine tkY 10 (some 8) ?v10t_68 rfl ?y10t_68 ?r10t_68
    case y10t_68 => exact tY
    case r10t_68 =>
    try simp only [q1,q2,q3,q4,q5]
    refine wpAnyH_done (by kernel_rfl) ?_ _
    have HHV := Lib.hid (HH3.out.below hHeld.1)
    have HB9 := Lib.hid (HB3.out.trans (hHeld.1.mono (by omega)))
    have d0 := P9.cell 0
    have d1 := P9.cell 1
    have d2 := P9.cell 2
    have d3 := P9.cell 3
    simp only [List.getElem?_toArray, List.getElem?_cons_succ, List.getElem?_cons_zero] at d0 d1 d2 d3
    cases f with
    | false =>
     go_wp2_with fail
     refine bodyPost_ret (v := .int .i64 14) (by simp [results, Tryz.results19, go_sem]) rfl (.inr (.inl ⟨HM.out, subA_no HR.out, rfl, HB9.out⟩))
    | true =>
     obtain ⟨hless, hr⟩ := subA_yes HR.out
     have HLE := Lib.hid hless
     have HRR := Lib.hid hr
     go_wp2_with (first
      | (go_at_call 59; go_loud (refine (vtSet b p v S l last gone s HK.out.1 (r0, r1, r2, r3) (by rw [HRR.out]; exact subI_is (HH3.out.ok.has _) HK.out.2 HLE.out) _ HHV.out).mono ?_; rintro e w10 ⟨rfl, hq⟩; rw [HRR.out] at hq; have HQ := Lib.hid (SetQ.ahead HB9.out HL.out hq); clear hq))
      | fail)
     refine bodyPost_ret (v := .int .i64 0) (by simp [results, Tryz.results19, go_sem]) rfl (.inr (.inr ⟨HM.out, HLE.out, rfl, HQ.out⟩))
   ·
    go_simp
    have hh : Below w3.heap.size w3 (w4.alloc (.cells #[.int .i64 0, .int .i64 0, .int .i64 0, .int .i64 0] 36)) := hHeld.1.alloc hHeld.1.size (.cells #[.int .i64 0, .int .i64 0, .int .i64 0, .int .i64 0] 36)
    have P7 : Whl (w4.alloc (.cells #[.int .i64 0, .int .i64 0, .int .i64 0, .int .i64 0] 36)) w4.heap.size 36 #[.int .i64 0, .int .i64 0, .int .i64 0, .int .i64 0] := Whl.new rfl
    have hal : w3.heap.size ≤ w4.heap.size := hHeld.1.size
    generalize w4.alloc (.cells #[.int .i64 0, .int .i64 0, .int .i64 0, .int .i64 0] 36) = w7 at hh P7 ⊢
    refine hK.out _ _ k0Vb15 (fun hHeld => ?_)
    clear hK K
    try simp only [q1,q2,q3,q4,q5]
    refine wpAnyH_ready (rs := [4]) (by kernel_rfl) (by simp) ?_
    refine AllReadyH.cons (o := ⟨some 19, _, _, _, _, _⟩) rfl (fun K hK => ?_) AllReadyH.nil
    go_simp
    refine (HSUB.out _).mono ?_; rintro e w5 ⟨rfl, hb5⟩
    go_wp2_with fail
    have hh := hHeld.1.trans (hb5.mono hHeld.1.size)
    have P7 := P7.below hb5 P7.low
    refine hK.out _ _ k0Vb15 (fun hHeld => ?_)
    clear hK K
    try simp only [q1,q2,q3,q4,q5]
    refine tkY 5 (some 14) ?v5t_109 rfl ?y5t_109 ?r5t_109
    case y5t_109 => exact tY
    case r5t_109 =>
    try simp only [q1,q2,q3,q4,q5]
    refine tkY 6 (some 20) ?v6t_112 rfl ?y6t_112 ?r6t_112
    case y6t_112 => exact tY
    case r6t_112 =>
    try simp only [q1,q2,q3,q4,q5]
    refine tkY 7 (some 21) ?v7t_115 rfl ?y7t_115 ?r7t_115
    case y7t_115 => exact tY
    case r7t_115 =>
    try simp only [q1,q2,q3,q4,q5]
    refine wpAnyH_ready (rs := [9]) (by kernel_rfl) (by simp) ?_
    refine AllReadyH.cons (o := ⟨none, _, _, _, _, _⟩) rfl (fun K hK => ?_) AllReadyH.nil
    have f0 := P7.free 0
    have f1 := P7.free 1
    have f2 := P7.free 2
    have f3 := P7.free 3
    have c0 := P7.cell 0
    have c1 := P7.cell 1
    have c2 := P7.cell 2
    have c3 := P7.cell 3
    simp only [List.getElem?_toArray, List.getElem?_cons_succ, List.getElem?_cons_zero] at c0 c1 c2 c3
    go_simp
    have hh : Below w3.heap.size w3 ((((w5.setCell ⟨w4.heap.size, 0, none⟩ (.int .i64 r0)).setCell ⟨w4.heap.size, 1, none⟩ (.int .i64 r1)).setCell ⟨w4.heap.size, 2, none⟩ (.int .i64 r2)).setCell ⟨w4.heap.size, 3, none⟩ (.int .i64 r3)) := (((hHeld.1.setCell hal _).setCell hal _).setCell hal _).setCell hal _
    have P9 : Whl ((((w5.setCell ⟨w4.heap.size, 0, none⟩ (.int .i64 r0)).setCell ⟨w4.heap.size, 1, none⟩ (.int .i64 r1)).setCell ⟨w4.heap.size, 2, none⟩ (.int .i64 r2)).setCell ⟨w4.heap.size, 3, none⟩ (.int .i64 r3)) w4.heap.size 36 #[.int .i64 r0, .int .i64 r1, .int .i64 r2, .int .i64 r3] := (((P7.set 0 _).set 1 _).set 2 _).set 3 _
    show K _ ((((w5.setCell ⟨w4.heap.size, 0, none⟩ (.int .i64 r0)).setCell ⟨w4.heap.size, 1, none⟩ (.int .i64 r1)).setCell ⟨w4.heap.size, 2, none⟩ (.int .i64 r2)).setCell ⟨w4.heap.size, 3, none⟩ (.int .i64 r3))
    generalize ((((w5.setCell ⟨w4.heap.size, 0, none⟩ (.int .i64 r0)).setCell ⟨w4.heap.size, 1, none⟩ (.int .i64 r1)).setCell ⟨w4.heap.size, 2, none⟩ (.int .i64 r2)).setCell ⟨w4.heap.size, 3, none⟩ (.int .i64 r3)) = V9 at hh P9 ⊢
    clear P7 f0 f1 f2 f3 c0 c1 c2 c3
    refine hK.out _ _ k0Vb15 (fun hHeld => ?_)
    clear hK K
    try simp only [q1,q2,q3,q4,q5]
    refine tkY 10 (some 8) ?v10t_138 rfl ?y10t_138 ?r10t_138
    case y10t_138 => exact tY
    case r10t_138 =>
    try simp only [q1,q2,q3,q4,q5]
    refine wpAnyH_done (by kernel_rfl) ?_ _
    have HHV := Lib.hid (HH3.out.below hHeld.1)
    have HB9 := Lib.hid (HB3.out.trans (hHeld.1.mono (by omega)))
    have d0 := P9.cell 0
    have d1 := P9.cell 1
    have d2 := P9.cell 2
    have d3 := P9.cell 3
    simp only [List.getElem?_toArray, List.getElem?_cons_succ, List.getElem?_cons_zero] at d0 d1 d2 d3
    cases f with
    | false =>
     go_wp2_with fail
     refine bodyPost_ret (v := .int .i64 14) (by simp [results, Tryz.results19, go_sem]) rfl (.inr (.inl ⟨HM.out, subA_no HR.out, rfl, HB9.out⟩))
    | true =>
     obtain ⟨hless, hr⟩ := subA_yes HR.out
     have HLE := Lib.hid hless
     have HRR := Lib.hid hr
     go_wp2_with (first
      | (go_at_call 59; go_loud (refine (vtSet b p v S l last gone s HK.out.1 (r0, r1, r2, r3) (by rw [HRR.out]; exact subI_is (HH3.out.ok.has _) HK.out.2 HLE.out) _ HHV.out).mono ?_; rintro e w10 ⟨rfl, hq⟩; rw [HRR.out] at hq; have HQ := Lib.hid (SetQ.ahead HB9.out HL.out hq); clear hq))
      | fail)
     refine bodyPost_ret (v := .int .i64 0) (by simp [results, Tryz.results19, go_sem]) rfl (.inr (.inr ⟨HM.out, HLE.out, rfl, HQ.out⟩))
  ·
   go_simp
   have hh : Below w3.heap.size w3 ((w3.alloc (.cells #[.int .i64 0, .int .i64 0, .int .i64 0, .int .i64 0] 36)).drew) := ((Below.refl w3.heap.size w3).alloc (Nat.le_refl _) (.cells #[.int .i64 0, .int .i64 0, .int .i64 0, .int .i64 0] 36)).drew
   have P7 : Whl ((w3.alloc (.cells #[.int .i64 0, .int .i64 0, .int .i64 0, .int .i64 0] 36)).drew) w3.heap.size 36 #[.int .i64 0, .int .i64 0, .int .i64 0, .int .i64 0] := Whl.new rfl
   have hal : w3.heap.size ≤ w3.heap.size := Nat.le_refl _
   generalize (w3.alloc (.cells #[.int .i64 0, .int .i64 0, .int .i64 0, .int .i64 0] 36)).drew = w7 at hh P7 ⊢
   refine hK.out _ _ k0Vb15 (fun hHeld => ?_)
   clear hK K
   try simp only [q1,q2,q3,q4,q5]
   refine wpAnyH_ready (rs := [2]) (by kernel_rfl) (by simp) ?_
   refine AllReadyH.cons (o := ⟨some 17, _, _, _, _, _⟩) rfl (fun K hK => ?_) AllReadyH.nil
   go_simp
   refine (vtHas b p l s _ (HH3.out.below hHeld.1).bk.whl.low (HH3.out.below hHeld.1).cell (HH3.out.below hHeld.1).pu).mono ?_; rintro e w4 ⟨rfl, hb4⟩
   unfold itV
   go_wp2_with fail
   have hh := hHeld.1.trans (hb4.mono hHeld.1.size)
   have P7 := P7.below hb4 P7.low
   refine hK.out _ _ k0Vb15 (fun hHeld => ?_)
   clear hK K
   try simp only [q1,q2,q3,q4,q5]
   refine wpAnyH_ready (rs := [4]) (by kernel_rfl) (by simp) ?_
   refine AllReadyH.cons (o := ⟨some 19, _, _, _, _, _⟩) rfl (fun K hK => ?_) AllReadyH.nil
   go_simp
   refine (HSUB.out _).mono ?_; rintro e w5 ⟨rfl, hb5⟩
   go_wp2_with fail
   have hh := hHeld.1.trans (hb5.mono hHeld.1.size)
   have P7 := P7.below hb5 P7.low
   refine hK.out _ _ k0Vb15 (fun hHeld => ?_)
   clear hK K
   try simp only [q1,q2,q3,q4,q5]
   refine tkY 5 (some 14) ?v5t_190 rfl ?y5t_190 ?r5t_190
   case y5t_190 => exact tY
   case r5t_190 =>
   try simp only [q1,q2,q3,q4,q5]
   refine tkY 6 (some 20) ?v6t_193 rfl ?y6t_193 ?r6t_193
   case y6t_193 => exact tY
   case r6t_193 =>
   try simp only [q1,q2,q3,q4,q5]
   refine tkY 7 (some 21) ?v7t_196 rfl ?y7t_196 ?r7t_196
   case y7t_196 => exact tY
   case r7t_196 =>
   try simp only [q1,q2,q3,q4,q5]
   refine wpAnyH_ready (rs := [9]) (by kernel_rfl) (by simp) ?_
   refine AllReadyH.cons (o := ⟨none, _, _, _, _, _⟩) rfl (fun K hK => ?_) AllReadyH.nil
   have f0 := P7.free 0
   have f1 := P7.free 1
   have f2 := P7.free 2
   have f3 := P7.free 3
   have c0 := P7.cell 0
   have c1 := P7.cell 1
   have c2 := P7.cell 2
   have c3 := P7.cell 3
   simp only [List.getElem?_toArray, List.getElem?_cons_succ, List.getElem?_cons_zero] at c0 c1 c2 c3
   go_simp
   have hh : Below w3.heap.size w3 ((((w5.setCell ⟨w3.heap.size, 0, none⟩ (.int .i64 r0)).setCell ⟨w3.heap.size, 1, none⟩ (.int .i64 r1)).setCell ⟨w3.heap.size, 2, none⟩ (.int .i64 r2)).setCell ⟨w3.heap.size, 3, none⟩ (.int .i64 r3)) := (((hHeld.1.setCell hal _).setCell hal _).setCell hal _).setCell hal _
   have P9 : Whl ((((w5.setCell ⟨w3.heap.size, 0, none⟩ (.int .i64 r0)).setCell ⟨w3.heap.size, 1, none⟩ (.int .i64 r1)).setCell ⟨w3.heap.size, 2, none⟩ (.int .i64 r2)).setCell ⟨w3.heap.size, 3, none⟩ (.int .i64 r3)) w3.heap.size 36 #[.int .i64 r0, .int .i64 r1, .int .i64 r2, .int .i64 r3] := (((P7.set 0 _).set 1 _).set 2 _).set 3 _
   show K _ ((((w5.setCell ⟨w3.heap.size, 0, none⟩ (.int .i64 r0)).setCell ⟨w3.heap.size, 1, none⟩ (.int .i64 r1)).setCell ⟨w3.heap.size, 2, none⟩ (.int .i64 r2)).setCell ⟨w3.heap.size, 3, none⟩ (.int .i64 r3))
   generalize ((((w5.setCell ⟨w3.heap.size, 0, none⟩ (.int .i64 r0)).setCell ⟨w3.heap.size, 1, none⟩ (.int .i64 r1)).setCell ⟨w3.heap.size, 2, none⟩ (.int .i64 r2)).setCell ⟨w3.heap.size, 3, none⟩ (.int .i64 r3)) = V9 at hh P9 ⊢
   clear P7 f0 f1 f2 f3 c0 c1 c2 c3
   refine hK.out _ _ k0Vb15 (fun hHeld => ?_)
   clear hK K
   try simp only [q1,q2,q3,q4,q5]
   refine tkY 10 (some 8) ?v10t_219 rfl ?y10t_219 ?r10t_219
   case y10t_219 => exact tY
   case r10t_219 =>
   try simp only [q1,q2,q3,q4,q5]
   refine wpAnyH_done (by kernel_rfl) ?_ _
   have HHV := Lib.hid (HH3.out.below hHeld.1)
   have HB9 := Lib.hid (HB3.out.trans (hHeld.1.mono (by omega)))
   have d0 := P9.cell 0
   have d1 := P9.cell 1
   have d2 := P9.cell 2
   have d3 := P9.cell 3
   simp only [List.getElem?_toArray, List.getElem?_cons_succ, List.getElem?_cons_zero] at d0 d1 d2 d3
   cases f with
   | false =>
    go_wp2_with fail
    refine bodyPost_ret (v := .int .i64 14) (by simp [results, Tryz.results19, go_sem]) rfl (.inr (.inl ⟨HM.out, subA_no HR.out, rfl, HB9.out⟩))
   | true =>
    obtain ⟨hless, hr⟩ := subA_yes HR.out
    have HLE := Lib.hid hless
    have HRR := Lib.hid hr
    go_wp2_with (first
     | (go_at_call 59; go_loud (refine (vtSet b p v S l last gone s HK.out.1 (r0, r1, r2, r3) (by rw [HRR.out]; exact subI_is (HH3.out.ok.has _) HK.out.2 HLE.out) _ HHV.out).mono ?_; rintro e w10 ⟨rfl, hq⟩; rw [HRR.out] at hq; have HQ := Lib.hid (SetQ.ahead HB9.out HL.out hq); clear hq))
     | fail)
    refine bodyPost_ret (v := .int .i64 0) (by simp [results, Tryz.results19, go_sem]) rfl (.inr (.inr ⟨HM.out, HLE.out, rfl, HQ.out⟩))
end Go.Proofs.YtdlbiobjnohfbaaGreat
