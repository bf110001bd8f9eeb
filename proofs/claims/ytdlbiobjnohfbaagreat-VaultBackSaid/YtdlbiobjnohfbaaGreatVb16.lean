/- vault: Put. -/
import Derived.Test.YtdlbiobjnohfbaaGreatVb15
namespace Go.Proofs.YtdlbiobjnohfbaaGreat
open Go.RowKit Go.ChangeMaps Go.MapKept
set_option linter.unusedVariables false
set_option linter.unusedSimpArgs false
theorem k0Vb16 {p : Prop} (h : p := by exact ⟨hh, bkeep hh x0 hs3, bkeep hh x1 hs3, bkeep hh x2 hs3, bkeep hh x3 hs3⟩) : p := h
theorem pursesTwoI {w : World} {n : Nat} {a b : It4} (hb : n < w.heap.size) (h0 : w.cell? ⟨n, 0, none⟩ = some (.int .i64 a.1)) (h1 : w.cell? ⟨n, 1, none⟩ = some (.int .i64 a.2.1)) (h2 : w.cell? ⟨n, 2, none⟩ = some (.int .i64 a.2.2.1)) (h3 : w.cell? ⟨n, 3, none⟩ = some (.int .i64 a.2.2.2))
  (h4 : w.cell? ⟨n, 4, none⟩ = some (.int .i64 b.1)) (h5 : w.cell? ⟨n, 5, none⟩ = some (.int .i64 b.2.1)) (h6 : w.cell? ⟨n, 6, none⟩ = some (.int .i64 b.2.2.1)) (h7 : w.cell? ⟨n, 7, none⟩ = some (.int .i64 b.2.2.2)) : Purses w w.heap.size (some ⟨n, 0, none⟩) [a, b] := by
 intro k hk
 simp at hk
 match k, hk with
 | 0, _ => exact ⟨n, 0, rfl, hb, by simpa using h0, by simpa using h1, by simpa using h2, by simpa using h3⟩
 | 1, _ => exact ⟨n, 0, rfl, hb, by simpa using h4, by simpa using h5, by simpa using h6, by simpa using h7⟩
theorem addTwo (a b : It4) (ha : isI a = true) (hb : isI b = true) : addTo (0, 0, 0, 0) [a, b] = if isI (addI a b) then some (addI a b) else none := by
 have e : plusQ (0, 0, 0, 0) a = a := by unfold plusQ; simp
 have ha' : isQ a = true := ha
 have hb' : isQ b = true := hb
 simp only [addTo, e, ha', hb', Bool.true_and, Bool.and_self, if_true]
 rfl
def addA (a b : It4) : It4 × Bool := if isI (addI a b) then (addI a b, true) else (z4, false)
theorem addA_no {a b : It4} {r : It4} (h : (r, false) = addA a b) : isI (addI a b) = false := by
 unfold addA at h
 cases hl : isI (addI a b) with
 | true => rw [hl] at h; simp at h
 | false => rfl
theorem addA_yes {a b : It4} {r : It4} (h : (r, true) = addA a b) : isI (addI a b) = true ∧ r = addI a b := by
 unfold addA at h
 cases hl : isI (addI a b) with
 | true => rw [hl] at h; simp at h; exact ⟨rfl, h⟩
 | false => rw [hl] at h; simp at h
theorem vAdd (a b : It4) (ha : isI a = true) (hb : isI b = true) (A : Option Addr) (w : World) (hx : Purses w w.heap.size A [a, b]) : Calls Tryz.prog 58 #[.slice A 2 2] w fun z w' => z = .returned (.tuple #[itV (addA a b).1, .bool (addA a b).2]) ∧ Below w.heap.size w w' := by
 refine (purseAdd A 2 [a, b] w (by simp) hx).mono ?_
 rintro z w' ⟨rfl, hb'⟩
 refine ⟨?_, hb'⟩
 rw [addTwo a b ha hb]
 unfold addA
 cases isI (addI a b) <;> rfl
def PutQ (b : Nat) (p : Value) (v : Nat → Value) (S : Nat → List Od) (l : Pm) (last gone : Int) (s : ByteArray) (i : It4) (w : World) (e : Ending) (w' : World) : Prop :=
 (mayB s i = false ∧ e = .returned (.int .i64 1) ∧ Below w.heap.size w w') ∨
 (mayB s i = true ∧ isI (addI (hasP l s.data.toList) i) = false ∧ e = .returned (.int .i64 6) ∧ Below w.heap.size w w') ∨
 (mayB s i = true ∧ isI (addI (hasP l s.data.toList) i) = true ∧ e = .returned (.int .i64 0) ∧ SetQ b p v S (setP l s.data.toList (addI (hasP l s.data.toList) i)) last gone w w')
set_option maxHeartbeats 4000000 in
set_option maxRecDepth 10000 in
theorem vtPut (b : Nat) (p : Value) (v : Nat → Value) (S : Nat → List Od) (l : Pm) (last gone : Int) (s : ByteArray) (i : It4) (w : World) (h : VtH w b p v S l last gone) :
  Calls Tryz.prog 17 #[.pointer (some ⟨b, 0, none⟩), .string s, itV i] w fun e w' => PutQ b p v S l last gone s i w e w' := by
 cases hmay : mayB s i with
 | false =>
  have hm' : (decide (1 ≤ s.size) && (decide (s.size ≤ 16) && isP i.1 i.2.1 i.2.2.1 i.2.2.2)) = false := hmay
  have HM := Lib.hid hmay
  have HM' := Lib.hid hm'
  clear hmay hm' h
  unfold itV
  go_enter Tryz.func17, Tryz.ntmps17
  go_wp2_with (first
   | (go_at_call 57; refine (vtMay b s i _).mono ?_; rintro e w3 ⟨he, hb3⟩; rw [HM'.out] at he; subst he)
   | fail)
  refine bodyPost_ret (v := .int .i64 1) (by simp [results, Tryz.results17, go_sem]) rfl (.inl ⟨HM.out, rfl, by exact tB⟩)
 | true =>
  obtain ⟨hk, hii⟩ := mayB_key hmay
  have hm' : (decide (1 ≤ s.size) && (decide (s.size ≤ 16) && isP i.1 i.2.1 i.2.2.1 i.2.2.2)) = true := hmay
  have HH := Lib.hid h
  have hbl := h.bk.whl.low
  have HL := Lib.hid h.lows
  obtain ⟨r, hr⟩ : ∃ r, r = addA (hasP l s.data.toList) i := ⟨_, rfl⟩
  have HADD : Hid (∀ A w, Purses w w.heap.size A [hasP l s.data.toList, i] → Calls Tryz.prog 58 #[.slice A 2 2] w fun z w' => z = .returned (.tuple #[itV r.1, .bool r.2]) ∧ Below w.heap.size w w') := Lib.hid (fun A w hx => by rw [hr]; exact vAdd _ _ (h.ok.has _) hii A w hx)
  have HM := Lib.hid hmay
  have HM' := Lib.hid hm'
  have HR := Lib.hid hr
  have HK := Lib.hid (And.intro hk hii)
  clear hmay hm' h hr hk hii
  obtain ⟨i0, i1, i2, i3⟩ := i
  obtain ⟨⟨r0, r1, r2, r3⟩, f⟩ := r
  unfold itV
  unfold itV at HADD
  simp only at HADD ⊢
  have P0 : Whl (w.alloc (.cells #[.int .i64 i0, .int .i64 i1, .int .i64 i2, .int .i64 i3] 36)) w.heap.size 36 #[.int .i64 i0, .int .i64 i1, .int .i64 i2, .int .i64 i3] := Whl.new rfl
  have B0 : Below w.heap.size w (w.alloc (.cells #[.int .i64 i0, .int .i64 i1, .int .i64 i2, .int .i64 i3] 36)) := (Below.refl _ _).alloc (Nat.le_refl _) _
  have HP0 := Lib.hid P0
  have HB0 := Lib.hid B0
  clear P0 B0
  go_enter Tryz.func17, Tryz.ntmps17
  go_wp2_with (first
   | (go_at_call 57; go_loud (refine (vtMay b s (i0, i1, i2, i3) _).mono ?_; rintro e w3 ⟨he, hb3⟩; rw [HM'.out] at he; subst he))
   | fail)
  have P3 := HP0.out.below hb3 HP0.out.low
  have HB3 := Lib.hid (HB0.out.trans (hb3.mono HB0.out.size))
  have HH3 := Lib.hid (HH.out.below HB3.out)
  have hs3 : w.heap.size < w3.heap.size := P3.low
  have x0 := P3.cell 0
  have x1 := P3.cell 1
  have x2 := P3.cell 2
  have x3 := P3.cell 3
  simp only [List.getElem?_toArray, List.getElem?_cons_succ, List.getElem?_cons_zero] at x0 x1 x2 x3
  clear P3 hb3
  refine wp_region_held_drew (S := (fun W => Below w3.heap.size w3 W ∧ W.cell? ⟨w.heap.size, 0, none⟩ = some (.int .i64 i0) ∧ W.cell? ⟨w.heap.size, 1, none⟩ = some (.int .i64 i1) ∧ W.cell? ⟨w.heap.size, 2, none⟩ = some (.int .i64 i2) ∧ W.cell? ⟨w.heap.size, 3, none⟩ = some (.int .i64 i3))) (by kernel_rfl) ⟨(Below.refl _ _).drew, x0, x1, x2, x3⟩ (fun hHeld => ?_)
  refine tkY 0 (some 15) ?v0t_1 rfl ?y0t_1 ?r0t_1
  case y0t_1 => exact tY
  case r0t_1 =>
  try simp only [q1,q2,q3,q4,q5]
  refine tkY 1 (some 16) ?v1t_4 rfl ?y1t_4 ?r1t_4
  case y1t_4 => exact tY
  case r1t_4 =>
  try simp only [q1,q2,q3,q4,q5]
  refine tkY 3 (some 18) ?v3t_7 rfl ?y3t_7 ?r3t_7
  case y3t_7 => exact tY
  case r3t_7 =>
  try simp only [q1,q2,q3,q4,q5]
  refine wpAnyH_ready (rs := [2, 9]) (by kernel_rfl) (by simp) ?_
  refine AllReadyH.cons (o := ⟨some 17, _, _, _, _, _⟩) rfl (fun K hK => ?_) (AllReadyH.cons (o := ⟨some 7, _, _, _, _, _⟩) rfl (fun K hK => ?_) AllReadyH.nil)
  ·
   go_simp
   refine (vtHas b p l s _ (HH3.out.below hHeld.1).bk.whl.low (HH3.out.below hHeld.1).cell (HH3.out.below hHeld.1).pu).mono ?_; rintro e w4 ⟨rfl, hb4⟩
   unfold itV
   go_wp2_with fail
   have hh := hHeld.1.trans (hb4.mono hHeld.1.size)
   refine hK.out _ _ k0Vb16 (fun hHeld => ?_)
   clear hK K
   try simp only [q1,q2,q3,q4,q5]
   refine wpAnyH_ready (rs := [4, 9]) (by kernel_rfl) (by simp) ?_
   refine AllReadyH.cons (o := ⟨some 19, _, _, _, _, _⟩) rfl (fun K hK => ?_) (AllReadyH.cons (o := ⟨some 7, _, _, _, _, _⟩) rfl (fun K hK => ?_) AllReadyH.nil)
   ·
    go_simp
    have hh := hHeld.1.alloc hHeld.1.size (.cells #[.int .i64 (hasP l s.data.toList).1, .int .i64 (hasP l s.data.toList).2.1, .int .i64 (hasP l s.data.toList).2.2.1, .int .i64 (hasP l s.data.toList).2.2.2, .int .i64 i0, .int .i64 i1, .int .i64 i2, .int .i64 i3] 36)
    have P6 : Whl (w4.alloc (.cells #[.int .i64 (hasP l s.data.toList).1, .int .i64 (hasP l s.data.toList).2.1, .int .i64 (hasP l s.data.toList).2.2.1, .int .i64 (hasP l s.data.toList).2.2.2, .int .i64 i0, .int .i64 i1, .int .i64 i2, .int .i64 i3] 36)) w4.heap.size 36 #[.int .i64 (hasP l s.data.toList).1, .int .i64 (hasP l s.data.toList).2.1, .int .i64 (hasP l s.data.toList).2.2.1, .int .i64 (hasP l s.data.toList).2.2.2, .int .i64 i0, .int .i64 i1, .int .i64 i2, .int .i64 i3] := Whl.new rfl
    generalize w4.alloc (.cells #[.int .i64 (hasP l s.data.toList).1, .int .i64 (hasP l s.data.toList).2.1, .int .i64 (hasP l s.data.toList).2.2.1, .int .i64 (hasP l s.data.toList).2.2.2, .int .i64 i0, .int .i64 i1, .int .i64 i2, .int .i64 i3] 36) = w6 at hh P6 ⊢
    refine hK.out _ _ k0Vb16 (fun hHeld => ?_)
    clear hK K
    try simp only [q1,q2,q3,q4,q5]
    refine wpAnyH_ready (rs := [5, 9]) (by kernel_rfl) (by simp) ?_
    refine AllReadyH.cons (o := ⟨some 20, _, _, _, _, _⟩) rfl (fun K hK => ?_) (AllReadyH.cons (o := ⟨some 7, _, _, _, _, _⟩) rfl (fun K hK => ?_) AllReadyH.nil)
    ·
     have hPU := pursesTwoI (a := hasP l s.data.toList) (b := (i0, i1, i2, i3)) P6.low (P6.cell 0) (P6.cell 1) (P6.cell 2) (P6.cell 3) (P6.cell 4) (P6.cell 5) (P6.cell 6) (P6.cell 7)
     go_simp
     refine (HADD.out _ _ hPU).mono ?_; rintro e w5 ⟨rfl, hb5⟩
     go_wp2_with fail
     have hh := hHeld.1.trans (hb5.mono hHeld.1.size)
     clear hPU P6
     refine hK.out _ _ k0Vb16 (fun hHeld => ?_)
     clear hK K
     try simp only [q1,q2,q3,q4,q5]
     refine tkY 6 (some 14) ?v6t_40 rfl ?y6t_40 ?r6t_40
     case y6t_40 => exact tY
     case r6t_40 =>
     try simp only [q1,q2,q3,q4,q5]
     refine tkY 7 (some 21) ?v7t_43 rfl ?y7t_43 ?r7t_43
     case y7t_43 => exact tY
     case r7t_43 =>
     try simp only [q1,q2,q3,q4,q5]
     refine tkY 8 (some 22) ?v8t_46 rfl ?y8t_46 ?r8t_46
     case y8t_46 => exact tY
     case r8t_46 =>
     try simp only [q1,q2,q3,q4,q5]
     refine wpAnyH_ready (rs := [9]) (by kernel_rfl) (by simp) ?_
     refine AllReadyH.cons (o := ⟨some 7, _, _, _, _, _⟩) rfl (fun K hK => ?_) AllReadyH.nil
     go_simp
     have hh : Below w3.heap.size w3 (w5.alloc (.cells #[.int .i64 0, .int .i64 0, .int .i64 0, .int .i64 0] 36)) := hHeld.1.alloc hHeld.1.size (.cells #[.int .i64 0, .int .i64 0, .int .i64 0, .int .i64 0] 36)
     have P7 : Whl (w5.alloc (.cells #[.int .i64 0, .int .i64 0, .int .i64 0, .int .i64 0] 36)) w5.heap.size 36 #[.int .i64 0, .int .i64 0, .int .i64 0, .int .i64 0] := Whl.new rfl
     have hal : w3.heap.size ≤ w5.heap.size := hHeld.1.size
     generalize w5.alloc (.cells #[.int .i64 0, .int .i64 0, .int .i64 0, .int .i64 0] 36) = w7 at hh P7 ⊢
     refine hK.out _ _ k0Vb16 (fun hHeld => ?_)
     clear hK K
     try simp only [q1,q2,q3,q4,q5]
     refine wpAnyH_ready (rs := [10]) (by kernel_rfl) (by simp) ?_
     refine AllReadyH.cons (o := ⟨none, _, _, _, _, _⟩) rfl (fun K hK => ?_) AllReadyH.nil
     have f0 := P7.free 0
     have f1 := P7.free 1
     have f2 := P7.free 2
     have f3 := P7.free 3
     have c0 := P7.cell 0
     have c1 := P7.cell 1
     have c2 := P7.cell 2
     have c3 := P7.cell 3
     simp only [List.getElem?_toArray, List.getElem?_cons_succ, List.getElem?_cons_zero] at c0 c1 c2 c3
     go_simp
     have hh : Below w3.heap.size w3 ((((w7.setCell ⟨w5.heap.size, 0, none⟩ (.int .i64 r0)).setCell ⟨w5.heap.size, 1, none⟩ (.int .i64 r1)).setCell ⟨w5.heap.size, 2, none⟩ (.int .i64 r2)).setCell ⟨w5.heap.size, 3, none⟩ (.int .i64 r3)) := (((hHeld.1.setCell hal _).setCell hal _).setCell hal _).setCell hal _
     have P9 : Whl ((((w7.setCell ⟨w5.heap.size, 0, none⟩ (.int .i64 r0)).setCell ⟨w5.heap.size, 1, none⟩ (.int .i64 r1)).setCell ⟨w5.heap.size, 2, none⟩ (.int .i64 r2)).setCell ⟨w5.heap.size, 3, none⟩ (.int .i64 r3)) w5.heap.size 36 #[.int .i64 r0, .int .i64 r1, .int .i64 r2, .int .i64 r3] := (((P7.set 0 _).set 1 _).set 2 _).set 3 _
     show K _ ((((w7.setCell ⟨w5.heap.size, 0, none⟩ (.int .i64 r0)).setCell ⟨w5.heap.size, 1, none⟩ (.int .i64 r1)).setCell ⟨w5.heap.size, 2, none⟩ (.int .i64 r2)).setCell ⟨w5.heap.size, 3, none⟩ (.int .i64 r3))
     generalize ((((w7.setCell ⟨w5.heap.size, 0, none⟩ (.int .i64 r0)).setCell ⟨w5.heap.size, 1, none⟩ (.int .i64 r1)).setCell ⟨w5.heap.size, 2, none⟩ (.int .i64 r2)).setCell ⟨w5.heap.size, 3, none⟩ (.int .i64 r3)) = V9 at hh P9 ⊢
     clear P7 f0 f1 f2 f3 c0 c1 c2 c3
     refine hK.out _ _ k0Vb16 (fun hHeld => ?_)
     clear hK K
     try simp only [q1,q2,q3,q4,q5]
     refine tkY 11 (some 8) ?v11t_79 rfl ?y11t_79 ?r11t_79
     case y11t_79 => exact tY
     case r11t_79 =>
     try simp only [q1,q2,q3,q4,q5]
     refine wpAnyH_done (by kernel_rfl) ?_ _
     have HHV := Lib.hid (HH3.out.below hHeld.1)
     have HB9 := Lib.hid (HB3.out.trans (hHeld.1.mono (by omega)))
     have d0 := P9.cell 0
     have d1 := P9.cell 1
     have d2 := P9.cell 2
     have d3 := P9.cell 3
     simp only [List.getElem?_toArray, List.getElem?_cons_succ, List.getElem?_cons_zero] at d0 d1 d2 d3
     cases f with
     | false =>
      go_wp2_with fail
      refine bodyPost_ret (v := .int .i64 6) (by simp [results, Tryz.results17, go_sem]) rfl (.inr (.inl ⟨HM.out, addA_no HR.out, rfl, HB9.out⟩))
     | true =>
      obtain ⟨hless, hr⟩ := addA_yes HR.out
      have HLE := Lib.hid hless
      have HRR := Lib.hid hr
      go_wp2_with (first
       | (go_at_call 59; go_loud (refine (vtSet b p v S l last gone s HK.out.1 (r0, r1, r2, r3) (by rw [HRR.out]; exact HLE.out) _ HHV.out).mono ?_; rintro e w10 ⟨rfl, hq⟩; rw [HRR.out] at hq; have HQ := Lib.hid (SetQ.ahead HB9.out HL.out hq); clear hq))
       | fail)
      refine bodyPost_ret (v := .int .i64 0) (by simp [results, Tryz.results17, go_sem]) rfl (.inr (.inr ⟨HM.out, HLE.out, rfl, HQ.out⟩))
    ·
     go_simp
     have P6 := P6.alloc (.cells #[.int .i64 0, .int .i64 0, .int .i64 0, .int .i64 0] 36)
     have hh : Below w3.heap.size w3 (w6.alloc (.cells #[.int .i64 0, .int .i64 0, .int .i64 0, .int .i64 0] 36)) := hHeld.1.alloc hHeld.1.size (.cells #[.int .i64 0, .int .i64 0, .int .i64 0, .int .i64 0] 36)
     have P7 : Whl (w6.alloc (.cells #[.int .i64 0, .int .i64 0, .int .i64 0, .int .i64 0] 36)) w6.heap.size 36 #[.int .i64 0, .int .i64 0, .int .i64 0, .int .i64 0] := Whl.new rfl
     have hal : w3.heap.size ≤ w6.heap.size := hHeld.1.size
     generalize w6.alloc (.cells #[.int .i64 0, .int .i64 0, .int .i64 0, .int .i64 0] 36) = w7 at hh P6 P7 ⊢
     refine hK.out _ _ k0Vb16 (fun hHeld => ?_)
     clear hK K
     try simp only [q1,q2,q3,q4,q5]
     refine wpAnyH_ready (rs := [5]) (by kernel_rfl) (by simp) ?_
     refine AllReadyH.cons (o := ⟨some 20, _, _, _, _, _⟩) rfl (fun K hK => ?_) AllReadyH.nil
     have hPU := pursesTwoI (a := hasP l s.data.toList) (b := (i0, i1, i2, i3)) P6.low (P6.cell 0) (P6.cell 1) (P6.cell 2) (P6.cell 3) (P6.cell 4) (P6.cell 5) (P6.cell 6) (P6.cell 7)
     go_simp
     refine (HADD.out _ _ hPU).mono ?_; rintro e w5 ⟨rfl, hb5⟩
     go_wp2_with fail
     have hh := hHeld.1.trans (hb5.mono hHeld.1.size)
     clear hPU P6
     have P7 := P7.below hb5 P7.low
     refine hK.out _ _ k0Vb16 (fun hHeld => ?_)
     clear hK K
     try simp only [q1,q2,q3,q4,q5]
     refine tkY 6 (some 14) ?v6t_123 rfl ?y6t_123 ?r6t_123
     case y6t_123 => exact tY
     case r6t_123 =>
     try simp only [q1,q2,q3,q4,q5]
     refine tkY 7 (some 21) ?v7t_126 rfl ?y7t_126 ?r7t_126
     case y7t_126 => exact tY
     case r7t_126 =>
     try simp only [q1,q2,q3,q4,q5]
     refine tkY 8 (some 22) ?v8t_129 rfl ?y8t_129 ?r8t_129
     case y8t_129 => exact tY
     case r8t_129 =>
     try simp only [q1,q2,q3,q4,q5]
     refine wpAnyH_ready (rs := [10]) (by kernel_rfl) (by simp) ?_
     refine AllReadyH.cons (o := ⟨none, _, _, _, _, _⟩) rfl (fun K hK => ?_) AllReadyH.nil
     have f0 := P7.free 0
     have f1 := P7.free 1
     have f2 := P7.free 2
     have f3 := P7.free 3
     have c0 := P7.cell 0
     have c1 := P7.cell 1
     have c2 := P7.cell 2
     have c3 := P7.cell 3
     simp only [List.getElem?_toArray, List.getElem?_cons_succ, List.getElem?_cons_zero] at c0 c1 c2 c3
     go_simp
     have hh : Below w3.heap.size w3 ((((w5.setCell ⟨w6.heap.size, 0, none⟩ (.int .i64 r0)).setCell ⟨w6.heap.size, 1, none⟩ (.int .i64 r1)).setCell ⟨w6.heap.size, 2, none⟩ (.int .i64 r2)).setCell ⟨w6.heap.size, 3, none⟩ (.int .i64 r3)) := (((hHeld.1.setCell hal _).setCell hal _).setCell hal _).setCell hal _
     have P9 : Whl ((((w5.setCell ⟨w6.heap.size, 0, none⟩ (.int .i64 r0)).setCell ⟨w6.heap.size, 1, none⟩ (.int .i64 r1)).setCell ⟨w6.heap.size, 2, none⟩ (.int .i64 r2)).setCell ⟨w6.heap.size, 3, none⟩ (.int .i64 r3)) w6.heap.size 36 #[.int .i64 r0, .int .i64 r1, .int .i64 r2, .int .i64 r3] := (((P7.set 0 _).set 1 _).set 2 _).set 3 _
     show K _ ((((w5.setCell ⟨w6.heap.size, 0, none⟩ (.int .i64 r0)).setCell ⟨w6.heap.size, 1, none⟩ (.int .i64 r1)).setCell ⟨w6.heap.size, 2, none⟩ (.int .i64 r2)).setCell ⟨w6.heap.size, 3, none⟩ (.int .i64 r3))
     generalize ((((w5.setCell ⟨w6.heap.size, 0, none⟩ (.int .i64 r0)).setCell ⟨w6.heap.size, 1, none⟩ (.int .i64 r1)).setCell ⟨w6.heap.size, 2, none⟩ (.int .i64 r2)).setCell ⟨w6.heap.size, 3, none⟩ (.int .i64 r3)) = V9 at hh P9 ⊢
     clear P7 f0 f1 f2 f3 c0 c1 c2 c3
     refine hK.out _ _ k0Vb16 (fun hHeld => ?_)
     clear hK K
     try simp only [q1,q2,q3,q4,q5]
     refine tkY 11 (some 8) ?v11t_152 rfl ?y11t_152 ?r11t_152
     case y11t_152 => exact tY
     case r11t_152 =>
     try simp only [q1,q2,q3,q4,q5]
     refine wpAnyH_done (by kernel_rfl) ?_ _
     have HHV := Lib.hid (HH3.out.below hHeld.1)
     have HB9 := Lib.hid (HB3.out.trans (hHeld.1.mono (by omega)))
     have d0 := P9.cell 0
     have d1 := P9.cell 1
     have d2 := P9.cell 2
     have d3 := P9.cell 3
     simp only [List.getElem?_toArray, List.getElem?_cons_succ, List.getElem?_cons_zero] at d0 d1 d2 d3
     cases f with
     | false =>
      go_wp2_with fail
      refine bodyPost_ret (v := .int .i64 6) (by simp [results, Tryz.results17, go_sem]) rfl (.inr (.inl ⟨HM.out, addA_no HR.out, rfl, HB9.out⟩))
     | true =>
      obtain ⟨hless, hr⟩ := addA_yes HR.out
      have HLE := Lib.hid hless
      have HRR := Lib.hid hr
      go_wp2_with (first
       | (go_at_call 59; go_loud (refine (vtSet b p v S l last gone s HK.out.1 (r0, r1, r2, r3) (by rw [HRR.out]; exact HLE.out) _ HHV.out).mono ?_; rintro e w10 ⟨rfl, hq⟩; rw [HRR.out] at hq; have HQ := Lib.hid (SetQ.ahead HB9.out HL.out hq); clear hq))
       | fail)
      refine bodyPost_ret (v := .int .i64 0) (by simp [results, Tryz.results17, go_sem]) rfl (.inr (.inr ⟨HM.out, HLE.out, rfl, HQ.out⟩))
   ·
    go_simp
    have hh : Below w3.heap.size w3 (w4.alloc (.cells #[.int .i64 0, .int .i64 0, .int .i64 0, .int .i64 0] 36)) := hHeld.1.alloc hHeld.1.size (.cells #[.int .i64 0, .int .i64 0, .int .i64 0, .int .i64 0] 36)
    have P7 : Whl (w4.alloc (.cells #[.int .i64 0, .int .i64 0, .int .i64 0, .int .i64 0] 36)) w4.heap.size 36 #[.int .i64 0, .int .i64 0, .int .i64 0, .int .i64 0] := Whl.new rfl
    have hal : w3.heap.size ≤ w4.heap.size := hHeld.1.size
    generalize w4.alloc (.cells #[.int .i64 0, .int .i64 0, .int .i64 0, .int .i64 0] 36) = w7 at hh P7 ⊢
    refine hK.out _ _ k0Vb16 (fun hHeld => ?_)
    clear hK K
    try simp only [q1,q2,q3,q4,q5]
    refine wpAnyH_ready (rs := [4]) (by kernel_rfl) (by simp) ?_
    refine AllReadyH.cons (o := ⟨some 19, _, _, _, _, _⟩) rfl (fun K hK => ?_) AllReadyH.nil
    go_simp
    have hh := hHeld.1.alloc hHeld.1.size (.cells #[.int .i64 (hasP l s.data.toList).1, .int .i64 (hasP l s.data.toList).2.1, .int .i64 (hasP l s.data.toList).2.2.1, .int .i64 (hasP l s.data.toList).2.2.2, .int .i64 i0, .int .i64 i1, .int .i64 i2, .int .i64 i3] 36)
    have P6 : Whl (w7.alloc (.cells #[.int .i64 (hasP l s.data.toList).1, .int .i64 (hasP l s.data.toList).2.1, .int .i64 (hasP l s.data.toList).2.2.1, .int .i64 (hasP l s.data.toList).2.2.2, .int .i64 i0, .int .i64 i1, .int .i64 i2, .int .i64 i3] 36)) w7.heap.size 36 #[.int .i64 (hasP l s.data.toList).1, .int .i64 (hasP l s.data.toList).2.1, .int .i64 (hasP l s.data.toList).2.2.1, .int .i64 (hasP l s.data.toList).2.2.2, .int .i64 i0, .int .i64 i1, .int .i64 i2, .int .i64 i3] := Whl.new rfl
    have P7 := P7.alloc (.cells #[.int .i64 (hasP l s.data.toList).1, .int .i64 (hasP l s.data.toList).2.1, .int .i64 (hasP l s.data.toList).2.2.1, .int .i64 (hasP l s.data.toList).2.2.2, .int .i64 i0, .int .i64 i1, .int .i64 i2, .int .i64 i3] 36)
    generalize w7.alloc (.cells #[.int .i64 (hasP l s.data.toList).1, .int .i64 (hasP l s.data.toList).2.1, .int .i64 (hasP l s.data.toList).2.2.1, .int .i64 (hasP l s.data.toList).2.2.2, .int .i64 i0, .int .i64 i1, .int .i64 i2, .int .i64 i3] 36) = w6 at hh P6 P7 ⊢
    refine hK.out _ _ k0Vb16 (fun hHeld => ?_)
    clear hK K
    try simp only [q1,q2,q3,q4,q5]
    refine wpAnyH_ready (rs := [5]) (by kernel_rfl) (by simp) ?_
    refine AllReadyH.cons (o := ⟨some 20, _, _, _, _, _⟩) rfl (fun K hK => ?_) AllReadyH.nil
    have hPU := pursesTwoI (a := hasP l s.data.toList) (b := (i0, i1, i2, i3)) P6.low (P6.cell 0) (P6.cell 1) (P6.cell 2) (P6.cell 3) (P6.cell 4) (P6.cell 5) (P6.cell 6) (P6.cell 7)
    go_simp
    refine (HADD.out _ _ hPU).mono ?_; rintro e w5 ⟨rfl, hb5⟩
    go_wp2_with fail
    have hh := hHeld.1.trans (hb5.mono hHeld.1.size)
    clear hPU P6
    have P7 := P7.below hb5 P7.low
    refine hK.out _ _ k0Vb16 (fun hHeld => ?_)
    clear hK K
    try simp only [q1,q2,q3,q4,q5]
    refine tkY 6 (some 14) ?v6t_205 rfl ?y6t_205 ?r6t_205
    case y6t_205 => exact tY
    case r6t_205 =>
    try simp only [q1,q2,q3,q4,q5]
    refine tkY 7 (some 21) ?v7t_208 rfl ?y7t_208 ?r7t_208
    case y7t_208 => exact tY
    case r7t_208 =>
    try simp only [q1,q2,q3,q4,q5]
    refine tkY 8 (some 22) ?v8t_211 rfl ?y8t_211 ?r8t_211
    case y8t_211 => exact tY
    case r8t_211 =>
    try simp only [q1,q2,q3,q4,q5]
    refine wpAnyH_ready (rs := [10]) (by kernel_rfl) (by simp) ?_
    refine AllReadyH.cons (o := ⟨none, _, _, _, _, _⟩) rfl (fun K hK => ?_) AllReadyH.nil
    have f0 := P7.free 0
    have f1 := P7.free 1
    have f2 := P7.free 2
    have f3 := P7.free 3
    have c0 := P7.cell 0
    have c1 := P7.cell 1
    have c2 := P7.cell 2
    have c3 := P7.cell 3
    simp only [List.getElem?_toArray, List.getElem?_cons_succ, List.getElem?_cons_zero] at c0 c1 c2 c3
    go_simp
    have hh : Below w3.heap.size w3 ((((w5.setCell ⟨w4.heap.size, 0, none⟩ (.int .i64 r0)).setCell ⟨w4.heap.size, 1, none⟩ (.int .i64 r1)).setCell ⟨w4.heap.size, 2, none⟩ (.int .i64 r2)).setCell ⟨w4.heap.size, 3, none⟩ (.int .i64 r3)) := (((hHeld.1.setCell hal _).setCell hal _).setCell hal _).setCell hal _
    have P9 : Whl ((((w5.setCell ⟨w4.heap.size, 0, none⟩ (.int .i64 r0)).setCell ⟨w4.heap.size, 1, none⟩ (.int .i64 r1)).setCell ⟨w4.heap.size, 2, none⟩ (.int .i64 r2)).setCell ⟨w4.heap.size, 3, none⟩ (.int .i64 r3)) w4.heap.size 36 #[.int .i64 r0, .int .i64 r1, .int .i64 r2, .int .i64 r3] := (((P7.set 0 _).set 1 _).set 2 _).set 3 _
    show K _ ((((w5.setCell ⟨w4.heap.size, 0, none⟩ (.int .i64 r0)).setCell ⟨w4.heap.size, 1, none⟩ (.int .i64 r1)).setCell ⟨w4.heap.size, 2, none⟩ (.int .i64 r2)).setCell ⟨w4.heap.size, 3, none⟩ (.int .i64 r3))
    generalize ((((w5.setCell ⟨w4.heap.size, 0, none⟩ (.int .i64 r0)).setCell ⟨w4.heap.size, 1, none⟩ (.int .i64 r1)).setCell ⟨w4.heap.size, 2, none⟩ (.int .i64 r2)).setCell ⟨w4.heap.size, 3, none⟩ (.int .i64 r3)) = V9 at hh P9 ⊢
    clear P7 f0 f1 f2 f3 c0 c1 c2 c3
    refine hK.out _ _ k0Vb16 (fun hHeld => ?_)
    clear hK K
    try simp only [q1,q2,q3,q4,q5]
    refine tkY 11 (some 8) ?v11t_234 rfl ?y11t_234 ?r11t_234
    case y11t_234 => exact tY
    case r11t_234 =>
    try simp only [q1,q2,q3,q4,q5]
    refine wpAnyH_done (by kernel_rfl) ?_ _
    have HHV := Lib.hid (HH3.out.below hHeld.1)
    have HB9 := Lib.hid (HB3.out.trans (hHeld.1.mono (by omega)))
    have d0 := P9.cell 0
    have d1 := P9.cell 1
    have d2 := P9.cell 2
    have d3 := P9.cell 3
    simp only [List.getElem?_toArray, List.getElem?_cons_succ, List.getElem?_cons_zero] at d0 d1 d2 d3
    cases f with
    | false =>
     go_wp2_with fail
     refine bodyPost_ret (v := .int .i64 6) (by simp [results, Tryz.results17, go_sem]) rfl (.inr (.inl ⟨HM.out, addA_no HR.out, rfl, HB9.out⟩))
    | true =>
     obtain ⟨hless, hr⟩ := addA_yes HR.out
     have HLE := Lib.hid hless
     have HRR := Lib.hid hr
     go_wp2_with (first
      | (go_at_call 59; go_loud (refine (vtSet b p v S l last gone s HK.out.1 (r0, r1, r2, r3) (by rw [HRR.out]; exact HLE.out) _ HHV.out).mono ?_; rintro e w10 ⟨rfl, hq⟩; rw [HRR.out] at hq; have HQ := Lib.hid (SetQ.ahead HB9.out HL.out hq); clear hq))
      | fail)
     refine bodyPost_ret (v := .int .i64 0) (by simp [results, Tryz.results17, go_sem]) rfl (.inr (.inr ⟨HM.out, HLE.out, rfl, HQ.out⟩))
  ·
   go_simp
   have hh : Below w3.heap.size w3 ((w3.alloc (.cells #[.int .i64 0, .int .i64 0, .int .i64 0, .int .i64 0] 36)).drew) := ((Below.refl w3.heap.size w3).alloc (Nat.le_refl _) (.cells #[.int .i64 0, .int .i64 0, .int .i64 0, .int .i64 0] 36)).drew
   have P7 : Whl ((w3.alloc (.cells #[.int .i64 0, .int .i64 0, .int .i64 0, .int .i64 0] 36)).drew) w3.heap.size 36 #[.int .i64 0, .int .i64 0, .int .i64 0, .int .i64 0] := Whl.new rfl
   have hal : w3.heap.size ≤ w3.heap.size := Nat.le_refl _
   generalize (w3.alloc (.cells #[.int .i64 0, .int .i64 0, .int .i64 0, .int .i64 0] 36)).drew = w7 at hh P7 ⊢
   refine hK.out _ _ k0Vb16 (fun hHeld => ?_)
   clear hK K
   try simp only [q1,q2,q3,q4,q5]
   refine wpAnyH_ready (rs := [2]) (by kernel_rfl) (by simp) ?_
   refine AllReadyH.cons (o := ⟨some 17, _, _, _, _, _⟩) rfl (fun K hK => ?_) AllReadyH.nil
   go_simp
   refine (vtHas b p l s _ (HH3.out.below hHeld.1).bk.whl.low (HH3.out.below hHeld.1).cell (HH3.out.below hHeld.1).pu).mono ?_; rintro e w4 ⟨rfl, hb4⟩
   unfold itV
   go_wp2_with fail
   have hh := hHeld.1.trans (hb4.mono hHeld.1.size)
   have P7 := P7.below hb4 P7.low
   refine hK.out _ _ k0Vb16 (fun hHeld => ?_)
   clear hK K
   try simp only [q1,q2,q3,q4,q5]
   refine wpAnyH_ready (rs := [4]) (by kernel_rfl) (by simp) ?_
   refine AllReadyH.cons (o := ⟨some 19, _, _, _, _, _⟩) rfl (fun K hK => ?_) AllReadyH.nil
   go_simp
   have hh := hHeld.1.alloc hHeld.1.size (.cells #[.int .i64 (hasP l s.data.toList).1, .int .i64 (hasP l s.data.toList).2.1, .int .i64 (hasP l s.data.toList).2.2.1, .int .i64 (hasP l s.data.toList).2.2.2, .int .i64 i0, .int .i64 i1, .int .i64 i2, .int .i64 i3] 36)
   have P6 : Whl (w4.alloc (.cells #[.int .i64 (hasP l s.data.toList).1, .int .i64 (hasP l s.data.toList).2.1, .int .i64 (hasP l s.data.toList).2.2.1, .int .i64 (hasP l s.data.toList).2.2.2, .int .i64 i0, .int .i64 i1, .int .i64 i2, .int .i64 i3] 36)) w4.heap.size 36 #[.int .i64 (hasP l s.data.toList).1, .int .i64 (hasP l s.data.toList).2.1, .int .i64 (hasP l s.data.toList).2.2.1, .int .i64 (hasP l s.data.toList).2.2.2, .int .i64 i0, .int .i64 i1, .int .i64 i2, .int .i64 i3] := Whl.new rfl
   have P7 := P7.alloc (.cells #[.int .i64 (hasP l s.data.toList).1, .int .i64 (hasP l s.data.toList).2.1, .int .i64 (hasP l s.data.toList).2.2.1, .int .i64 (hasP l s.data.toList).2.2.2, .int .i64 i0, .int .i64 i1, .int .i64 i2, .int .i64 i3] 36)
   generalize w4.alloc (.cells #[.int .i64 (hasP l s.data.toList).1, .int .i64 (hasP l s.data.toList).2.1, .int .i64 (hasP l s.data.toList).2.2.1, .int .i64 (hasP l s.data.toList).2.2.2, .int .i64 i0, .int .i64 i1, .int .i64 i2, .int .i64 i3] 36) = w6 at hh P6 P7 ⊢
   refine hK.out _ _ k0Vb16 (fun hHeld => ?_)
   clear hK K
   try simp only [q1,q2,q3,q4,q5]
   refine wpAnyH_ready (rs := [5]) (by kernel_rfl) (by simp) ?_
   refine AllReadyH.cons (o := ⟨some 20, _, _, _, _, _⟩) rfl (fun K hK => ?_) AllReadyH.nil
   have hPU := pursesTwoI (a := hasP l s.data.toList) (b := (i0, i1, i2, i3)) P6.low (P6.cell 0) (P6.cell 1) (P6.cell 2) (P6.cell 3) (P6.cell 4) (P6.cell 5) (P6.cell 6) (P6.cell 7)
   go_simp
   refine (HADD.out _ _ hPU).mono ?_; rintro e w5 ⟨rfl, hb5⟩
   go_wp2_with fail
   have hh := hHeld.1.trans (hb5.mono hHeld.1.size)
   clear hPU P6
   have P7 := P7.below hb5 P7.low
   refine hK.out _ _ k0Vb16 (fun hHeld => ?_)
   clear hK K
   try simp only [q1,q2,q3,q4,q5]
   refine tkY 6 (some 14) ?v6t_298 rfl ?y6t_298 ?r6t_298
   case y6t_298 => exact tY
   case r6t_298 =>
   try simp only [q1,q2,q3,q4,q5]
   refine tkY 7 (some 21) ?v7t_301 rfl ?y7t_301 ?r7t_301
   case y7t_301 => exact tY
   case r7t_301 =>
   try simp only [q1,q2,q3,q4,q5]
   refine tkY 8 (some 22) ?v8t_304 rfl ?y8t_304 ?r8t_304
   case y8t_304 => exact tY
   case r8t_304 =>
   try simp only [q1,q2,q3,q4,q5]
   refine wpAnyH_ready (rs := [10]) (by kernel_rfl) (by simp) ?_
   refine AllReadyH.cons (o := ⟨none, _, _, _, _, _⟩) rfl (fun K hK => ?_) AllReadyH.nil
   have f0 := P7.free 0
   have f1 := P7.free 1
   have f2 := P7.free 2
   have f3 := P7.free 3
   have c0 := P7.cell 0
   have c1 := P7.cell 1
   have c2 := P7.cell 2
   have c3 := P7.cell 3
   simp only [List.getElem?_toArray, List.getElem?_cons_succ, List.getElem?_cons_zero] at c0 c1 c2 c3
   go_simp
   have hh : Below w3.heap.size w3 ((((w5.setCell ⟨w3.heap.size, 0, none⟩ (.int .i64 r0)).setCell ⟨w3.heap.size, 1, none⟩ (.int .i64 r1)).setCell ⟨w3.heap.size, 2, none⟩ (.int .i64 r2)).setCell ⟨w3.heap.size, 3, none⟩ (.int .i64 r3)) := (((hHeld.1.setCell hal _).setCell hal _).setCell hal _).setCell hal _
   have P9 : Whl ((((w5.setCell ⟨w3.heap.size, 0, none⟩ (.int .i64 r0)).setCell ⟨w3.heap.size, 1, none⟩ (.int .i64 r1)).setCell ⟨w3.heap.size, 2, none⟩ (.int .i64 r2)).setCell ⟨w3.heap.size, 3, none⟩ (.int .i64 r3)) w3.heap.size 36 #[.int .i64 r0, .int .i64 r1, .int .i64 r2, .int .i64 r3] := (((P7.set 0 _).set 1 _).set 2 _).set 3 _
   show K _ ((((w5.setCell ⟨w3.heap.size, 0, none⟩ (.int .i64 r0)).setCell ⟨w3.heap.size, 1, none⟩ (.int .i64 r1)).setCell ⟨w3.heap.size, 2, none⟩ (.int .i64 r2)).setCell ⟨w3.heap.size, 3, none⟩ (.int .i64 r3))
   generalize ((((w5.setCell ⟨w3.heap.size, 0, none⟩ (.int .i64 r0)).setCell ⟨w3.heap.size, 1, none⟩ (.int .i64 r1)).setCell ⟨w3.heap.size, 2, none⟩ (.int .i64 r2)).setCell ⟨w3.heap.size, 3, none⟩ (.int .i64 r3)) = V9 at hh P9 ⊢
   clear P7 f0 f1 f2 f3 c0 c1 c2 c3
   refine hK.out _ _ k0Vb16 (fun hHeld => ?_)
   clear hK K
   try simp only [q1,q2,q3,q4,q5]
   refine tkY 11 (some 8) ?v11t_327 rfl ?y11t_327 ?r11t_327
   case y11t_327 => exact tY
   case r11t_327 =>
   try simp only [q1,q2,q3,q4,q5]
   refine wpAnyH_done (by kernel_rfl) ?_ _
   have HHV := Lib.hid (HH3.out.below hHeld.1)
   have HB9 := Lib.hid (HB3.out.trans (hHeld.1.mono (by omega)))
   have d0 := P9.cell 0
   have d1 := P9.cell 1
   have d2 := P9.cell 2
   have d3 := P9.cell 3
   simp only [List.getElem?_toArray, List.getElem?_cons_succ, List.getElem?_cons_zero] at d0 d1 d2 d3
   cases f with
   | false =>
    go_wp2_with fail
    refine bodyPost_ret (v := .int .i64 6) (by simp [results, Tryz.results17, go_sem]) rfl (.inr (.inl ⟨HM.out, addA_no HR.out, rfl, HB9.out⟩))
   | true =>
    obtain ⟨hless, hr⟩ := addA_yes HR.out
    have HLE := Lib.hid hless
    have HRR := Lib.hid hr
    go_wp2_with (first
     | (go_at_call 59; go_loud (refine (vtSet b p v S l last gone s HK.out.1 (r0, r1, r2, r3) (by rw [HRR.out]; exact HLE.out) _ HHV.out).mono ?_; rintro e w10 ⟨rfl, hq⟩; rw [HRR.out] at hq; have HQ := Lib.hid (SetQ.ahead HB9.out HL.out hq); clear hq))
     | fail)
    refine bodyPost_ret (v := .int .i64 0) (by simp [results, Tryz.results17, go_sem]) rfl (.inr (.inr ⟨HM.out, HLE.out, rfl, HQ.out⟩))
end Go.Proofs.YtdlbiobjnohfbaaGreat
