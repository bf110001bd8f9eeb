/- The document's vault: Put, Take. -/
import Derived.Test.YtdlbiobjnohfbaaGreatVb34
namespace Go.Proofs.YtdlbiobjnohfbaaGreat
open Go.RowKit Go.ChangeMaps Go.MapKept
set_option linter.unusedVariables false
set_option linter.unusedSimpArgs false
theorem k0Vb35 {p : Prop} (h : p := by exact ⟨hh, bkeep hh x0 hs3, bkeep hh x1 hs3, bkeep hh x2 hs3, bkeep hh x3 hs3⟩) : p := h
structure RowOk (r : Pm) : Prop where
 srt : SortedH r
 is : ∀ k, isI (hasP r k) = true
 len : r.length ≤ 1000
def SetR (B d x : Nat) (u2 : Value) (r' : Pm) (L : List Od) (last nx : Int) (w w' : World) : Prop := ∃ u', RvH w' B d x u' u2 r' L last nx ∧ Touch (fun j => j = d) w w' ∧ ∀ g, u'.ownBlock = some g → w.heap.size ≤ g
theorem SetR.ahead {B d x : Nat} {u2 : Value} {r' : Pm} {L : List Od} {last nx : Int} {w w1 w' : World} (hb : Below w.heap.size w w1) (h : SetR B d x u2 r' L last nx w1 w') : SetR B d x u2 r' L last nx w w' := by
 obtain ⟨u', h1, h2, h3⟩ := h
 have := hb.size
 exact ⟨u', h1, ((Touch.of_below hb).mono'' (fun k hk hd => by omega)).trans h2 (fun _ _ h => h), fun g hg => by have := h3 g hg; omega⟩
def keyB (s : ByteArray) : Bool := decide (1 ≤ s.size) && decide (s.size ≤ 16)
set_option maxHeartbeats 1000000 in
theorem refIsKey (s : ByteArray) (w : World) : Calls Tryz.prog 60 #[.string s] w fun e w' => e = .returned (.bool (keyB s)) ∧ Below w.heap.size w w' := by
 unfold keyB
 by_cases h1 : 1 ≤ s.size
 ·
  have k1 : (1 : Int) ≤ (s.size : Int) := by omega
  by_cases h2 : s.size ≤ 16
  ·
   have k2 : (s.size : Int) ≤ 16 := by omega
   go_enter Tryz.func60, Tryz.ntmps60
   go_wp2_with fail
   refine bodyPost_ret (v := .bool true) (by simp [results, Tryz.results60, go_sem]) rfl ⟨by simp [h1, h2], by exact tB⟩
  ·
   have k2 : ¬ (s.size : Int) ≤ 16 := by omega
   go_enter Tryz.func60, Tryz.ntmps60
   go_wp2_with fail
   refine bodyPost_ret (v := .bool false) (by simp [results, Tryz.results60, go_sem]) rfl ⟨by simp [h2], by exact tB⟩
 ·
  have k1 : ¬ (1 : Int) ≤ (s.size : Int) := by omega
  go_enter Tryz.func60, Tryz.ntmps60
  go_wp2_with fail
  refine bodyPost_ret (v := .bool false) (by simp [results, Tryz.results60, go_sem]) rfl ⟨by simp [h1], by exact tB⟩
theorem mayB_eq (s : ByteArray) (i : It4) : mayB s i = (keyB s && isP i.1 i.2.1 i.2.2.1 i.2.2.2) := by unfold mayB keyB isI; cases decide (1 ≤ s.size) <;> simp
theorem rSub (a b : It4) (ha : isI a = true) (hb : isI b = true) (w : World) : Calls Tryz.prog 65 #[itV a, itV b] w fun z w' => z = .returned (.tuple #[itV (subA a b).1, .bool (subA a b).2]) ∧ Below w.heap.size w w' := by
 unfold subA
 cases h : lessI a b with
 | true => exact refSub_2 _ _ _ _ _ _ _ _ w ha hb h
 | false => exact refSub_3 _ _ _ _ _ _ _ _ w ha hb h
theorem rAdd (a b : It4) (ha : isI a = true) (hb : isI b = true) (A : Option Addr) (w : World) (hx : Purses w w.heap.size A [a, b]) : Calls Tryz.prog 62 #[.slice A 2 2] w fun z w' => z = .returned (.tuple #[itV (addA a b).1, .bool (addA a b).2]) ∧ Below w.heap.size w w' := by
 refine (refAdd A 2 [a, b] w (by simp) hx).mono ?_
 rintro z w' ⟨rfl, hb'⟩
 refine ⟨?_, hb'⟩
 rw [addTwo a b ha hb]
 unfold addA
 cases isI (addI a b) <;> rfl
def RPutQ (B d x : Nat) (u2 : Value) (rr : Pm) (L : List Od) (last nx : Int) (s : ByteArray) (i : It4) (w : World) (e : Ending) (w' : World) : Prop :=
 (mayB s i = false ∧ e = .returned (.int .i64 1) ∧ Below w.heap.size w w') ∨
 (mayB s i = true ∧ isI (addI (hasP rr s.data.toList) i) = false ∧ e = .returned (.int .i64 6) ∧ Below w.heap.size w w') ∨
 (mayB s i = true ∧ isI (addI (hasP rr s.data.toList) i) = true ∧ e = .returned (.int .i64 0) ∧ SetR B d x u2 (setS s.data.toList (addI (hasP rr s.data.toList) i) rr) L last nx w w')
def RTakeQ (B d x : Nat) (u2 : Value) (rr : Pm) (L : List Od) (last nx : Int) (s : ByteArray) (i : It4) (w : World) (e : Ending) (w' : World) : Prop :=
 (mayB s i = false ∧ e = .returned (.int .i64 1) ∧ Below w.heap.size w w') ∨
 (mayB s i = true ∧ lessI (hasP rr s.data.toList) i = true ∧ e = .returned (.int .i64 14) ∧ Below w.heap.size w w') ∨
 (mayB s i = true ∧ lessI (hasP rr s.data.toList) i = false ∧ e = .returned (.int .i64 0) ∧ SetR B d x u2 (setS s.data.toList (subI (hasP rr s.data.toList) i) rr) L last nx w w')
set_option maxHeartbeats 4000000 in
set_option maxRecDepth 10000 in
theorem refTake (B d x : Nat) (u u2 : Value) (rr : Pm) (L : List Od) (last nx : Int) (s : ByteArray) (i : It4) (w : World) (h : RvH w B d x u u2 rr L last nx) (hok : RowOk rr) :
  Calls Tryz.prog 20 #[.pointer (some ⟨d, 0, none⟩), .string s, itV i] w fun e w' => RTakeQ B d x u2 rr L last nx s i w e w' := by
 cases hmay : mayB s i with
 | false =>
  have HM := Lib.hid hmay
  rw [mayB_eq] at hmay
  clear h hok
  obtain ⟨i0, i1, i2, i3⟩ := i
  unfold itV
  simp only at hmay ⊢
  have P0 : Whl (w.alloc (.cells #[.int .i64 i0, .int .i64 i1, .int .i64 i2, .int .i64 i3] 36)) w.heap.size 36 #[.int .i64 i0, .int .i64 i1, .int .i64 i2, .int .i64 i3] := Whl.new rfl
  have B0 : Below w.heap.size w (w.alloc (.cells #[.int .i64 i0, .int .i64 i1, .int .i64 i2, .int .i64 i3] 36)) := (Below.refl _ _).alloc (Nat.le_refl _) _
  have HP0 := Lib.hid P0
  have HB0 := Lib.hid B0
  clear P0 B0
  cases hkb : keyB s with
  | false =>
   have HKB := Lib.hid hkb
   clear hkb hmay
   go_enter Tryz.func20, Tryz.ntmps20
   go_wp2_with (first
    | (go_at_call 60; go_loud (refine (refIsKey s _).mono ?_; rintro e w2 ⟨he, hb2⟩; rw [HKB.out] at he; subst he; have HB2 := Lib.hid (HB0.out.trans (hb2.mono HB0.out.size)); have P2 := HP0.out.below hb2 HP0.out.low; have HP2 := Lib.hid P2; have y0 := P2.cell 0; have y1 := P2.cell 1; have y2 := P2.cell 2; have y3 := P2.cell 3; simp only [List.getElem?_toArray, List.getElem?_cons_succ, List.getElem?_cons_zero] at y0 y1 y2 y3; clear hb2 P2))
    | fail)
   have hb2 := HB2.out
   refine bodyPost_ret (v := .int .i64 1) (by simp [results, Tryz.results20, go_sem]) rfl (.inl ⟨HM.out, rfl, by exact tB⟩)
  | true =>
   rw [hkb, Bool.true_and] at hmay
   have HKB := Lib.hid hkb
   have HPI := Lib.hid hmay
   clear hkb hmay
   go_enter Tryz.func20, Tryz.ntmps20
   go_wp2_with (first
    | (go_at_call 60; go_loud (refine (refIsKey s _).mono ?_; rintro e w2 ⟨he, hb2⟩; rw [HKB.out] at he; subst he; have HB2 := Lib.hid (HB0.out.trans (hb2.mono HB0.out.size)); have P2 := HP0.out.below hb2 HP0.out.low; have HP2 := Lib.hid P2; have y0 := P2.cell 0; have y1 := P2.cell 1; have y2 := P2.cell 2; have y3 := P2.cell 3; simp only [List.getElem?_toArray, List.getElem?_cons_succ, List.getElem?_cons_zero] at y0 y1 y2 y3; clear hb2 P2))
    | (go_at_call 61; go_loud (refine (refPIs i0 i1 i2 i3 _).mono ?_; rintro e w3 ⟨he, hb3⟩; rw [HPI.out] at he; subst he))
    | fail)
   have hbw := HB2.out.trans (hb3.mono HB2.out.size)
   refine bodyPost_ret (v := .int .i64 1) (by simp [results, Tryz.results20, go_sem]) rfl (.inl ⟨HM.out, rfl, hbw⟩)
 | true =>
  obtain ⟨hk, hii⟩ := mayB_key hmay
  have HM := Lib.hid hmay
  rw [mayB_eq, Bool.and_eq_true] at hmay
  have HKB := Lib.hid hmay.1
  have hpi := hmay.2
  have HH := Lib.hid h
  have hbl := h.whl.low
  obtain ⟨r, hr⟩ : ∃ r, r = subA (hasP rr s.data.toList) i := ⟨_, rfl⟩
  have HSUB : Hid (∀ w, Calls Tryz.prog 65 #[itV (hasP rr s.data.toList), itV i] w fun z w' => z = .returned (.tuple #[itV r.1, .bool r.2]) ∧ Below w.heap.size w w') := Lib.hid (fun w => by rw [hr]; exact rSub _ _ (hok.is _) hii w)
  have HR := Lib.hid hr
  have HROK := Lib.hid hok
  clear hmay h hr hk hii hok
  obtain ⟨i0, i1, i2, i3⟩ := i
  obtain ⟨⟨r0, r1, r2, r3⟩, f⟩ := r
  simp only at hpi
  have HPI := Lib.hid hpi
  clear hpi
  unfold itV
  unfold itV at HSUB
  simp only at HSUB ⊢
  have P0 : Whl (w.alloc (.cells #[.int .i64 i0, .int .i64 i1, .int .i64 i2, .int .i64 i3] 36)) w.heap.size 36 #[.int .i64 i0, .int .i64 i1, .int .i64 i2, .int .i64 i3] := Whl.new rfl
  have B0 : Below w.heap.size w (w.alloc (.cells #[.int .i64 i0, .int .i64 i1, .int .i64 i2, .int .i64 i3] 36)) := (Below.refl _ _).alloc (Nat.le_refl _) _
  have HP0 := Lib.hid P0
  have HB0 := Lib.hid B0
  clear P0 B0
  go_enter Tryz.func20, Tryz.ntmps20
  go_wp2_with (first
   | (go_at_call 60; go_loud (refine (refIsKey s _).mono ?_; rintro e w2 ⟨he, hb2⟩; rw [HKB.out] at he; subst he; have HB2 := Lib.hid (HB0.out.trans (hb2.mono HB0.out.size)); have P2 := HP0.out.below hb2 HP0.out.low; have HP2 := Lib.hid P2; have y0 := P2.cell 0; have y1 := P2.cell 1; have y2 := P2.cell 2; have y3 := P2.cell 3; simp only [List.getElem?_toArray, List.getElem?_cons_succ, List.getElem?_cons_zero] at y0 y1 y2 y3; clear hb2 P2))
   | (go_at_call 61; go_loud (refine (refPIs i0 i1 i2 i3 _).mono ?_; rintro e w3 ⟨he, hb3⟩; rw [HPI.out] at he; subst he))
   | fail)
  have P3 := HP2.out.below hb3 HP2.out.low
  have HB3 := Lib.hid (HB2.out.trans (hb3.mono HB2.out.size))
  have HH3 := Lib.hid (HH.out.below HB3.out)
  have hs3 : w.heap.size < w3.heap.size := P3.low
  have x0 := P3.cell 0
  have x1 := P3.cell 1
  have x2 := P3.cell 2
  have x3 := P3.cell 3
  simp only [List.getElem?_toArray, List.getElem?_cons_succ, List.getElem?_cons_zero] at x0 x1 x2 x3
  clear P3 hb3 y0 y1 y2 y3
  refine wp_region_held_drew (S := (fun W => Below w3.heap.size w3 W ∧ W.cell? ⟨w.heap.size, 0, none⟩ = some (.int .i64 i0) ∧ W.cell? ⟨w.heap.size, 1, none⟩ = some (.int .i64 i1) ∧ W.cell? ⟨w.heap.size, 2, none⟩ = some (.int .i64 i2) ∧ W.cell? ⟨w.heap.size, 3, none⟩ = some (.int .i64 i3))) (by kernel_rfl) ⟨(Below.refl _ _).drew, x0, x1, x2, x3⟩ (fun hHeld => ?_)
  refine tkY 0 (some 18) ?v0t_1 rfl ?y0t_1 ?r0t_1
  case y0t_1 => exact tY
  case r0t_1 =>
  try simp only [q1,q2,q3,q4,q5]
  refine tkY 1 (some 19) ?v1t_4 rfl ?y1t_4 ?r1t_4
  case y1t_4 => exact tY
  case r1t_4 =>
  try simp only [q1,q2,q3,q4,q5]
  refine tkY 3 (some 21) ?v3t_7 rfl ?y3t_7 ?r3t_7
  case y3t_7 => exact tY
  case r3t_7 =>
  try simp only [q1,q2,q3,q4,q5]
  refine wpAnyH_ready (rs := [2, 8]) (by kernel_rfl) (by simp) ?_
  refine AllReadyH.cons (o := ⟨some 20, _, _, _, _, _⟩) rfl (fun K hK => ?_) (AllReadyH.cons (o := ⟨some 7, _, _, _, _, _⟩) rfl (fun K hK => ?_) AllReadyH.nil)
  ·
   go_simp
   refine (refHas d u rr s (a0 := (hasP rr s.data.toList).1) (a1 := (hasP rr s.data.toList).2.1) (a2 := (hasP rr s.data.toList).2.2.1) (a3 := (hasP rr s.data.toList).2.2.2) rfl _ (HH3.out.below hHeld.1).rl HROK.out.srt (by have := HROK.out.len; omega)).mono ?_; rintro e w4 ⟨rfl, hb4⟩
   go_wp2_with fail
   have hh := hHeld.1.trans (hb4.mono hHeld.1.size)
   refine hK.out _ _ k0Vb35 (fun hHeld => ?_)
   clear hK K
   try simp only [q1,q2,q3,q4,q5]
   refine wpAnyH_ready (rs := [4, 8]) (by kernel_rfl) (by simp) ?_
   refine AllReadyH.cons (o := ⟨some 22, _, _, _, _, _⟩) rfl (fun K hK => ?_) (AllReadyH.cons (o := ⟨some 7, _, _, _, _, _⟩) rfl (fun K hK => ?_) AllReadyH.nil)
   ·
    go_simp
    refine (HSUB.out _).mono ?_; rintro e w5 ⟨rfl, hb5⟩
    go_wp2_with fail
    have hh := hHeld.1.trans (hb5.mono hHeld.1.size)
    refine hK.out _ _ k0Vb35 (fun hHeld => ?_)
    clear hK K
    try simp only [q1,q2,q3,q4,q5]
    refine tkY 5 (some 17) ?v5t_28 rfl ?y5t_28 ?r5t_28
    case y5t_28 => exact tY
    case r5t_28 =>
    try simp only [q1,q2,q3,q4,q5]
    refine tkY 6 (some 23) ?v6t_31 rfl ?y6t_31 ?r6t_31
    case y6t_31 => exact tY
    case r6t_31 =>
    try simp only [q1,q2,q3,q4,q5]
    refine tkY 7 (some 24) ?v7t_34 rfl ?y7t_34 ?r7t_34
    case y7t_34 => exact tY
    case r7t_34 =>
    try simp only [q1,q2,q3,q4,q5]
    refine wpAnyH_ready (rs := [8]) (by kernel_rfl) (by simp) ?_
    refine AllReadyH.cons (o := ⟨some 7, _, _, _, _, _⟩) rfl (fun K hK => ?_) AllReadyH.nil
    go_simp
    have hh : Below w3.heap.size w3 (w5.alloc (.cells #[.int .i64 0, .int .i64 0, .int .i64 0, .int .i64 0] 36)) := hHeld.1.alloc hHeld.1.size (.cells #[.int .i64 0, .int .i64 0, .int .i64 0, .int .i64 0] 36)
    have P7 : Whl (w5.alloc (.cells #[.int .i64 0, .int .i64 0, .int .i64 0, .int .i64 0] 36)) w5.heap.size 36 #[.int .i64 0, .int .i64 0, .int .i64 0, .int .i64 0] := Whl.new rfl
    have hal : w3.heap.size ≤ w5.heap.size := hHeld.1.size
    generalize w5.alloc (.cells #[.int .i64 0, .int .i64 0, .int .i64 0, .int .i64 0] 36) = w7 at hh P7 ⊢
    refine hK.out _ _ k0Vb35 (fun hHeld => ?_)
    clear hK K
    try simp only [q1,q2,q3,q4,q5]
    refine wpAnyH_ready (rs := [9]) (by kernel_rfl) (by simp) ?_
    refine AllReadyH.cons (o := ⟨none, _, _, _, _, _⟩) rfl (fun K hK => ?_) AllReadyH.nil
    have f0 := P7.free 0
    have f1 := P7.free 1
    have f2 := P7.free 2
    have f3 := P7.free 3
    have c0 := P7.cell 0
    have c1 := P7.cell 1
    have c2 := P7.cell 2
    have c3 := P7.cell 3
    simp only [List.getElem?_toArray, List.getElem?_cons_succ, List.getElem?_cons_zero] at c0 c1 c2 c3
    go_simp
    have hh : Below w3.heap.size w3 ((((w7.setCell ⟨w5.heap.size, 0, none⟩ (.int .i64 r0)).setCell ⟨w5.heap.size, 1, none⟩ (.int .i64 r1)).setCell ⟨w5.heap.size, 2, none⟩ (.int .i64 r2)).setCell ⟨w5.heap.size, 3, none⟩ (.int .i64 r3)) := (((hHeld.1.setCell hal _).setCell hal _).setCell hal _).setCell hal _
    have P9 : Whl ((((w7.setCell ⟨w5.heap.size, 0, none⟩ (.int .i64 r0)).setCell ⟨w5.heap.size, 1, none⟩ (.int .i64 r1)).setCell ⟨w5.heap.size, 2, none⟩ (.int .i64 r2)).setCell ⟨w5.heap.size, 3, none⟩ (.int .i64 r3)) w5.heap.size 36 #[.int .i64 r0, .int .i64 r1, .int .i64 r2, .int .i64 r3] := (((P7.set 0 _).set 1 _).set 2 _).set 3 _
    show K _ ((((w7.setCell ⟨w5.heap.size, 0, none⟩ (.int .i64 r0)).setCell ⟨w5.heap.size, 1, none⟩ (.int .i64 r1)).setCell ⟨w5.heap.size, 2, none⟩ (.int .i64 r2)).setCell ⟨w5.heap.size, 3, none⟩ (.int .i64 r3))
    generalize ((((w7.setCell ⟨w5.heap.size, 0, none⟩ (.int .i64 r0)).setCell ⟨w5.heap.size, 1, none⟩ (.int .i64 r1)).setCell ⟨w5.heap.size, 2, none⟩ (.int .i64 r2)).setCell ⟨w5.heap.size, 3, none⟩ (.int .i64 r3)) = V9 at hh P9 ⊢
    clear P7 f0 f1 f2 f3 c0 c1 c2 c3
    refine hK.out _ _ k0Vb35 (fun hHeld => ?_)
    clear hK K
    try simp only [q1,q2,q3,q4,q5]
    refine tkY 10 (some 8) ?v10t_67 rfl ?y10t_67 ?r10t_67
    case y10t_67 => exact tY
    case r10t_67 =>
    try simp only [q1,q2,q3,q4,q5]
    refine wpAnyH_done (by kernel_rfl) ?_ _
    have HHV := Lib.hid (HH3.out.below hHeld.1)
    have HB9 := Lib.hid (HB3.out.trans (hHeld.1.mono (by omega)))
    have d0 := P9.cell 0
    have d1 := P9.cell 1
    have d2 := P9.cell 2
    have d3 := P9.cell 3
    simp only [List.getElem?_toArray, List.getElem?_cons_succ, List.getElem?_cons_zero] at d0 d1 d2 d3
    cases f with
    | false =>
     go_wp2_with fail
     refine bodyPost_ret (v := .int .i64 14) (by simp [results, Tryz.results20, go_sem]) rfl (.inr (.inl ⟨HM.out, subA_no HR.out, rfl, HB9.out⟩))
    | true =>
     obtain ⟨hless, hr⟩ := subA_yes HR.out
     have HLE := Lib.hid hless
     have HRR := Lib.hid hr
     go_wp2_with (first
      | (go_at_call 63; go_loud (refine (refSet B d x u u2 rr L last nx s r0 r1 r2 r3 _ HHV.out HROK.out.len).mono ?_; rintro e w10 ⟨u', rfl, hq⟩; rw [HRR.out] at hq; have HQ := Lib.hid (SetR.ahead HB9.out ⟨u', hq⟩); clear hq))
      | fail)
     refine bodyPost_ret (v := .int .i64 0) (by simp [results, Tryz.results20, go_sem]) rfl (.inr (.inr ⟨HM.out, HLE.out, rfl, HQ.out⟩))
   ·
    go_simp
    have hh : Below w3.heap.size w3 (w4.alloc (.cells #[.int .i64 0, .int .i64 0, .int .i64 0, .int .i64 0] 36)) := hHeld.1.alloc hHeld.1.size (.cells #[.int .i64 0, .int .i64 0, .int .i64 0, .int .i64 0] 36)
    have P7 : Whl (w4.alloc (.cells #[.int .i64 0, .int .i64 0, .int .i64 0, .int .i64 0] 36)) w4.heap.size 36 #[.int .i64 0, .int .i64 0, .int .i64 0, .int .i64 0] := Whl.new rfl
    have hal : w3.heap.size ≤ w4.heap.size := hHeld.1.size
    generalize w4.alloc (.cells #[.int .i64 0, .int .i64 0, .int .i64 0, .int .i64 0] 36) = w7 at hh P7 ⊢
    refine hK.out _ _ k0Vb35 (fun hHeld => ?_)
    clear hK K
    try simp only [q1,q2,q3,q4,q5]
    refine wpAnyH_ready (rs := [4]) (by kernel_rfl) (by simp) ?_
    refine AllReadyH.cons (o := ⟨some 22, _, _, _, _, _⟩) rfl (fun K hK => ?_) AllReadyH.nil
    go_simp
    refine (HSUB.out _).mono ?_; rintro e w5 ⟨rfl, hb5⟩
    go_wp2_with fail
    have hh := hHeld.1.trans (hb5.mono hHeld.1.size)
    have P7 := P7.below hb5 P7.low
    refine hK.out _ _ k0Vb35 (fun hHeld => ?_)
    clear hK K
    try simp only [q1,q2,q3,q4,q5]
    refine tkY 5 (some 17) ?v5t_108 rfl ?y5t_108 ?r5t_108
    case y5t_108 => exact tY
    case r5t_108 =>
    try simp only [q1,q2,q3,q4,q5]
    refine tkY 6 (some 23) ?v6t_111 rfl ?y6t_111 ?r6t_111
    case y6t_111 => exact tY
    case r6t_111 =>
    try simp only [q1,q2,q3,q4,q5]
    refine tkY 7 (some 24) ?v7t_114 rfl ?y7t_114 ?r7t_114
    case y7t_114 => exact tY
    case r7t_114 =>
    try simp only [q1,q2,q3,q4,q5]
    refine wpAnyH_ready (rs := [9]) (by kernel_rfl) (by simp) ?_
    refine AllReadyH.cons (o := ⟨none, _, _, _, _, _⟩) rfl (fun K hK => ?_) AllReadyH.nil
    have f0 := P7.free 0
    have f1 := P7.free 1
    have f2 := P7.free 2
    have f3 := P7.free 3
    have c0 := P7.cell 0
    have c1 := P7.cell 1
    have c2 := P7.cell 2
    have c3 := P7.cell 3
    simp only [List.getElem?_toArray, List.getElem?_cons_succ, List.getElem?_cons_zero] at c0 c1 c2 c3
    go_simp
    have hh : Below w3.heap.size w3 ((((w5.setCell ⟨w4.heap.size, 0, none⟩ (.int .i64 r0)).setCell ⟨w4.heap.size, 1, none⟩ (.int .i64 r1)).setCell ⟨w4.heap.size, 2, none⟩ (.int .i64 r2)).setCell ⟨w4.heap.size, 3, none⟩ (.int .i64 r3)) := (((hHeld.1.setCell hal _).setCell hal _).setCell hal _).setCell hal _
    have P9 : Whl ((((w5.setCell ⟨w4.heap.size, 0, none⟩ (.int .i64 r0)).setCell ⟨w4.heap.size, 1, none⟩ (.int .i64 r1)).setCell ⟨w4.heap.size, 2, none⟩ (.int .i64 r2)).setCell ⟨w4.heap.size, 3, none⟩ (.int .i64 r3)) w4.heap.size 36 #[.int .i64 r0, .int .i64 r1, .int .i64 r2, .int .i64 r3] := (((P7.set 0 _).set 1 _).set 2 _).set 3 _
    show K _ ((((w5.setCell ⟨w4.heap.size, 0, none⟩ (.int .i64 r0)).setCell ⟨w4.heap.size, 1, none⟩ (.int .i64 r1)).setCell ⟨w4.heap.size, 2, none⟩ (.int .i64 r2)).setCell ⟨w4.heap.size, 3, none⟩ (.int .i64 r3))
    generalize ((((w5.setCell ⟨w4.heap.size, 0, none⟩ (.int .i64 r0)).setCell ⟨w4.heap.size, 1, none⟩ (.int .i64 r1)).setCell ⟨w4.heap.size, 2, none⟩ (.int .i64 r2)).setCell ⟨w4.heap.size, 3, none⟩ (.int .i64 r3)) = V9 at hh P9 ⊢
    clear P7 f0 f1 f2 f3 c0 c1 c2 c3
    refine hK.out _ _ k0Vb35 (fun hHeld => ?_)
    clear hK K
    try simp only [q1,q2,q3,q4,q5]
    refine tkY 10 (some 8) ?v10t_137 rfl ?y10t_137 ?r10t_137
    case y10t_137 => exact tY
    case r10t_137 =>
    try simp only [q1,q2,q3,q4,q5]
    refine wpAnyH_done (by kernel_rfl) ?_ _
    have HHV := Lib.hid (HH3.out.below hHeld.1)
    have HB9 := Lib.hid (HB3.out.trans (hHeld.1.mono (by omega)))
    have d0 := P9.cell 0
    have d1 := P9.cell 1
    have d2 := P9.cell 2
    have d3 := P9.cell 3
    simp only [List.getElem?_toArray, List.getElem?_cons_succ, List.getElem?_cons_zero] at d0 d1 d2 d3
    cases f with
    | false =>
     go_wp2_with fail
     refine bodyPost_ret (v := .int .i64 14) (by simp [results, Tryz.results20, go_sem]) rfl (.inr (.inl ⟨HM.out, subA_no HR.out, rfl, HB9.out⟩))
    | true =>
     obtain ⟨hless, hr⟩ := subA_yes HR.out
     have HLE := Lib.hid hless
     have HRR := Lib.hid hr
     go_wp2_with (first
      | (go_at_call 63; go_loud (refine (refSet B d x u u2 rr L last nx s r0 r1 r2 r3 _ HHV.out HROK.out.len).mono ?_; rintro e w10 ⟨u', rfl, hq⟩; rw [HRR.out] at hq; have HQ := Lib.hid (SetR.ahead HB9.out ⟨u', hq⟩); clear hq))
      | fail)
     refine bodyPost_ret (v := .int .i64 0) (by simp [results, Tryz.results20, go_sem]) rfl (.inr (.inr ⟨HM.out, HLE.out, rfl, HQ.out⟩))
  ·
   go_simp
   have hh : Below w3.heap.size w3 ((w3.alloc (.cells #[.int .i64 0, .int .i64 0, .int .i64 0, .int .i64 0] 36)).drew) := ((Below.refl w3.heap.size w3).alloc (Nat.le_refl _) (.cells #[.int .i64 0, .int .i64 0, .int .i64 0, .int .i64 0] 36)).drew
   have P7 : Whl ((w3.alloc (.cells #[.int .i64 0, .int .i64 0, .int .i64 0, .int .i64 0] 36)).drew) w3.heap.size 36 #[.int .i64 0, .int .i64 0, .int .i64 0, .int .i64 0] := Whl.new rfl
   have hal : w3.heap.size ≤ w3.heap.size := Nat.le_refl _
   generalize (w3.alloc (.cells #[.int .i64 0, .int .i64 0, .int .i64 0, .int .i64 0] 36)).drew = w7 at hh P7 ⊢
   refine hK.out _ _ k0Vb35 (fun hHeld => ?_)
   clear hK K
   try simp only [q1,q2,q3,q4,q5]
   refine wpAnyH_ready (rs := [2]) (by kernel_rfl) (by simp) ?_
   refine AllReadyH.cons (o := ⟨some 20, _, _, _, _, _⟩) rfl (fun K hK => ?_) AllReadyH.nil
   go_simp
   refine (refHas d u rr s (a0 := (hasP rr s.data.toList).1) (a1 := (hasP rr s.data.toList).2.1) (a2 := (hasP rr s.data.toList).2.2.1) (a3 := (hasP rr s.data.toList).2.2.2) rfl _ (HH3.out.below hHeld.1).rl HROK.out.srt (by have := HROK.out.len; omega)).mono ?_; rintro e w4 ⟨rfl, hb4⟩
   go_wp2_with fail
   have hh := hHeld.1.trans (hb4.mono hHeld.1.size)
   have P7 := P7.below hb4 P7.low
   refine hK.out _ _ k0Vb35 (fun hHeld => ?_)
   clear hK K
   try simp only [q1,q2,q3,q4,q5]
   refine wpAnyH_ready (rs := [4]) (by kernel_rfl) (by simp) ?_
   refine AllReadyH.cons (o := ⟨some 22, _, _, _, _, _⟩) rfl (fun K hK => ?_) AllReadyH.nil
   go_simp
   refine (HSUB.out _).mono ?_; rintro e w5 ⟨rfl, hb5⟩
   go_wp2_with fail
   have hh := hHeld.1.trans (hb5.mono hHeld.1.size)
   have P7 := P7.below hb5 P7.low
   refine hK.out _ _ k0Vb35 (fun hHeld => ?_)
   clear hK K
   try simp only [q1,q2,q3,q4,q5]
   refine tkY 5 (some 17) ?v5t_188 rfl ?y5t_188 ?r5t_188
   case y5t_188 => exact tY
   case r5t_188 =>
   try simp only [q1,q2,q3,q4,q5]
   refine tkY 6 (some 23) ?v6t_191 rfl ?y6t_191 ?r6t_191
   case y6t_191 => exact tY
   case r6t_191 =>
   try simp only [q1,q2,q3,q4,q5]
   refine tkY 7 (some 24) ?v7t_194 rfl ?y7t_194 ?r7t_194
   case y7t_194 => exact tY
   case r7t_194 =>
   try simp only [q1,q2,q3,q4,q5]
   refine wpAnyH_ready (rs := [9]) (by kernel_rfl) (by simp) ?_
   refine AllReadyH.cons (o := ⟨none, _, _, _, _, _⟩) rfl (fun K hK => ?_) AllReadyH.nil
   have f0 := P7.free 0
   have f1 := P7.free 1
   have f2 := P7.free 2
   have f3 := P7.free 3
   have c0 := P7.cell 0
   have c1 := P7.cell 1
   have c2 := P7.cell 2
   have c3 := P7.cell 3
   simp only [List.getElem?_toArray, List.getElem?_cons_succ, List.getElem?_cons_zero] at c0 c1 c2 c3
   go_simp
   have hh : Below w3.heap.size w3 ((((w5.setCell ⟨w3.heap.size, 0, none⟩ (.int .i64 r0)).setCell ⟨w3.heap.size, 1, none⟩ (.int .i64 r1)).setCell ⟨w3.heap.size, 2, none⟩ (.int .i64 r2)).setCell ⟨w3.heap.size, 3, none⟩ (.int .i64 r3)) := (((hHeld.1.setCell hal _).setCell hal _).setCell hal _).setCell hal _
   have P9 : Whl ((((w5.setCell ⟨w3.heap.size, 0, none⟩ (.int .i64 r0)).setCell ⟨w3.heap.size, 1, none⟩ (.int .i64 r1)).setCell ⟨w3.heap.size, 2, none⟩ (.int .i64 r2)).setCell ⟨w3.heap.size, 3, none⟩ (.int .i64 r3)) w3.heap.size 36 #[.int .i64 r0, .int .i64 r1, .int .i64 r2, .int .i64 r3] := (((P7.set 0 _).set 1 _).set 2 _).set 3 _
   show K _ ((((w5.setCell ⟨w3.heap.size, 0, none⟩ (.int .i64 r0)).setCell ⟨w3.heap.size, 1, none⟩ (.int .i64 r1)).setCell ⟨w3.heap.size, 2, none⟩ (.int .i64 r2)).setCell ⟨w3.heap.size, 3, none⟩ (.int .i64 r3))
   generalize ((((w5.setCell ⟨w3.heap.size, 0, none⟩ (.int .i64 r0)).setCell ⟨w3.heap.size, 1, none⟩ (.int .i64 r1)).setCell ⟨w3.heap.size, 2, none⟩ (.int .i64 r2)).setCell ⟨w3.heap.size, 3, none⟩ (.int .i64 r3)) = V9 at hh P9 ⊢
   clear P7 f0 f1 f2 f3 c0 c1 c2 c3
   refine hK.out _ _ k0Vb35 (fun hHeld => ?_)
   clear hK K
   try simp only [q1,q2,q3,q4,q5]
   refine tkY 10 (some 8) ?v10t_217 rfl ?y10t_217 ?r10t_217
   case y10t_217 => exact tY
   case r10t_217 =>
   try simp only [q1,q2,q3,q4,q5]
   refine wpAnyH_done (by kernel_rfl) ?_ _
   have HHV := Lib.hid (HH3.out.below hHeld.1)
   have HB9 := Lib.hid (HB3.out.trans (hHeld.1.mono (by omega)))
   have d0 := P9.cell 0
   have d1 := P9.cell 1
   have d2 := P9.cell 2
   have d3 := P9.cell 3
   simp only [List.getElem?_toArray, List.getElem?_cons_succ, List.getElem?_cons_zero] at d0 d1 d2 d3
   cases f with
   | false =>
    go_wp2_with fail
    refine bodyPost_ret (v := .int .i64 14) (by simp [results, Tryz.results20, go_sem]) rfl (.inr (.inl ⟨HM.out, subA_no HR.out, rfl, HB9.out⟩))
   | true =>
    obtain ⟨hless, hr⟩ := subA_yes HR.out
    have HLE := Lib.hid hless
    have HRR := Lib.hid hr
    go_wp2_with (first
     | (go_at_call 63; go_loud (refine (refSet B d x u u2 rr L last nx s r0 r1 r2 r3 _ HHV.out HROK.out.len).mono ?_; rintro e w10 ⟨u', rfl, hq⟩; rw [HRR.out] at hq; have HQ := Lib.hid (SetR.ahead HB9.out ⟨u', hq⟩); clear hq))
     | fail)
    refine bodyPost_ret (v := .int .i64 0) (by simp [results, Tryz.results20, go_sem]) rfl (.inr (.inr ⟨HM.out, HLE.out, rfl, HQ.out⟩))
set_option maxHeartbeats 4000000 in
set_option maxRecDepth 10000 in
theorem refPut (B d x : Nat) (u u2 : Value) (rr : Pm) (L : List Od) (last nx : Int) (s : ByteArray) (i : It4) (w : World) (h : RvH w B d x u u2 rr L last nx) (hok : RowOk rr) :
  Calls Tryz.prog 18 #[.pointer (some ⟨d, 0, none⟩), .string s, itV i] w fun e w' => RPutQ B d x u2 rr L last nx s i w e w' := by
 cases hmay : mayB s i with
 | false =>
  have HM := Lib.hid hmay
  rw [mayB_eq] at hmay
  clear h hok
  obtain ⟨i0, i1, i2, i3⟩ := i
  unfold itV
  simp only at hmay ⊢
  have P0 : Whl (w.alloc (.cells #[.int .i64 i0, .int .i64 i1, .int .i64 i2, .int .i64 i3] 36)) w.heap.size 36 #[.int .i64 i0, .int .i64 i1, .int .i64 i2, .int .i64 i3] := Whl.new rfl
  have B0 : Below w.heap.size w (w.alloc (.cells #[.int .i64 i0, .int .i64 i1, .int .i64 i2, .int .i64 i3] 36)) := (Below.refl _ _).alloc (Nat.le_refl _) _
  have HP0 := Lib.hid P0
  have HB0 := Lib.hid B0
  clear P0 B0
  cases hkb : keyB s with
  | false =>
   have HKB := Lib.hid hkb
   clear hkb hmay
   go_enter Tryz.func18, Tryz.ntmps18
   go_wp2_with (first
    | (go_at_call 60; go_loud (refine (refIsKey s _).mono ?_; rintro e w2 ⟨he, hb2⟩; rw [HKB.out] at he; subst he; have HB2 := Lib.hid (HB0.out.trans (hb2.mono HB0.out.size)); have P2 := HP0.out.below hb2 HP0.out.low; have HP2 := Lib.hid P2; have y0 := P2.cell 0; have y1 := P2.cell 1; have y2 := P2.cell 2; have y3 := P2.cell 3; simp only [List.getElem?_toArray, List.getElem?_cons_succ, List.getElem?_cons_zero] at y0 y1 y2 y3; clear hb2 P2))
    | fail)
   have hb2 := HB2.out
   refine bodyPost_ret (v := .int .i64 1) (by simp [results, Tryz.results18, go_sem]) rfl (.inl ⟨HM.out, rfl, by exact tB⟩)
  | true =>
   rw [hkb, Bool.true_and] at hmay
   have HKB := Lib.hid hkb
   have HPI := Lib.hid hmay
   clear hkb hmay
   go_enter Tryz.func18, Tryz.ntmps18
   go_wp2_with (first
    | (go_at_call 60; go_loud (refine (refIsKey s _).mono ?_; rintro e w2 ⟨he, hb2⟩; rw [HKB.out] at he; subst he; have HB2 := Lib.hid (HB0.out.trans (hb2.mono HB0.out.size)); have P2 := HP0.out.below hb2 HP0.out.low; have HP2 := Lib.hid P2; have y0 := P2.cell 0; have y1 := P2.cell 1; have y2 := P2.cell 2; have y3 := P2.cell 3; simp only [List.getElem?_toArray, List.getElem?_cons_succ, List.getElem?_cons_zero] at y0 y1 y2 y3; clear hb2 P2))
    | (go_at_call 61; go_loud (refine (refPIs i0 i1 i2 i3 _).mono ?_; rintro e w3 ⟨he, hb3⟩; rw [HPI.out] at he; subst he))
    | fail)
   have hbw := HB2.out.trans (hb3.mono HB2.out.size)
   refine bodyPost_ret (v := .int .i64 1) (by simp [results, Tryz.results18, go_sem]) rfl (.inl ⟨HM.out, rfl, hbw⟩)
 | true =>
  obtain ⟨hk, hii⟩ := mayB_key hmay
  have HM := Lib.hid hmay
  rw [mayB_eq, Bool.and_eq_true] at hmay
  have HKB := Lib.hid hmay.1
  have hpi := hmay.2
  have HH := Lib.hid h
  have hbl := h.whl.low
  obtain ⟨r, hr⟩ : ∃ r, r = addA (hasP rr s.data.toList) i := ⟨_, rfl⟩
  have HADD : Hid (∀ A w, Purses w w.heap.size A [hasP rr s.data.toList, i] → Calls Tryz.prog 62 #[.slice A 2 2] w fun z w' => z = .returned (.tuple #[itV r.1, .bool r.2]) ∧ Below w.heap.size w w') := Lib.hid (fun A w hx => by rw [hr]; exact rAdd _ _ (hok.is _) hii A w hx)
  have HR := Lib.hid hr
  have HROK := Lib.hid hok
  clear hmay h hr hk hii hok
  obtain ⟨i0, i1, i2, i3⟩ := i
  obtain ⟨⟨r0, r1, r2, r3⟩, f⟩ := r
  simp only at hpi
  have HPI := Lib.hid hpi
  clear hpi
  unfold itV
  unfold itV at HADD
  simp only at HADD ⊢
  have P0 : Whl (w.alloc (.cells #[.int .i64 i0, .int .i64 i1, .int .i64 i2, .int .i64 i3] 36)) w.heap.size 36 #[.int .i64 i0, .int .i64 i1, .int .i64 i2, .int .i64 i3] := Whl.new rfl
  have B0 : Below w.heap.size w (w.alloc (.cells #[.int .i64 i0, .int .i64 i1, .int .i64 i2, .int .i64 i3] 36)) := (Below.refl _ _).alloc (Nat.le_refl _) _
  have HP0 := Lib.hid P0
  have HB0 := Lib.hid B0
  clear P0 B0
  go_enter Tryz.func18, Tryz.ntmps18
  go_wp2_with (first
   | (go_at_call 60; go_loud (refine (refIsKey s _).mono ?_; rintro e w2 ⟨he, hb2⟩; rw [HKB.out] at he; subst he; have HB2 := Lib.hid (HB0.out.trans (hb2.mono HB0.out.size)); have P2 := HP0.out.below hb2 HP0.out.low; have HP2 := Lib.hid P2; have y0 := P2.cell 0; have y1 := P2.cell 1; have y2 := P2.cell 2; have y3 := P2.cell 3; simp only [List.getElem?_toArray, List.getElem?_cons_succ, List.getElem?_cons_zero] at y0 y1 y2 y3; clear hb2 P2))
   | (go_at_call 61; go_loud (refine (refPIs i0 i1 i2 i3 _).mono ?_; rintro e w3 ⟨he, hb3⟩; rw [HPI.out] at he; subst he))
   | fail)
  have P3 := HP2.out.below hb3 HP2.out.low
  have HB3 := Lib.hid (HB2.out.trans (hb3.mono HB2.out.size))
  have HH3 := Lib.hid (HH.out.below HB3.out)
  have hs3 : w.heap.size < w3.heap.size := P3.low
  have x0 := P3.cell 0
  have x1 := P3.cell 1
  have x2 := P3.cell 2
  have x3 := P3.cell 3
  simp only [List.getElem?_toArray, List.getElem?_cons_succ, List.getElem?_cons_zero] at x0 x1 x2 x3
  clear P3 hb3 y0 y1 y2 y3
  refine wp_region_held_drew (S := (fun W => Below w3.heap.size w3 W ∧ W.cell? ⟨w.heap.size, 0, none⟩ = some (.int .i64 i0) ∧ W.cell? ⟨w.heap.size, 1, none⟩ = some (.int .i64 i1) ∧ W.cell? ⟨w.heap.size, 2, none⟩ = some (.int .i64 i2) ∧ W.cell? ⟨w.heap.size, 3, none⟩ = some (.int .i64 i3))) (by kernel_rfl) ⟨(Below.refl _ _).drew, x0, x1, x2, x3⟩ (fun hHeld => ?_)
  refine tkY 0 (some 18) ?v0t_1 rfl ?y0t_1 ?r0t_1
  case y0t_1 => exact tY
  case r0t_1 =>
  try simp only [q1,q2,q3,q4,q5]
  refine tkY 1 (some 19) ?v1t_4 rfl ?y1t_4 ?r1t_4
  case y1t_4 => exact tY
  case r1t_4 =>
  try simp only [q1,q2,q3,q4,q5]
  refine tkY 3 (some 21) ?v3t_7 rfl ?y3t_7 ?r3t_7
  case y3t_7 => exact tY
  case r3t_7 =>
  try simp only [q1,q2,q3,q4,q5]
  refine wpAnyH_ready (rs := [2, 9]) (by kernel_rfl) (by simp) ?_
  refine AllReadyH.cons (o := ⟨some 20, _, _, _, _, _⟩) rfl (fun K hK => ?_) (AllReadyH.cons (o := ⟨some 7, _, _, _, _, _⟩) rfl (fun K hK => ?_) AllReadyH.nil)
  ·
   go_simp
   refine (refHas d u rr s (a0 := (hasP rr s.data.toList).1) (a1 := (hasP rr s.data.toList).2.1) (a2 := (hasP rr s.data.toList).2.2.1) (a3 := (hasP rr s.data.toList).2.2.2) rfl _ (HH3.out.below hHeld.1).rl HROK.out.srt (by have := HROK.out.len; omega)).mono ?_; rintro e w4 ⟨rfl, hb4⟩
   go_wp2_with fail
   have hh := hHeld.1.trans (hb4.mono hHeld.1.size)
   refine hK.out _ _ k0Vb35 (fun hHeld => ?_)
   clear hK K
   try simp only [q1,q2,q3,q4,q5]
   refine wpAnyH_ready (rs := [4, 9]) (by kernel_rfl) (by simp) ?_
   refine AllReadyH.cons (o := ⟨some 22, _, _, _, _, _⟩) rfl (fun K hK => ?_) (AllReadyH.cons (o := ⟨some 7, _, _, _, _, _⟩) rfl (fun K hK => ?_) AllReadyH.nil)
   ·
    go_simp
    have hh := hHeld.1.alloc hHeld.1.size (.cells #[.int .i64 (hasP rr s.data.toList).1, .int .i64 (hasP rr s.data.toList).2.1, .int .i64 (hasP rr s.data.toList).2.2.1, .int .i64 (hasP rr s.data.toList).2.2.2, .int .i64 i0, .int .i64 i1, .int .i64 i2, .int .i64 i3] 36)
    have P6 : Whl (w4.alloc (.cells #[.int .i64 (hasP rr s.data.toList).1, .int .i64 (hasP rr s.data.toList).2.1, .int .i64 (hasP rr s.data.toList).2.2.1, .int .i64 (hasP rr s.data.toList).2.2.2, .int .i64 i0, .int .i64 i1, .int .i64 i2, .int .i64 i3] 36)) w4.heap.size 36 #[.int .i64 (hasP rr s.data.toList).1, .int .i64 (hasP rr s.data.toList).2.1, .int .i64 (hasP rr s.data.toList).2.2.1, .int .i64 (hasP rr s.data.toList).2.2.2, .int .i64 i0, .int .i64 i1, .int .i64 i2, .int .i64 i3] := Whl.new rfl
    generalize w4.alloc (.cells #[.int .i64 (hasP rr s.data.toList).1, .int .i64 (hasP rr s.data.toList).2.1, .int .i64 (hasP rr s.data.toList).2.2.1, .int .i64 (hasP rr s.data.toList).2.2.2, .int .i64 i0, .int .i64 i1, .int .i64 i2, .int .i64 i3] 36) = w6 at hh P6 ⊢
    refine hK.out _ _ k0Vb35 (fun hHeld => ?_)
    clear hK K
    try simp only [q1,q2,q3,q4,q5]
    refine wpAnyH_ready (rs := [5, 9]) (by kernel_rfl) (by simp) ?_
    refine AllReadyH.cons (o := ⟨some 23, _, _, _, _, _⟩) rfl (fun K hK => ?_) (AllReadyH.cons (o := ⟨some 7, _, _, _, _, _⟩) rfl (fun K hK => ?_) AllReadyH.nil)
    ·
     have hPU := pursesTwoI (a := hasP rr s.data.toList) (b := (i0, i1, i2, i3)) P6.low (P6.cell 0) (P6.cell 1) (P6.cell 2) (P6.cell 3) (P6.cell 4) (P6.cell 5) (P6.cell 6) (P6.cell 7)
     go_simp
     refine (HADD.out _ _ hPU).mono ?_; rintro e w5 ⟨rfl, hb5⟩
     go_wp2_with fail
     have hh := hHeld.1.trans (hb5.mono hHeld.1.size)
     clear hPU P6
     refine hK.out _ _ k0Vb35 (fun hHeld => ?_)
     clear hK K
     try simp only [q1,q2,q3,q4,q5]
     refine tkY 6 (some 17) ?v6t_39 rfl ?y6t_39 ?r6t_39
     case y6t_39 => exact tY
     case r6t_39 =>
     try simp only [q1,q2,q3,q4,q5]
     refine tkY 7 (some 24) ?v7t_42 rfl ?y7t_42 ?r7t_42
     case y7t_42 => exact tY
     case r7t_42 =>
     try simp only [q1,q2,q3,q4,q5]
     refine tkY 8 (some 25) ?v8t_45 rfl ?y8t_45 ?r8t_45
     case y8t_45 => exact tY
     case r8t_45 =>
     try simp only [q1,q2,q3,q4,q5]
     refine wpAnyH_ready (rs := [9]) (by kernel_rfl) (by simp) ?_
     refine AllReadyH.cons (o := ⟨some 7, _, _, _, _, _⟩) rfl (fun K hK => ?_) AllReadyH.nil
     go_simp
     have hh : Below w3.heap.size w3 (w5.alloc (.cells #[.int .i64 0, .int .i64 0, .int .i64 0, .int .i64 0] 36)) := hHeld.1.alloc hHeld.1.size (.cells #[.int .i64 0, .int .i64 0, .int .i64 0, .int .i64 0] 36)
     have P7 : Whl (w5.alloc (.cells #[.int .i64 0, .int .i64 0, .int .i64 0, .int .i64 0] 36)) w5.heap.size 36 #[.int .i64 0, .int .i64 0, .int .i64 0, .int .i64 0] := Whl.new rfl
     have hal : w3.heap.size ≤ w5.heap.size := hHeld.1.size
     generalize w5.alloc (.cells #[.int .i64 0, .int .i64 0, .int .i64 0, .int .i64 0] 36) = w7 at hh P7 ⊢
     refine hK.out _ _ k0Vb35 (fun hHeld => ?_)
     clear hK K
     try simp only [q1,q2,q3,q4,q5]
     refine wpAnyH_ready (rs := [10]) (by kernel_rfl) (by simp) ?_
     refine AllReadyH.cons (o := ⟨none, _, _, _, _, _⟩) rfl (fun K hK => ?_) AllReadyH.nil
     have f0 := P7.free 0
     have f1 := P7.free 1
     have f2 := P7.free 2
     have f3 := P7.free 3
     have c0 := P7.cell 0
     have c1 := P7.cell 1
     have c2 := P7.cell 2
     have c3 := P7.cell 3
     simp only [List.getElem?_toArray, List.getElem?_cons_succ, List.getElem?_cons_zero] at c0 c1 c2 c3
     go_simp
     have hh : Below w3.heap.size w3 ((((w7.setCell ⟨w5.heap.size, 0, none⟩ (.int .i64 r0)).setCell ⟨w5.heap.size, 1, none⟩ (.int .i64 r1)).setCell ⟨w5.heap.size, 2, none⟩ (.int .i64 r2)).setCell ⟨w5.heap.size, 3, none⟩ (.int .i64 r3)) := (((hHeld.1.setCell hal _).setCell hal _).setCell hal _).setCell hal _
     have P9 : Whl ((((w7.setCell ⟨w5.heap.size, 0, none⟩ (.int .i64 r0)).setCell ⟨w5.heap.size, 1, none⟩ (.int .i64 r1)).setCell ⟨w5.heap.size, 2, none⟩ (.int .i64 r2)).setCell ⟨w5.heap.size, 3, none⟩ (.int .i64 r3)) w5.heap.size 36 #[.int .i64 r0, .int .i64 r1, .int .i64 r2, .int .i64 r3] := (((P7.set 0 _).set 1 _).set 2 _).set 3 _
     show K _ ((((w7.setCell ⟨w5.heap.size, 0, none⟩ (.int .i64 r0)).setCell ⟨w5.heap.size, 1, none⟩ (.int .i64 r1)).setCell ⟨w5.heap.size, 2, none⟩ (.int .i64 r2)).setCell ⟨w5.heap.size, 3, none⟩ (.int .i64 r3))
     generalize ((((w7.setCell ⟨w5.heap.size, 0, none⟩ (.int .i64 r0)).setCell ⟨w5.heap.size, 1, none⟩ (.int .i64 r1)).setCell ⟨w5.heap.size, 2, none⟩ (.int .i64 r2)).setCell ⟨w5.heap.size, 3, none⟩ (.int .i64 r3)) = V9 at hh P9 ⊢
     clear P7 f0 f1 f2 f3 c0 c1 c2 c3
     refine hK.out _ _ k0Vb35 (fun hHeld => ?_)
     clear hK K
     try simp only [q1,q2,q3,q4,q5]
     refine tkY 11 (some 8) ?v11t_78 rfl ?y11t_78 ?r11t_78
     case y11t_78 => exact tY
     case r11t_78 =>
     try simp only [q1,q2,q3,q4,q5]
     refine wpAnyH_done (by kernel_rfl) ?_ _
     have HHV := Lib.hid (HH3.out.below hHeld.1)
     have HB9 := Lib.hid (HB3.out.trans (hHeld.1.mono (by omega)))
     have d0 := P9.cell 0
     have d1 := P9.cell 1
     have d2 := P9.cell 2
     have d3 := P9.cell 3
     simp only [List.getElem?_toArray, List.getElem?_cons_succ, List.getElem?_cons_zero] at d0 d1 d2 d3
     cases f with
     | false =>
      go_wp2_with fail
      refine bodyPost_ret (v := .int .i64 6) (by simp [results, Tryz.results18, go_sem]) rfl (.inr (.inl ⟨HM.out, addA_no HR.out, rfl, HB9.out⟩))
     | true =>
      obtain ⟨hless, hr⟩ := addA_yes HR.out
      have HLE := Lib.hid hless
      have HRR := Lib.hid hr
      go_wp2_with (first
       | (go_at_call 63; go_loud (refine (refSet B d x u u2 rr L last nx s r0 r1 r2 r3 _ HHV.out HROK.out.len).mono ?_; rintro e w10 ⟨u', rfl, hq⟩; rw [HRR.out] at hq; have HQ := Lib.hid (SetR.ahead HB9.out ⟨u', hq⟩); clear hq))
       | fail)
      refine bodyPost_ret (v := .int .i64 0) (by simp [results, Tryz.results18, go_sem]) rfl (.inr (.inr ⟨HM.out, HLE.out, rfl, HQ.out⟩))
    ·
     go_simp
     have P6 := P6.alloc (.cells #[.int .i64 0, .int .i64 0, .int .i64 0, .int .i64 0] 36)
     have hh : Below w3.heap.size w3 (w6.alloc (.cells #[.int .i64 0, .int .i64 0, .int .i64 0, .int .i64 0] 36)) := hHeld.1.alloc hHeld.1.size (.cells #[.int .i64 0, .int .i64 0, .int .i64 0, .int .i64 0] 36)
     have P7 : Whl (w6.alloc (.cells #[.int .i64 0, .int .i64 0, .int .i64 0, .int .i64 0] 36)) w6.heap.size 36 #[.int .i64 0, .int .i64 0, .int .i64 0, .int .i64 0] := Whl.new rfl
     have hal : w3.heap.size ≤ w6.heap.size := hHeld.1.size
     generalize w6.alloc (.cells #[.int .i64 0, .int .i64 0, .int .i64 0, .int .i64 0] 36) = w7 at hh P6 P7 ⊢
     refine hK.out _ _ k0Vb35 (fun hHeld => ?_)
     clear hK K
     try simp only [q1,q2,q3,q4,q5]
     refine wpAnyH_ready (rs := [5]) (by kernel_rfl) (by simp) ?_
     refine AllReadyH.cons (o := ⟨some 23, _, _, _, _, _⟩) rfl (fun K hK => ?_) AllReadyH.nil
     have hPU := pursesTwoI (a := hasP rr s.data.toList) (b := (i0, i1, i2, i3)) P6.low (P6.cell 0) (P6.cell 1) (P6.cell 2) (P6.cell 3) (P6.cell 4) (P6.cell 5) (P6.cell 6) (P6.cell 7)
     go_simp
     refine (HADD.out _ _ hPU).mono ?_; rintro e w5 ⟨rfl, hb5⟩
     go_wp2_with fail
     have hh := hHeld.1.trans (hb5.mono hHeld.1.size)
     clear hPU P6
     have P7 := P7.below hb5 P7.low
     refine hK.out _ _ k0Vb35 (fun hHeld => ?_)
     clear hK K
     try simp only [q1,q2,q3,q4,q5]
     refine tkY 6 (some 17) ?v6t_122 rfl ?y6t_122 ?r6t_122
     case y6t_122 => exact tY
     case r6t_122 =>
     try simp only [q1,q2,q3,q4,q5]
     refine tkY 7 (some 24) ?v7t_125 rfl ?y7t_125 ?r7t_125
     case y7t_125 => exact tY
     case r7t_125 =>
     try simp only [q1,q2,q3,q4,q5]
     refine tkY 8 (some 25) ?v8t_128 rfl ?y8t_128 ?r8t_128
     case y8t_128 => exact tY
     case r8t_128 =>
     try simp only [q1,q2,q3,q4,q5]
     refine wpAnyH_ready (rs := [10]) (by kernel_rfl) (by simp) ?_
     refine AllReadyH.cons (o := ⟨none, _, _, _, _, _⟩) rfl (fun K hK => ?_) AllReadyH.nil
     have f0 := P7.free 0
     have f1 := P7.free 1
     have f2 := P7.free 2
     have f3 := P7.free 3
     have c0 := P7.cell 0
     have c1 := P7.cell 1
     have c2 := P7.cell 2
     have c3 := P7.cell 3
     simp only [List.getElem?_toArray, List.getElem?_cons_succ, List.getElem?_cons_zero] at c0 c1 c2 c3
     go_simp
     have hh : Below w3.heap.size w3 ((((w5.setCell ⟨w6.heap.size, 0, none⟩ (.int .i64 r0)).setCell ⟨w6.heap.size, 1, none⟩ (.int .i64 r1)).setCell ⟨w6.heap.size, 2, none⟩ (.int .i64 r2)).setCell ⟨w6.heap.size, 3, none⟩ (.int .i64 r3)) := (((hHeld.1.setCell hal _).setCell hal _).setCell hal _).setCell hal _
     have P9 : Whl ((((w5.setCell ⟨w6.heap.size, 0, none⟩ (.int .i64 r0)).setCell ⟨w6.heap.size, 1, none⟩ (.int .i64 r1)).setCell ⟨w6.heap.size, 2, none⟩ (.int .i64 r2)).setCell ⟨w6.heap.size, 3, none⟩ (.int .i64 r3)) w6.heap.size 36 #[.int .i64 r0, .int .i64 r1, .int .i64 r2, .int .i64 r3] := (((P7.set 0 _).set 1 _).set 2 _).set 3 _
     show K _ ((((w5.setCell ⟨w6.heap.size, 0, none⟩ (.int .i64 r0)).setCell ⟨w6.heap.size, 1, none⟩ (.int .i64 r1)).setCell ⟨w6.heap.size, 2, none⟩ (.int .i64 r2)).setCell ⟨w6.heap.size, 3, none⟩ (.int .i64 r3))
     generalize ((((w5.setCell ⟨w6.heap.size, 0, none⟩ (.int .i64 r0)).setCell ⟨w6.heap.size, 1, none⟩ (.int .i64 r1)).setCell ⟨w6.heap.size, 2, none⟩ (.int .i64 r2)).setCell ⟨w6.heap.size, 3, none⟩ (.int .i64 r3)) = V9 at hh P9 ⊢
     clear P7 f0 f1 f2 f3 c0 c1 c2 c3
     refine hK.out _ _ k0Vb35 (fun hHeld => ?_)
     clear hK K
     try simp only [q1,q2,q3,q4,q5]
     refine tkY 11 (some 8) ?v11t_151 rfl ?y11t_151 ?r11t_151
     case y11t_151 => exact tY
     case r11t_151 =>
     try simp only [q1,q2,q3,q4,q5]
     refine wpAnyH_done (by kernel_rfl) ?_ _
     have HHV := Lib.hid (HH3.out.below hHeld.1)
     have HB9 := Lib.hid (HB3.out.trans (hHeld.1.mono (by omega)))
     have d0 := P9.cell 0
     have d1 := P9.cell 1
     have d2 := P9.cell 2
     have d3 := P9.cell 3
     simp only [List.getElem?_toArray, List.getElem?_cons_succ, List.getElem?_cons_zero] at d0 d1 d2 d3
     cases f with
     | false =>
      go_wp2_with fail
      refine bodyPost_ret (v := .int .i64 6) (by simp [results, Tryz.results18, go_sem]) rfl (.inr (.inl ⟨HM.out, addA_no HR.out, rfl, HB9.out⟩))
     | true =>
      obtain ⟨hless, hr⟩ := addA_yes HR.out
      have HLE := Lib.hid hless
      have HRR := Lib.hid hr
      go_wp2_with (first
       | (go_at_call 63; go_loud (refine (refSet B d x u u2 rr L last nx s r0 r1 r2 r3 _ HHV.out HROK.out.len).mono ?_; rintro e w10 ⟨u', rfl, hq⟩; rw [HRR.out] at hq; have HQ := Lib.hid (SetR.ahead HB9.out ⟨u', hq⟩); clear hq))
       | fail)
      refine bodyPost_ret (v := .int .i64 0) (by simp [results, Tryz.results18, go_sem]) rfl (.inr (.inr ⟨HM.out, HLE.out, rfl, HQ.out⟩))
   ·
    go_simp
    have hh : Below w3.heap.size w3 (w4.alloc (.cells #[.int .i64 0, .int .i64 0, .int .i64 0, .int .i64 0] 36)) := hHeld.1.alloc hHeld.1.size (.cells #[.int .i64 0, .int .i64 0, .int .i64 0, .int .i64 0] 36)
    have P7 : Whl (w4.alloc (.cells #[.int .i64 0, .int .i64 0, .int .i64 0, .int .i64 0] 36)) w4.heap.size 36 #[.int .i64 0, .int .i64 0, .int .i64 0, .int .i64 0] := Whl.new rfl
    have hal : w3.heap.size ≤ w4.heap.size := hHeld.1.size
    generalize w4.alloc (.cells #[.int .i64 0, .int .i64 0, .int .i64 0, .int .i64 0] 36) = w7 at hh P7 ⊢
    refine hK.out _ _ k0Vb35 (fun hHeld => ?_)
    clear hK K
    try simp only [q1,q2,q3,q4,q5]
    refine wpAnyH_ready (rs := [4]) (by kernel_rfl) (by simp) ?_
    refine AllReadyH.cons (o := ⟨some 22, _, _, _, _, _⟩) rfl (fun K hK => ?_) AllReadyH.nil
    go_simp
    have hh := hHeld.1.alloc hHeld.1.size (.cells #[.int .i64 (hasP rr s.data.toList).1, .int .i64 (hasP rr s.data.toList).2.1, .int .i64 (hasP rr s.data.toList).2.2.1, .int .i64 (hasP rr s.data.toList).2.2.2, .int .i64 i0, .int .i64 i1, .int .i64 i2, .int .i64 i3] 36)
    have P6 : Whl (w7.alloc (.cells #[.int .i64 (hasP rr s.data.toList).1, .int .i64 (hasP rr s.data.toList).2.1, .int .i64 (hasP rr s.data.toList).2.2.1, .int .i64 (hasP rr s.data.toList).2.2.2, .int .i64 i0, .int .i64 i1, .int .i64 i2, .int .i64 i3] 36)) w7.heap.size 36 #[.int .i64 (hasP rr s.data.toList).1, .int .i64 (hasP rr s.data.toList).2.1, .int .i64 (hasP rr s.data.toList).2.2.1, .int .i64 (hasP rr s.data.toList).2.2.2, .int .i64 i0, .int .i64 i1, .int .i64 i2, .int .i64 i3] := Whl.new rfl
    have P7 := P7.alloc (.cells #[.int .i64 (hasP rr s.data.toList).1, .int .i64 (hasP rr s.data.toList).2.1, .int .i64 (hasP rr s.data.toList).2.2.1, .int .i64 (hasP rr s.data.toList).2.2.2, .int .i64 i0, .int .i64 i1, .int .i64 i2, .int .i64 i3] 36)
    generalize w7.alloc (.cells #[.int .i64 (hasP rr s.data.toList).1, .int .i64 (hasP rr s.data.toList).2.1, .int .i64 (hasP rr s.data.toList).2.2.1, .int .i64 (hasP rr s.data.toList).2.2.2, .int .i64 i0, .int .i64 i1, .int .i64 i2, .int .i64 i3] 36) = w6 at hh P6 P7 ⊢
    refine hK.out _ _ k0Vb35 (fun hHeld => ?_)
    clear hK K
    try simp only [q1,q2,q3,q4,q5]
    refine wpAnyH_ready (rs := [5]) (by kernel_rfl) (by simp) ?_
    refine AllReadyH.cons (o := ⟨some 23, _, _, _, _, _⟩) rfl (fun K hK => ?_) AllReadyH.nil
    have hPU := pursesTwoI (a := hasP rr s.data.toList) (b := (i0, i1, i2, i3)) P6.low (P6.cell 0) (P6.cell 1) (P6.cell 2) (P6.cell 3) (P6.cell 4) (P6.cell 5) (P6.cell 6) (P6.cell 7)
    go_simp
    refine (HADD.out _ _ hPU).mono ?_; rintro e w5 ⟨rfl, hb5⟩
    go_wp2_with fail
    have hh := hHeld.1.trans (hb5.mono hHeld.1.size)
    clear hPU P6
    have P7 := P7.below hb5 P7.low
    refine hK.out _ _ k0Vb35 (fun hHeld => ?_)
    clear hK K
    try simp only [q1,q2,q3,q4,q5]
    refine tkY 6 (some 17) ?v6t_204 rfl ?y6t_204 ?r6t_204
    case y6t_204 => exact tY
    case r6t_204 =>
    try simp only [q1,q2,q3,q4,q5]
    refine tkY 7 (some 24) ?v7t_207 rfl ?y7t_207 ?r7t_207
    case y7t_207 => exact tY
    case r7t_207 =>
    try simp only [q1,q2,q3,q4,q5]
    refine tkY 8 (some 25) ?v8t_210 rfl ?y8t_210 ?r8t_210
    case y8t_210 => exact tY
    case r8t_210 =>
    try simp only [q1,q2,q3,q4,q5]
    refine wpAnyH_ready (rs := [10]) (by kernel_rfl) (by simp) ?_
    refine AllReadyH.cons (o := ⟨none, _, _, _, _, _⟩) rfl (fun K hK => ?_) AllReadyH.nil
    have f0 := P7.free 0
    have f1 := P7.free 1
    have f2 := P7.free 2
    have f3 := P7.free 3
    have c0 := P7.cell 0
    have c1 := P7.cell 1
    have c2 := P7.cell 2
    have c3 := P7.cell 3
    simp only [List.getElem?_toArray, List.getElem?_cons_succ, List.getElem?_cons_zero] at c0 c1 c2 c3
    go_simp
    have hh : Below w3.heap.size w3 ((((w5.setCell ⟨w4.heap.size, 0, none⟩ (.int .i64 r0)).setCell ⟨w4.heap.size, 1, none⟩ (.int .i64 r1)).setCell ⟨w4.heap.size, 2, none⟩ (.int .i64 r2)).setCell ⟨w4.heap.size, 3, none⟩ (.int .i64 r3)) := (((hHeld.1.setCell hal _).setCell hal _).setCell hal _).setCell hal _
    have P9 : Whl ((((w5.setCell ⟨w4.heap.size, 0, none⟩ (.int .i64 r0)).setCell ⟨w4.heap.size, 1, none⟩ (.int .i64 r1)).setCell ⟨w4.heap.size, 2, none⟩ (.int .i64 r2)).setCell ⟨w4.heap.size, 3, none⟩ (.int .i64 r3)) w4.heap.size 36 #[.int .i64 r0, .int .i64 r1, .int .i64 r2, .int .i64 r3] := (((P7.set 0 _).set 1 _).set 2 _).set 3 _
    show K _ ((((w5.setCell ⟨w4.heap.size, 0, none⟩ (.int .i64 r0)).setCell ⟨w4.heap.size, 1, none⟩ (.int .i64 r1)).setCell ⟨w4.heap.size, 2, none⟩ (.int .i64 r2)).setCell ⟨w4.heap.size, 3, none⟩ (.int .i64 r3))
    generalize ((((w5.setCell ⟨w4.heap.size, 0, none⟩ (.int .i64 r0)).setCell ⟨w4.heap.size, 1, none⟩ (.int .i64 r1)).setCell ⟨w4.heap.size, 2, none⟩ (.int .i64 r2)).setCell ⟨w4.heap.size, 3, none⟩ (.int .i64 r3)) = V9 at hh P9 ⊢
    clear P7 f0 f1 f2 f3 c0 c1 c2 c3
    refine hK.out _ _ k0Vb35 (fun hHeld => ?_)
    clear hK K
    try simp only [q1,q2,q3,q4,q5]
    refine tkY 11 (some 8) ?v11t_233 rfl ?y11t_233 ?r11t_233
    case y11t_233 => exact tY
    case r11t_233 =>
    try simp only [q1,q2,q3,q4,q5]
    refine wpAnyH_done (by kernel_rfl) ?_ _
    have HHV := Lib.hid (HH3.out.below hHeld.1)
    have HB9 := Lib.hid (HB3.out.trans (hHeld.1.mono (by omega)))
    have d0 := P9.cell 0
    have d1 := P9.cell 1
    have d2 := P9.cell 2
    have d3 := P9.cell 3
    simp only [List.getElem?_toArray, List.getElem?_cons_succ, List.getElem?_cons_zero] at d0 d1 d2 d3
    cases f with
    | false =>
     go_wp2_with fail
     refine bodyPost_ret (v := .int .i64 6) (by simp [results, Tryz.results18, go_sem]) rfl (.inr (.inl ⟨HM.out, addA_no HR.out, rfl, HB9.out⟩))
    | true =>
     obtain ⟨hless, hr⟩ := addA_yes HR.out
     have HLE := Lib.hid hless
     have HRR := Lib.hid hr
     go_wp2_with (first
      | (go_at_call 63; go_loud (refine (refSet B d x u u2 rr L last nx s r0 r1 r2 r3 _ HHV.out HROK.out.len).mono ?_; rintro e w10 ⟨u', rfl, hq⟩; rw [HRR.out] at hq; have HQ := Lib.hid (SetR.ahead HB9.out ⟨u', hq⟩); clear hq))
      | fail)
     refine bodyPost_ret (v := .int .i64 0) (by simp [results, Tryz.results18, go_sem]) rfl (.inr (.inr ⟨HM.out, HLE.out, rfl, HQ.out⟩))
  ·
   go_simp
   have hh : Below w3.heap.size w3 ((w3.alloc (.cells #[.int .i64 0, .int .i64 0, .int .i64 0, .int .i64 0] 36)).drew) := ((Below.refl w3.heap.size w3).alloc (Nat.le_refl _) (.cells #[.int .i64 0, .int .i64 0, .int .i64 0, .int .i64 0] 36)).drew
   have P7 : Whl ((w3.alloc (.cells #[.int .i64 0, .int .i64 0, .int .i64 0, .int .i64 0] 36)).drew) w3.heap.size 36 #[.int .i64 0, .int .i64 0, .int .i64 0, .int .i64 0] := Whl.new rfl
   have hal : w3.heap.size ≤ w3.heap.size := Nat.le_refl _
   generalize (w3.alloc (.cells #[.int .i64 0, .int .i64 0, .int .i64 0, .int .i64 0] 36)).drew = w7 at hh P7 ⊢
   refine hK.out _ _ k0Vb35 (fun hHeld => ?_)
   clear hK K
   try simp only [q1,q2,q3,q4,q5]
   refine wpAnyH_ready (rs := [2]) (by kernel_rfl) (by simp) ?_
   refine AllReadyH.cons (o := ⟨some 20, _, _, _, _, _⟩) rfl (fun K hK => ?_) AllReadyH.nil
   go_simp
   refine (refHas d u rr s (a0 := (hasP rr s.data.toList).1) (a1 := (hasP rr s.data.toList).2.1) (a2 := (hasP rr s.data.toList).2.2.1) (a3 := (hasP rr s.data.toList).2.2.2) rfl _ (HH3.out.below hHeld.1).rl HROK.out.srt (by have := HROK.out.len; omega)).mono ?_; rintro e w4 ⟨rfl, hb4⟩
   go_wp2_with fail
   have hh := hHeld.1.trans (hb4.mono hHeld.1.size)
   have P7 := P7.below hb4 P7.low
   refine hK.out _ _ k0Vb35 (fun hHeld => ?_)
   clear hK K
   try simp only [q1,q2,q3,q4,q5]
   refine wpAnyH_ready (rs := [4]) (by kernel_rfl) (by simp) ?_
   refine AllReadyH.cons (o := ⟨some 22, _, _, _, _, _⟩) rfl (fun K hK => ?_) AllReadyH.nil
   go_simp
   have hh := hHeld.1.alloc hHeld.1.size (.cells #[.int .i64 (hasP rr s.data.toList).1, .int .i64 (hasP rr s.data.toList).2.1, .int .i64 (hasP rr s.data.toList).2.2.1, .int .i64 (hasP rr s.data.toList).2.2.2, .int .i64 i0, .int .i64 i1, .int .i64 i2, .int .i64 i3] 36)
   have P6 : Whl (w4.alloc (.cells #[.int .i64 (hasP rr s.data.toList).1, .int .i64 (hasP rr s.data.toList).2.1, .int .i64 (hasP rr s.data.toList).2.2.1, .int .i64 (hasP rr s.data.toList).2.2.2, .int .i64 i0, .int .i64 i1, .int .i64 i2, .int .i64 i3] 36)) w4.heap.size 36 #[.int .i64 (hasP rr s.data.toList).1, .int .i64 (hasP rr s.data.toList).2.1, .int .i64 (hasP rr s.data.toList).2.2.1, .int .i64 (hasP rr s.data.toList).2.2.2, .int .i64 i0, .int .i64 i1, .int .i64 i2, .int .i64 i3] := Whl.new rfl
   have P7 := P7.alloc (.cells #[.int .i64 (hasP rr s.data.toList).1, .int .i64 (hasP rr s.data.toList).2.1, .int .i64 (hasP rr s.data.toList).2.2.1, .int .i64 (hasP rr s.data.toList).2.2.2, .int .i64 i0, .int .i64 i1, .int .i64 i2, .int .i64 i3] 36)
   generalize w4.alloc (.cells #[.int .i64 (hasP rr s.data.toList).1, .int .i64 (hasP rr s.data.toList).2.1, .int .i64 (hasP rr s.data.toList).2.2.1, .int .i64 (hasP rr s.data.toList).2.2.2, .int .i64 i0, .int .i64 i1, .int .i64 i2, .int .i64 i3] 36) = w6 at hh P6 P7 ⊢
   refine hK.out _ _ k0Vb35 (fun hHeld => ?_)
   clear hK K
   try simp only [q1,q2,q3,q4,q5]
   refine wpAnyH_ready (rs := [5]) (by kernel_rfl) (by simp) ?_
   refine AllReadyH.cons (o := ⟨some 23, _, _, _, _, _⟩) rfl (fun K hK => ?_) AllReadyH.nil
   have hPU := pursesTwoI (a := hasP rr s.data.toList) (b := (i0, i1, i2, i3)) P6.low (P6.cell 0) (P6.cell 1) (P6.cell 2) (P6.cell 3) (P6.cell 4) (P6.cell 5) (P6.cell 6) (P6.cell 7)
   go_simp
   refine (HADD.out _ _ hPU).mono ?_; rintro e w5 ⟨rfl, hb5⟩
   go_wp2_with fail
   have hh := hHeld.1.trans (hb5.mono hHeld.1.size)
   clear hPU P6
   have P7 := P7.below hb5 P7.low
   refine hK.out _ _ k0Vb35 (fun hHeld => ?_)
   clear hK K
   try simp only [q1,q2,q3,q4,q5]
   refine tkY 6 (some 17) ?v6t_296 rfl ?y6t_296 ?r6t_296
   case y6t_296 => exact tY
   case r6t_296 =>
   try simp only [q1,q2,q3,q4,q5]
   refine tkY 7 (some 24) ?v7t_299 rfl ?y7t_299 ?r7t_299
   case y7t_299 => exact tY
   case r7t_299 =>
   try simp only [q1,q2,q3,q4,q5]
   refine tkY 8 (some 25) ?v8t_302 rfl ?y8t_302 ?r8t_302
   case y8t_302 => exact tY
   case r8t_302 =>
   try simp only [q1,q2,q3,q4,q5]
   refine wpAnyH_ready (rs := [10]) (by kernel_rfl) (by simp) ?_
   refine AllReadyH.cons (o := ⟨none, _, _, _, _, _⟩) rfl (fun K hK => ?_) AllReadyH.nil
   have f0 := P7.free 0
   have f1 := P7.free 1
   have f2 := P7.free 2
   have f3 := P7.free 3
   have c0 := P7.cell 0
   have c1 := P7.cell 1
   have c2 := P7.cell 2
   have c3 := P7.cell 3
   simp only [List.getElem?_toArray, List.getElem?_cons_succ, List.getElem?_cons_zero] at c0 c1 c2 c3
   go_simp
   have hh : Below w3.heap.size w3 ((((w5.setCell ⟨w3.heap.size, 0, none⟩ (.int .i64 r0)).setCell ⟨w3.heap.size, 1, none⟩ (.int .i64 r1)).setCell ⟨w3.heap.size, 2, none⟩ (.int .i64 r2)).setCell ⟨w3.heap.size, 3, none⟩ (.int .i64 r3)) := (((hHeld.1.setCell hal _).setCell hal _).setCell hal _).setCell hal _
   have P9 : Whl ((((w5.setCell ⟨w3.heap.size, 0, none⟩ (.int .i64 r0)).setCell ⟨w3.heap.size, 1, none⟩ (.int .i64 r1)).setCell ⟨w3.heap.size, 2, none⟩ (.int .i64 r2)).setCell ⟨w3.heap.size, 3, none⟩ (.int .i64 r3)) w3.heap.size 36 #[.int .i64 r0, .int .i64 r1, .int .i64 r2, .int .i64 r3] := (((P7.set 0 _).set 1 _).set 2 _).set 3 _
   show K _ ((((w5.setCell ⟨w3.heap.size, 0, none⟩ (.int .i64 r0)).setCell ⟨w3.heap.size, 1, none⟩ (.int .i64 r1)).setCell ⟨w3.heap.size, 2, none⟩ (.int .i64 r2)).setCell ⟨w3.heap.size, 3, none⟩ (.int .i64 r3))
   generalize ((((w5.setCell ⟨w3.heap.size, 0, none⟩ (.int .i64 r0)).setCell ⟨w3.heap.size, 1, none⟩ (.int .i64 r1)).setCell ⟨w3.heap.size, 2, none⟩ (.int .i64 r2)).setCell ⟨w3.heap.size, 3, none⟩ (.int .i64 r3)) = V9 at hh P9 ⊢
   clear P7 f0 f1 f2 f3 c0 c1 c2 c3
   refine hK.out _ _ k0Vb35 (fun hHeld => ?_)
   clear hK K
   try simp only [q1,q2,q3,q4,q5]
   refine tkY 11 (some 8) ?v11t_325 rfl ?y11t_325 ?r11t_325
   case y11t_325 => exact tY
   case r11t_325 =>
   try simp only [q1,q2,q3,q4,q5]
   refine wpAnyH_done (by kernel_rfl) ?_ _
   have HHV := Lib.hid (HH3.out.below hHeld.1)
   have HB9 := Lib.hid (HB3.out.trans (hHeld.1.mono (by omega)))
   have d0 := P9.cell 0
   have d1 := P9.cell 1
   have d2 := P9.cell 2
   have d3 := P9.cell 3
   simp only [List.getElem?_toArray, List.getElem?_cons_succ, List.getElem?_cons_zero] at d0 d1 d2 d3
   cases f with
   | false =>
    go_wp2_with fail
    refine bodyPost_ret (v := .int .i64 6) (by simp [results, Tryz.results18, go_sem]) rfl (.inr (.inl ⟨HM.out, addA_no HR.out, rfl, HB9.out⟩))
   | true =>
    obtain ⟨hless, hr⟩ := addA_yes HR.out
    have HLE := Lib.hid hless
    have HRR := Lib.hid hr
    go_wp2_with (first
     | (go_at_call 63; go_loud (refine (refSet B d x u u2 rr L last nx s r0 r1 r2 r3 _ HHV.out HROK.out.len).mono ?_; rintro e w10 ⟨u', rfl, hq⟩; rw [HRR.out] at hq; have HQ := Lib.hid (SetR.ahead HB9.out ⟨u', hq⟩); clear hq))
     | fail)
    refine bodyPost_ret (v := .int .i64 0) (by simp [results, Tryz.results18, go_sem]) rfl (.inr (.inr ⟨HM.out, HLE.out, rfl, HQ.out⟩))
end Go.Proofs.YtdlbiobjnohfbaaGreat
