/- OpApart returns true: the walk of the statement. -/
import Derived.Test.YtblknjclkecglaaApS
namespace Go.Proofs.Ytblknjclkecglaa
open Go.RowKit
set_option linter.unusedVariables false
set_option linter.unusedSimpArgs false

set_option maxHeartbeats 8000000 in
set_option maxRecDepth 10000 in
theorem walkOpApart (k cl sq : Int) (ak aw tk tw : ByteArray) (it ct pr : Int) (bu : Bool) (id : Int) (k' cl' sq' : Int) (ak' aw' tk' tw' : ByteArray) (it' ct' pr' : Int) (bu' : Bool) (id' : Int) (hw : ak.size ≤ 2000 → aw.size ≤ 2000 → tk.size ≤ 2000 → tw.size ≤ 2000 → OpWf k cl sq ak aw tk tw it ct pr bu id) (hw' : ak'.size ≤ 2000 → aw'.size ≤ 2000 → tk'.size ≤ 2000 → tw'.size ≤ 2000 → OpWf k' cl' sq' ak' aw' tk' tw' it' ct' pr' bu' id') (w : World) :
    Calls Try.prog 6 #[.agg #[.int .i64 k, .int .i64 cl, .int .i64 sq, .string ak, .string aw, .string tk, .string tw, .int .i64 it, .int .i64 ct, .int .i64 pr, .bool bu, .int .i64 id], .agg #[.int .i64 k', .int .i64 cl', .int .i64 sq', .string ak', .string aw', .string tk', .string tw', .int .i64 it', .int .i64 ct', .int .i64 pr', .bool bu', .int .i64 id']] w fun e w' => e = .returned (.bool true) ∧ Below w.heap.size w w' := by
  have KN : Hid (∀ w, Calls Try.prog 13 #[] w fun e w' => e = .returned (.bool true) ∧ Below w.heap.size w w') := Lib.hid opKnKnown
  have B0 : Below w.heap.size w ((w.alloc (.cells #[.int .i64 k, .int .i64 cl, .int .i64 sq, .string ak, .string aw, .string tk, .string tw, .int .i64 it, .int .i64 ct, .int .i64 pr, .bool bu, .int .i64 id] 25)).alloc (.cells #[.int .i64 k', .int .i64 cl', .int .i64 sq', .string ak', .string aw', .string tk', .string tw', .int .i64 it', .int .i64 ct', .int .i64 pr', .bool bu', .int .i64 id'] 25)) := ((Below.refl _ _).alloc (Nat.le_refl _) _).alloc (by simp) _
  have P0 : Whl ((w.alloc (.cells #[.int .i64 k, .int .i64 cl, .int .i64 sq, .string ak, .string aw, .string tk, .string tw, .int .i64 it, .int .i64 ct, .int .i64 pr, .bool bu, .int .i64 id] 25)).alloc (.cells #[.int .i64 k', .int .i64 cl', .int .i64 sq', .string ak', .string aw', .string tk', .string tw', .int .i64 it', .int .i64 ct', .int .i64 pr', .bool bu', .int .i64 id'] 25)) w.heap.size 25 #[.int .i64 k, .int .i64 cl, .int .i64 sq, .string ak, .string aw, .string tk, .string tw, .int .i64 it, .int .i64 ct, .int .i64 pr, .bool bu, .int .i64 id] := Whl.alloc (Whl.new rfl) _
  have Q0 : Whl ((w.alloc (.cells #[.int .i64 k, .int .i64 cl, .int .i64 sq, .string ak, .string aw, .string tk, .string tw, .int .i64 it, .int .i64 ct, .int .i64 pr, .bool bu, .int .i64 id] 25)).alloc (.cells #[.int .i64 k', .int .i64 cl', .int .i64 sq', .string ak', .string aw', .string tk', .string tw', .int .i64 it', .int .i64 ct', .int .i64 pr', .bool bu', .int .i64 id'] 25)) (w.heap.size + 1) 25 #[.int .i64 k', .int .i64 cl', .int .i64 sq', .string ak', .string aw', .string tk', .string tw', .int .i64 it', .int .i64 ct', .int .i64 pr', .bool bu', .int .i64 id'] := Whl.new (by simp)
  have hs0 : w.heap.size + 1 < ((w.alloc (.cells #[.int .i64 k, .int .i64 cl, .int .i64 sq, .string ak, .string aw, .string tk, .string tw, .int .i64 it, .int .i64 ct, .int .i64 pr, .bool bu, .int .i64 id] 25)).alloc (.cells #[.int .i64 k', .int .i64 cl', .int .i64 sq', .string ak', .string aw', .string tk', .string tw', .int .i64 it', .int .i64 ct', .int .i64 pr', .bool bu', .int .i64 id'] 25)).heap.size := by simp
  have HW := Lib.hid hw
  have HW' := Lib.hid hw'
  clear hw hw'
  go_enter Try.func6, Try.ntmps6
  go_wp2_with fail
  generalize ((w.alloc (.cells #[.int .i64 k, .int .i64 cl, .int .i64 sq, .string ak, .string aw, .string tk, .string tw, .int .i64 it, .int .i64 ct, .int .i64 pr, .bool bu, .int .i64 id] 25)).alloc (.cells #[.int .i64 k', .int .i64 cl', .int .i64 sq', .string ak', .string aw', .string tk', .string tw', .int .i64 it', .int .i64 ct', .int .i64 pr', .bool bu', .int .i64 id'] 25)) = U at *
  refine (lawHeavy k cl sq ak aw tk tw it ct pr bu id _).mono ?_
  rintro z w1 ⟨rfl, hb1⟩
  have hs1 := hb1.size
  have P1 := P0.below hb1 (by omega)
  have Q1 := Q0.below hb1 (by omega)
  have B1 := B0.trans (hb1.mono (by omega))
  clear P0 Q0 B0 hb1
  cases hv1 : hvB ak aw tk tw
  case true =>
    go_wp2_with fail
    go_ret
    exact ⟨rfl, B1⟩
  case false =>
  obtain ⟨f1, f2, f3, f4⟩ := hvB_no hv1
  have HA := Lib.hid (HW.out f1 f2 f3 f4)
  have q0 := Q1.cell 0
  have q1 := Q1.cell 1
  have q2 := Q1.cell 2
  have q3 := Q1.cell 3
  have q4 := Q1.cell 4
  have q5 := Q1.cell 5
  have q6 := Q1.cell 6
  have q7 := Q1.cell 7
  have q8 := Q1.cell 8
  have q9 := Q1.cell 9
  have q10 := Q1.cell 10
  have q11 := Q1.cell 11
  simp only [List.getElem?_toArray, List.getElem?_cons_succ, List.getElem?_cons_zero] at q0 q1 q2 q3 q4 q5 q6 q7 q8 q9 q10 q11
  go_wp2_with fail
  clear q0 q1 q2 q3 q4 q5 q6 q7 q8 q9 q10 q11
  refine (lawHeavy k' cl' sq' ak' aw' tk' tw' it' ct' pr' bu' id' _).mono ?_
  rintro z w2 ⟨rfl, hb2⟩
  have hs2 := hb2.size
  have P2 := P1.below hb2 (by omega)
  have Q2 := Q1.below hb2 (by omega)
  have B2 := B1.trans (hb2.mono (by omega))
  clear P1 Q1 B1 hb2
  cases hv2 : hvB ak' aw' tk' tw'
  case true =>
    go_wp2_with fail
    go_ret
    exact ⟨rfl, B2⟩
  case false =>
  obtain ⟨g1, g2, g3, g4⟩ := hvB_no hv2
  have HB := Lib.hid (HW'.out g1 g2 g3 g4)
  have p0 := P2.cell 0
  have p1 := P2.cell 1
  have p2 := P2.cell 2
  have p3 := P2.cell 3
  have p4 := P2.cell 4
  have p5 := P2.cell 5
  have p6 := P2.cell 6
  have p7 := P2.cell 7
  have p8 := P2.cell 8
  have p9 := P2.cell 9
  have p10 := P2.cell 10
  have p11 := P2.cell 11
  simp only [List.getElem?_toArray, List.getElem?_cons_succ, List.getElem?_cons_zero] at p0 p1 p2 p3 p4 p5 p6 p7 p8 p9 p10 p11
  go_wp2_with fail
  clear p0 p1 p2 p3 p4 p5 p6 p7 p8 p9 p10 p11
  cases hm1 : mB k cl sq ak aw tk tw it ct pr bu id
  · cases hm2 : mB k' cl' sq' ak' aw' tk' tw' it' ct' pr' bu' id'
    · skip
      refine (codeEncodeNo k cl sq ak aw tk tw it ct pr bu id HA.out hm1 _).mono ?_
      rintro z w3 ⟨rfl, hb3⟩
      have hs3 := hb3.size
      have P3 := P2.below hb3 (by omega)
      have Q3 := Q2.below hb3 (by omega)
      have B3 := B2.trans (hb3.mono (by omega))
      clear P2 Q2 B2 hb3
      have q0 := Q3.cell 0
      have q1 := Q3.cell 1
      have q2 := Q3.cell 2
      have q3 := Q3.cell 3
      have q4 := Q3.cell 4
      have q5 := Q3.cell 5
      have q6 := Q3.cell 6
      have q7 := Q3.cell 7
      have q8 := Q3.cell 8
      have q9 := Q3.cell 9
      have q10 := Q3.cell 10
      have q11 := Q3.cell 11
      simp only [List.getElem?_toArray, List.getElem?_cons_succ, List.getElem?_cons_zero] at q0 q1 q2 q3 q4 q5 q6 q7 q8 q9 q10 q11
      go_wp2_with fail
      clear q0 q1 q2 q3 q4 q5 q6 q7 q8 q9 q10 q11
      refine (codeEncodeNo k' cl' sq' ak' aw' tk' tw' it' ct' pr' bu' id' HB.out hm2 _).mono ?_
      rintro z w4 ⟨rfl, hb4⟩
      have hs4 := hb4.size
      have P4 := P3.below hb4 (by omega)
      have Q4 := Q3.below hb4 (by omega)
      have B4 := B3.trans (hb4.mono (by omega))
      clear P3 Q3 B3 hb4
      have p0 := P4.cell 0
      have p1 := P4.cell 1
      have p2 := P4.cell 2
      have p3 := P4.cell 3
      have p4 := P4.cell 4
      have p5 := P4.cell 5
      have p6 := P4.cell 6
      have p7 := P4.cell 7
      have p8 := P4.cell 8
      have p9 := P4.cell 9
      have p10 := P4.cell 10
      have p11 := P4.cell 11
      simp only [List.getElem?_toArray, List.getElem?_cons_succ, List.getElem?_cons_zero] at p0 p1 p2 p3 p4 p5 p6 p7 p8 p9 p10 p11
      go_wp2_with fail
      clear p0 p1 p2 p3 p4 p5 p6 p7 p8 p9 p10 p11
      refine (refMay k cl sq ak aw tk tw it ct pr bu id HA.out _).mono ?_
      rintro z w5 ⟨hz, hb5⟩
      rw [hm1] at hz
      subst hz
      have hs5 := hb5.size
      have P5 := P4.below hb5 (by omega)
      have Q5 := Q4.below hb5 (by omega)
      have B5 := B4.trans (hb5.mono (by omega))
      clear P4 Q4 B4 hb5
      have q0 := Q5.cell 0
      have q1 := Q5.cell 1
      have q2 := Q5.cell 2
      have q3 := Q5.cell 3
      have q4 := Q5.cell 4
      have q5 := Q5.cell 5
      have q6 := Q5.cell 6
      have q7 := Q5.cell 7
      have q8 := Q5.cell 8
      have q9 := Q5.cell 9
      have q10 := Q5.cell 10
      have q11 := Q5.cell 11
      simp only [List.getElem?_toArray, List.getElem?_cons_succ, List.getElem?_cons_zero] at q0 q1 q2 q3 q4 q5 q6 q7 q8 q9 q10 q11
      go_wp2_with fail
      clear q0 q1 q2 q3 q4 q5 q6 q7 q8 q9 q10 q11
      refine (refMay k' cl' sq' ak' aw' tk' tw' it' ct' pr' bu' id' HB.out _).mono ?_
      rintro z w6 ⟨hz, hb6⟩
      rw [hm2] at hz
      subst hz
      have hs6 := hb6.size
      have P6 := P5.below hb6 (by omega)
      have Q6 := Q5.below hb6 (by omega)
      have B6 := B5.trans (hb6.mono (by omega))
      clear P5 Q5 B5 hb6
      go_wp2_with fail
      refine (KN.out _).mono ?_
      rintro z w9 ⟨rfl, hb9⟩
      go_wp2_with fail
      go_ret
      exact ⟨rfl, B6.trans (hb9.mono (by omega))⟩
    · skip
      refine (codeEncodeNo k cl sq ak aw tk tw it ct pr bu id HA.out hm1 _).mono ?_
      rintro z w3 ⟨rfl, hb3⟩
      have hs3 := hb3.size
      have P3 := P2.below hb3 (by omega)
      have Q3 := Q2.below hb3 (by omega)
      have B3 := B2.trans (hb3.mono (by omega))
      clear P2 Q2 B2 hb3
      have q0 := Q3.cell 0
      have q1 := Q3.cell 1
      have q2 := Q3.cell 2
      have q3 := Q3.cell 3
      have q4 := Q3.cell 4
      have q5 := Q3.cell 5
      have q6 := Q3.cell 6
      have q7 := Q3.cell 7
      have q8 := Q3.cell 8
      have q9 := Q3.cell 9
      have q10 := Q3.cell 10
      have q11 := Q3.cell 11
      simp only [List.getElem?_toArray, List.getElem?_cons_succ, List.getElem?_cons_zero] at q0 q1 q2 q3 q4 q5 q6 q7 q8 q9 q10 q11
      go_wp2_with fail
      clear q0 q1 q2 q3 q4 q5 q6 q7 q8 q9 q10 q11
      refine (codeEncode k' cl' sq' ak' aw' tk' tw' it' ct' pr' bu' id' HB.out hm2 _).mono ?_
      rintro z w4 ⟨v7, rfl, hown, hb4⟩
      have Hv7 := Lib.hid hown
      clear hown
      have hs4 := hb4.size
      have P4 := P3.below hb4 (by omega)
      have Q4 := Q3.below hb4 (by omega)
      have B4 := B3.trans (hb4.mono (by omega))
      clear P3 Q3 B3 hb4
      have p0 := P4.cell 0
      have p1 := P4.cell 1
      have p2 := P4.cell 2
      have p3 := P4.cell 3
      have p4 := P4.cell 4
      have p5 := P4.cell 5
      have p6 := P4.cell 6
      have p7 := P4.cell 7
      have p8 := P4.cell 8
      have p9 := P4.cell 9
      have p10 := P4.cell 10
      have p11 := P4.cell 11
      simp only [List.getElem?_toArray, List.getElem?_cons_succ, List.getElem?_cons_zero] at p0 p1 p2 p3 p4 p5 p6 p7 p8 p9 p10 p11
      go_wp2_with fail
      clear p0 p1 p2 p3 p4 p5 p6 p7 p8 p9 p10 p11
      refine (refMay k cl sq ak aw tk tw it ct pr bu id HA.out _).mono ?_
      rintro z w5 ⟨hz, hb5⟩
      rw [hm1] at hz
      subst hz
      have hs5 := hb5.size
      have P5 := P4.below hb5 (by omega)
      have Q5 := Q4.below hb5 (by omega)
      have B5 := B4.trans (hb5.mono (by omega))
      clear P4 Q4 B4 hb5
      have q0 := Q5.cell 0
      have q1 := Q5.cell 1
      have q2 := Q5.cell 2
      have q3 := Q5.cell 3
      have q4 := Q5.cell 4
      have q5 := Q5.cell 5
      have q6 := Q5.cell 6
      have q7 := Q5.cell 7
      have q8 := Q5.cell 8
      have q9 := Q5.cell 9
      have q10 := Q5.cell 10
      have q11 := Q5.cell 11
      simp only [List.getElem?_toArray, List.getElem?_cons_succ, List.getElem?_cons_zero] at q0 q1 q2 q3 q4 q5 q6 q7 q8 q9 q10 q11
      go_wp2_with fail
      clear q0 q1 q2 q3 q4 q5 q6 q7 q8 q9 q10 q11
      refine (refMay k' cl' sq' ak' aw' tk' tw' it' ct' pr' bu' id' HB.out _).mono ?_
      rintro z w6 ⟨hz, hb6⟩
      rw [hm2] at hz
      subst hz
      have hs6 := hb6.size
      have P6 := P5.below hb6 (by omega)
      have Q6 := Q5.below hb6 (by omega)
      have B6 := B5.trans (hb6.mono (by omega))
      clear P5 Q5 B5 hb6
      go_wp2_with fail
      refine (KN.out _).mono ?_
      rintro z w9 ⟨rfl, hb9⟩
      go_wp2_with fail
      go_ret
      exact ⟨rfl, B6.trans (hb9.mono (by omega))⟩
  · cases hm2 : mB k' cl' sq' ak' aw' tk' tw' it' ct' pr' bu' id'
    · skip
      refine (codeEncode k cl sq ak aw tk tw it ct pr bu id HA.out hm1 _).mono ?_
      rintro z w3 ⟨v5, rfl, hown, hb3⟩
      have Hv5 := Lib.hid hown
      clear hown
      have hs3 := hb3.size
      have P3 := P2.below hb3 (by omega)
      have Q3 := Q2.below hb3 (by omega)
      have B3 := B2.trans (hb3.mono (by omega))
      clear P2 Q2 B2 hb3
      have q0 := Q3.cell 0
      have q1 := Q3.cell 1
      have q2 := Q3.cell 2
      have q3 := Q3.cell 3
      have q4 := Q3.cell 4
      have q5 := Q3.cell 5
      have q6 := Q3.cell 6
      have q7 := Q3.cell 7
      have q8 := Q3.cell 8
      have q9 := Q3.cell 9
      have q10 := Q3.cell 10
      have q11 := Q3.cell 11
      simp only [List.getElem?_toArray, List.getElem?_cons_succ, List.getElem?_cons_zero] at q0 q1 q2 q3 q4 q5 q6 q7 q8 q9 q10 q11
      go_wp2_with fail
      clear q0 q1 q2 q3 q4 q5 q6 q7 q8 q9 q10 q11
      refine (codeEncodeNo k' cl' sq' ak' aw' tk' tw' it' ct' pr' bu' id' HB.out hm2 _).mono ?_
      rintro z w4 ⟨rfl, hb4⟩
      have hs4 := hb4.size
      have P4 := P3.below hb4 (by omega)
      have Q4 := Q3.below hb4 (by omega)
      have B4 := B3.trans (hb4.mono (by omega))
      clear P3 Q3 B3 hb4
      have p0 := P4.cell 0
      have p1 := P4.cell 1
      have p2 := P4.cell 2
      have p3 := P4.cell 3
      have p4 := P4.cell 4
      have p5 := P4.cell 5
      have p6 := P4.cell 6
      have p7 := P4.cell 7
      have p8 := P4.cell 8
      have p9 := P4.cell 9
      have p10 := P4.cell 10
      have p11 := P4.cell 11
      simp only [List.getElem?_toArray, List.getElem?_cons_succ, List.getElem?_cons_zero] at p0 p1 p2 p3 p4 p5 p6 p7 p8 p9 p10 p11
      go_wp2_with fail
      clear p0 p1 p2 p3 p4 p5 p6 p7 p8 p9 p10 p11
      refine (refMay k cl sq ak aw tk tw it ct pr bu id HA.out _).mono ?_
      rintro z w5 ⟨hz, hb5⟩
      rw [hm1] at hz
      subst hz
      have hs5 := hb5.size
      have P5 := P4.below hb5 (by omega)
      have Q5 := Q4.below hb5 (by omega)
      have B5 := B4.trans (hb5.mono (by omega))
      clear P4 Q4 B4 hb5
      have q0 := Q5.cell 0
      have q1 := Q5.cell 1
      have q2 := Q5.cell 2
      have q3 := Q5.cell 3
      have q4 := Q5.cell 4
      have q5 := Q5.cell 5
      have q6 := Q5.cell 6
      have q7 := Q5.cell 7
      have q8 := Q5.cell 8
      have q9 := Q5.cell 9
      have q10 := Q5.cell 10
      have q11 := Q5.cell 11
      simp only [List.getElem?_toArray, List.getElem?_cons_succ, List.getElem?_cons_zero] at q0 q1 q2 q3 q4 q5 q6 q7 q8 q9 q10 q11
      go_wp2_with fail
      clear q0 q1 q2 q3 q4 q5 q6 q7 q8 q9 q10 q11
      refine (refMay k' cl' sq' ak' aw' tk' tw' it' ct' pr' bu' id' HB.out _).mono ?_
      rintro z w6 ⟨hz, hb6⟩
      rw [hm2] at hz
      subst hz
      have hs6 := hb6.size
      have P6 := P5.below hb6 (by omega)
      have Q6 := Q5.below hb6 (by omega)
      have B6 := B5.trans (hb6.mono (by omega))
      clear P5 Q5 B5 hb6
      go_wp2_with fail
      refine (KN.out _).mono ?_
      rintro z w9 ⟨rfl, hb9⟩
      go_wp2_with fail
      go_ret
      exact ⟨rfl, B6.trans (hb9.mono (by omega))⟩
    · skip
      refine (codeEncode k cl sq ak aw tk tw it ct pr bu id HA.out hm1 _).mono ?_
      rintro z w3 ⟨v5, rfl, hown, hb3⟩
      have Hv5 := Lib.hid hown
      clear hown
      have hs3 := hb3.size
      have P3 := P2.below hb3 (by omega)
      have Q3 := Q2.below hb3 (by omega)
      have B3 := B2.trans (hb3.mono (by omega))
      clear P2 Q2 B2 hb3
      have q0 := Q3.cell 0
      have q1 := Q3.cell 1
      have q2 := Q3.cell 2
      have q3 := Q3.cell 3
      have q4 := Q3.cell 4
      have q5 := Q3.cell 5
      have q6 := Q3.cell 6
      have q7 := Q3.cell 7
      have q8 := Q3.cell 8
      have q9 := Q3.cell 9
      have q10 := Q3.cell 10
      have q11 := Q3.cell 11
      simp only [List.getElem?_toArray, List.getElem?_cons_succ, List.getElem?_cons_zero] at q0 q1 q2 q3 q4 q5 q6 q7 q8 q9 q10 q11
      go_wp2_with fail
      clear q0 q1 q2 q3 q4 q5 q6 q7 q8 q9 q10 q11
      refine (codeEncode k' cl' sq' ak' aw' tk' tw' it' ct' pr' bu' id' HB.out hm2 _).mono ?_
      rintro z w4 ⟨v7, rfl, hown, hb4⟩
      have Hv7 := Lib.hid hown
      clear hown
      have hs4 := hb4.size
      have P4 := P3.below hb4 (by omega)
      have Q4 := Q3.below hb4 (by omega)
      have B4 := B3.trans (hb4.mono (by omega))
      have HO5 := Lib.hid (row_below Hv5.out hb4)
      have HO7 := Hv7
      clear P3 Q3 B3 hb4 Hv5 Hv7
      obtain ⟨β, hβ⟩ : ∃ β, β = opEqB k cl sq ak aw tk tw it ct pr bu id k' cl' sq' ak' aw' tk' tw' it' ct' pr' bu' id' := ⟨_, rfl⟩
      have hstr : ∀ w, (binOp .eql 9 (.string (strU (opBs k cl sq ak aw tk tw it ct pr bu id))) (.string (strU (opBs k' cl' sq' ak' aw' tk' tw' it' ct' pr' bu' id')))).run Try.prog w = .ok (.bool β) w := fun w => by rw [strEqR, hβ, eq_bytes hm1 hm2]
      have heq : ∀ w, (binOp .eql 25 (.agg #[.int .i64 k, .int .i64 cl, .int .i64 sq, .string ak, .string aw, .string tk, .string tw, .int .i64 it, .int .i64 ct, .int .i64 pr, .bool bu, .int .i64 id]) (.agg #[.int .i64 k', .int .i64 cl', .int .i64 sq', .string ak', .string aw', .string tk', .string tw', .int .i64 it', .int .i64 ct', .int .i64 pr', .bool bu', .int .i64 id'])).run Try.prog w = .ok (.bool β) w := fun w => by rw [opEqO, hβ]
      have hq : ((strU (opBs k cl sq ak aw tk tw it ct pr bu id)).toList == (strU (opBs k' cl' sq' ak' aw' tk' tw' it' ct' pr' bu' id')).toList) = β := by rw [beq_dec, hβ, eq_bytes hm1 hm2]
      have HQ := Lib.hid hq
      clear hβ hq
      generalize hx1 : opBs k cl sq ak aw tk tw it ct pr bu id = x1 at *
      generalize hx2 : opBs k' cl' sq' ak' aw' tk' tw' it' ct' pr' bu' id' = x2 at *
      clear hx1 hx2
      have p0 := P4.cell 0
      have p1 := P4.cell 1
      have p2 := P4.cell 2
      have p3 := P4.cell 3
      have p4 := P4.cell 4
      have p5 := P4.cell 5
      have p6 := P4.cell 6
      have p7 := P4.cell 7
      have p8 := P4.cell 8
      have p9 := P4.cell 9
      have p10 := P4.cell 10
      have p11 := P4.cell 11
      simp only [List.getElem?_toArray, List.getElem?_cons_succ, List.getElem?_cons_zero] at p0 p1 p2 p3 p4 p5 p6 p7 p8 p9 p10 p11
      have q0 := Q4.cell 0
      have q1 := Q4.cell 1
      have q2 := Q4.cell 2
      have q3 := Q4.cell 3
      have q4 := Q4.cell 4
      have q5 := Q4.cell 5
      have q6 := Q4.cell 6
      have q7 := Q4.cell 7
      have q8 := Q4.cell 8
      have q9 := Q4.cell 9
      have q10 := Q4.cell 10
      have q11 := Q4.cell 11
      simp only [List.getElem?_toArray, List.getElem?_cons_succ, List.getElem?_cons_zero] at q0 q1 q2 q3 q4 q5 q6 q7 q8 q9 q10 q11
      go_wp2_with fail
      refine wp_region_held_drew (S := (fun W => Below w4.heap.size w4 W ∧ (convert 27 9 v5).run Try.prog W = .ok (.string (strU x1)) W ∧ (convert 27 9 v7).run Try.prog W = .ok (.string (strU x2)) W ∧ W.cell? ⟨w.heap.size, 0, none⟩ = some (.int .i64 k) ∧ W.cell? ⟨w.heap.size, 1, none⟩ = some (.int .i64 cl) ∧ W.cell? ⟨w.heap.size, 2, none⟩ = some (.int .i64 sq) ∧ W.cell? ⟨w.heap.size, 3, none⟩ = some (.string ak) ∧ W.cell? ⟨w.heap.size, 4, none⟩ = some (.string aw) ∧ W.cell? ⟨w.heap.size, 5, none⟩ = some (.string tk) ∧ W.cell? ⟨w.heap.size, 6, none⟩ = some (.string tw) ∧ W.cell? ⟨w.heap.size, 7, none⟩ = some (.int .i64 it) ∧ W.cell? ⟨w.heap.size, 8, none⟩ = some (.int .i64 ct) ∧ W.cell? ⟨w.heap.size, 9, none⟩ = some (.int .i64 pr) ∧ W.cell? ⟨w.heap.size, 10, none⟩ = some (.bool bu) ∧ W.cell? ⟨w.heap.size, 11, none⟩ = some (.int .i64 id) ∧ W.cell? ⟨w.heap.size + 1, 0, none⟩ = some (.int .i64 k') ∧ W.cell? ⟨w.heap.size + 1, 1, none⟩ = some (.int .i64 cl') ∧ W.cell? ⟨w.heap.size + 1, 2, none⟩ = some (.int .i64 sq') ∧ W.cell? ⟨w.heap.size + 1, 3, none⟩ = some (.string ak') ∧ W.cell? ⟨w.heap.size + 1, 4, none⟩ = some (.string aw') ∧ W.cell? ⟨w.heap.size + 1, 5, none⟩ = some (.string tk') ∧ W.cell? ⟨w.heap.size + 1, 6, none⟩ = some (.string tw') ∧ W.cell? ⟨w.heap.size + 1, 7, none⟩ = some (.int .i64 it') ∧ W.cell? ⟨w.heap.size + 1, 8, none⟩ = some (.int .i64 ct') ∧ W.cell? ⟨w.heap.size + 1, 9, none⟩ = some (.int .i64 pr') ∧ W.cell? ⟨w.heap.size + 1, 10, none⟩ = some (.bool bu') ∧ W.cell? ⟨w.heap.size + 1, 11, none⟩ = some (.int .i64 id'))) (by kernel_rfl) ⟨(Below.refl _ _).drew, conv_own (row_below HO5.out (Below.refl _ _).drew), conv_own (row_below HO7.out (Below.refl _ _).drew), p0, p1, p2, p3, p4, p5, p6, p7, p8, p9, p10, p11, q0, q1, q2, q3, q4, q5, q6, q7, q8, q9, q10, q11⟩ (fun hHeld => ?_)
      refine wpAnyH_take (i := 0) (oi := ⟨some 46, _, _, _, _, _⟩) (v := ?v0) rfl (by kernel_rfl) (by kernel_rfl) (by kernel_rfl) (fun _ _ _ h => h) (Or.inl ⟨by rfl, ?y0⟩) (by assumption) ?r0
      case y0 => (intro w hSw; (try dsimp only at hSw); (try go_split_ands); go_simp); (try with_reducible rfl)
      case r0 =>
      (try simp only [Act.put, List.setIfInBounds_toArray, List.set_cons_zero, List.set_cons_succ])
      refine wpAnyH_take (i := 1) (oi := ⟨some 47, _, _, _, _, _⟩) (v := ?v1) rfl (by kernel_rfl) (by kernel_rfl) (by kernel_rfl) (fun _ _ _ h => h) (Or.inl ⟨by rfl, ?y1⟩) (by assumption) ?r1
      case y1 => (intro w hSw; (try dsimp only at hSw); (try go_split_ands); go_simp); (try with_reducible rfl)
      case r1 =>
      (try simp only [Act.put, List.setIfInBounds_toArray, List.set_cons_zero, List.set_cons_succ])
      refine wpAnyH_take (i := 2) (oi := ⟨some 48, _, _, _, _, _⟩) (v := ?v2) rfl (by kernel_rfl) (by kernel_rfl) (by kernel_rfl) (fun _ _ _ h => h) (Or.inl ⟨by rfl, ?y2⟩) (by assumption) ?r2
      case y2 => (intro w hSw; (try dsimp only at hSw); (try go_split_ands); go_simp); (try with_reducible rfl)
      case r2 =>
      (try simp only [Act.put, List.setIfInBounds_toArray, List.set_cons_zero, List.set_cons_succ])
      refine wpAnyH_take (i := 3) (oi := ⟨some 49, _, _, _, _, _⟩) (v := ?v3) rfl (by kernel_rfl) (by kernel_rfl) (by kernel_rfl) (fun _ _ _ h => h) (Or.inl ⟨by rfl, ?y3⟩) (by assumption) ?r3
      case y3 => (intro w hSw; (try dsimp only at hSw); (try go_split_ands); go_simp); (try with_reducible rfl)
      case r3 =>
      (try simp only [Act.put, List.setIfInBounds_toArray, List.set_cons_zero, List.set_cons_succ])
      refine wpAnyH_take (i := 4) (oi := ⟨some 50, _, _, _, _, _⟩) (v := ?v4) rfl (by kernel_rfl) (by kernel_rfl) (by kernel_rfl) (fun _ _ _ h => h) (Or.inl ⟨by rfl, ?y4⟩) (by assumption) ?r4
      case y4 => (intro w hSw; (try dsimp only at hSw); (try go_split_ands); go_simp); (try with_reducible rfl)
      case r4 =>
      (try simp only [Act.put, List.setIfInBounds_toArray, List.set_cons_zero, List.set_cons_succ])
      refine wpAnyH_take (i := 5) (oi := ⟨some 51, _, _, _, _, _⟩) (v := ?v5) rfl (by kernel_rfl) (by kernel_rfl) (by kernel_rfl) (fun _ _ _ h => h) (Or.inl ⟨by rfl, ?y5⟩) (by assumption) ?r5
      case y5 => (intro w hSw; (try dsimp only at hSw); (try go_split_ands); go_simp); (try with_reducible rfl)
      case r5 =>
      (try simp only [Act.put, List.setIfInBounds_toArray, List.set_cons_zero, List.set_cons_succ])
      refine wpAnyH_take (i := 6) (oi := ⟨some 52, _, _, _, _, _⟩) (v := ?v6) rfl (by kernel_rfl) (by kernel_rfl) (by kernel_rfl) (fun _ _ _ h => h) (Or.inl ⟨by rfl, ?y6⟩) (by assumption) ?r6
      case y6 => (intro w hSw; (try dsimp only at hSw); (try go_split_ands); go_simp); (try with_reducible rfl)
      case r6 =>
      (try simp only [Act.put, List.setIfInBounds_toArray, List.set_cons_zero, List.set_cons_succ])
      refine wpAnyH_take (i := 7) (oi := ⟨some 53, _, _, _, _, _⟩) (v := ?v7) rfl (by kernel_rfl) (by kernel_rfl) (by kernel_rfl) (fun _ _ _ h => h) (Or.inl ⟨by rfl, ?y7⟩) (by assumption) ?r7
      case y7 => (intro w hSw; (try dsimp only at hSw); (try go_split_ands); go_simp); (try with_reducible rfl)
      case r7 =>
      (try simp only [Act.put, List.setIfInBounds_toArray, List.set_cons_zero, List.set_cons_succ])
      refine wpAnyH_take (i := 8) (oi := ⟨some 54, _, _, _, _, _⟩) (v := ?v8) rfl (by kernel_rfl) (by kernel_rfl) (by kernel_rfl) (fun _ _ _ h => h) (Or.inl ⟨by rfl, ?y8⟩) (by assumption) ?r8
      case y8 => (intro w hSw; (try dsimp only at hSw); (try go_split_ands); go_simp); (try with_reducible rfl)
      case r8 =>
      (try simp only [Act.put, List.setIfInBounds_toArray, List.set_cons_zero, List.set_cons_succ])
      refine wpAnyH_take (i := 9) (oi := ⟨some 55, _, _, _, _, _⟩) (v := ?v9) rfl (by kernel_rfl) (by kernel_rfl) (by kernel_rfl) (fun _ _ _ h => h) (Or.inl ⟨by rfl, ?y9⟩) (by assumption) ?r9
      case y9 => (intro w hSw; (try dsimp only at hSw); (try go_split_ands); go_simp); (try with_reducible rfl)
      case r9 =>
      (try simp only [Act.put, List.setIfInBounds_toArray, List.set_cons_zero, List.set_cons_succ])
      refine wpAnyH_ready (rs := [10]) (by kernel_rfl) (by simp) ?_
      refine AllReadyH.cons (o := ⟨some 56, _, _, _, _, _⟩) rfl (fun K hK => ?_) AllReadyH.nil
      go_simp
      rw [if_pos HQ.out]
      refine (KN.out _).mono ?_
      rintro z w9 ⟨rfl, hb9⟩
      have hb3 := hHeld.1.trans (hb9.mono hHeld.1.size)
      go_wp2_with fail
      refine hK.out _ _ ⟨hb3, conv_own (row_below HO5.out hb3), conv_own (row_below HO7.out hb3), bkeep hb3 p0 (by omega), bkeep hb3 p1 (by omega), bkeep hb3 p2 (by omega), bkeep hb3 p3 (by omega), bkeep hb3 p4 (by omega), bkeep hb3 p5 (by omega), bkeep hb3 p6 (by omega), bkeep hb3 p7 (by omega), bkeep hb3 p8 (by omega), bkeep hb3 p9 (by omega), bkeep hb3 p10 (by omega), bkeep hb3 p11 (by omega), bkeep hb3 q0 (by omega), bkeep hb3 q1 (by omega), bkeep hb3 q2 (by omega), bkeep hb3 q3 (by omega), bkeep hb3 q4 (by omega), bkeep hb3 q5 (by omega), bkeep hb3 q6 (by omega), bkeep hb3 q7 (by omega), bkeep hb3 q8 (by omega), bkeep hb3 q9 (by omega), bkeep hb3 q10 (by omega), bkeep hb3 q11 (by omega)⟩ (fun hHeld => ?_)
      clear hK K
      (try simp only [Act.put, List.setIfInBounds_toArray, List.set_cons_zero, List.set_cons_succ])
      refine wpAnyH_take (i := 11) (oi := ⟨some 57, _, _, _, _, _⟩) (v := ?v11) rfl (by kernel_rfl) (by kernel_rfl) (by kernel_rfl) (fun _ _ _ h => h) (Or.inl ⟨by rfl, ?y11⟩) (by assumption) ?r11
      case y11 => (intro w hSw; (try dsimp only at hSw); (try go_split_ands); go_simp); (try with_reducible rfl)
      case r11 =>
      (try simp only [Act.put, List.setIfInBounds_toArray, List.set_cons_zero, List.set_cons_succ])
      refine wpAnyH_take (i := 12) (oi := ⟨some 4, _, _, _, _, _⟩) (v := ?v12) rfl (by kernel_rfl) (by kernel_rfl) (by kernel_rfl) (fun _ _ _ h => h) (Or.inl ⟨by rfl, ?y12⟩) (by assumption) ?r12
      case y12 => (intro w hSw; (try dsimp only at hSw); (try go_split_ands); go_simp); (try with_reducible rfl)
      case r12 =>
      (try simp only [Act.put, List.setIfInBounds_toArray, List.set_cons_zero, List.set_cons_succ])
      refine wpAnyH_done (by kernel_rfl) ?_ _
      go_wp2_with fail
      go_ret
      exact ⟨ret_bool (by rw [HQ.out]; exact beq_self_eq_true _), B4.trans (hHeld.1.mono (by omega))⟩
end Go.Proofs.Ytblknjclkecglaa
