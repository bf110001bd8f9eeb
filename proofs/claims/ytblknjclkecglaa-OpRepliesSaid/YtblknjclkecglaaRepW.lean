/- OpReplies returns true: the walk of the statement. -/
import Derived.Test.YtblknjclkecglaaRepQ
namespace Go.Proofs.Ytblknjclkecglaa
open Go.RowKit
set_option linter.unusedVariables false
set_option linter.unusedSimpArgs false

set_option maxHeartbeats 4000000 in
set_option maxRecDepth 10000 in
theorem walkOpReplies1 (e i a b c d : Int) (A : Option Addr) (c' : Nat) (xs : List Nat) (w : World) (hn : xs.length ≤ 2000) (hcap : xs.length ≤ c') (hcm : c' ≤ maxLen) (h256 : ∀ x ∈ xs, x < 256) (hx : Cells w w.heap.size A xs.length c' 1 (flatU xs)) :
    Calls Try.prog 5 #[.agg #[.int .i64 e, .int .i64 i, .int .i64 a, .int .i64 b, .int .i64 c, .int .i64 d], .slice A xs.length c'] w fun e w' => e = .returned (.bool true) ∧ Below w.heap.size w w' := by
  have B0 : Below w.heap.size w (w.alloc (.cells #[.int .i64 e, .int .i64 i, .int .i64 a, .int .i64 b, .int .i64 c, .int .i64 d] 43)) := (Below.refl _ _).alloc (Nat.le_refl _) _
  have HXw := Lib.hid hx
  have P0 : Whl (w.alloc (.cells #[.int .i64 e, .int .i64 i, .int .i64 a, .int .i64 b, .int .i64 c, .int .i64 d] 43)) w.heap.size 43 #[.int .i64 e, .int .i64 i, .int .i64 a, .int .i64 b, .int .i64 c, .int .i64 d] := Whl.new rfl
  have H256 := Lib.hid h256
  have KN : Hid (∀ w, Calls Try.prog 13 #[] w fun e w' => e = .returned (.bool true) ∧ Below w.heap.size w w') := Lib.hid opKnKnown
  have q2000 : ¬ (2000 : Int) < (xs.length : Int) := by omega
  obtain ⟨x0, x1, x2, x3, x4, x5, er, hdec⟩ := rpV_form xs
  have HDEC := Lib.hid hdec
  have hlen : (repBs e i a b c d).length ≤ 60 := by
    have h1 := encs_len [e, i]
    have h2 := encs_len [a, b, c, d]
    simp only [repBs, List.length_append, List.length_cons, List.length_nil] at *
    omega
  clear hx h256 hdec
  cases hB : repB e i a b c d
  · skip
    go_enter Try.func5, Try.ntmps5
    go_wp2_with fail
    refine (opEncodeReplyNo e i a b c d _ hB).mono ?_
    rintro z w1 ⟨rfl, hb1⟩
    have hs1 := hb1.size
    simp at hs1
    have P1 := P0.below hb1 (by simp)
    have B1 := B0.trans (hb1.mono (by simp))
    clear P0 B0 hb1
    have p0 := P1.cell 0
    have p1 := P1.cell 1
    have p2 := P1.cell 2
    have p3 := P1.cell 3
    have p4 := P1.cell 4
    have p5 := P1.cell 5
    simp only [List.getElem?_toArray, List.getElem?_cons_succ, List.getElem?_cons_zero] at p0 p1 p2 p3 p4 p5
    go_wp2_with fail
    clear p0 p1 p2 p3 p4 p5
    refine (refEncodeReplyNo e i a b c d _ hB).mono ?_
    rintro z w2 ⟨rfl, hb2⟩
    have hs2 := hb2.size
    have P2 := P1.below hb2 (by omega)
    have B2 := B1.trans (hb2.mono (by omega))
    clear P1 B1 hb2
    go_wp2_with fail
    refine (opDecodeReply A c' xs _ (by omega) H256.out (cells_keep HXw.out B2 (by omega))).mono ?_
    rintro z w3 ⟨hz, hb3⟩
    rw [HDEC.out] at hz
    subst hz
    have hs3 := hb3.size
    have P3 := P2.below hb3 (by omega)
    have B3 := B2.trans (hb3.mono (by omega))
    clear P2 B2 hb3
    go_wp2_with fail
    have X4 : Whl (w3.alloc (.cells #[.int .i64 x0, .int .i64 x1, .int .i64 x2, .int .i64 x3, .int .i64 x4, .int .i64 x5] 43)) w3.heap.size 43 #[.int .i64 x0, .int .i64 x1, .int .i64 x2, .int .i64 x3, .int .i64 x4, .int .i64 x5] := Whl.new rfl
    have P4 := P3.alloc (.cells #[.int .i64 x0, .int .i64 x1, .int .i64 x2, .int .i64 x3, .int .i64 x4, .int .i64 x5] 43)
    have q4 : Below w3.heap.size w3 (w3.alloc (.cells #[.int .i64 x0, .int .i64 x1, .int .i64 x2, .int .i64 x3, .int .i64 x4, .int .i64 x5] 43)) := (Below.refl _ _).alloc (Nat.le_refl _) _
    have B4 := B3.trans (q4.mono (by omega))
    have hz4 : w3.heap.size < (w3.alloc (.cells #[.int .i64 x0, .int .i64 x1, .int .i64 x2, .int .i64 x3, .int .i64 x4, .int .i64 x5] 43)).heap.size := by simp
    generalize (w3.alloc (.cells #[.int .i64 x0, .int .i64 x1, .int .i64 x2, .int .i64 x3, .int .i64 x4, .int .i64 x5] 43)) = U at *
    clear q4 P3 B3
    refine (refDecodeReply A c' xs _ (by omega) hcap hcm H256.out (cells_keep HXw.out B4 (by omega))).mono ?_
    rintro z w4 ⟨hz, hb4⟩
    rw [HDEC.out] at hz
    subst hz
    have hs4 := hb4.size
    have P5 := P4.below hb4 (by omega)
    have X5 := X4.below hb4 (by omega)
    have B5 := B4.trans (hb4.mono (by omega))
    clear P4 X4 B4 hb4
    have q6 : Below w4.heap.size w4 (w4.alloc (.cells #[.int .i64 x0, .int .i64 x1, .int .i64 x2, .int .i64 x3, .int .i64 x4, .int .i64 x5] 43)) := (Below.refl _ _).alloc (Nat.le_refl _) _
    have Y6 : Whl (w4.alloc (.cells #[.int .i64 x0, .int .i64 x1, .int .i64 x2, .int .i64 x3, .int .i64 x4, .int .i64 x5] 43)) w4.heap.size 43 #[.int .i64 x0, .int .i64 x1, .int .i64 x2, .int .i64 x3, .int .i64 x4, .int .i64 x5] := Whl.new rfl
    have X6 := X5.alloc (.cells #[.int .i64 x0, .int .i64 x1, .int .i64 x2, .int .i64 x3, .int .i64 x4, .int .i64 x5] 43)
    have P6 := P5.alloc (.cells #[.int .i64 x0, .int .i64 x1, .int .i64 x2, .int .i64 x3, .int .i64 x4, .int .i64 x5] 43)
    have B6 := B5.trans (q6.mono (by omega))
    have hz6 : w4.heap.size < (w4.alloc (.cells #[.int .i64 x0, .int .i64 x1, .int .i64 x2, .int .i64 x3, .int .i64 x4, .int .i64 x5] 43)).heap.size := by simp
    have cv := conv_nil
    have u0 := X6.cell 0
    have u1 := X6.cell 1
    have u2 := X6.cell 2
    have u3 := X6.cell 3
    have u4 := X6.cell 4
    have u5 := X6.cell 5
    simp only [List.getElem?_toArray, List.getElem?_cons_succ, List.getElem?_cons_zero] at u0 u1 u2 u3 u4 u5
    have y0 := Y6.cell 0
    have y1 := Y6.cell 1
    have y2 := Y6.cell 2
    have y3 := Y6.cell 3
    have y4 := Y6.cell 4
    have y5 := Y6.cell 5
    simp only [List.getElem?_toArray, List.getElem?_cons_succ, List.getElem?_cons_zero] at y0 y1 y2 y3 y4 y5
    have hne := repNe x0 x1 x2 x3 x4 x5
    clear P5 X5 B5 q6
    go_wp2_with fail
    obtain ⟨z0, z1, z2, z3, z4, z5, er2, hdz⟩ := rpV_form []
    refine (opDecodeReply none 0 [] _ (by simp) (by simp) ⟨rfl, fun _ => ⟨rfl, rfl⟩, fun j u hu => by simp [flatU] at hu⟩).mono ?_
    rintro z w7 ⟨hz, hb7⟩
    rw [hdz] at hz
    subst hz
    have hs7 := hb7.size
    have P7 := P6.below hb7 (by omega)
    have B7 := B6.trans (hb7.mono (by omega))
    clear u0 u1 u2 u3 u4 u5
    clear y0 y1 y2 y3 y4 y5
    clear P6 X6 Y6 B6 hb7 hne
    have q8 : Below w7.heap.size w7 (w7.alloc (.cells #[.int .i64 z0, .int .i64 z1, .int .i64 z2, .int .i64 z3, .int .i64 z4, .int .i64 z5] 43)) := (Below.refl _ _).alloc (Nat.le_refl _) _
    have Z8 : Whl (w7.alloc (.cells #[.int .i64 z0, .int .i64 z1, .int .i64 z2, .int .i64 z3, .int .i64 z4, .int .i64 z5] 43)) w7.heap.size 43 #[.int .i64 z0, .int .i64 z1, .int .i64 z2, .int .i64 z3, .int .i64 z4, .int .i64 z5] := Whl.new rfl
    have P8 := P7.alloc (.cells #[.int .i64 z0, .int .i64 z1, .int .i64 z2, .int .i64 z3, .int .i64 z4, .int .i64 z5] 43)
    have B8 := B7.trans (q8.mono (by omega))
    have p0 := P8.cell 0
    have p1 := P8.cell 1
    have p2 := P8.cell 2
    have p3 := P8.cell 3
    have p4 := P8.cell 4
    have p5 := P8.cell 5
    simp only [List.getElem?_toArray, List.getElem?_cons_succ, List.getElem?_cons_zero] at p0 p1 p2 p3 p4 p5
    have s0 := Z8.cell 0
    have s1 := Z8.cell 1
    have s2 := Z8.cell 2
    have s3 := Z8.cell 3
    have s4 := Z8.cell 4
    have s5 := Z8.cell 5
    simp only [List.getElem?_toArray, List.getElem?_cons_succ, List.getElem?_cons_zero] at s0 s1 s2 s3 s4 s5
    clear q8 B7 P7
    go_wp2_with fail
    refine (KN.out _).mono ?_
    rintro z w9 ⟨rfl, hb9⟩
    go_wp2_with fail
    go_ret
    exact ⟨rfl, B8.trans (hb9.mono (by simp; omega))⟩
  · skip
    go_enter Try.func5, Try.ntmps5
    go_wp2_with fail
    refine (opEncodeReply e i a b c d _ hB).mono ?_
    rintro z w1 ⟨v5, rfl, hown5, hb1⟩
    obtain ⟨A5, c5, rfl, hc5, hm5, hx5⟩ := row_cells hown5
    have HO5 := Lib.hid hown5
    have HX5 := Lib.hid hx5
    clear hown5 hx5
    have hs1 := hb1.size
    simp at hs1
    have P1 := P0.below hb1 (by simp)
    have B1 := B0.trans (hb1.mono (by simp))
    clear P0 B0 hb1
    have p0 := P1.cell 0
    have p1 := P1.cell 1
    have p2 := P1.cell 2
    have p3 := P1.cell 3
    have p4 := P1.cell 4
    have p5 := P1.cell 5
    simp only [List.getElem?_toArray, List.getElem?_cons_succ, List.getElem?_cons_zero] at p0 p1 p2 p3 p4 p5
    go_wp2_with fail
    clear p0 p1 p2 p3 p4 p5
    refine (refEncodeReply e i a b c d _ hB).mono ?_
    rintro z w2 ⟨v7, rfl, hown7, hb2⟩
    have HO7 := Lib.hid hown7
    have HO5 := Lib.hid (row_below HO5.out hb2)
    have HX5 := Lib.hid (cells_keep HX5.out hb2 hb2.size)
    clear hown7
    have hs2 := hb2.size
    have P2 := P1.below hb2 (by omega)
    have B2 := B1.trans (hb2.mono (by omega))
    clear P1 B1 hb2
    go_wp2_with fail
    refine (opDecodeReply A c' xs _ (by omega) H256.out (cells_keep HXw.out B2 (by omega))).mono ?_
    rintro z w3 ⟨hz, hb3⟩
    rw [HDEC.out] at hz
    subst hz
    have hs3 := hb3.size
    have P3 := P2.below hb3 (by omega)
    have B3 := B2.trans (hb3.mono (by omega))
    have HO5 := Lib.hid (row_below HO5.out hb3)
    have HO7 := Lib.hid (row_below HO7.out hb3)
    have HX5 := Lib.hid (cells_keep HX5.out hb3 hb3.size)
    clear P2 B2 hb3
    go_wp2_with fail
    have X4 : Whl (w3.alloc (.cells #[.int .i64 x0, .int .i64 x1, .int .i64 x2, .int .i64 x3, .int .i64 x4, .int .i64 x5] 43)) w3.heap.size 43 #[.int .i64 x0, .int .i64 x1, .int .i64 x2, .int .i64 x3, .int .i64 x4, .int .i64 x5] := Whl.new rfl
    have P4 := P3.alloc (.cells #[.int .i64 x0, .int .i64 x1, .int .i64 x2, .int .i64 x3, .int .i64 x4, .int .i64 x5] 43)
    have q4 : Below w3.heap.size w3 (w3.alloc (.cells #[.int .i64 x0, .int .i64 x1, .int .i64 x2, .int .i64 x3, .int .i64 x4, .int .i64 x5] 43)) := (Below.refl _ _).alloc (Nat.le_refl _) _
    have B4 := B3.trans (q4.mono (by omega))
    have hz4 : w3.heap.size < (w3.alloc (.cells #[.int .i64 x0, .int .i64 x1, .int .i64 x2, .int .i64 x3, .int .i64 x4, .int .i64 x5] 43)).heap.size := by simp
    have HO5 := Lib.hid (row_below HO5.out q4)
    have HO7 := Lib.hid (row_below HO7.out q4)
    have HX5 := Lib.hid (cells_keep HX5.out q4 q4.size)
    generalize (w3.alloc (.cells #[.int .i64 x0, .int .i64 x1, .int .i64 x2, .int .i64 x3, .int .i64 x4, .int .i64 x5] 43)) = U at *
    clear q4 P3 B3
    refine (refDecodeReply A c' xs _ (by omega) hcap hcm H256.out (cells_keep HXw.out B4 (by omega))).mono ?_
    rintro z w4 ⟨hz, hb4⟩
    rw [HDEC.out] at hz
    subst hz
    have hs4 := hb4.size
    have P5 := P4.below hb4 (by omega)
    have X5 := X4.below hb4 (by omega)
    have B5 := B4.trans (hb4.mono (by omega))
    have HO5 := Lib.hid (row_below HO5.out hb4)
    have HO7 := Lib.hid (row_below HO7.out hb4)
    have HX5 := Lib.hid (cells_keep HX5.out hb4 hb4.size)
    clear P4 X4 B4 hb4
    have q6 : Below w4.heap.size w4 (w4.alloc (.cells #[.int .i64 x0, .int .i64 x1, .int .i64 x2, .int .i64 x3, .int .i64 x4, .int .i64 x5] 43)) := (Below.refl _ _).alloc (Nat.le_refl _) _
    have Y6 : Whl (w4.alloc (.cells #[.int .i64 x0, .int .i64 x1, .int .i64 x2, .int .i64 x3, .int .i64 x4, .int .i64 x5] 43)) w4.heap.size 43 #[.int .i64 x0, .int .i64 x1, .int .i64 x2, .int .i64 x3, .int .i64 x4, .int .i64 x5] := Whl.new rfl
    have X6 := X5.alloc (.cells #[.int .i64 x0, .int .i64 x1, .int .i64 x2, .int .i64 x3, .int .i64 x4, .int .i64 x5] 43)
    have P6 := P5.alloc (.cells #[.int .i64 x0, .int .i64 x1, .int .i64 x2, .int .i64 x3, .int .i64 x4, .int .i64 x5] 43)
    have B6 := B5.trans (q6.mono (by omega))
    have hz6 : w4.heap.size < (w4.alloc (.cells #[.int .i64 x0, .int .i64 x1, .int .i64 x2, .int .i64 x3, .int .i64 x4, .int .i64 x5] 43)).heap.size := by simp
    have HO5 := Lib.hid (row_below HO5.out q6)
    have HO7 := Lib.hid (row_below HO7.out q6)
    have HX5 := Lib.hid (cells_keep HX5.out q6 q6.size)
    have cv5 := conv_own HO5.out
    have cv7 := conv_own HO7.out
    have u0 := X6.cell 0
    have u1 := X6.cell 1
    have u2 := X6.cell 2
    have u3 := X6.cell 3
    have u4 := X6.cell 4
    have u5 := X6.cell 5
    simp only [List.getElem?_toArray, List.getElem?_cons_succ, List.getElem?_cons_zero] at u0 u1 u2 u3 u4 u5
    have y0 := Y6.cell 0
    have y1 := Y6.cell 1
    have y2 := Y6.cell 2
    have y3 := Y6.cell 3
    have y4 := Y6.cell 4
    have y5 := Y6.cell 5
    simp only [List.getElem?_toArray, List.getElem?_cons_succ, List.getElem?_cons_zero] at y0 y1 y2 y3 y4 y5
    have hne := repNe x0 x1 x2 x3 x4 x5
    clear P5 X5 B5 q6
    go_wp2_with fail
    refine (opDecodeReply A5 c5 (repBs e i a b c d) _ (by have := hlen; omega) (repBs_byte _ _ _ _ _ _) HX5.out).mono ?_
    rintro z w7 ⟨hz, hb7⟩
    rw [rp_enc hB] at hz
    subst hz
    have hs7 := hb7.size
    have P7 := P6.below hb7 (by omega)
    have B7 := B6.trans (hb7.mono (by omega))
    clear u0 u1 u2 u3 u4 u5
    clear y0 y1 y2 y3 y4 y5
    clear P6 X6 Y6 B6 hb7 hne
    have q8 : Below w7.heap.size w7 (w7.alloc (.cells #[.int .i64 e, .int .i64 i, .int .i64 a, .int .i64 b, .int .i64 c, .int .i64 d] 43)) := (Below.refl _ _).alloc (Nat.le_refl _) _
    have Z8 : Whl (w7.alloc (.cells #[.int .i64 e, .int .i64 i, .int .i64 a, .int .i64 b, .int .i64 c, .int .i64 d] 43)) w7.heap.size 43 #[.int .i64 e, .int .i64 i, .int .i64 a, .int .i64 b, .int .i64 c, .int .i64 d] := Whl.new rfl
    have P8 := P7.alloc (.cells #[.int .i64 e, .int .i64 i, .int .i64 a, .int .i64 b, .int .i64 c, .int .i64 d] 43)
    have B8 := B7.trans (q8.mono (by omega))
    have p0 := P8.cell 0
    have p1 := P8.cell 1
    have p2 := P8.cell 2
    have p3 := P8.cell 3
    have p4 := P8.cell 4
    have p5 := P8.cell 5
    simp only [List.getElem?_toArray, List.getElem?_cons_succ, List.getElem?_cons_zero] at p0 p1 p2 p3 p4 p5
    have s0 := Z8.cell 0
    have s1 := Z8.cell 1
    have s2 := Z8.cell 2
    have s3 := Z8.cell 3
    have s4 := Z8.cell 4
    have s5 := Z8.cell 5
    simp only [List.getElem?_toArray, List.getElem?_cons_succ, List.getElem?_cons_zero] at s0 s1 s2 s3 s4 s5
    have heq := repEq e i a b c d
    clear q8 B7 P7
    go_wp2_with fail
    refine (KN.out _).mono ?_
    rintro z w9 ⟨rfl, hb9⟩
    go_wp2_with fail
    go_ret
    exact ⟨rfl, B8.trans (hb9.mono (by simp; omega))⟩

theorem walkOpReplies (e i a b c d : Int) (A : Option Addr) (c' : Nat) (xs : List Nat) (w : World) (hcap : xs.length ≤ c') (hcm : c' ≤ maxLen) (h256 : ∀ x ∈ xs, x < 256) (hx : Cells w w.heap.size A xs.length c' 1 (flatU xs)) :
    Calls Try.prog 5 #[.agg #[.int .i64 e, .int .i64 i, .int .i64 a, .int .i64 b, .int .i64 c, .int .i64 d], .slice A xs.length c'] w fun e w' => e = .returned (.bool true) ∧ Below w.heap.size w w' := by
  by_cases hn : xs.length ≤ 2000
  · exact walkOpReplies1 e i a b c d A c' xs w hn hcap hcm h256 hx
  · have q2000 : (2000 : Int) < (xs.length : Int) := by omega
    clear hx h256
    go_enter Try.func5, Try.ntmps5
    go_wp2_with fail
    go_ret
    exact ⟨rfl, (Below.refl _ _).alloc (Nat.le_refl _) _⟩
end Go.Proofs.Ytblknjclkecglaa
