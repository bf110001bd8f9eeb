/- OpDecodes returns true: the walk of the statement. -/
import Derived.Test.YtblknjclkecglaaDcR
import Derived.Test.YtblknjclkecglaaDcO
import Derived.Test.YtblknjclkecglaaOpKn
namespace Go.Proofs.Ytblknjclkecglaa
open Go.RowKit
set_option linter.unusedVariables false
set_option linter.unusedSimpArgs false

theorem dV_form (xs : List Nat) : ∃ (x0 x1 x2 : Int) (s3 s4 s5 s6 : ByteArray) (x7 x8 x9 : Int) (b10 : Bool) (x11 er : Int), dV xs = .tuple #[.agg #[.int .i64 x0, .int .i64 x1, .int .i64 x2, .string s3, .string s4, .string s5, .string s6, .int .i64 x7, .int .i64 x8, .int .i64 x9, .bool b10, .int .i64 x11], .int .i64 er] := by
  unfold dV
  cases dB xs
  · exact ⟨_, _, _, _, _, _, _, _, _, _, _, _, _, rfl⟩
  · exact ⟨_, _, _, _, _, _, _, _, _, _, _, _, _, rfl⟩
theorem opSame (k cl sq : Int) (ak aw tk tw : ByteArray) (it ct pr : Int) (bu : Bool) (id : Int) : opEqB k cl sq ak aw tk tw it ct pr bu id k cl sq ak aw tk tw it ct pr bu id = true := by simp [opEqB]

set_option maxHeartbeats 4000000 in
set_option maxRecDepth 10000 in
theorem walkOpDecodes1 (A : Option Addr) (c : Nat) (xs : List Nat) (w : World) (hn : xs.length ≤ 2000) (hcap : xs.length ≤ c) (hcm : c ≤ maxLen) (h256 : ∀ x ∈ xs, x < 256) (hx : Cells w w.heap.size A xs.length c 1 (flatU xs)) :
    Calls Try.prog 4 #[.slice A xs.length c] w fun e w' => e = .returned (.bool true) ∧ Below w.heap.size w w' := by
  obtain ⟨i0, hi, hz0, hz1, hz2⟩ := info_parts Try.infoByte
  have HXw := Lib.hid hx
  have HXx : Hid (Cells (w.alloc (.cells #[] 5)) w.heap.size A xs.length c 1 (flatU xs)) := Lib.hid (cells_keep hx ((Below.refl _ _).alloc (Nat.le_refl _) _) (Nat.le_refl _))
  have H256 := Lib.hid h256
  have KN : Hid (∀ w, Calls Try.prog 13 #[] w fun e w' => e = .returned (.bool true) ∧ Below w.heap.size w w') := Lib.hid opKnKnown
  have q2000 : ¬ (2000 : Int) < (xs.length : Int) := by omega
  obtain ⟨x0, x1, x2, s3, s4, s5, s6, x7, x8, x9, b10, x11, er, hdec⟩ := dV_form xs
  have HDEC := Lib.hid hdec
  clear hx h256 hdec
  go_enter Try.func4, Try.ntmps4
  go_wp2_with (at_builtin; go_must (refine wpList_append_row rfl (.tmp 11) (.tmp 12) 27 rfl w.heap.size 5 i0 (.int .u8 0) 1 1 Try.underlying27 hi hz0 hz1 hz2 rfl (by decide) _ 0 [] rfl (World.ownsRow_lit w #[] 0 (Nat.le_refl _) (by decide) rfl) w.heap.size A xs.length c (flatU xs) rfl HXx.out (flatU_one _) (by unfold maxLen; omega) (by omega) (by (first | omega | (simp; done) | (simp; omega))) ?_); intro v5 w5 hown5 hb5; have hs5 := hb5.size; (try simp at hs5); obtain ⟨A5, c5, rfl, hc5, hm5, hx5⟩ := row_cells hown5; (try simp only [Nat.zero_add, List.nil_append] at hx5 hc5); have HX5 := Lib.hid hx5; have HB5 := Lib.hid hb5; clear hown5 hx5 hb5)
  have B5 : Below w.heap.size w w5 := ((Below.refl w.heap.size w).alloc (Nat.le_refl _) _).trans HB5.out
  refine (opDecode A5 c5 xs _ (by omega) H256.out (by simpa using cells_mono HX5.out (by omega))).mono ?_
  rintro z w3 ⟨hz, hb3⟩
  rw [HDEC.out] at hz
  subst hz
  have hs3 := hb3.size
  have B3 := B5.trans (hb3.mono (by omega))
  clear B5 hb3
  go_wp2_with fail
  have X4 : Whl (w3.alloc (.cells #[.int .i64 x0, .int .i64 x1, .int .i64 x2, .string s3, .string s4, .string s5, .string s6, .int .i64 x7, .int .i64 x8, .int .i64 x9, .bool b10, .int .i64 x11] 25)) w3.heap.size 25 #[.int .i64 x0, .int .i64 x1, .int .i64 x2, .string s3, .string s4, .string s5, .string s6, .int .i64 x7, .int .i64 x8, .int .i64 x9, .bool b10, .int .i64 x11] := Whl.new rfl
  have B4 : Below w.heap.size w (w3.alloc (.cells #[.int .i64 x0, .int .i64 x1, .int .i64 x2, .string s3, .string s4, .string s5, .string s6, .int .i64 x7, .int .i64 x8, .int .i64 x9, .bool b10, .int .i64 x11] 25)) := B3.alloc (by omega) _
  have hz4 : w3.heap.size < (w3.alloc (.cells #[.int .i64 x0, .int .i64 x1, .int .i64 x2, .string s3, .string s4, .string s5, .string s6, .int .i64 x7, .int .i64 x8, .int .i64 x9, .bool b10, .int .i64 x11] 25)).heap.size := by simp
  generalize (w3.alloc (.cells #[.int .i64 x0, .int .i64 x1, .int .i64 x2, .string s3, .string s4, .string s5, .string s6, .int .i64 x7, .int .i64 x8, .int .i64 x9, .bool b10, .int .i64 x11] 25)) = V1 at *
  clear B3
  refine (refDecode A c xs _ (by omega) hcap hcm H256.out (cells_keep HXw.out B4 (by omega))).mono ?_
  rintro z w4 ⟨hz, hb4⟩
  rw [HDEC.out] at hz
  subst hz
  have hs4 := hb4.size
  have X5 := X4.below hb4 (by omega)
  have B6 := B4.trans (hb4.mono (by omega))
  have Y6 : Whl (w4.alloc (.cells #[.int .i64 x0, .int .i64 x1, .int .i64 x2, .string s3, .string s4, .string s5, .string s6, .int .i64 x7, .int .i64 x8, .int .i64 x9, .bool b10, .int .i64 x11] 25)) w4.heap.size 25 #[.int .i64 x0, .int .i64 x1, .int .i64 x2, .string s3, .string s4, .string s5, .string s6, .int .i64 x7, .int .i64 x8, .int .i64 x9, .bool b10, .int .i64 x11] := Whl.new rfl
  have X6 : Whl (w4.alloc (.cells #[.int .i64 x0, .int .i64 x1, .int .i64 x2, .string s3, .string s4, .string s5, .string s6, .int .i64 x7, .int .i64 x8, .int .i64 x9, .bool b10, .int .i64 x11] 25)) w3.heap.size 25 #[.int .i64 x0, .int .i64 x1, .int .i64 x2, .string s3, .string s4, .string s5, .string s6, .int .i64 x7, .int .i64 x8, .int .i64 x9, .bool b10, .int .i64 x11] := X5.alloc _
  have B7 : Below w.heap.size w (w4.alloc (.cells #[.int .i64 x0, .int .i64 x1, .int .i64 x2, .string s3, .string s4, .string s5, .string s6, .int .i64 x7, .int .i64 x8, .int .i64 x9, .bool b10, .int .i64 x11] 25)) := B6.alloc (by omega) _
  have hz6 : w4.heap.size < (w4.alloc (.cells #[.int .i64 x0, .int .i64 x1, .int .i64 x2, .string s3, .string s4, .string s5, .string s6, .int .i64 x7, .int .i64 x8, .int .i64 x9, .bool b10, .int .i64 x11] 25)).heap.size := by simp
  have HB7 := Lib.hid B7
  have heq : ∀ w, (binOp .eql 25 (.agg #[.int .i64 x0, .int .i64 x1, .int .i64 x2, .string s3, .string s4, .string s5, .string s6, .int .i64 x7, .int .i64 x8, .int .i64 x9, .bool b10, .int .i64 x11]) (.agg #[.int .i64 x0, .int .i64 x1, .int .i64 x2, .string s3, .string s4, .string s5, .string s6, .int .i64 x7, .int .i64 x8, .int .i64 x9, .bool b10, .int .i64 x11])).run Try.prog w = .ok (.bool true) w := fun w => by rw [opEqO, opSame]
  clear X4 X5 B4 B6 B7 hb4
  have u0 := X6.cell 0
  have u1 := X6.cell 1
  have u2 := X6.cell 2
  have u3 := X6.cell 3
  have u4 := X6.cell 4
  have u5 := X6.cell 5
  have u6 := X6.cell 6
  have u7 := X6.cell 7
  have u8 := X6.cell 8
  have u9 := X6.cell 9
  have u10 := X6.cell 10
  have u11 := X6.cell 11
  simp only [List.getElem?_toArray, List.getElem?_cons_succ, List.getElem?_cons_zero] at u0 u1 u2 u3 u4 u5 u6 u7 u8 u9 u10 u11
  have y0 := Y6.cell 0
  have y1 := Y6.cell 1
  have y2 := Y6.cell 2
  have y3 := Y6.cell 3
  have y4 := Y6.cell 4
  have y5 := Y6.cell 5
  have y6 := Y6.cell 6
  have y7 := Y6.cell 7
  have y8 := Y6.cell 8
  have y9 := Y6.cell 9
  have y10 := Y6.cell 10
  have y11 := Y6.cell 11
  simp only [List.getElem?_toArray, List.getElem?_cons_succ, List.getElem?_cons_zero] at y0 y1 y2 y3 y4 y5 y6 y7 y8 y9 y10 y11
  clear X6 Y6
  go_wp2_with fail
  refine (KN.out _).mono ?_
  rintro z w9 ⟨rfl, hb9⟩
  go_wp2_with fail
  go_ret
  exact ⟨rfl, HB7.out.trans (hb9.mono (by simp; omega))⟩
theorem walkOpDecodes (A : Option Addr) (c : Nat) (xs : List Nat) (w : World) (hcap : xs.length ≤ c) (hcm : c ≤ maxLen) (h256 : ∀ x ∈ xs, x < 256) (hx : Cells w w.heap.size A xs.length c 1 (flatU xs)) :
    Calls Try.prog 4 #[.slice A xs.length c] w fun e w' => e = .returned (.bool true) ∧ Below w.heap.size w w' := by
  by_cases hn : xs.length ≤ 2000
  · exact walkOpDecodes1 A c xs w hn hcap hcm h256 hx
  · have q2000 : (2000 : Int) < (xs.length : Int) := by omega
    clear hx h256
    go_enter Try.func4, Try.ntmps4
    go_wp2_with fail
    go_ret
    exact ⟨rfl, Below.refl _ _⟩
end Go.Proofs.Ytblknjclkecglaa
