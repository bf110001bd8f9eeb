/- An argument that is a wire.Word, opened: its cells. -/
import Derived.Test.YtngblgojiofjlaaGreatDoorProg
import Derived.ProofKit
import Derived.OpenShut
import Derived.ShutString
import Derived.Lib.SmallJoins
import Derived.Deep.SlicePairs
import Derived.KernelRfl
namespace Go.Proofs.YtngblgojiofjlaaGreatDoor
open Go.RowKit Go.ChangeShapes Go.WideShapes Go.ChangeAt Go.Joins Go.Deep
set_option linter.unusedVariables false
set_option linter.unusedSimpArgs false

theorem arr_ints_word {H : Type} {enc : TypeId × Value → H} {P : Program} {w : World} {base : Nat} {spare : Nat → Bool} {held : Bool} {fuel : Nat} {t e : TypeId} {cs : List Value} {n : Nat} {k : IntKind} {y : DataW H × List MemPlace}
    (ht : P.underlying t = some (.array n e)) (he : P.underlying e = some (.int k)) (hc : P.cellsOf e = 1) (h : DataW.trod enc P w base spare held fuel t cs = some y) : ∀ i c, i < n → cs[i]? = some c → ∃ z, c = .int k z := by
  intro i c hi hcs
  obtain ⟨d, p⟩ := y
  obtain ⟨xs, m, rfl, hx, hlen, hn, hel⟩ := DataW.trod_array ht h
  have h1 := hel i (by omega)
  rw [hc, Nat.mul_one] at h1
  have h2 : (cs.drop i).take 1 = [c] := by rw [List.take_one, List.head?_drop, hcs]; rfl
  rw [h2] at h1
  obtain ⟨x, hxi⟩ : ∃ x, xs[i]? = some x := ⟨_, List.getElem?_eq_getElem (by omega)⟩
  rw [hxi] at h1
  obtain ⟨v, e1, _, _⟩ := DataW.trod_int he h1
  simp only [List.cons.injEq, and_true] at e1
  exact ⟨v, e1⟩
set_option maxRecDepth 100000 in
theorem open_word {H : Type} {enc : TypeId × Value → H} {w : World} {base : Nat} {spare : Nat → Bool} {held : Bool} {r : Reach} {b0 : Nat} {v : Value} {d : DataW H} {p : List MemPlace}
    (hv : Value.okWide Tryz.prog w r b0 40 v) (h : DataW.Trod enc Tryz.prog w base spare held 40 v d p) :
    ∃ (a0 : Int) (a1 : Int) (a2 : Int) (a3 : Int) (a4 : Int) (a5 : Int) (a6 : Int) (a7 : Int) (a8 : ByteArray) (a9 : ByteArray) (a10 : Int) (a11 : Int) (a12 : Int) (a13 : ByteArray) (a14 : ByteArray) (a15 : ByteArray) (a16 : ByteArray) (a17 : Int) (a18 : Int) (a19 : Int) (a20 : Bool) (a21 : Int) (a22 : Int) (a23 : Int) (a24 : Int) (a25 : Int) (a26 : Int) (a27 : Int) (a28 : Int) (a29 : Int) (d30 : Option Addr) (n30 m30 : Nat) (a31 : Int) (a32 : Int) (a33 : Int) (a34 : Int) (a35 : ByteArray) (d36 : Option Addr) (n36 m36 : Nat), v = .agg #[.int .i64 a0, .int .i64 a1, .int .i64 a2, .int .i64 a3, .int .i64 a4, .int .i64 a5, .int .i64 a6, .int .i64 a7, .string a8, .string a9, .int .i64 a10, .int .i64 a11, .int .i64 a12, .string a13, .string a14, .string a15, .string a16, .int .i64 a17, .int .i64 a18, .int .i64 a19, .bool a20, .int .i64 a21, .int .i64 a22, .int .i64 a23, .int .i64 a24, .int .i64 a25, .int .i64 a26, .int .i64 a27, .int .i64 a28, .int .i64 a29, .slice d30 n30 m30, .int .i64 a31, .int .i64 a32, .int .i64 a33, .int .i64 a34, .string a35, .slice d36 n36 m36] ∧ (Lit.int .i64 a0).wf = true ∧ (Lit.int .i64 a1).wf = true ∧ (Lit.int .i64 a2).wf = true ∧ (Lit.int .i64 a3).wf = true ∧ (Lit.int .i64 a4).wf = true ∧ (Lit.int .i64 a5).wf = true ∧ (Lit.int .i64 a6).wf = true ∧ (Lit.int .i64 a7).wf = true ∧ a8.size ≤ maxLen ∧ a9.size ≤ maxLen ∧ (Lit.int .i64 a10).wf = true ∧ (Lit.int .i64 a11).wf = true ∧ (Lit.int .i64 a12).wf = true ∧ a13.size ≤ maxLen ∧ a14.size ≤ maxLen ∧ a15.size ≤ maxLen ∧ a16.size ≤ maxLen ∧ (Lit.int .i64 a17).wf = true ∧ (Lit.int .i64 a18).wf = true ∧ (Lit.int .i64 a19).wf = true ∧ (Lit.int .i64 a21).wf = true ∧ (Lit.int .i64 a22).wf = true ∧ (Lit.int .i64 a23).wf = true ∧ (Lit.int .i64 a28).wf = true ∧ (Lit.int .i64 a29).wf = true ∧ (Lit.int .i64 a31).wf = true ∧ (Lit.int .i64 a32).wf = true ∧ (Lit.int .i64 a33).wf = true ∧ (Lit.int .i64 a34).wf = true ∧ a35.size ≤ maxLen ∧ True := by
  obtain ⟨cs, rfl, hsz⟩ := okWide_struct Tryz.underlying40 hv
  obtain ⟨c0, c1, c2, c3, c4, c5, c6, c7, c8, c9, c10, c11, c12, c13, c14, c15, c16, c17, c18, c19, c20, c21, c22, c23, c24, c25, c26, c27, c28, c29, c30, c31, c32, c33, c34, c35, c36, rfl⟩ : ∃ c0 c1 c2 c3 c4 c5 c6 c7 c8 c9 c10 c11 c12 c13 c14 c15 c16 c17 c18 c19 c20 c21 c22 c23 c24 c25 c26 c27 c28 c29 c30 c31 c32 c33 c34 c35 c36, cs = #[c0, c1, c2, c3, c4, c5, c6, c7, c8, c9, c10, c11, c12, c13, c14, c15, c16, c17, c18, c19, c20, c21, c22, c23, c24, c25, c26, c27, c28, c29, c30, c31, c32, c33, c34, c35, c36] := by
    obtain ⟨l⟩ := cs
    have hl0 : l.length = 37 := hsz.trans (show Tryz.prog.cellsOf 40 = 37 from by kernel_rfl)
    obtain ⟨c0, l0, rfl⟩ := List.exists_cons_of_length_eq_add_one hl0
    have hl1 : l0.length = 36 := by simpa using hl0
    obtain ⟨c1, l1, rfl⟩ := List.exists_cons_of_length_eq_add_one hl1
    have hl2 : l1.length = 35 := by simpa using hl1
    obtain ⟨c2, l2, rfl⟩ := List.exists_cons_of_length_eq_add_one hl2
    have hl3 : l2.length = 34 := by simpa using hl2
    obtain ⟨c3, l3, rfl⟩ := List.exists_cons_of_length_eq_add_one hl3
    have hl4 : l3.length = 33 := by simpa using hl3
    obtain ⟨c4, l4, rfl⟩ := List.exists_cons_of_length_eq_add_one hl4
    have hl5 : l4.length = 32 := by simpa using hl4
    obtain ⟨c5, l5, rfl⟩ := List.exists_cons_of_length_eq_add_one hl5
    have hl6 : l5.length = 31 := by simpa using hl5
    obtain ⟨c6, l6, rfl⟩ := List.exists_cons_of_length_eq_add_one hl6
    have hl7 : l6.length = 30 := by simpa using hl6
    obtain ⟨c7, l7, rfl⟩ := List.exists_cons_of_length_eq_add_one hl7
    have hl8 : l7.length = 29 := by simpa using hl7
    obtain ⟨c8, l8, rfl⟩ := List.exists_cons_of_length_eq_add_one hl8
    have hl9 : l8.length = 28 := by simpa using hl8
    obtain ⟨c9, l9, rfl⟩ := List.exists_cons_of_length_eq_add_one hl9
    have hl10 : l9.length = 27 := by simpa using hl9
    obtain ⟨c10, l10, rfl⟩ := List.exists_cons_of_length_eq_add_one hl10
    have hl11 : l10.length = 26 := by simpa using hl10
    obtain ⟨c11, l11, rfl⟩ := List.exists_cons_of_length_eq_add_one hl11
    have hl12 : l11.length = 25 := by simpa using hl11
    obtain ⟨c12, l12, rfl⟩ := List.exists_cons_of_length_eq_add_one hl12
    have hl13 : l12.length = 24 := by simpa using hl12
    obtain ⟨c13, l13, rfl⟩ := List.exists_cons_of_length_eq_add_one hl13
    have hl14 : l13.length = 23 := by simpa using hl13
    obtain ⟨c14, l14, rfl⟩ := List.exists_cons_of_length_eq_add_one hl14
    have hl15 : l14.length = 22 := by simpa using hl14
    obtain ⟨c15, l15, rfl⟩ := List.exists_cons_of_length_eq_add_one hl15
    have hl16 : l15.length = 21 := by simpa using hl15
    obtain ⟨c16, l16, rfl⟩ := List.exists_cons_of_length_eq_add_one hl16
    have hl17 : l16.length = 20 := by simpa using hl16
    obtain ⟨c17, l17, rfl⟩ := List.exists_cons_of_length_eq_add_one hl17
    have hl18 : l17.length = 19 := by simpa using hl17
    obtain ⟨c18, l18, rfl⟩ := List.exists_cons_of_length_eq_add_one hl18
    have hl19 : l18.length = 18 := by simpa using hl18
    obtain ⟨c19, l19, rfl⟩ := List.exists_cons_of_length_eq_add_one hl19
    have hl20 : l19.length = 17 := by simpa using hl19
    obtain ⟨c20, l20, rfl⟩ := List.exists_cons_of_length_eq_add_one hl20
    have hl21 : l20.length = 16 := by simpa using hl20
    obtain ⟨c21, l21, rfl⟩ := List.exists_cons_of_length_eq_add_one hl21
    have hl22 : l21.length = 15 := by simpa using hl21
    obtain ⟨c22, l22, rfl⟩ := List.exists_cons_of_length_eq_add_one hl22
    have hl23 : l22.length = 14 := by simpa using hl22
    obtain ⟨c23, l23, rfl⟩ := List.exists_cons_of_length_eq_add_one hl23
    have hl24 : l23.length = 13 := by simpa using hl23
    obtain ⟨c24, l24, rfl⟩ := List.exists_cons_of_length_eq_add_one hl24
    have hl25 : l24.length = 12 := by simpa using hl24
    obtain ⟨c25, l25, rfl⟩ := List.exists_cons_of_length_eq_add_one hl25
    have hl26 : l25.length = 11 := by simpa using hl25
    obtain ⟨c26, l26, rfl⟩ := List.exists_cons_of_length_eq_add_one hl26
    have hl27 : l26.length = 10 := by simpa using hl26
    obtain ⟨c27, l27, rfl⟩ := List.exists_cons_of_length_eq_add_one hl27
    have hl28 : l27.length = 9 := by simpa using hl27
    obtain ⟨c28, l28, rfl⟩ := List.exists_cons_of_length_eq_add_one hl28
    have hl29 : l28.length = 8 := by simpa using hl28
    obtain ⟨c29, l29, rfl⟩ := List.exists_cons_of_length_eq_add_one hl29
    have hl30 : l29.length = 7 := by simpa using hl29
    obtain ⟨c30, l30, rfl⟩ := List.exists_cons_of_length_eq_add_one hl30
    have hl31 : l30.length = 6 := by simpa using hl30
    obtain ⟨c31, l31, rfl⟩ := List.exists_cons_of_length_eq_add_one hl31
    have hl32 : l31.length = 5 := by simpa using hl31
    obtain ⟨c32, l32, rfl⟩ := List.exists_cons_of_length_eq_add_one hl32
    have hl33 : l32.length = 4 := by simpa using hl32
    obtain ⟨c33, l33, rfl⟩ := List.exists_cons_of_length_eq_add_one hl33
    have hl34 : l33.length = 3 := by simpa using hl33
    obtain ⟨c34, l34, rfl⟩ := List.exists_cons_of_length_eq_add_one hl34
    have hl35 : l34.length = 2 := by simpa using hl34
    obtain ⟨c35, l35, rfl⟩ := List.exists_cons_of_length_eq_add_one hl35
    have hl36 : l35.length = 1 := by simpa using hl35
    obtain ⟨c36, l36, rfl⟩ := List.exists_cons_of_length_eq_add_one hl36
    have hl37 : l36.length = 0 := by simpa using hl36
    obtain rfl := List.eq_nil_of_length_eq_zero hl37
    exact ⟨c0, c1, c2, c3, c4, c5, c6, c7, c8, c9, c10, c11, c12, c13, c14, c15, c16, c17, c18, c19, c20, c21, c22, c23, c24, c25, c26, c27, c28, c29, c30, c31, c32, c33, c34, c35, c36, rfl⟩
  obtain ⟨fuel, hf⟩ := h
  obtain ⟨xsr, nr, _, _, _, hlenr, hfr⟩ := DataW.trod_struct Tryz.underlying40 hf
  obtain ⟨yr_0, yr_1, yr_2, yr_3, yr_4, yr_5, yr_6, yr_7, yr_8, yr_9, yr_10, yr_11, yr_12, yr_13, rfl⟩ : ∃ yr_0 yr_1 yr_2 yr_3 yr_4 yr_5 yr_6 yr_7 yr_8 yr_9 yr_10 yr_11 yr_12 yr_13, xsr = [yr_0, yr_1, yr_2, yr_3, yr_4, yr_5, yr_6, yr_7, yr_8, yr_9, yr_10, yr_11, yr_12, yr_13] := by
    match xsr, hlenr with
    | [yr_0, yr_1, yr_2, yr_3, yr_4, yr_5, yr_6, yr_7, yr_8, yr_9, yr_10, yr_11, yr_12, yr_13], _ => exact ⟨yr_0, yr_1, yr_2, yr_3, yr_4, yr_5, yr_6, yr_7, yr_8, yr_9, yr_10, yr_11, yr_12, yr_13, rfl⟩
  have gr_0 : DataW.trod enc Tryz.prog w base spare held nr 3 [c0] = some yr_0 := by
    have q := hfr 0 _ rfl
    have hc : Tryz.prog.cellsOf 3 = 1 := by kernel_rfl
    simpa [Value.cells, hc] using q
  obtain ⟨a0, e0, _, w0⟩ := DataW.trod_int Tryz.underlying3 gr_0
  have gr_1 : DataW.trod enc Tryz.prog w base spare held nr 3 [c1] = some yr_1 := by
    have q := hfr 1 _ rfl
    have hc : Tryz.prog.cellsOf 3 = 1 := by kernel_rfl
    simpa [Value.cells, hc] using q
  obtain ⟨a1, e1, _, w1⟩ := DataW.trod_int Tryz.underlying3 gr_1
  have gr_2 : DataW.trod enc Tryz.prog w base spare held nr 3 [c2] = some yr_2 := by
    have q := hfr 2 _ rfl
    have hc : Tryz.prog.cellsOf 3 = 1 := by kernel_rfl
    simpa [Value.cells, hc] using q
  obtain ⟨a2, e2, _, w2⟩ := DataW.trod_int Tryz.underlying3 gr_2
  have gr_3 : DataW.trod enc Tryz.prog w base spare held nr 3 [c3] = some yr_3 := by
    have q := hfr 3 _ rfl
    have hc : Tryz.prog.cellsOf 3 = 1 := by kernel_rfl
    simpa [Value.cells, hc] using q
  obtain ⟨a3, e3, _, w3⟩ := DataW.trod_int Tryz.underlying3 gr_3
  have gr_4 : DataW.trod enc Tryz.prog w base spare held nr 3 [c4] = some yr_4 := by
    have q := hfr 4 _ rfl
    have hc : Tryz.prog.cellsOf 3 = 1 := by kernel_rfl
    simpa [Value.cells, hc] using q
  obtain ⟨a4, e4, _, w4⟩ := DataW.trod_int Tryz.underlying3 gr_4
  have gr_5 : DataW.trod enc Tryz.prog w base spare held nr 3 [c5] = some yr_5 := by
    have q := hfr 5 _ rfl
    have hc : Tryz.prog.cellsOf 3 = 1 := by kernel_rfl
    simpa [Value.cells, hc] using q
  obtain ⟨a5, e5, _, w5⟩ := DataW.trod_int Tryz.underlying3 gr_5
  have gr_6 : DataW.trod enc Tryz.prog w base spare held nr 3 [c6] = some yr_6 := by
    have q := hfr 6 _ rfl
    have hc : Tryz.prog.cellsOf 3 = 1 := by kernel_rfl
    simpa [Value.cells, hc] using q
  obtain ⟨a6, e6, _, w6⟩ := DataW.trod_int Tryz.underlying3 gr_6
  have gr_7 : DataW.trod enc Tryz.prog w base spare held nr 22 [c7] = some yr_7 := by
    have q := hfr 7 _ rfl
    have hc : Tryz.prog.cellsOf 22 = 1 := by kernel_rfl
    simpa [Value.cells, hc] using q
  obtain ⟨a7, e7, _, w7⟩ := DataW.trod_int Tryz.underlying22 gr_7
  have gr_8 : DataW.trod enc Tryz.prog w base spare held nr 24 [c8, c9] = some yr_8 := by
    have q := hfr 8 _ rfl
    have hc : Tryz.prog.cellsOf 24 = 2 := by kernel_rfl
    simpa [Value.cells, hc] using q
  have gr_9 : DataW.trod enc Tryz.prog w base spare held nr 28 [c10, c11, c12, c13, c14, c15, c16, c17, c18, c19, c20, c21] = some yr_9 := by
    have q := hfr 9 _ rfl
    have hc : Tryz.prog.cellsOf 28 = 12 := by kernel_rfl
    simpa [Value.cells, hc] using q
  have gr_10 : DataW.trod enc Tryz.prog w base spare held nr 32 [c22, c23, c24, c25, c26, c27] = some yr_10 := by
    have q := hfr 10 _ rfl
    have hc : Tryz.prog.cellsOf 32 = 6 := by kernel_rfl
    simpa [Value.cells, hc] using q
  have gr_11 : DataW.trod enc Tryz.prog w base spare held nr 35 [c28, c29, c30] = some yr_11 := by
    have q := hfr 11 _ rfl
    have hc : Tryz.prog.cellsOf 35 = 3 := by kernel_rfl
    simpa [Value.cells, hc] using q
  have gr_12 : DataW.trod enc Tryz.prog w base spare held nr 37 [c31, c32, c33, c34, c35] = some yr_12 := by
    have q := hfr 12 _ rfl
    have hc : Tryz.prog.cellsOf 37 = 5 := by kernel_rfl
    simpa [Value.cells, hc] using q
  have gr_13 : DataW.trod enc Tryz.prog w base spare held nr 38 [c36] = some yr_13 := by
    have q := hfr 13 _ rfl
    have hc : Tryz.prog.cellsOf 38 = 1 := by kernel_rfl
    simpa [Value.cells, hc] using q
  obtain ⟨d36, n36, m36, e36⟩ : ∃ (d : Option Addr) (n m : Nat), c36 = .slice d n m := by
    rcases DataW.trod_slice Tryz.underlying38 gr_13 with ⟨e2, _⟩ | ⟨a, len, cap, _, _, _, _, e2, _⟩
    · simp only [List.cons.injEq, and_true] at e2
      exact ⟨none, 0, 0, e2⟩
    · simp only [List.cons.injEq, and_true] at e2
      exact ⟨some a, len, cap, e2⟩
  obtain ⟨xsr8, nr8, _, _, _, hlenr8, hfr8⟩ := DataW.trod_struct Tryz.underlying24 gr_8
  obtain ⟨yr8_0, yr8_1, rfl⟩ : ∃ yr8_0 yr8_1, xsr8 = [yr8_0, yr8_1] := by
    match xsr8, hlenr8 with
    | [yr8_0, yr8_1], _ => exact ⟨yr8_0, yr8_1, rfl⟩
  have gr8_0 : DataW.trod enc Tryz.prog w base spare held nr8 9 [c8] = some yr8_0 := by
    have q := hfr8 0 _ rfl
    have hc : Tryz.prog.cellsOf 9 = 1 := by kernel_rfl
    simpa [Value.cells, hc] using q
  obtain ⟨a8, e8, _, w8⟩ := DataW.trod_string Tryz.underlying9 gr8_0
  have gr8_1 : DataW.trod enc Tryz.prog w base spare held nr8 9 [c9] = some yr8_1 := by
    have q := hfr8 1 _ rfl
    have hc : Tryz.prog.cellsOf 9 = 1 := by kernel_rfl
    simpa [Value.cells, hc] using q
  obtain ⟨a9, e9, _, w9⟩ := DataW.trod_string Tryz.underlying9 gr8_1
  obtain ⟨xsr9, nr9, _, _, _, hlenr9, hfr9⟩ := DataW.trod_struct Tryz.underlying28 gr_9
  obtain ⟨yr9_0, yr9_1, yr9_2, yr9_3, yr9_4, yr9_5, yr9_6, yr9_7, yr9_8, yr9_9, rfl⟩ : ∃ yr9_0 yr9_1 yr9_2 yr9_3 yr9_4 yr9_5 yr9_6 yr9_7 yr9_8 yr9_9, xsr9 = [yr9_0, yr9_1, yr9_2, yr9_3, yr9_4, yr9_5, yr9_6, yr9_7, yr9_8, yr9_9] := by
    match xsr9, hlenr9 with
    | [yr9_0, yr9_1, yr9_2, yr9_3, yr9_4, yr9_5, yr9_6, yr9_7, yr9_8, yr9_9], _ => exact ⟨yr9_0, yr9_1, yr9_2, yr9_3, yr9_4, yr9_5, yr9_6, yr9_7, yr9_8, yr9_9, rfl⟩
  have gr9_0 : DataW.trod enc Tryz.prog w base spare held nr9 3 [c10] = some yr9_0 := by
    have q := hfr9 0 _ rfl
    have hc : Tryz.prog.cellsOf 3 = 1 := by kernel_rfl
    simpa [Value.cells, hc] using q
  obtain ⟨a10, e10, _, w10⟩ := DataW.trod_int Tryz.underlying3 gr9_0
  have gr9_1 : DataW.trod enc Tryz.prog w base spare held nr9 3 [c11] = some yr9_1 := by
    have q := hfr9 1 _ rfl
    have hc : Tryz.prog.cellsOf 3 = 1 := by kernel_rfl
    simpa [Value.cells, hc] using q
  obtain ⟨a11, e11, _, w11⟩ := DataW.trod_int Tryz.underlying3 gr9_1
  have gr9_2 : DataW.trod enc Tryz.prog w base spare held nr9 3 [c12] = some yr9_2 := by
    have q := hfr9 2 _ rfl
    have hc : Tryz.prog.cellsOf 3 = 1 := by kernel_rfl
    simpa [Value.cells, hc] using q
  obtain ⟨a12, e12, _, w12⟩ := DataW.trod_int Tryz.underlying3 gr9_2
  have gr9_3 : DataW.trod enc Tryz.prog w base spare held nr9 26 [c13, c14] = some yr9_3 := by
    have q := hfr9 3 _ rfl
    have hc : Tryz.prog.cellsOf 26 = 2 := by kernel_rfl
    simpa [Value.cells, hc] using q
  have gr9_4 : DataW.trod enc Tryz.prog w base spare held nr9 26 [c15, c16] = some yr9_4 := by
    have q := hfr9 4 _ rfl
    have hc : Tryz.prog.cellsOf 26 = 2 := by kernel_rfl
    simpa [Value.cells, hc] using q
  have gr9_5 : DataW.trod enc Tryz.prog w base spare held nr9 3 [c17] = some yr9_5 := by
    have q := hfr9 5 _ rfl
    have hc : Tryz.prog.cellsOf 3 = 1 := by kernel_rfl
    simpa [Value.cells, hc] using q
  obtain ⟨a17, e17, _, w17⟩ := DataW.trod_int Tryz.underlying3 gr9_5
  have gr9_6 : DataW.trod enc Tryz.prog w base spare held nr9 3 [c18] = some yr9_6 := by
    have q := hfr9 6 _ rfl
    have hc : Tryz.prog.cellsOf 3 = 1 := by kernel_rfl
    simpa [Value.cells, hc] using q
  obtain ⟨a18, e18, _, w18⟩ := DataW.trod_int Tryz.underlying3 gr9_6
  have gr9_7 : DataW.trod enc Tryz.prog w base spare held nr9 3 [c19] = some yr9_7 := by
    have q := hfr9 7 _ rfl
    have hc : Tryz.prog.cellsOf 3 = 1 := by kernel_rfl
    simpa [Value.cells, hc] using q
  obtain ⟨a19, e19, _, w19⟩ := DataW.trod_int Tryz.underlying3 gr9_7
  have gr9_8 : DataW.trod enc Tryz.prog w base spare held nr9 4 [c20] = some yr9_8 := by
    have q := hfr9 8 _ rfl
    have hc : Tryz.prog.cellsOf 4 = 1 := by kernel_rfl
    simpa [Value.cells, hc] using q
  obtain ⟨a20, e20, _⟩ := DataW.trod_bool Tryz.underlying4 gr9_8
  have gr9_9 : DataW.trod enc Tryz.prog w base spare held nr9 3 [c21] = some yr9_9 := by
    have q := hfr9 9 _ rfl
    have hc : Tryz.prog.cellsOf 3 = 1 := by kernel_rfl
    simpa [Value.cells, hc] using q
  obtain ⟨a21, e21, _, w21⟩ := DataW.trod_int Tryz.underlying3 gr9_9
  obtain ⟨xsr93, nr93, _, _, _, hlenr93, hfr93⟩ := DataW.trod_struct Tryz.underlying26 gr9_3
  obtain ⟨yr93_0, yr93_1, rfl⟩ : ∃ yr93_0 yr93_1, xsr93 = [yr93_0, yr93_1] := by
    match xsr93, hlenr93 with
    | [yr93_0, yr93_1], _ => exact ⟨yr93_0, yr93_1, rfl⟩
  have gr93_0 : DataW.trod enc Tryz.prog w base spare held nr93 9 [c13] = some yr93_0 := by
    have q := hfr93 0 _ rfl
    have hc : Tryz.prog.cellsOf 9 = 1 := by kernel_rfl
    simpa [Value.cells, hc] using q
  obtain ⟨a13, e13, _, w13⟩ := DataW.trod_string Tryz.underlying9 gr93_0
  have gr93_1 : DataW.trod enc Tryz.prog w base spare held nr93 9 [c14] = some yr93_1 := by
    have q := hfr93 1 _ rfl
    have hc : Tryz.prog.cellsOf 9 = 1 := by kernel_rfl
    simpa [Value.cells, hc] using q
  obtain ⟨a14, e14, _, w14⟩ := DataW.trod_string Tryz.underlying9 gr93_1
  obtain ⟨xsr94, nr94, _, _, _, hlenr94, hfr94⟩ := DataW.trod_struct Tryz.underlying26 gr9_4
  obtain ⟨yr94_0, yr94_1, rfl⟩ : ∃ yr94_0 yr94_1, xsr94 = [yr94_0, yr94_1] := by
    match xsr94, hlenr94 with
    | [yr94_0, yr94_1], _ => exact ⟨yr94_0, yr94_1, rfl⟩
  have gr94_0 : DataW.trod enc Tryz.prog w base spare held nr94 9 [c15] = some yr94_0 := by
    have q := hfr94 0 _ rfl
    have hc : Tryz.prog.cellsOf 9 = 1 := by kernel_rfl
    simpa [Value.cells, hc] using q
  obtain ⟨a15, e15, _, w15⟩ := DataW.trod_string Tryz.underlying9 gr94_0
  have gr94_1 : DataW.trod enc Tryz.prog w base spare held nr94 9 [c16] = some yr94_1 := by
    have q := hfr94 1 _ rfl
    have hc : Tryz.prog.cellsOf 9 = 1 := by kernel_rfl
    simpa [Value.cells, hc] using q
  obtain ⟨a16, e16, _, w16⟩ := DataW.trod_string Tryz.underlying9 gr94_1
  obtain ⟨xsr10, nr10, _, _, _, hlenr10, hfr10⟩ := DataW.trod_struct Tryz.underlying32 gr_10
  obtain ⟨yr10_0, yr10_1, yr10_2, rfl⟩ : ∃ yr10_0 yr10_1 yr10_2, xsr10 = [yr10_0, yr10_1, yr10_2] := by
    match xsr10, hlenr10 with
    | [yr10_0, yr10_1, yr10_2], _ => exact ⟨yr10_0, yr10_1, yr10_2, rfl⟩
  have gr10_0 : DataW.trod enc Tryz.prog w base spare held nr10 22 [c22] = some yr10_0 := by
    have q := hfr10 0 _ rfl
    have hc : Tryz.prog.cellsOf 22 = 1 := by kernel_rfl
    simpa [Value.cells, hc] using q
  obtain ⟨a22, e22, _, w22⟩ := DataW.trod_int Tryz.underlying22 gr10_0
  have gr10_1 : DataW.trod enc Tryz.prog w base spare held nr10 3 [c23] = some yr10_1 := by
    have q := hfr10 1 _ rfl
    have hc : Tryz.prog.cellsOf 3 = 1 := by kernel_rfl
    simpa [Value.cells, hc] using q
  obtain ⟨a23, e23, _, w23⟩ := DataW.trod_int Tryz.underlying3 gr10_1
  have gr10_2 : DataW.trod enc Tryz.prog w base spare held nr10 30 [c24, c25, c26, c27] = some yr10_2 := by
    have q := hfr10 2 _ rfl
    have hc : Tryz.prog.cellsOf 30 = 4 := by kernel_rfl
    simpa [Value.cells, hc] using q
  obtain ⟨a24, e24⟩ := arr_ints_word Tryz.underlying30 Tryz.underlying3 (by kernel_rfl) gr10_2 0 c24 (by decide) rfl
  obtain ⟨a25, e25⟩ := arr_ints_word Tryz.underlying30 Tryz.underlying3 (by kernel_rfl) gr10_2 1 c25 (by decide) rfl
  obtain ⟨a26, e26⟩ := arr_ints_word Tryz.underlying30 Tryz.underlying3 (by kernel_rfl) gr10_2 2 c26 (by decide) rfl
  obtain ⟨a27, e27⟩ := arr_ints_word Tryz.underlying30 Tryz.underlying3 (by kernel_rfl) gr10_2 3 c27 (by decide) rfl
  obtain ⟨xsr11, nr11, _, _, _, hlenr11, hfr11⟩ := DataW.trod_struct Tryz.underlying35 gr_11
  obtain ⟨yr11_0, yr11_1, yr11_2, rfl⟩ : ∃ yr11_0 yr11_1 yr11_2, xsr11 = [yr11_0, yr11_1, yr11_2] := by
    match xsr11, hlenr11 with
    | [yr11_0, yr11_1, yr11_2], _ => exact ⟨yr11_0, yr11_1, yr11_2, rfl⟩
  have gr11_0 : DataW.trod enc Tryz.prog w base spare held nr11 3 [c28] = some yr11_0 := by
    have q := hfr11 0 _ rfl
    have hc : Tryz.prog.cellsOf 3 = 1 := by kernel_rfl
    simpa [Value.cells, hc] using q
  obtain ⟨a28, e28, _, w28⟩ := DataW.trod_int Tryz.underlying3 gr11_0
  have gr11_1 : DataW.trod enc Tryz.prog w base spare held nr11 3 [c29] = some yr11_1 := by
    have q := hfr11 1 _ rfl
    have hc : Tryz.prog.cellsOf 3 = 1 := by kernel_rfl
    simpa [Value.cells, hc] using q
  obtain ⟨a29, e29, _, w29⟩ := DataW.trod_int Tryz.underlying3 gr11_1
  have gr11_2 : DataW.trod enc Tryz.prog w base spare held nr11 33 [c30] = some yr11_2 := by
    have q := hfr11 2 _ rfl
    have hc : Tryz.prog.cellsOf 33 = 1 := by kernel_rfl
    simpa [Value.cells, hc] using q
  obtain ⟨d30, n30, m30, e30⟩ : ∃ (d : Option Addr) (n m : Nat), c30 = .slice d n m := by
    rcases DataW.trod_slice Tryz.underlying33 gr11_2 with ⟨e2, _⟩ | ⟨a, len, cap, _, _, _, _, e2, _⟩
    · simp only [List.cons.injEq, and_true] at e2
      exact ⟨none, 0, 0, e2⟩
    · simp only [List.cons.injEq, and_true] at e2
      exact ⟨some a, len, cap, e2⟩
  obtain ⟨xsr12, nr12, _, _, _, hlenr12, hfr12⟩ := DataW.trod_struct Tryz.underlying37 gr_12
  obtain ⟨yr12_0, yr12_1, yr12_2, yr12_3, yr12_4, rfl⟩ : ∃ yr12_0 yr12_1 yr12_2 yr12_3 yr12_4, xsr12 = [yr12_0, yr12_1, yr12_2, yr12_3, yr12_4] := by
    match xsr12, hlenr12 with
    | [yr12_0, yr12_1, yr12_2, yr12_3, yr12_4], _ => exact ⟨yr12_0, yr12_1, yr12_2, yr12_3, yr12_4, rfl⟩
  have gr12_0 : DataW.trod enc Tryz.prog w base spare held nr12 3 [c31] = some yr12_0 := by
    have q := hfr12 0 _ rfl
    have hc : Tryz.prog.cellsOf 3 = 1 := by kernel_rfl
    simpa [Value.cells, hc] using q
  obtain ⟨a31, e31, _, w31⟩ := DataW.trod_int Tryz.underlying3 gr12_0
  have gr12_1 : DataW.trod enc Tryz.prog w base spare held nr12 3 [c32] = some yr12_1 := by
    have q := hfr12 1 _ rfl
    have hc : Tryz.prog.cellsOf 3 = 1 := by kernel_rfl
    simpa [Value.cells, hc] using q
  obtain ⟨a32, e32, _, w32⟩ := DataW.trod_int Tryz.underlying3 gr12_1
  have gr12_2 : DataW.trod enc Tryz.prog w base spare held nr12 3 [c33] = some yr12_2 := by
    have q := hfr12 2 _ rfl
    have hc : Tryz.prog.cellsOf 3 = 1 := by kernel_rfl
    simpa [Value.cells, hc] using q
  obtain ⟨a33, e33, _, w33⟩ := DataW.trod_int Tryz.underlying3 gr12_2
  have gr12_3 : DataW.trod enc Tryz.prog w base spare held nr12 3 [c34] = some yr12_3 := by
    have q := hfr12 3 _ rfl
    have hc : Tryz.prog.cellsOf 3 = 1 := by kernel_rfl
    simpa [Value.cells, hc] using q
  obtain ⟨a34, e34, _, w34⟩ := DataW.trod_int Tryz.underlying3 gr12_3
  have gr12_4 : DataW.trod enc Tryz.prog w base spare held nr12 9 [c35] = some yr12_4 := by
    have q := hfr12 4 _ rfl
    have hc : Tryz.prog.cellsOf 9 = 1 := by kernel_rfl
    simpa [Value.cells, hc] using q
  obtain ⟨a35, e35, _, w35⟩ := DataW.trod_string Tryz.underlying9 gr12_4
  simp only [List.cons.injEq, and_true] at e0 e1 e2 e3 e4 e5 e6 e7 e8 e9 e10 e11 e12 e13 e14 e15 e16 e17 e18 e19 e20 e21 e22 e23 e28 e29 e31 e32 e33 e34 e35
  subst e0 e1 e2 e3 e4 e5 e6 e7 e8 e9 e10 e11 e12 e13 e14 e15 e16 e17 e18 e19 e20 e21 e22 e23 e24 e25 e26 e27 e28 e29 e30 e31 e32 e33 e34 e35 e36
  exact ⟨a0, a1, a2, a3, a4, a5, a6, a7, a8, a9, a10, a11, a12, a13, a14, a15, a16, a17, a18, a19, a20, a21, a22, a23, a24, a25, a26, a27, a28, a29, d30, n30, m30, a31, a32, a33, a34, a35, d36, n36, m36, rfl, w0, w1, w2, w3, w4, w5, w6, w7, w8, w9, w10, w11, w12, w13, w14, w15, w16, w17, w18, w19, w21, w22, w23, w28, w29, w31, w32, w33, w34, w35, trivial⟩

end Go.Proofs.YtngblgojiofjlaaGreatDoor
