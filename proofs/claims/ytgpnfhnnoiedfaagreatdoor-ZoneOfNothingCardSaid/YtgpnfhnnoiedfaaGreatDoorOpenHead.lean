/- An argument that is a zone.Head, opened: its cells. -/
import Derived.Test.YtgpnfhnnoiedfaaGreatDoorProg
import Derived.ProofKit
import Derived.OpenShut
import Derived.ShutString
import Derived.Lib.SmallJoins
import Derived.Deep.SlicePairs
import Derived.KernelRfl
namespace Go.Proofs.YtgpnfhnnoiedfaaGreatDoor
open Go.RowKit Go.ChangeShapes Go.WideShapes Go.ChangeAt Go.Joins Go.Deep
set_option linter.unusedVariables false
set_option linter.unusedSimpArgs false

theorem arr_ints_head {H : Type} {enc : TypeId × Value → H} {P : Program} {w : World} {base : Nat} {spare : Nat → Bool} {held : Bool} {fuel : Nat} {t e : TypeId} {cs : List Value} {n : Nat} {k : IntKind} {y : DataW H × List MemPlace}
    (ht : P.underlying t = some (.array n e)) (he : P.underlying e = some (.int k)) (hc : P.cellsOf e = 1) (h : DataW.trod enc P w base spare held fuel t cs = some y) : ∀ i c, i < n → cs[i]? = some c → ∃ z, c = .int k z := by
  intro i c hi hcs
  obtain ⟨d, p⟩ := y
  obtain ⟨xs, m, rfl, hx, hlen, hn, hel⟩ := DataW.trod_array ht h
  have h1 := hel i (by omega)
  rw [hc, Nat.mul_one] at h1
  have h2 : (cs.drop i).take 1 = [c] := by rw [List.take_one, List.head?_drop, hcs]; rfl
  rw [h2] at h1
  obtain ⟨x, hxi⟩ : ∃ x, xs[i]? = some x := ⟨_, List.getElem?_eq_getElem (by omega)⟩
  rw [hxi] at h1
  obtain ⟨v, e1, _, _⟩ := DataW.trod_int he h1
  simp only [List.cons.injEq, and_true] at e1
  exact ⟨v, e1⟩
set_option maxRecDepth 100000 in
theorem open_head {H : Type} {enc : TypeId × Value → H} {w : World} {base : Nat} {spare : Nat → Bool} {held : Bool} {r : Reach} {b0 : Nat} {v : Value} {d : DataW H} {p : List MemPlace}
    (hv : Value.okWide Tryz.prog w r b0 29 v) (h : DataW.Trod enc Tryz.prog w base spare held 29 v d p) :
    ∃ (a0 : Int) (a1 : ByteArray) (a2 : ByteArray) (a3 : Int) (a4 : Int), v = .agg #[.int .i64 a0, .string a1, .string a2, .int .i64 a3, .int .i64 a4] ∧ (Lit.int .i64 a0).wf = true ∧ a1.size ≤ maxLen ∧ a2.size ≤ maxLen ∧ (Lit.int .i64 a3).wf = true ∧ (Lit.int .i64 a4).wf = true ∧ True := by
  obtain ⟨cs, rfl, hsz⟩ := okWide_struct Tryz.underlying29 hv
  obtain ⟨c0, c1, c2, c3, c4, rfl⟩ : ∃ c0 c1 c2 c3 c4, cs = #[c0, c1, c2, c3, c4] := by
    obtain ⟨l⟩ := cs
    have hl0 : l.length = 5 := hsz.trans (show Tryz.prog.cellsOf 29 = 5 from by kernel_rfl)
    obtain ⟨c0, l0, rfl⟩ := List.exists_cons_of_length_eq_add_one hl0
    have hl1 : l0.length = 4 := by simpa using hl0
    obtain ⟨c1, l1, rfl⟩ := List.exists_cons_of_length_eq_add_one hl1
    have hl2 : l1.length = 3 := by simpa using hl1
    obtain ⟨c2, l2, rfl⟩ := List.exists_cons_of_length_eq_add_one hl2
    have hl3 : l2.length = 2 := by simpa using hl2
    obtain ⟨c3, l3, rfl⟩ := List.exists_cons_of_length_eq_add_one hl3
    have hl4 : l3.length = 1 := by simpa using hl3
    obtain ⟨c4, l4, rfl⟩ := List.exists_cons_of_length_eq_add_one hl4
    have hl5 : l4.length = 0 := by simpa using hl4
    obtain rfl := List.eq_nil_of_length_eq_zero hl5
    exact ⟨c0, c1, c2, c3, c4, rfl⟩
  obtain ⟨fuel, hf⟩ := h
  obtain ⟨xsr, nr, _, _, _, hlenr, hfr⟩ := DataW.trod_struct Tryz.underlying29 hf
  obtain ⟨yr_0, yr_1, yr_2, yr_3, rfl⟩ : ∃ yr_0 yr_1 yr_2 yr_3, xsr = [yr_0, yr_1, yr_2, yr_3] := by
    match xsr, hlenr with
    | [yr_0, yr_1, yr_2, yr_3], _ => exact ⟨yr_0, yr_1, yr_2, yr_3, rfl⟩
  have gr_0 : DataW.trod enc Tryz.prog w base spare held nr 3 [c0] = some yr_0 := by
    have q := hfr 0 _ rfl
    have hc : Tryz.prog.cellsOf 3 = 1 := by kernel_rfl
    simpa [Value.cells, hc] using q
  obtain ⟨a0, e0, _, w0⟩ := DataW.trod_int Tryz.underlying3 gr_0
  have gr_1 : DataW.trod enc Tryz.prog w base spare held nr 27 [c1, c2] = some yr_1 := by
    have q := hfr 1 _ rfl
    have hc : Tryz.prog.cellsOf 27 = 2 := by kernel_rfl
    simpa [Value.cells, hc] using q
  have gr_2 : DataW.trod enc Tryz.prog w base spare held nr 3 [c3] = some yr_2 := by
    have q := hfr 2 _ rfl
    have hc : Tryz.prog.cellsOf 3 = 1 := by kernel_rfl
    simpa [Value.cells, hc] using q
  obtain ⟨a3, e3, _, w3⟩ := DataW.trod_int Tryz.underlying3 gr_2
  have gr_3 : DataW.trod enc Tryz.prog w base spare held nr 3 [c4] = some yr_3 := by
    have q := hfr 3 _ rfl
    have hc : Tryz.prog.cellsOf 3 = 1 := by kernel_rfl
    simpa [Value.cells, hc] using q
  obtain ⟨a4, e4, _, w4⟩ := DataW.trod_int Tryz.underlying3 gr_3
  obtain ⟨xsr1, nr1, _, _, _, hlenr1, hfr1⟩ := DataW.trod_struct Tryz.underlying27 gr_1
  obtain ⟨yr1_0, yr1_1, rfl⟩ : ∃ yr1_0 yr1_1, xsr1 = [yr1_0, yr1_1] := by
    match xsr1, hlenr1 with
    | [yr1_0, yr1_1], _ => exact ⟨yr1_0, yr1_1, rfl⟩
  have gr1_0 : DataW.trod enc Tryz.prog w base spare held nr1 9 [c1] = some yr1_0 := by
    have q := hfr1 0 _ rfl
    have hc : Tryz.prog.cellsOf 9 = 1 := by kernel_rfl
    simpa [Value.cells, hc] using q
  obtain ⟨a1, e1, _, w1⟩ := DataW.trod_string Tryz.underlying9 gr1_0
  have gr1_1 : DataW.trod enc Tryz.prog w base spare held nr1 9 [c2] = some yr1_1 := by
    have q := hfr1 1 _ rfl
    have hc : Tryz.prog.cellsOf 9 = 1 := by kernel_rfl
    simpa [Value.cells, hc] using q
  obtain ⟨a2, e2, _, w2⟩ := DataW.trod_string Tryz.underlying9 gr1_1
  simp only [List.cons.injEq, and_true] at e0 e1 e2 e3 e4
  subst e0 e1 e2 e3 e4
  exact ⟨a0, a1, a2, a3, a4, rfl, w0, w1, w2, w3, w4, trivial⟩

end Go.Proofs.YtgpnfhnnoiedfaaGreatDoor
