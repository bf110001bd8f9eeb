/- An argument that is a api.Reply, opened: its cells. -/
import Derived.Test.YtblknjclkecglaaProg
import Derived.ProofKit
import Derived.OpenShut
import Derived.ShutString
import Derived.Lib.SmallJoins
import Derived.Deep.SlicePairs
import Derived.KernelRfl
namespace Go.Proofs.Ytblknjclkecglaa
open Go.RowKit Go.ChangeShapes Go.WideShapes Go.ChangeAt Go.Joins Go.Deep
set_option linter.unusedVariables false
set_option linter.unusedSimpArgs false

theorem arr_ints_reply {H : Type} {enc : TypeId × Value → H} {P : Program} {w : World} {base : Nat} {spare : Nat → Bool} {held : Bool} {fuel : Nat} {t e : TypeId} {cs : List Value} {n : Nat} {k : IntKind} {y : DataW H × List MemPlace}
    (ht : P.underlying t = some (.array n e)) (he : P.underlying e = some (.int k)) (hc : P.cellsOf e = 1) (h : DataW.trod enc P w base spare held fuel t cs = some y) : ∀ i c, i < n → cs[i]? = some c → ∃ z, c = .int k z := by
  intro i c hi hcs
  obtain ⟨d, p⟩ := y
  obtain ⟨xs, m, rfl, hx, hlen, hn, hel⟩ := DataW.trod_array ht h
  have h1 := hel i (by omega)
  rw [hc, Nat.mul_one] at h1
  have h2 : (cs.drop i).take 1 = [c] := by rw [List.take_one, List.head?_drop, hcs]; rfl
  rw [h2] at h1
  obtain ⟨x, hxi⟩ : ∃ x, xs[i]? = some x := ⟨_, List.getElem?_eq_getElem (by omega)⟩
  rw [hxi] at h1
  obtain ⟨v, e1, _, _⟩ := DataW.trod_int he h1
  simp only [List.cons.injEq, and_true] at e1
  exact ⟨v, e1⟩
set_option maxRecDepth 100000 in
theorem open_reply {H : Type} {enc : TypeId × Value → H} {w : World} {base : Nat} {spare : Nat → Bool} {held : Bool} {r : Reach} {b0 : Nat} {v : Value} {d : DataW H} {p : List MemPlace}
    (hv : Value.okWide Try.prog w r b0 43 v) (h : DataW.Trod enc Try.prog w base spare held 43 v d p) :
    ∃ (a0 : Int) (a1 : Int) (a2 : Int) (a3 : Int) (a4 : Int) (a5 : Int), v = .agg #[.int .i64 a0, .int .i64 a1, .int .i64 a2, .int .i64 a3, .int .i64 a4, .int .i64 a5] ∧ (Lit.int .i64 a0).wf = true ∧ (Lit.int .i64 a1).wf = true ∧ True := by
  obtain ⟨cs, rfl, hsz⟩ := okWide_struct Try.underlying43 hv
  obtain ⟨c0, c1, c2, c3, c4, c5, rfl⟩ : ∃ c0 c1 c2 c3 c4 c5, cs = #[c0, c1, c2, c3, c4, c5] := by
    obtain ⟨l⟩ := cs
    have hl0 : l.length = 6 := hsz.trans (show Try.prog.cellsOf 43 = 6 from by kernel_rfl)
    obtain ⟨c0, l0, rfl⟩ := List.exists_cons_of_length_eq_add_one hl0
    have hl1 : l0.length = 5 := by simpa using hl0
    obtain ⟨c1, l1, rfl⟩ := List.exists_cons_of_length_eq_add_one hl1
    have hl2 : l1.length = 4 := by simpa using hl1
    obtain ⟨c2, l2, rfl⟩ := List.exists_cons_of_length_eq_add_one hl2
    have hl3 : l2.length = 3 := by simpa using hl2
    obtain ⟨c3, l3, rfl⟩ := List.exists_cons_of_length_eq_add_one hl3
    have hl4 : l3.length = 2 := by simpa using hl3
    obtain ⟨c4, l4, rfl⟩ := List.exists_cons_of_length_eq_add_one hl4
    have hl5 : l4.length = 1 := by simpa using hl4
    obtain ⟨c5, l5, rfl⟩ := List.exists_cons_of_length_eq_add_one hl5
    have hl6 : l5.length = 0 := by simpa using hl5
    obtain rfl := List.eq_nil_of_length_eq_zero hl6
    exact ⟨c0, c1, c2, c3, c4, c5, rfl⟩
  obtain ⟨fuel, hf⟩ := h
  obtain ⟨xsr, nr, _, _, _, hlenr, hfr⟩ := DataW.trod_struct Try.underlying43 hf
  obtain ⟨yr_0, yr_1, yr_2, rfl⟩ : ∃ yr_0 yr_1 yr_2, xsr = [yr_0, yr_1, yr_2] := by
    match xsr, hlenr with
    | [yr_0, yr_1, yr_2], _ => exact ⟨yr_0, yr_1, yr_2, rfl⟩
  have gr_0 : DataW.trod enc Try.prog w base spare held nr 28 [c0] = some yr_0 := by
    have q := hfr 0 _ rfl
    have hc : Try.prog.cellsOf 28 = 1 := by kernel_rfl
    simpa [Value.cells, hc] using q
  obtain ⟨a0, e0, _, w0⟩ := DataW.trod_int Try.underlying28 gr_0
  have gr_1 : DataW.trod enc Try.prog w base spare held nr 3 [c1] = some yr_1 := by
    have q := hfr 1 _ rfl
    have hc : Try.prog.cellsOf 3 = 1 := by kernel_rfl
    simpa [Value.cells, hc] using q
  obtain ⟨a1, e1, _, w1⟩ := DataW.trod_int Try.underlying3 gr_1
  have gr_2 : DataW.trod enc Try.prog w base spare held nr 41 [c2, c3, c4, c5] = some yr_2 := by
    have q := hfr 2 _ rfl
    have hc : Try.prog.cellsOf 41 = 4 := by kernel_rfl
    simpa [Value.cells, hc] using q
  obtain ⟨a2, e2⟩ := arr_ints_reply Try.underlying41 Try.underlying3 (by kernel_rfl) gr_2 0 c2 (by decide) rfl
  obtain ⟨a3, e3⟩ := arr_ints_reply Try.underlying41 Try.underlying3 (by kernel_rfl) gr_2 1 c3 (by decide) rfl
  obtain ⟨a4, e4⟩ := arr_ints_reply Try.underlying41 Try.underlying3 (by kernel_rfl) gr_2 2 c4 (by decide) rfl
  obtain ⟨a5, e5⟩ := arr_ints_reply Try.underlying41 Try.underlying3 (by kernel_rfl) gr_2 3 c5 (by decide) rfl
  simp only [List.cons.injEq, and_true] at e0 e1
  subst e0 e1 e2 e3 e4 e5
  exact ⟨a0, a1, a2, a3, a4, a5, rfl, w0, w1, trivial⟩

end Go.Proofs.Ytblknjclkecglaa
