/- What is laid of the package's two tables, as rows of cells. -/
import Derived.Test.YtdbhmcldfikkmaaGreatDoorRows
import Derived.Test.YtdbhmcldfikkmaaGreatDoorGateKD
import Derived.ProofKit
import Derived.LaidMore
import Derived.OpenShut
import Derived.Stop.Joined
namespace Go.Proofs.YtdbhmcldfikkmaaGreatDoor
open Go.ChangeShapes Go.WideShapes Go.ChangeAt Go.WideMaps Go.WideElems Go.RowKit
set_option linter.unusedVariables false
set_option linter.unusedSimpArgs false
set_option maxRecDepth 100000

theorem trod_nums {H : Type} {enc : TypeId × Value → H} {P : Program} {w : World} {base : Nat} {spare : Nat → Bool} {held : Bool} {fuel : Nat} {t e : TypeId} {cs : List Value} {n : Nat} {k : IntKind} {vs : List Int} {p : List MemPlace}
    (ht : P.underlying t = some (.array n e)) (he : P.underlying e = some (.int k)) (hc : P.cellsOf e = 1) (hct : P.cellsOf t = n) (hvs : vs.length = n)
    (h : DataW.trod enc P w base spare held fuel t cs = some (.agg (vs.map fun v => .lit (.int k v)), p)) : cs = vs.map (Value.int k) := by
  obtain ⟨xs, m, rfl, hx, hlen, hn, hel⟩ := DataW.trod_array ht h
  simp only [Prod.mk.injEq, DataW.agg.injEq] at hx
  apply List.ext_getElem?
  intro i
  by_cases hi : i < n
  · have h1 := hel i hi
    rw [hc, Nat.mul_one] at h1
    obtain ⟨c, hcs⟩ : ∃ c, cs[i]? = some c := ⟨_, List.getElem?_eq_getElem (by omega)⟩
    have h2 : (cs.drop i).take 1 = [c] := by
      rw [List.take_one, List.head?_drop, hcs]; rfl
    rw [h2] at h1
    obtain ⟨x, hxi⟩ : ∃ x, xs[i]? = some x := ⟨_, List.getElem?_eq_getElem (by omega)⟩
    rw [hxi] at h1
    obtain ⟨v, e1, e2, _⟩ := DataW.trod_int he h1
    have h3 : (xs.map (·.1))[i]? = some x.1 := by rw [List.getElem?_map, hxi]; rfl
    rw [← hx.1, List.getElem?_map] at h3
    obtain ⟨u, hvi⟩ : ∃ u, vs[i]? = some u := ⟨_, List.getElem?_eq_getElem (by omega)⟩
    rw [hvi] at h3
    simp only [Option.map_some, Option.some.injEq, e2, DataW.lit.injEq, Lit.int.injEq, true_and] at h3
    subst h3
    simp only [List.cons.injEq, and_true] at e1
    rw [hcs, List.getElem?_map, hvi, e1]; rfl
  · rw [List.getElem?_eq_none (by omega), List.getElem?_eq_none (by simp; omega)]
theorem var_block {P : Program} {w : World} {nm : String} {g : Nat} {cs : Array Value} (hg : P.globalNamed nm = some g) (h : w.var? P nm = some cs) (hp : ∃ c t, w.heap[g]? = some (.cells c t (0, 0))) : ∃ t, w.heap[g]? = some (.cells cs t (0, 0)) := by
  obtain ⟨c, t, hc⟩ := hp
  simp only [World.var?, hg, Option.bind_some, hc, Option.some.injEq] at h
  subst h
  exact ⟨t, hc⟩
def gateLaid {H : Type} : List (String × DataW H) := [("satrapy/octet.lowSums", Rows.laid_satrapy_octet_lowSums), ("satrapy/octet.highSums", Rows.laid_satrapy_octet_highSums)]
theorem gLow : Tryz.prog.globalNamed "satrapy/octet.lowSums" = some 0 := by kernel_rfl
theorem gHigh : Tryz.prog.globalNamed "satrapy/octet.highSums" = some 1 := by kernel_rfl
theorem tLow : (Tryz.prog.globals[0]?).map (·.type) = some 159 := by kernel_rfl
theorem tHigh : (Tryz.prog.globals[1]?).map (·.type) = some 159 := by kernel_rfl
def numsOfV (l : List Value) : List Int := l.map fun | .int _ n => n | _ => 0
theorem of_laid {W : World} (h : laidMetH Tryz.prog gateLaid W) : ∃ s t, W.heap[0]? = some (.cells gateLow.toArray s (0, 0)) ∧ W.heap[1]? = some (.cells gateHigh.toArray t (0, 0)) := by
  rw [MakeChecks.laidMetH_plain _ _ _ (by kernel_rfl)] at h
  obtain ⟨ps, ⟨g0, t0, cs0, f0, p0, q0, hg0, ht0, hv0, hd0, ⟨g1, t1, cs1, f1, p1, q1, hg1, ht1, hv1, hd1, _, hq1⟩, hq0⟩, _, hpl⟩ := h
  obtain rfl := Option.some.inj (gLow.symm.trans hg0)
  obtain rfl := Option.some.inj (gHigh.symm.trans hg1)
  obtain rfl := Option.some.inj (tLow.symm.trans ht0)
  obtain rfl := Option.some.inj (tHigh.symm.trans ht1)
  have ce : Tryz.prog.cellsOf 129 = 1 := by kernel_rfl
  have ct : Tryz.prog.cellsOf 159 = 16 := by kernel_rfl
  have e0 := trod_nums (vs := numsOfV gateLow) Tryz.underlying159 Tryz.underlying129 ce ct rfl hd0
  have e1 := trod_nums (vs := numsOfV gateHigh) Tryz.underlying159 Tryz.underlying129 ce ct rfl hd1
  have s0 : cs0.size = 16 := by rw [← Array.length_toList, e0]; rfl
  have s1 : cs1.size = 16 := by rw [← Array.length_toList, e1]; rfl
  have i0 : MemPlace.cell 0 0 ∈ ps := by
    rw [hq0, s0]
    exact List.mem_append_left _ (List.mem_append_left _ (List.mem_map.2 ⟨0, by simp, rfl⟩))
  have i1 : MemPlace.cell 1 0 ∈ ps := by
    rw [hq0, hq1, s1]
    exact List.mem_append_right _ (List.mem_append_left _ (List.mem_append_left _ (List.mem_map.2 ⟨0, by simp, rfl⟩)))
  obtain ⟨a, b0⟩ := var_block gLow hv0 (hpl 0 0 i0).1
  obtain ⟨b, b1⟩ := var_block gHigh hv1 (hpl 1 0 i1).1
  have c0 : cs0 = gateLow.toArray := by apply Array.ext'; rw [e0]; rfl
  have c1 : cs1 = gateHigh.toArray := by apply Array.ext'; rw [e1]; rfl
  subst c0; subst c1
  exact ⟨a, b, b0, b1⟩
/-- The door's own heap meets the condition. -/
theorem door_met (os : Os) (args : Array Value) : laidMetH Tryz.prog gateLaid ((World.doorLaid Tryz.prog 4000 os).forCall (fun _ _ => 0) ⟨#[], args, []⟩).memory :=
  laidMetH_of_parts3 (fuel := 8) (laidMet_of_run' 8 (by kernel_rfl) (by kernel_rfl)) (by kernel_rfl) (by kernel_rfl)
end Go.Proofs.YtdbhmcldfikkmaaGreatDoor
