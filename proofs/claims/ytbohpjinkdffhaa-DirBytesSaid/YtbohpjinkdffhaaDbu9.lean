/- Rows of elements of several cells: copy, clear, stores of many cells in a row's block; what slices.Insert and slices.Delete leave. -/
import Derived.Test.YtbohpjinkdffhaaProg
import Derived.WalkKit
import Derived.WalkSpells
import Derived.WalkLawsBesides
import Derived.Deep.QuietTactic
import Derived.BigQuiet
import Derived.RegionTactic
import Derived.BigRegion
import Derived.Outline
import Derived.LoopTactic
import Derived.Lib.Hide
import Derived.Deep.RegionHeld3
import Derived.Laws.AppendOwnNone
import Derived.Deep.AppendLies
import Derived.Maps.AppendAt
import Derived.Laws.Rows
import Derived.Laws.IdiomCopy
import Derived.Lib.AppendZerosOnto
import Derived.Lib.Overlaps
import Derived.Lib.ReflectliteSwap
import Derived.Deep.RegionLaw
import Derived.Test.YtbohpjinkdffhaaDbu0
import Derived.Test.YtbohpjinkdffhaaDbu3
import Derived.Test.YtbohpjinkdffhaaDbu6
namespace Go.Proofs.Ytbohpjinkdffhaa
open Go.RowKit
set_option linter.unusedVariables false
set_option linter.unusedSimpArgs false
section
variable {P : Program}
theorem run_copy_cellsN (w : World) (dT sT ty elem : TypeId) (size b o dLen dCap : Nat) (a : Addr) (sLen sCap : Nat) (cs : List Value)
    (hu : P.underlying dT = some (.slice elem)) (hs : (P.info? elem).map (·.size) = some size) (hn : cs.length = Nat.min sLen dLen * size)
    (hsrc : ∀ j v, cs[j]? = some v → w.cell? (a.add j) = some v) (hc : ∀ j, j < cs.length → (w.cell? ⟨b, o + j, none⟩).isSome = true) (hf : ∀ j, j < cs.length → w.frozen? ⟨b, o + j, none⟩ = false) (h1 : ∀ v ∈ cs, v.oneCell' = true) :
    (Builtin.copy_ #[dT, sT] ty #[.slice (some ⟨b, o, none⟩) dLen dCap, .slice (some a) sLen sCap]).run P w = .ok (goInt (Nat.min sLen dLen)) (w.setCells b o cs) := by
  have hl := run_loadCells_list (P := P) w a cs hsrc
  have hst := run_storeCells_cells (P := P) b o cs 0 w (by simpa using hc) (by simpa using hf) h1
  cases hq : P.info? elem with
  | none => simp [hq] at hs
  | some i =>
    have hi : i.size = size := by simpa [hq] using hs
    rw [hn] at hl
    simp [Builtin.copy_, run_underlying hu, Builtin.lenOf, Builtin.firstCells, sizeOf, typeInfo, hq, hi, hl, hst]
theorem run_clearN (w : World) (t e ty : TypeId) (z : Value) (ht : P.underlying t = some (.slice e)) (hv : ∀ w, (zeroValue e).run P w = .ok z w) (h1 : ∀ v ∈ z.cells, v.oneCell' = true) (b o n c : Nat) (hn : 0 < n) (cs : List Value) (hcs : (Builtin.zeroCells z.cells n).toList = cs) (h1c : ∀ v ∈ cs, v.oneCell' = true)
    (hc : ∀ j, j < cs.length → (w.cell? ⟨b, o + j, none⟩).isSome = true) (hf : ∀ j, j < cs.length → w.frozen? ⟨b, o + j, none⟩ = false) :
    (Builtin.clear_ #[t] ty #[.slice (some ⟨b, o, none⟩) n c]).run P w = .ok (.tuple #[]) (w.setCells b o cs) := by
  have hst := run_storeCells_cells (P := P) b o cs 0 w (by simpa using hc) (by simpa using hf) h1c
  simp only [Nat.add_zero] at hst
  obtain ⟨m, rfl⟩ : ∃ m, n = m + 1 := ⟨n - 1, by omega⟩
  simp [Builtin.clear_, run_underlying ht, hv, hcs, hst]
theorem wpList_copy_run {w : World} {ops : Array Oper} {rest : List Oper} {o : Oper} {a : Act} {Q : Exit → Act → World → Prop} (hgd : o.guard = none) (d s : Operand) (t t' : TypeId)
    (ho : o.op = .call { callee := .builtin .copy, args := #[d, s], argTypes := #[t, t'] }) (v u : Value) (hd : a.eval d = v) (hs : a.eval s = u) {v' : Value} {w' : World}
    (hr : (Builtin.copy_ #[t, t'] o.type #[v, u]).run P w = .ok v' w') (h : wpList P ops Q rest (a.put o.dst v') w') : wpList P ops Q (o :: rest) a w :=
  wpList_plain hgd fun K hK => by
    unfold Oper.wp execOp
    simp only [ho, resolve, invoke, builtin, Sem.run_bind, Sem.run_pure, Result.andThen_ok, List.map_toArray, List.map_cons, List.map_nil, hd, hs, hr]
    exact hK _ _ h
theorem wpList_clear_run {w : World} {ops : Array Oper} {rest : List Oper} {o : Oper} {a : Act} {Q : Exit → Act → World → Prop} (hgd : o.guard = none) (d : Operand) (t : TypeId)
    (ho : o.op = .call { callee := .builtin .clear, args := #[d], argTypes := #[t] }) (v : Value) (hd : a.eval d = v) {v' : Value} {w' : World}
    (hr : (Builtin.clear_ #[t] o.type #[v]).run P w = .ok v' w') (h : wpList P ops Q rest (a.put o.dst v') w') : wpList P ops Q (o :: rest) a w :=
  wpList_plain hgd fun K hK => by
    unfold Oper.wp execOp
    simp only [ho, resolve, invoke, builtin, Sem.run_bind, Sem.run_pure, Result.andThen_ok, List.map_toArray, List.map_cons, List.map_nil, hd, hr]
    exact hK _ _ h
end
def patchL (cur : List Value) (o : Nat) (vs : List Value) : List Value := cur.take o ++ vs ++ cur.drop (o + vs.length)
theorem patchL_nil (cur : List Value) (o : Nat) : patchL cur o [] = cur := by simp [patchL]
theorem patchL_cons (cur : List Value) (o : Nat) (v : Value) (r : List Value) (h : o < cur.length) : patchL (cur.set o v) (o + 1) r = patchL cur o (v :: r) := by
  unfold patchL
  rw [List.take_succ_eq_append_getElem (by simpa using h), List.getElem_set_self, List.take_set, List.drop_set_of_lt (by omega)]
  rw [List.set_eq_of_length_le (by rw [List.length_take]; omega)]
  simp [Nat.add_assoc, Nat.add_comm 1]
theorem patchL_len (cur : List Value) (o : Nat) (vs : List Value) (h : o + vs.length ≤ cur.length) : (patchL cur o vs).length = cur.length := by
  unfold patchL
  simp only [List.length_append, List.length_take, List.length_drop]
  omega
theorem setCells_heap {g : Nat} {e : TypeId} : ∀ (vs : List Value) (o : Nat) (w : World) (cur : Array Value), w.heap[g]? = some (.cells cur e (0, 0)) → o + vs.length ≤ cur.size → ∃ cur' : Array Value, (w.setCells g o vs).heap[g]? = some (.cells cur' e (0, 0)) ∧ cur'.toList = patchL cur.toList o vs ∧ cur'.size = cur.size
  | [], o, w, cur, h, _ => ⟨cur, h, (patchL_nil _ _).symm, rfl⟩
  | v :: r, o, w, cur, h, hl => by
    simp only [List.length_cons] at hl
    obtain ⟨c', h1, h2, h3⟩ := setCells_heap r (o + 1) (w.setCell ⟨g, o, none⟩ v) (cur.setIfInBounds o v) (heap_setCell_same w g o cur e v h) (by simp; omega)
    refine ⟨c', h1, ?_, by rw [h3]; simp⟩
    rw [h2, Array.toList_setIfInBounds, patchL_cons _ _ _ _ (by simp; omega)]
theorem setCells_touch (g : Nat) : ∀ (vs : List Value) (o : Nat) (w : World), Touch (fun k => k = g) w (w.setCells g o vs)
  | [], _, _ => Touch.refl _ _
  | v :: r, o, w => (show Touch (fun k => k = g) w (w.setCell ⟨g, o, none⟩ v) from (Touch.refl _ w).set (fun _ => rfl)).trans (setCells_touch g r (o + 1) _) (fun _ _ h => h)
/-- the block of a row, with what is spare behind it -/
structure RowB (w : World) (g : Nat) (e : TypeId) (cap size : Nat) (C : List Value) : Prop where
  blk : ∃ cur, w.heap[g]? = some (.cells cur e (0, 0)) ∧ cur.toList = C
  len : C.length = cap * size
theorem RowB.lt {w : World} {g : Nat} {e : TypeId} {cap size : Nat} {C : List Value} (h : RowB w g e cap size C) : g < w.heap.size := by obtain ⟨cur, h1, _⟩ := h.blk; exact (Array.getElem?_eq_some_iff.1 h1).1
theorem RowB.of_own {w : World} {B : Nat} {e : TypeId} {size n g cap : Nat} {xs : List Value} (h : w.ownsRow B e size (.slice (some ⟨g, 0, none⟩) n cap) n xs) : ∃ C, RowB w g e cap size C ∧ C.take (n * size) = xs ∧ n ≤ cap ∧ cap ≤ maxLen ∧ B ≤ g := by
  rcases h.2 with ⟨h', _⟩ | ⟨g', cap', cur, h', hb, hg, hnc, hcm, hcs, htake⟩
  · simp at h'
  · simp only [Value.slice.injEq, Option.some.injEq, Addr.mk.injEq, and_true, true_and] at h'
    obtain ⟨rfl, rfl⟩ := h'
    exact ⟨cur.toList, ⟨⟨cur, hg, rfl⟩, by simpa using hcs⟩, htake, hnc, hcm, hb⟩
theorem RowB.own {w : World} {B : Nat} {e : TypeId} {size n g cap : Nat} {C : List Value} (h : RowB w g e cap size C) (hB : B ≤ g) (hn : n ≤ cap) (hm : cap ≤ maxLen) : w.ownsRow B e size (.slice (some ⟨g, 0, none⟩) n cap) n (C.take (n * size)) := by
  obtain ⟨cur, h1, h2⟩ := h.blk
  have hl := h.len
  have : n * size ≤ cap * size := Nat.mul_le_mul_right _ hn
  refine ⟨by rw [List.length_take]; omega, .inr ⟨g, cap, cur, rfl, hB, h1, hn, hm, ?_, by rw [h2]⟩⟩
  rw [← hl, ← h2]; simp
theorem RowB.cell {w : World} {g : Nat} {e : TypeId} {cap size : Nat} {C : List Value} (h : RowB w g e cap size C) (j : Nat) : w.cell? ⟨g, j, none⟩ = C[j]? := by
  obtain ⟨cur, h1, h2⟩ := h.blk
  rw [cell_of_row w g j cur e (0, 0) h1, ← h2]; simp
theorem RowB.isSome {w : World} {g : Nat} {e : TypeId} {cap size : Nat} {C : List Value} (h : RowB w g e cap size C) {j : Nat} (hj : j < cap * size) : (w.cell? ⟨g, j, none⟩).isSome = true := by
  rw [h.cell, List.getElem?_eq_getElem (by rw [h.len]; exact hj)]; rfl
theorem RowB.free {w : World} {g : Nat} {e : TypeId} {cap size : Nat} {C : List Value} (h : RowB w g e cap size C) (j : Nat) : w.frozen? ⟨g, j, none⟩ = false := by
  obtain ⟨cur, h1, h2⟩ := h.blk
  exact frozen_of_row w g j cur e h1
theorem RowB.patch {w : World} {g : Nat} {e : TypeId} {cap size : Nat} {C : List Value} (h : RowB w g e cap size C) (o : Nat) (vs : List Value) (hl : o + vs.length ≤ cap * size) : RowB (w.setCells g o vs) g e cap size (patchL C o vs) := by
  obtain ⟨cur, h1, h2⟩ := h.blk
  have hc : cur.size = cap * size := by rw [← h.len, ← h2]; simp
  obtain ⟨c', h3, h4, h5⟩ := setCells_heap vs o w cur h1 (by omega)
  exact ⟨⟨c', h3, by rw [h4, h2]⟩, by rw [patchL_len _ _ _ (by rw [h.len]; exact hl)]; exact h.len⟩
theorem RowB.drew {w : World} {g : Nat} {e : TypeId} {cap size : Nat} {C : List Value} (h : RowB w g e cap size C) : RowB w.drew g e cap size C := ⟨h.blk, h.len⟩
theorem RowB.shape {w : World} {g : Nat} {e : TypeId} {cap size : Nat} {C : List Value} (h : RowB w g e cap size C) : w.shape? g = some (e, cap * size) := by
  obtain ⟨cur, h1, h2⟩ := h.blk
  unfold World.shape?
  rw [h1]
  simp only [Option.some.injEq, Prod.mk.injEq, true_and]
  rw [← h.len, ← h2]; simp
theorem patchL_get (cur : List Value) (o : Nat) (vs : List Value) (h : o + vs.length ≤ cur.length) (k : Nat) : (patchL cur o vs)[k]? = if k < o then cur[k]? else if k < o + vs.length then vs[k - o]? else cur[k]? := by
  unfold patchL
  have l1 : (cur.take o).length = o := by rw [List.length_take]; omega
  have l2 : (cur.take o ++ vs).length = o + vs.length := by rw [List.length_append, l1]
  by_cases h1 : k < o
  · rw [if_pos h1, List.getElem?_append_left (by omega), List.getElem?_append_left (by omega), List.getElem?_take, if_pos h1]
  · rw [if_neg h1]
    by_cases h2 : k < o + vs.length
    · rw [if_pos h2, List.getElem?_append_left (by omega), List.getElem?_append_right (by omega), l1]
    · rw [if_neg h2, List.getElem?_append_right (by omega), l2, List.getElem?_drop, show o + vs.length + (k - (o + vs.length)) = k by omega]
/-- an element is put in, where there is room -/
theorem patch_in {C vs : List Value} {i n S : Nat} (hi : i ≤ n) (hv : vs.length = S) (hC : (n + 1) * S ≤ C.length) :
    (patchL (patchL C ((i + 1) * S) ((C.take (n * S)).drop (i * S))) (i * S) vs).take ((n + 1) * S) = (C.take (n * S)).take (i * S) ++ vs ++ (C.take (n * S)).drop (i * S) := by
  have e1 : (i + 1) * S = i * S + S := Nat.succ_mul _ _
  have e2 : (n + 1) * S = n * S + S := Nat.succ_mul _ _
  have hin : i * S ≤ n * S := Nat.mul_le_mul_right _ hi
  rw [e2] at hC ⊢
  rw [e1]
  generalize i * S = a at *
  generalize n * S = b at *
  have hl : ((C.take b).drop a).length = b - a := by rw [List.length_drop, List.length_take]; omega
  have hp := patchL_len C (a + S) ((C.take b).drop a) (by omega)
  have l1 : ((C.take b).take a).length = a := by rw [List.length_take, List.length_take]; omega
  have l2 : ((C.take b).take a ++ vs).length = a + S := by rw [List.length_append, l1, hv]
  apply List.ext_getElem?
  intro k
  rw [List.getElem?_take]
  by_cases hk : k < b + S
  · rw [if_pos hk, patchL_get _ _ _ (by omega), patchL_get _ _ _ (by omega), hl, hv]
    by_cases h1 : k < a
    · rw [if_pos h1, if_pos (by omega), List.getElem?_append_left (by omega), List.getElem?_append_left (by omega), List.getElem?_take, if_pos h1, List.getElem?_take, if_pos (by omega)]
    · rw [if_neg h1]
      by_cases h2 : k < a + S
      · rw [if_pos h2, List.getElem?_append_left (by omega), List.getElem?_append_right (by omega), l1]
      · rw [if_neg h2, if_neg h2, if_pos (by omega), List.getElem?_append_right (by omega), l2]
  · rw [if_neg hk, List.getElem?_eq_none (by rw [List.length_append, l2, hl]; omega)]
/-- an element is taken out -/
theorem patch_out {C zs : List Value} {j n S : Nat} (hj : j < n) (hC : n * S ≤ C.length) (hz : zs.length = S) :
    (patchL (patchL C (j * S) ((C.take (n * S)).drop ((j + 1) * S))) ((n - 1) * S) zs).take ((n - 1) * S) = (C.take (n * S)).take (j * S) ++ (C.take (n * S)).drop ((j + 1) * S) := by
  obtain ⟨m, rfl⟩ : ∃ m, n = m + 1 := ⟨n - 1, by omega⟩
  have e1 : (j + 1) * S = j * S + S := Nat.succ_mul _ _
  have e2 : (m + 1) * S = m * S + S := Nat.succ_mul _ _
  have hin : j * S ≤ m * S := Nat.mul_le_mul_right _ (by omega)
  rw [Nat.add_sub_cancel, e2]
  rw [e2] at hC
  rw [e1]
  generalize j * S = a at *
  generalize m * S = b at *
  have hl : ((C.take (b + S)).drop (a + S)).length = b - a := by rw [List.length_drop, List.length_take]; omega
  have hp := patchL_len C a ((C.take (b + S)).drop (a + S)) (by omega)
  have l1 : ((C.take (b + S)).take a).length = a := by rw [List.length_take, List.length_take]; omega
  apply List.ext_getElem?
  intro k
  rw [List.getElem?_take]
  by_cases hk : k < b
  · rw [if_pos hk, patchL_get _ _ _ (by omega), if_pos hk, patchL_get _ _ _ (by omega), hl]
    by_cases h1 : k < a
    · rw [if_pos h1, List.getElem?_append_left (by omega), List.getElem?_take, if_pos h1, List.getElem?_take, if_pos (by omega)]
    · rw [if_neg h1, if_pos (by omega), List.getElem?_append_right (by omega), l1]
  · rw [if_neg hk, List.getElem?_eq_none (by rw [List.length_append, l1, hl]; omega)]
end Go.Proofs.Ytbohpjinkdffhaa
