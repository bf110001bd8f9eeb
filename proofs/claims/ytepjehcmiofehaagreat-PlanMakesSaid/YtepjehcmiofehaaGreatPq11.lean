/- An argument that is a slice of structs of whatever cells, opened: its elements' cells, one behind the other. maps over cells; an argument that is a map, opened. The document's own Reader once more: it writes its own block alone. Readers: so many bytes, and row -/
import Derived.ProofKit
import Derived.OpenShut
import Derived.ShutString
import Derived.Deep.SlicePairs
import Derived.Test.YtepjehcmiofehaaGreatPq10
namespace Go.Proofs.YtepjehcmiofehaaGreat
open Go.RowKit Go.ChangeShapes Go.WideShapes Go.ChangeAt Go.Deep
set_option linter.unusedVariables false
set_option linter.unusedSimpArgs false
theorem cell_ltR {w : World} {a : Addr} {v : Value} (h : w.cell? a = some v) : a.block < w.heap.size := by
  unfold World.cell? at h
  cases hb : w.heap[a.block]? with
  | none => rw [hb] at h; cases h
  | some o => exact (Array.getElem?_eq_some_iff.1 hb).1
theorem cell_plainR {w : World} {b o : Nat} {s : Option _} {v : Value} (h : w.cell? ⟨b, o, s⟩ = some v) : s = none := by
  have := World.cell?_spot h
  simpa using this
theorem flat_get {β : Type} (f : β → List Value) (size : Nat) (hs : ∀ r, (f r).length = size) : ∀ (xs : List β) (i k : Nat), k < size → (xs.flatMap f)[i * size + k]? = (xs[i]?).bind (fun r => (f r)[k]?)
  | [], i, k, h => by simp
  | x :: r, 0, k, h => by
    simp only [List.flatMap_cons, Nat.zero_mul, Nat.zero_add, List.getElem?_cons_zero, Option.bind_some]
    rw [List.getElem?_append_left (by rw [hs]; exact h)]
  | x :: r, i + 1, k, h => by
    simp only [List.flatMap_cons, List.getElem?_cons_succ]
    rw [List.getElem?_append_right (by rw [hs, Nat.add_mul]; omega), hs, show (i + 1) * size + k - size = i * size + k by rw [Nat.add_mul]; omega]
    exact flat_get f size hs r i k h
theorem flat_lenR {β : Type} (f : β → List Value) (size : Nat) (hs : ∀ r, (f r).length = size) : ∀ (xs : List β), (xs.flatMap f).length = xs.length * size
  | [] => by simp
  | x :: r => by simp only [List.flatMap_cons, List.length_append, hs, flat_lenR f size hs r, List.length_cons, Nat.add_mul]; omega
theorem open_rows {β : Type} {H : Type} {enc : TypeId × Value → H} {P : Program} {W : World} {base : Nat} {t e : TypeId} {v : Value} {d : DataW H} {p : List MemPlace} (f : β → List Value) (Q : β → Prop) (size : Nat) (hpos : 0 < size) (hs : ∀ r, (f r).length = size) (r0 : β)
    (ht : P.underlying t = some (.slice e)) (ce : P.cellsOf e = size)
    (hread : ∀ fuel cs x, DataW.trod enc P W 0 (fun _ => true) true fuel e cs = some x → ∃ r : β, cs = f r ∧ Q r)
    (hv : Value.okWide P W .any base t v) (h : DataW.Trod enc P W 0 (fun _ => true) true t v d p) :
    ∃ (A : Option Addr) (c : Nat) (xs : List β), v = .slice A xs.length c ∧ xs.length ≤ c ∧ c ≤ maxLen ∧ (∀ r ∈ xs, Q r) ∧ Cells W W.heap.size A xs.length c size (xs.flatMap f) := by
  obtain ⟨A, len, c, rfl⟩ := okWide_slice ht hv
  obtain ⟨fuel, hf⟩ := h
  rcases open_slice ht hf with ⟨hcs, _⟩ | ⟨a, l, cap, m, n, D, Pl, hcs, hb, hl, hm, hmm, _, hall⟩
  · simp [Value.cells] at hcs
    obtain ⟨rfl, rfl, rfl⟩ := hcs
    exact ⟨none, 0, [], rfl, Nat.le_refl _, by unfold maxLen; omega, by simp, by simp, fun _ => ⟨rfl, rfl⟩, fun j u hu => by simp at hu⟩
  · simp [Value.cells] at hcs
    obtain ⟨rfl, rfl, rfl⟩ := hcs
    have hlm : len ≤ m := by rw [hmm]; simp; exact hl
    have hc : ∀ i, i < len → ∃ r : β, Q r ∧ ∀ k, k < size → W.cell? (a.add (i * size + k)) = (f r)[k]? := by
      intro i hi
      obtain ⟨cs', h1, h2⟩ := hall i (by omega)
      rw [ce] at h1
      obtain ⟨_, hlen, hcell⟩ := World.cells?_some h1
      obtain ⟨r, rfl, hq⟩ := hread _ _ _ h2
      refine ⟨r, hq, fun k hk => ?_⟩
      have := hcell k (by omega)
      rw [add_add] at this
      exact this
    let g : Nat → β := fun i => if h : i < len then (hc i h).choose else r0
    have hg : ∀ i, i < len → Q (g i) ∧ ∀ k, k < size → W.cell? (a.add (i * size + k)) = (f (g i))[k]? := fun i hi => by
      simp only [g, hi, dite_true]
      exact (hc i hi).choose_spec
    obtain ⟨b, o, s⟩ := a
    refine ⟨some ⟨b, o, s⟩, c, (List.range len).map g, by simp, by simpa using hl, hm, ?_, ?_, (fun e => by cases e), ?_⟩
    · intro r hr
      obtain ⟨i, hi, rfl⟩ := List.mem_map.1 hr
      exact (hg i (List.mem_range.1 hi)).1
    · exact flat_lenR f size hs _
    · intro j u hu
      have hj : j = j / size * size + j % size := by rw [Nat.mul_comm]; exact (Nat.div_add_mod j size).symm
      have hk := Nat.mod_lt j hpos
      rw [hj, flat_get f size hs _ _ _ hk] at hu
      have hi : j / size < len := by
        by_cases hi : j / size < len
        · exact hi
        · rw [List.getElem?_eq_none (by simpa using hi)] at hu; cases hu
      rw [List.getElem?_map, List.getElem?_range hi] at hu
      simp only [Option.map_some, Option.bind_some] at hu
      have hcl := (hg _ hi).2 _ hk
      rw [hu, ← hj] at hcl
      have hsp : s = none := by
        have h0 := (hg 0 (Nat.lt_of_le_of_lt (Nat.zero_le _) hi)).2 0 hpos
        rw [List.getElem?_eq_getElem (by rw [hs]; exact hpos)] at h0
        rw [show 0 * size + 0 = 0 by omega] at h0
        unfold Addr.add at h0
        rw [if_pos rfl] at h0
        exact cell_plainR h0
      subst hsp
      rw [add_none] at hcl
      exact ⟨b, o, rfl, cell_ltR hcl, hcl⟩
end Go.Proofs.YtepjehcmiofehaaGreat
namespace Go.Proofs.YtepjehcmiofehaaGreat
open Go.RowKit
set_option linter.unusedVariables false
set_option linter.unusedSimpArgs false
theorem RowZ.of {w : World} {B n : Nat} {v : Value} {l : List Zn} (h : w.ownsRow B 56 9 v l.length (flatZ l)) : ∃ A c, v = .slice A l.length c ∧ RowZ w A c l := by
  obtain ⟨A, c, e, h1, h2, h3⟩ := row_cells h
  exact ⟨A, c, e, h3, h1, h2⟩
end Go.Proofs.YtepjehcmiofehaaGreat
namespace Go.Proofs.YtepjehcmiofehaaGreat
open Go.RowKit Go.ChangeShapes Go.WideShapes Go.ChangeAt Go.Deep
set_option linter.unusedVariables false
set_option linter.unusedSimpArgs false
def znQ (a : Zn) : Prop := a.fr.size ≤ maxLen ∧ a.tt.size ≤ maxLen ∧ a.ky.size ≤ maxLen
set_option maxRecDepth 100000 in
theorem read_zn {H : Type} {enc : TypeId × Value → H} {W : World} : ∀ fuel cs x, DataW.trod enc Tryz.prog W 0 (fun _ => true) true fuel 56 cs = some x → ∃ r : Zn, cs = znV r ∧ znQ r := by
  intro fuel cs x h
  obtain ⟨xs, n, _, _, hl, hlen, hf⟩ := DataW.trod_struct Tryz.underlying56 h
  have hc : Tryz.prog.cellsOf 56 = 9 := by kernel_rfl
  have c1 : Tryz.prog.cellsOf 3 = 1 := by kernel_rfl
  have c2 : Tryz.prog.cellsOf 9 = 1 := by kernel_rfl
  have c3 : Tryz.prog.cellsOf 54 = 2 := by kernel_rfl
  rw [hc] at hl
  match cs, hl, xs, hlen with
  | [v0, v1, v2, v3, v4, v5, v6, v7, v8], _, [y0, y1, y2, y3, y4, y5, y6, y7], _ =>
    have g0 := hf 0 _ rfl
    have g1 := hf 1 _ rfl
    have g2 := hf 2 _ rfl
    have g3 := hf 3 _ rfl
    have g4 := hf 4 _ rfl
    have g5 := hf 5 _ rfl
    have g6 := hf 6 _ rfl
    have g7 := hf 7 _ rfl
    simp [c1, c2, c3] at g0 g1 g2 g3 g4 g5 g6 g7
    obtain ⟨a0, e0, _, _⟩ := DataW.trod_int Tryz.underlying3 g0
    obtain ⟨ys, n1, _, _, hl1, hlen1, hf1⟩ := DataW.trod_struct Tryz.underlying54 g1
    match ys, hlen1 with
    | [z0, z1], _ =>
      have k0 := hf1 0 _ rfl
      have k1 := hf1 1 _ rfl
      simp [c1, c2, c3] at k0 k1
      obtain ⟨a1, e1, _, w1⟩ := DataW.trod_string Tryz.underlying9 k0
      obtain ⟨a2, e2, _, w2⟩ := DataW.trod_string Tryz.underlying9 k1
      obtain ⟨a3, e3, _, _⟩ := DataW.trod_int Tryz.underlying3 g2
      obtain ⟨a4, e4, _, _⟩ := DataW.trod_int Tryz.underlying3 g3
      obtain ⟨a5, e5, _, _⟩ := DataW.trod_int Tryz.underlying3 g4
      obtain ⟨a6, e6, _, _⟩ := DataW.trod_int Tryz.underlying3 g5
      obtain ⟨a7, e7, _, w7⟩ := DataW.trod_string Tryz.underlying9 g6
      obtain ⟨a8, e8, _, _⟩ := DataW.trod_int Tryz.underlying3 g7
      simp only [List.cons.injEq, and_true] at e0 e1 e2 e3 e4 e5 e6 e7 e8
      subst e0 e1 e2 e3 e4 e5 e6 e7 e8
      exact ⟨⟨a0, a1, a2, a3, a4, a5, a6, a7, a8⟩, rfl, w1, w2, w7⟩
end Go.Proofs.YtepjehcmiofehaaGreat
namespace Go.Proofs.YtepjehcmiofehaaGreat
open Go.RowKit
set_option linter.unusedVariables false
set_option linter.unusedSimpArgs false
/-- os, tape, output as they were; of what was there block b alone may have changed -/
structure Tch (b : Nat) (w w' : World) : Prop where
  os : w'.os = w.os
  tape : w'.tape = w.tape
  output : w'.output = w.output
  size : w.heap.size ≤ w'.heap.size
  block : ∀ k, k < w.heap.size → k ≠ b → w'.heap[k]? = w.heap[k]?
theorem Tch.refl (b : Nat) (w : World) : Tch b w w := ⟨rfl, rfl, rfl, Nat.le_refl _, fun _ _ _ => rfl⟩
theorem Tch.trans {b : Nat} {x y z : World} (h : Tch b x y) (k : Tch b y z) : Tch b x z := ⟨k.os.trans h.os, k.tape.trans h.tape, k.output.trans h.output, Nat.le_trans h.size k.size, fun i hi hn => (k.block i (Nat.lt_of_lt_of_le hi h.size) hn).trans (h.block i hi hn)⟩
theorem Tch.of_fresh (b : Nat) {w w' : World} (h : Below w.heap.size w w') : Tch b w w' := ⟨h.os, h.tape, h.output, h.size, fun k hk _ => h.block k hk⟩
theorem Tch.set {b : Nat} {w w' : World} (h : Tch b w w') (i : Nat) (v : Value) : Tch b w (w'.setCell ⟨b, i, none⟩ v) := ⟨h.os, h.tape, h.output, by simpa [World.setCell] using h.size, fun k hk hn => (Below.heap_setCell _ _ _ _ hn).trans (h.block k hk hn)⟩
theorem Tch.below {b B : Nat} {w w' : World} (h : Tch b w w') (hb : B ≤ b) (hB : B ≤ w.heap.size) : Below B w w' := ⟨h.os, h.tape, h.output, h.size, fun k hk => h.block k (by omega) (by omega)⟩
end Go.Proofs.YtepjehcmiofehaaGreat
namespace Go.Proofs.YtepjehcmiofehaaGreat
open Go.RowKit
set_option linter.unusedVariables false
set_option linter.unusedSimpArgs false
theorem flatU_take (xs : List Nat) (i : Nat) : flatU (xs.take i) = (flatU xs).take i := by simp [flatU, List.map_take]
theorem cells_take {w : World} {ad : Addr} {n c i B : Nat} {xs : List Nat} (h : Cells w B (some ad) n c 1 (flatU xs)) (hi : i ≤ n) (c' : Nat) : Cells w B (some ad) i c' 1 (flatU (xs.take i)) := by
  have hl := h.1
  rw [flatU_length, Nat.mul_one] at hl
  refine ⟨by rw [flatU_length, List.length_take]; omega, (fun e => by cases e), fun k u hu => ?_⟩
  rw [flatU_take, List.getElem?_take] at hu
  split at hu
  · exact h.2.2 k u hu
  · cases hu
theorem cells_mono {w : World} {B B' n c size : Nat} {A : Option Addr} {xs : List Value} (h : Cells w B A n c size xs) (hB : B ≤ B') : Cells w B' A n c size xs :=
  ⟨h.1, h.2.1, fun j u hu => by obtain ⟨q, o, e, hq, hc⟩ := h.2.2 j u hu; exact ⟨q, o, e, by omega, hc⟩⟩
/-- a row of bytes out of what is left -/
def nb (st : Option (List Nat)) : List Nat × Option (List Nat) := match nx st with
  | (n, some r) => if n ≤ r.length then (r.take n, some (r.drop n)) else ([], none)
  | (_, none) => ([], none)
end Go.Proofs.YtepjehcmiofehaaGreat
