/- octet's Writer, step by step: what it may touch, numbers and texts of its callers. The document's own Reader once more: it writes its own block alone. Bytes as texts. The document's Bytes, EncodeChange. What purse.Encode and the document's own Encode return. A -/
import Derived.OpenShut
import Derived.ShutString
import Derived.Deep.SlicePairs
import Derived.Test.YtdlbiobjnohfbaaGreatVp11
import Derived.Test.YtdlbiobjnohfbaaGreatVp21
namespace Go.Proofs.YtdlbiobjnohfbaaGreat
open Go.RowKit
set_option linter.unusedVariables false
set_option linter.unusedSimpArgs false
theorem wrow_belowH {w w' : World} {b B : Nat} (h : Below B w w') (hb : b < B) : wrow w' b = wrow w b := by
 unfold wrow
 rw [World.cell?_of_block (a := ⟨b, 0, none⟩) (h.block b hb)]
theorem Wr.farH {w : World} {b base : Nat} {xs : List Nat} (h : Wr w b base xs) {g : Nat} (hg : w.heap.size ≤ g) : ¬ WD w b g := by
 obtain ⟨⟨s, hs, ho⟩, _, h1, h2⟩ := h
 rintro (e | e)
 · omega
 ·
  rw [wrow_of hs] at e
  have := (ho.lt g e).2
  omega
theorem Wr.geH {w : World} {b base : Nat} {xs : List Nat} (h : Wr w b base xs) : ∀ k, WD w b k → b ≤ k := by
 obtain ⟨⟨s, hs, ho⟩, _, h1, h2⟩ := h
 rintro k (e | e)
 · omega
 ·
  rw [wrow_of hs] at e
  have := (ho.lt k e).1
  omega
theorem Wr.lowH {w : World} {b base : Nat} {xs : List Nat} (h : Wr w b base xs) : b < w.heap.size := by have := h.low; have := h.high; omega
structure WT (b : Nat) (w w' : World) : Prop where
 t : Touch (WD w b) w w'
 n : WNear w b w'
theorem WT.refl (b : Nat) (w : World) : WT b w w := ⟨Touch.refl _ _, WNear.refl _ _⟩
theorem WT.trans {b : Nat} {w w1 w2 : World} (h : WT b w w1) (k : WT b w1 w2) : WT b w w2 :=
 ⟨h.t.trans k.t (fun n hn hd => by
  rcases hd with e | e
  · exact .inl e
  · exact .inr (h.n.old n hn e)), h.n.trans h.t.size k.n⟩
theorem WT.size {b : Nat} {w w' : World} (h : WT b w w') : w.heap.size ≤ w'.heap.size := h.t.size
theorem WT.below {b : Nat} {w w' : World} (hb : b < w.heap.size) (h : Below w.heap.size w w') : WT b w w' :=
 ⟨(Touch.of_below h).mono'' (fun k h1 h2 => absurd h2 (by omega)), .inl (wrow_belowH h hb)⟩
theorem WT.alloc {b : Nat} {w w' : World} (h : WT b w w') (hb : b < w'.heap.size) (o : Obj) : WT b w (w'.alloc o) := h.trans (WT.below hb ((Below.refl _ _).alloc (Nat.le_refl _) _))
theorem WT.far {b k : Nat} {w w' : World} (h : WT b w w') (hk : k < w.heap.size) (hd : ¬ WD w b k) : ¬ WD w' b k := by
 rintro (e | e)
 · exact hd (.inl e)
 · exact hd (.inr (h.n.old k hk e))
theorem WT.whl {b k : Nat} {w w' : World} (h : WT b w w') {t : TypeId} {cs : Array Value} (hw : Whl w k t cs) (hd : ¬ WD w b k) : Whl w' k t cs := (h.t.block k hw.low hd).trans hw
theorem WT.base {b base : Nat} {xs : List Nat} {w w' : World} (h : WT b w w') (hw : Wr w b base xs) : Below b w w' := h.t.below (by have := hw.lowH; omega) hw.geH
theorem Wr.allocH {w : World} {b base : Nat} {xs : List Nat} (h : Wr w b base xs) (o : Obj) : Wr (w.alloc o) b base xs := h.below ((Below.refl _ _).alloc (Nat.le_refl _) _)
theorem numsAt_new {w : World} {b : Nat} {e : TypeId} {l : List Int} {cs : Array Value} (hl : cs = (l.map (Value.int .i64)).toArray) (hd : ¬ WD (w.alloc (.cells cs e)) b w.heap.size) : NumsAt (w.alloc (.cells cs e)) b (some ⟨w.heap.size, 0, none⟩) l := by
 intro k hk
 refine ⟨_, _, rfl, hd, ?_⟩
 rw [Nat.zero_add, cell_of_row _ _ _ _ _ _ (heap_alloc_new w _)]
 subst hl
 simp [hk]
theorem bw_cellsH (w : World) (e : TypeId) (s : ByteArray) (c : Nat) : Cells (Lib.bytesWorld w e s) (Lib.bytesWorld w e s).heap.size (some ⟨w.heap.size, 0, none⟩) (bs s).length c 1 (flatU (bs s)) := bw_cells w e s _ c (by simp)
theorem Wr.farA {w : World} {b base : Nat} {xs : List Nat} (h : Wr w b base xs) (o : Obj) : ¬ WD (w.alloc o) b w.heap.size := by
 have e : wrow (w.alloc o) b = wrow w b := wrow_belowH ((Below.refl _ _).alloc (Nat.le_refl _) _) h.lowH
 rintro (h1 | h1)
 · have := h.lowH; omega
 ·
  rw [e] at h1
  exact h.farH (Nat.le_refl _) (.inr h1)
theorem wNumsH {b base n : Nat} {l : List Int} {cs : Array Value} {xs : List Nat} {W : World} (c : Nat) (hn : n = W.heap.size) (hl : l.length ≤ 100) (hcs : cs = (l.map (Value.int .i64)).toArray) (hxs : xs.length ≤ 100000) (hw : Wr W b base xs) :
  Calls Tryz.prog 36 #[.pointer (some ⟨b, 0, none⟩), .slice (some ⟨n, 0, none⟩) l.length c] (W.alloc (.cells cs 3)) fun e w' => e = .returned (.tuple #[]) ∧ Wr w' b base (xs ++ encs l) ∧ WT b W w' := by
 subst hn
 refine (wNumsT b base _ c l xs _ (by omega) hxs (hw.allocH _) (numsAt_new hcs (hw.farA _))).mono ?_
 rintro e w' ⟨h1, h2, h3, h4⟩
 exact ⟨h1, h2, (WT.refl b W).alloc hw.lowH _ |>.trans ⟨h3, h4⟩⟩
theorem encb_len1 {s : ByteArray} (h : s.size ≤ 10000) : ∀ k, (encb ([bs s].take k)).length ≤ 10010 := by
 intro k
 have e1 := enc_len (n := (bs s).length) (by rw [bs_length]; omega)
 rw [bs_length] at e1
 match k with
 | 0 => simp [encb]
 | k + 1 => simp [encb, bs_length]; omega
theorem wBytesH1 {b base : Nat} {s : ByteArray} {xs : List Nat} {W Y : World} (c p n n3 : Nat) (hY : Y = Lib.bytesWorld W 5 s) (hn : n = W.heap.size) (hn3 : n3 = Y.heap.size) (hs : s.size ≤ 10000) (hxs : xs.length ≤ 80000) (hw : Wr W b base xs) :
  Calls Tryz.prog 37 #[.pointer (some ⟨b, 0, none⟩), .slice (some ⟨n3, 0, none⟩) 1 c] (Y.alloc (.cells #[.slice (some ⟨n, 0, none⟩) s.size p] 33)) fun e w' => e = .returned (.tuple #[]) ∧ Wr w' b base (xs ++ encb [bs s]) ∧ WT b W w' := by
 subst hn hn3
 have hb1 : Below W.heap.size W Y := by rw [hY]; exact bw_below W _ s
 have hz1 : Y.heap.size = W.heap.size + 1 := by rw [hY]; exact bw_size _ _ _
 have hc1 : ∀ c, Cells Y Y.heap.size (some ⟨W.heap.size, 0, none⟩) (bs s).length c 1 (flatU (bs s)) := fun c => by rw [hY]; exact bw_cellsH W _ s c
 have hw1 : Wr Y b base xs := hw.below hb1
 have hWT : WT b W (Y.alloc (.cells #[.slice (some ⟨W.heap.size, 0, none⟩) s.size p] 33)) := (WT.below hw.lowH hb1).alloc hw1.lowH _
 have hd : ¬ WD (Y.alloc (.cells #[.slice (some ⟨W.heap.size, 0, none⟩) s.size p] 33)) b W.heap.size := by
  have e : wrow (Y.alloc (.cells #[.slice (some ⟨W.heap.size, 0, none⟩) s.size p] 33)) b = wrow W b := (wrow_belowH ((Below.refl _ _).alloc (Nat.le_refl _) _) hw1.lowH).trans (wrow_belowH hb1 hw.lowH)
  rintro (h1 | h1)
  · have := hw.lowH; omega
  ·
   rw [e] at h1
   exact hw.farH (Nat.le_refl _) (.inr h1)
 have hL : (1 : Nat) = [bs s].length := rfl
 rw [hL]
 refine (wBytesT b base _ c [bs s] xs _ (by simp) (fun x hx => by simp at hx; subst hx; rw [bs_length]; exact hs) (fun k hk => by have := encb_len1 hs k; omega) (hw1.allocH _) ?_).mono ?_
 ·
  intro k hk
  have hk0 : k = 0 := by simp at hk; omega
  subst hk0
  refine ⟨Y.heap.size, 0, some ⟨W.heap.size, 0, none⟩, p, rfl, hw1.farA _, ?_, ?_, fun a ha => by injection ha with ha; subst ha; exact hd⟩
  ·
   rw [Nat.add_zero, cell_of_row _ _ _ _ _ _ (heap_alloc_new Y _)]
   show some _ = some _
   simp [bs_length]
  · exact cells_keep (hc1 p) ((Below.refl _ _).alloc (Nat.le_refl _) _) (by simp)
 ·
  rintro e w' ⟨h1, h2, h3, h4⟩
  exact ⟨h1, h2, hWT.trans ⟨h3, h4⟩⟩
end Go.Proofs.YtdlbiobjnohfbaaGreat
namespace Go.Proofs.YtdlbiobjnohfbaaGreat
open Go.RowKit
set_option linter.unusedVariables false
set_option linter.unusedSimpArgs false
structure Tch (b : Nat) (w w' : World) : Prop where
 os : w'.os = w.os
 tape : w'.tape = w.tape
 output : w'.output = w.output
 size : w.heap.size ≤ w'.heap.size
 block : ∀ k, k < w.heap.size → k ≠ b → w'.heap[k]? = w.heap[k]?
theorem Tch.refl (b : Nat) (w : World) : Tch b w w := ⟨rfl, rfl, rfl, Nat.le_refl _, fun _ _ _ => rfl⟩
theorem Tch.trans {b : Nat} {x y z : World} (h : Tch b x y) (k : Tch b y z) : Tch b x z := ⟨k.os.trans h.os, k.tape.trans h.tape, k.output.trans h.output, Nat.le_trans h.size k.size, fun i hi hn => (k.block i (Nat.lt_of_lt_of_le hi h.size) hn).trans (h.block i hi hn)⟩
theorem Tch.set {b : Nat} {w w' : World} (h : Tch b w w') (i : Nat) (v : Value) : Tch b w (w'.setCell ⟨b, i, none⟩ v) := ⟨h.os, h.tape, h.output, by simpa [World.setCell] using h.size, fun k hk hn => (Below.heap_setCell _ _ _ _ hn).trans (h.block k hk hn)⟩
theorem Tch.below {b B : Nat} {w w' : World} (h : Tch b w w') (hb : B ≤ b) (hB : B ≤ w.heap.size) : Below B w w' := ⟨h.os, h.tape, h.output, h.size, fun k hk => h.block k (by omega) (by omega)⟩
end Go.Proofs.YtdlbiobjnohfbaaGreat
namespace Go.Proofs.YtdlbiobjnohfbaaGreat
open Go.RowKit
set_option linter.unusedVariables false
set_option linter.unusedSimpArgs false
def strU (xs : List Nat) : ByteArray := strOfNums (xs.map fun x : Nat => (x : Int))
end Go.Proofs.YtdlbiobjnohfbaaGreat
namespace Go.Proofs.YtdlbiobjnohfbaaGreat
open Go.RowKit
set_option linter.unusedVariables false
set_option linter.unusedSimpArgs false
set_option maxHeartbeats 1000000 in
set_option maxRecDepth 10000 in
theorem refBytes (A : Option Addr) (c n : Nat) (xs : List Nat) (w : World) (hn : xs.length = n) (hl : n ≤ 100000) (hx : ∀ c, Cells w w.heap.size A xs.length c 1 (flatU xs)) :
  Calls Tryz.prog 73 #[.slice A n c] w fun e w' => ∃ v', e = .returned v' ∧ w'.ownsRow w.heap.size 5 1 v' (enc n ++ xs).length (flatU (enc n ++ xs)) ∧ Below w.heap.size w w' := by
 subst hn
 obtain ⟨i0, hi, hz0, hz1, hz2⟩ := info_parts Tryz.infoByte
 have HX := Lib.hid (hx c)
 have hel : (enc xs.length).length ≤ 10 := enc_len (by omega)
 clear hx
 go_enter Tryz.func73, Tryz.ntmps73
 go_wp2_with fail
 refine (refNum (xs.length : Int) _).mono ?_
 rintro e w1 ⟨v1, rfl, hown1, hb1⟩
 rw [clamp_nat (by omega)] at hown1
 have HO1 := Lib.hid hown1
 have HX1 := Lib.hid (cells_keep HX.out hb1 hb1.size)
 have hs1 := hb1.size
 clear hown1
 go_wp2_with (at_builtin; go_must (refine wpList_append_row rfl (.tmp 5) (.tmp 6) 33 rfl w.heap.size 5 i0 (.int .u8 0) 1 1 Tryz.underlying33 hi hz0 hz1 hz2 rfl (by decide) v1 (enc xs.length).length (flatU (enc xs.length)) rfl HO1.out w1.heap.size A xs.length c (flatU xs) rfl HX1.out (flatU_one _) (by unfold maxLen; omega) (by omega) (by (first | omega | (simp; done) | (simp; omega))) ?_); intro v5 w5 hown5 hb5)
 rw [← flatU_app, ← List.length_append] at hown5
 have HO5 := Lib.hid hown5
 clear hown5
 go_ret
 exact ⟨_, rfl, HO5.out, hb1.trans hb5⟩
end Go.Proofs.YtdlbiobjnohfbaaGreat
namespace Go.Proofs.YtdlbiobjnohfbaaGreat
open Go.RowKit
set_option linter.unusedVariables false
set_option linter.unusedSimpArgs false
theorem ints4 {w : World} {b B : Nat} {i0 i1 i2 i3 : Int} (hb : b < B) (h0 : w.cell? ⟨b, 0, none⟩ = some (.int .i64 i0)) (h1 : w.cell? ⟨b, 1, none⟩ = some (.int .i64 i1)) (h2 : w.cell? ⟨b, 2, none⟩ = some (.int .i64 i2)) (h3 : w.cell? ⟨b, 3, none⟩ = some (.int .i64 i3)) : Ints w B (some ⟨b, 0, none⟩) [i0, i1, i2, i3] := by
 intro k hk
 refine ⟨b, 0, rfl, hb, ?_⟩
 rw [Nat.zero_add]
 match k, hk with
 | 0, _ => exact h0
 | 1, _ => exact h1
 | 2, _ => exact h2
 | 3, _ => exact h3
theorem refEncode (i0 i1 i2 i3 : Int) (w : World) :
  Calls Tryz.prog 74 #[.agg #[.int .i64 i0, .int .i64 i1, .int .i64 i2, .int .i64 i3]] w fun e w' => ∃ v', e = .returned v' ∧ w'.ownsRow w.heap.size 5 1 v' (encs [i0, i1, i2, i3]).length (flatU (encs [i0, i1, i2, i3])) ∧ Below w.heap.size w w' := by
 go_enter Tryz.func74, Tryz.ntmps74
 go_wp2_with fail
 refine (refNums (some ⟨w.heap.size + 1, 0, none⟩) 4 [i0, i1, i2, i3] _ (by simp) (ints4 (by (first | omega | (simp; done) | (simp; omega))) (by exact tC) (by exact tC) (by exact tC) (by exact tC))).mono ?_
 rintro e w1 ⟨v1, rfl, hown1, hb1⟩
 have hs1 := hb1.size; (try simp at hs1)
 have HO := Lib.hid hown1
 clear hown1
 go_wp2_with fail
 go_ret
 exact ⟨_, rfl, World.ownsRow.mono HO.out (by simp; omega), by exact tB⟩
end Go.Proofs.YtdlbiobjnohfbaaGreat
namespace Go.Proofs.YtdlbiobjnohfbaaGreat
open Go.RowKit Go.ChangeShapes Go.WideShapes Go.ChangeAt Go.Deep
set_option linter.unusedVariables false
set_option linter.unusedSimpArgs false
theorem cell_ltR {w : World} {a : Addr} {v : Value} (h : w.cell? a = some v) : a.block < w.heap.size := by
 unfold World.cell? at h
 cases hb : w.heap[a.block]? with
 | none => rw [hb] at h; cases h
 | some o => exact (Array.getElem?_eq_some_iff.1 hb).1
theorem cell_plainR {w : World} {b o : Nat} {s : Option _} {v : Value} (h : w.cell? ⟨b, o, s⟩ = some v) : s = none := by
 have := World.cell?_spot h
 simpa using this
theorem flat_get {β : Type} (f : β → List Value) (size : Nat) (hs : ∀ r, (f r).length = size) : ∀ (xs : List β) (i k : Nat), k < size → (xs.flatMap f)[i * size + k]? = (xs[i]?).bind (fun r => (f r)[k]?)
 | [], i, k, h => by simp
 | x :: r, 0, k, h => by
  simp only [List.flatMap_cons, Nat.zero_mul, Nat.zero_add, List.getElem?_cons_zero, Option.bind_some]
  rw [List.getElem?_append_left (by rw [hs]; exact h)]
 | x :: r, i + 1, k, h => by
  simp only [List.flatMap_cons, List.getElem?_cons_succ]
  rw [List.getElem?_append_right (by rw [hs, Nat.add_mul]; omega), hs, show (i + 1) * size + k - size = i * size + k by rw [Nat.add_mul]; omega]
  exact flat_get f size hs r i k h
theorem flat_lenR {β : Type} (f : β → List Value) (size : Nat) (hs : ∀ r, (f r).length = size) : ∀ (xs : List β), (xs.flatMap f).length = xs.length * size
 | [] => by simp
 | x :: r => by simp only [List.flatMap_cons, List.length_append, hs, flat_lenR f size hs r, List.length_cons, Nat.add_mul]; omega
theorem open_rows {β : Type} {H : Type} {enc : TypeId × Value → H} {P : Program} {W : World} {base : Nat} {t e : TypeId} {v : Value} {d : DataW H} {p : List MemPlace} (f : β → List Value) (Q : β → Prop) (size : Nat) (hpos : 0 < size) (hs : ∀ r, (f r).length = size) (r0 : β)
  (ht : P.underlying t = some (.slice e)) (ce : P.cellsOf e = size)
  (hread : ∀ fuel cs x, DataW.trod enc P W 0 (fun _ => true) true fuel e cs = some x → ∃ r : β, cs = f r ∧ Q r)
  (hv : Value.okWide P W .any base t v) (h : DataW.Trod enc P W 0 (fun _ => true) true t v d p) :
  ∃ (A : Option Addr) (c : Nat) (xs : List β), v = .slice A xs.length c ∧ xs.length ≤ c ∧ c ≤ maxLen ∧ (∀ r ∈ xs, Q r) ∧ Cells W W.heap.size A xs.length c size (xs.flatMap f) := by
 obtain ⟨A, len, c, rfl⟩ := okWide_slice ht hv
 obtain ⟨fuel, hf⟩ := h
 rcases open_slice ht hf with ⟨hcs, _⟩ | ⟨a, l, cap, m, n, D, Pl, hcs, hb, hl, hm, hmm, _, hall⟩
 ·
  simp [Value.cells] at hcs
  obtain ⟨rfl, rfl, rfl⟩ := hcs
  exact ⟨none, 0, [], rfl, Nat.le_refl _, by unfold maxLen; omega, by simp, by simp, fun _ => ⟨rfl, rfl⟩, fun j u hu => by simp at hu⟩
 ·
  simp [Value.cells] at hcs
  obtain ⟨rfl, rfl, rfl⟩ := hcs
  have hlm : len ≤ m := by rw [hmm]; simp; exact hl
  have hc : ∀ i, i < len → ∃ r : β, Q r ∧ ∀ k, k < size → W.cell? (a.add (i * size + k)) = (f r)[k]? := by
   intro i hi
   obtain ⟨cs', h1, h2⟩ := hall i (by omega)
   rw [ce] at h1
   obtain ⟨_, hlen, hcell⟩ := World.cells?_some h1
   obtain ⟨r, rfl, hq⟩ := hread _ _ _ h2
   refine ⟨r, hq, fun k hk => ?_⟩
   have := hcell k (by omega)
   rw [add_add] at this
   exact this
  let g : Nat → β := fun i => if h : i < len then (hc i h).choose else r0
  have hg : ∀ i, i < len → Q (g i) ∧ ∀ k, k < size → W.cell? (a.add (i * size + k)) = (f (g i))[k]? := fun i hi => by
   simp only [g, hi, dite_true]
   exact (hc i hi).choose_spec
  obtain ⟨b, o, s⟩ := a
  refine ⟨some ⟨b, o, s⟩, c, (List.range len).map g, by simp, by simpa using hl, hm, ?_, ?_, (fun e => by cases e), ?_⟩
  ·
   intro r hr
   obtain ⟨i, hi, rfl⟩ := List.mem_map.1 hr
   exact (hg i (List.mem_range.1 hi)).1
  · exact flat_lenR f size hs _
  ·
   intro j u hu
   have hj : j = j / size * size + j % size := by rw [Nat.mul_comm]; exact (Nat.div_add_mod j size).symm
   have hk := Nat.mod_lt j hpos
   rw [hj, flat_get f size hs _ _ _ hk] at hu
   have hi : j / size < len := by
    by_cases hi : j / size < len
    · exact hi
    · rw [List.getElem?_eq_none (by simpa using hi)] at hu; cases hu
   rw [List.getElem?_map, List.getElem?_range hi] at hu
   simp only [Option.map_some, Option.bind_some] at hu
   have hcl := (hg _ hi).2 _ hk
   rw [hu, ← hj] at hcl
   have hsp : s = none := by
    have h0 := (hg 0 (Nat.lt_of_le_of_lt (Nat.zero_le _) hi)).2 0 hpos
    rw [List.getElem?_eq_getElem (by rw [hs]; exact hpos)] at h0
    rw [show 0 * size + 0 = 0 by omega] at h0
    unfold Addr.add at h0
    rw [if_pos rfl] at h0
    exact cell_plainR h0
   subst hsp
   rw [add_none] at hcl
   exact ⟨b, o, rfl, cell_ltR hcl, hcl⟩
end Go.Proofs.YtdlbiobjnohfbaaGreat
