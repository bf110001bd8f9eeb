/- octet's Writer.Bytes, with frames by touched blocks. octet's Writer, step by step: what it may touch, numbers and texts of its callers. The document's own Reader once more: it writes its own block alone. Readers: so many bytes, and rows of bytes. Bytes as text -/
import Derived.OpenShut
import Derived.ShutString
import Derived.Deep.SlicePairs
import Derived.Test.YtdlbiobjnohfbaaGreatVb12
import Derived.Test.YtdlbiobjnohfbaaGreatVb19
namespace Go.Proofs.YtdlbiobjnohfbaaGreat
open Go.RowKit
set_option linter.unusedVariables false
set_option linter.unusedSimpArgs false
def RowsAt (w : World) (b : Nat) (A : Option Addr) (l : List (List Nat)) : Prop :=
 ∀ k (h : k < l.length), ∃ q o Ak ck, A = some ⟨q, o, none⟩ ∧ ¬ WD w b q ∧ w.cell? ⟨q, o + k, none⟩ = some (.slice Ak l[k].length ck) ∧ Cells w w.heap.size Ak l[k].length ck 1 (flatU l[k]) ∧ ∀ a, Ak = some a → ¬ WD w b a.block
set_option maxHeartbeats 2000000 in
set_option maxRecDepth 10000 in
theorem wBytesT (b base : Nat) (A : Option Addr) (c : Nat) (l : List (List Nat)) (xs : List Nat) (w : World) (hl : l.length ≤ 1000) (h1000 : ∀ x ∈ l, x.length ≤ 10000) (hxs : ∀ k, k ≤ l.length → xs.length + (encb (l.take k)).length ≤ 100000) (hw : Wr w b base xs) (hx : RowsAt w b A l) :
    Calls Tryz.prog 37 #[.pointer (some ⟨b, 0, none⟩), .slice A l.length c] w fun e w' => e = .returned (.tuple #[]) ∧ Wr w' b base (xs ++ encb l) ∧ Touch (WD w b) w w' ∧ WNear w b w' := by
  obtain ⟨i0, hi, hz0, hz1, hz2⟩ := info_parts Tryz.infoByte
  have HX := Lib.hid hx
  have HW0 := Lib.hid hw
  have H1 := Lib.hid h1000
  have H2 := Lib.hid hxs
  clear hx hw h1000 hxs
  go_enter Tryz.func37, Tryz.ntmps37
  go_wp2_with fail
  go_loopw [10] (fun i wr => ∃ k : Nat, k ≤ l.length ∧ i = .int .i64 k ∧ Hid (Wr wr b base (xs ++ encb (l.take k))) ∧ Hid (Touch (WD w b) w wr) ∧ Hid (WNear w b wr)) (fun i _ => l.length - (intOf i).toNat)
  case atStart => exact ⟨0, by omega, rfl, Lib.hid (by simpa [encb] using HW0.out), Lib.hid (Touch.refl _ _), Lib.hid (WNear.refl _ _)⟩
  case round =>
    obtain ⟨k, hk, rfl, HW, HT, HN⟩ := hrel
    by_cases hlt : k < l.length
    · obtain ⟨b1, o, Ak, ck, rfl, hb, h1, h2, h2b⟩ := HX.out k hlt
      replace h1 := HT.out.cell h1 hb
      have hsz := HT.out.size
      have hC0 := HT.out.cells h2 h2b
      have hlk : l[k].length ≤ 10000 := H1.out _ (List.getElem_mem _)
      have hq := H2.out k hk
      obtain ⟨⟨s, hs, hown⟩, hfr, hlow, hhigh⟩ := HW.out
      have HO := Lib.hid hown
      have hi1 : (k : Int) < (l.length : Int) := by omega
      have hsb : ¬ s.ownBlock = some b := fun e => by have := (hown.lt b e).1; omega
      have hAs : ∀ a, Ak = some a → a.block < w.heap.size → ¬ s.ownBlock = some a.block := fun a ha hlt2 e => h2b a ha (Or.inr (HN.out.old _ hlt2 ((wrow_of hs).trans e)))
      have hAl : l[k].length ≠ 0 → ∀ a, Ak = some a → a.block < w.heap.size := by
        intro hne a ha
        have hpos : 0 < (flatU l[k]).length := by simp [flatU]; omega
        obtain ⟨bb, oo, ee, hlt3, _⟩ := h2.2.2 0 _ (List.getElem?_eq_getElem hpos)
        rw [ee] at ha; injection ha with ha; subst ha; exact hlt3
      have hC1 : ∀ W, Touch (fun k => s.ownBlock = some k) wr W → Cells W w.heap.size Ak l[k].length ck 1 (flatU l[k]) := by
        intro W ht
        refine ⟨hC0.1, hC0.2.1, fun j u hu => ?_⟩
        obtain ⟨bb, oo, ee, hlt3, hcc⟩ := hC0.2.2 j u hu
        exact ⟨bb, oo, ee, hlt3, ht.cell hcc (hAs _ ee hlt3)⟩
      have HC1 := Lib.hid hC1
      clear hown h2 hC0 hC1 hAl hAs
      go_wp2_with fail
      refine (octAppendT s _ _ (l[k].length : Int) base _ (by rw [List.length_append]; omega) hhigh HO.out).mono ?_
      rintro e w3 ⟨v3, rfl, hown3, ht3, hn3⟩
      have hs3 := ht3.size
      rw [clamp_nat (by omega), ← flatU_app, ← List.length_append] at hown3
      have HO3 := Lib.hid hown3
      have c3 := ht3.cell hs hsb
      have f3 := ht3.frozen (by omega) hfr hsb
      have HC3 := Lib.hid (HC1.out w3 ht3)
      have hen : (enc l[k].length).length ≤ 10 := enc_len (by omega)
      have hln : (xs ++ encb (l.take k) ++ enc l[k].length).length ≤ 200000 := by simp only [List.length_append]; omega
      have hsb3 : ¬ v3.ownBlock = some b := fun e => by have := (hown3.lt b e).1; omega
      have HT3 := Lib.hid (HT.out.trans ht3 (fun n h1 h2 => (Or.inr (HN.out.old n h1 ((wrow_of hs).trans h2)) : WD w b n)))
      have HN3 := Lib.hid hn3
      clear hown3 hn3
      go_wp2_with (at_builtin; go_must (refine wpList_append_touch rfl (.tmp 21) (.tmp 22) 33 rfl base 5 i0 (.int .u8 0) 1 1 Tryz.underlying33 hi hz0 hz1 hz2 rfl (by decide) v3 _ _ rfl HO3.out w.heap.size Ak l[k].length ck (flatU l[k]) rfl HC3.out (flatU_one _) (by unfold maxLen; omega) (by omega) (by omega) ?_); intro v5 w5 hown5 ht5 hl5; have c5 := ht5.cell c3 hsb3; have f5 := ht5.frozen (by omega) f3 hsb3; have hs5 := ht5.size; have HN5 := Lib.hid (HN3.out.step hs3 hl5); have HT5 := Lib.hid (HT3.out.trans ht5 (fun n h1 h2 => (Or.inr (HN.out.old n h1 ((wrow_of hs).trans (HN3.out.old n (by omega) h2))) : WD w b n))); obtain ⟨A5, cp5, rfl, -, -, -⟩ := row_cells hown5; have HO5 := Lib.hid hown5; clear hown5)
      have e5 : xs ++ encb (l.take k) ++ enc l[k].length ++ l[k] = xs ++ encb (l.take (k + 1)) := by rw [encb_snoc hlt]; simp only [List.append_assoc]
      have hO6 := HO5.out
      rw [← flatU_app, ← List.length_append, e5] at hO6
      have hN5 := HN5.out
      rw [← List.length_append, e5] at hN5
      have HW6 : Hid (Wr (w5.setCell ⟨b, 0, none⟩ (.slice A5 (xs ++ encb (l.take (k + 1))).length cp5)) b base (xs ++ encb (l.take (k + 1)))) := Lib.hid ⟨⟨_, c_set_same (h_of c5), row_set hO6 hlow _⟩, f_set f5, hlow, by simp; omega⟩
      have HT6 : Hid (Touch (WD w b) w (w5.setCell ⟨b, 0, none⟩ (.slice A5 (xs ++ encb (l.take (k + 1))).length cp5))) := Lib.hid (HT5.out.set (fun _ => Or.inl rfl))
      have HN6 : Hid (WNear w b (w5.setCell ⟨b, 0, none⟩ (.slice A5 (xs ++ encb (l.take (k + 1))).length cp5))) := Lib.hid (HN.out.step (w2 := w5) hsz hs hN5 (c_set_same (h_of c5)))
      rw [← e5, List.length_append] at HW6 HT6 HN6
      rw [e5] at HW6
      simp only [List.append_assoc, List.length_append] at HW6 HT6 HN6
      clear hO6 hN5
      first
        | (go_roundw
           case rel => exact ⟨k + 1, by omega, by go_num, HW6, HT6, HN6⟩
           case measure => simp [intOf]; omega)
        | (refine ⟨⟨k + 1, by omega, by go_num, HW6, HT6, HN6⟩, ?_⟩
           simp [intOf]; omega)
    · have hke : k = l.length := by omega
      subst hke
      have hO := HW.out
      rw [List.take_length] at hO
      have HO := Lib.hid hO
      clear hO
      go_wp2_with fail
      refine bodyPost_end (v := .tuple #[]) (by simp [results, Tryz.results37, go_sem]) rfl ⟨rfl, HO.out, HT.out, HN.out⟩
theorem wrow_belowH {w w' : World} {b B : Nat} (h : Below B w w') (hb : b < B) : wrow w' b = wrow w b := by
 unfold wrow
 rw [World.cell?_of_block (a := ⟨b, 0, none⟩) (h.block b hb)]
theorem Wr.farH {w : World} {b base : Nat} {xs : List Nat} (h : Wr w b base xs) {g : Nat} (hg : w.heap.size ≤ g) : ¬ WD w b g := by
 obtain ⟨⟨s, hs, ho⟩, _, h1, h2⟩ := h
 rintro (e | e)
 · omega
 ·
  rw [wrow_of hs] at e
  have := (ho.lt g e).2
  omega
theorem Wr.geH {w : World} {b base : Nat} {xs : List Nat} (h : Wr w b base xs) : ∀ k, WD w b k → b ≤ k := by
 obtain ⟨⟨s, hs, ho⟩, _, h1, h2⟩ := h
 rintro k (e | e)
 · omega
 ·
  rw [wrow_of hs] at e
  have := (ho.lt k e).1
  omega
theorem Wr.lowH {w : World} {b base : Nat} {xs : List Nat} (h : Wr w b base xs) : b < w.heap.size := by have := h.low; have := h.high; omega
structure WT (b : Nat) (w w' : World) : Prop where
 t : Touch (WD w b) w w'
 n : WNear w b w'
theorem WT.refl (b : Nat) (w : World) : WT b w w := ⟨Touch.refl _ _, WNear.refl _ _⟩
theorem WT.trans {b : Nat} {w w1 w2 : World} (h : WT b w w1) (k : WT b w1 w2) : WT b w w2 :=
 ⟨h.t.trans k.t (fun n hn hd => by
  rcases hd with e | e
  · exact .inl e
  · exact .inr (h.n.old n hn e)), h.n.trans h.t.size k.n⟩
theorem WT.size {b : Nat} {w w' : World} (h : WT b w w') : w.heap.size ≤ w'.heap.size := h.t.size
theorem WT.below {b : Nat} {w w' : World} (hb : b < w.heap.size) (h : Below w.heap.size w w') : WT b w w' :=
 ⟨(Touch.of_below h).mono'' (fun k h1 h2 => absurd h2 (by omega)), .inl (wrow_belowH h hb)⟩
theorem WT.alloc {b : Nat} {w w' : World} (h : WT b w w') (hb : b < w'.heap.size) (o : Obj) : WT b w (w'.alloc o) := h.trans (WT.below hb ((Below.refl _ _).alloc (Nat.le_refl _) _))
theorem WT.far {b k : Nat} {w w' : World} (h : WT b w w') (hk : k < w.heap.size) (hd : ¬ WD w b k) : ¬ WD w' b k := by
 rintro (e | e)
 · exact hd (.inl e)
 · exact hd (.inr (h.n.old k hk e))
theorem WT.whl {b k : Nat} {w w' : World} (h : WT b w w') {t : TypeId} {cs : Array Value} (hw : Whl w k t cs) (hd : ¬ WD w b k) : Whl w' k t cs := (h.t.block k hw.low hd).trans hw
theorem WT.base {b base : Nat} {xs : List Nat} {w w' : World} (h : WT b w w') (hw : Wr w b base xs) : Below b w w' := h.t.below (by have := hw.lowH; omega) hw.geH
theorem Wr.allocH {w : World} {b base : Nat} {xs : List Nat} (h : Wr w b base xs) (o : Obj) : Wr (w.alloc o) b base xs := h.below ((Below.refl _ _).alloc (Nat.le_refl _) _)
theorem numsAt_new {w : World} {b : Nat} {e : TypeId} {l : List Int} {cs : Array Value} (hl : cs = (l.map (Value.int .i64)).toArray) (hd : ¬ WD (w.alloc (.cells cs e)) b w.heap.size) : NumsAt (w.alloc (.cells cs e)) b (some ⟨w.heap.size, 0, none⟩) l := by
 intro k hk
 refine ⟨_, _, rfl, hd, ?_⟩
 rw [Nat.zero_add, cell_of_row _ _ _ _ _ _ (heap_alloc_new w _)]
 subst hl
 simp [hk]
theorem bw_cellsH (w : World) (e : TypeId) (s : ByteArray) (c : Nat) : Cells (Lib.bytesWorld w e s) (Lib.bytesWorld w e s).heap.size (some ⟨w.heap.size, 0, none⟩) (bs s).length c 1 (flatU (bs s)) := bw_cells w e s _ c (by simp)
theorem Wr.farA {w : World} {b base : Nat} {xs : List Nat} (h : Wr w b base xs) (o : Obj) : ¬ WD (w.alloc o) b w.heap.size := by
 have e : wrow (w.alloc o) b = wrow w b := wrow_belowH ((Below.refl _ _).alloc (Nat.le_refl _) _) h.lowH
 rintro (h1 | h1)
 · have := h.lowH; omega
 ·
  rw [e] at h1
  exact h.farH (Nat.le_refl _) (.inr h1)
theorem wNumsH {b base n : Nat} {l : List Int} {cs : Array Value} {xs : List Nat} {W : World} (c : Nat) (hn : n = W.heap.size) (hl : l.length ≤ 100) (hcs : cs = (l.map (Value.int .i64)).toArray) (hxs : xs.length ≤ 100000) (hw : Wr W b base xs) :
  Calls Tryz.prog 36 #[.pointer (some ⟨b, 0, none⟩), .slice (some ⟨n, 0, none⟩) l.length c] (W.alloc (.cells cs 3)) fun e w' => e = .returned (.tuple #[]) ∧ Wr w' b base (xs ++ encs l) ∧ WT b W w' := by
 subst hn
 refine (wNumsT b base _ c l xs _ (by omega) hxs (hw.allocH _) (numsAt_new hcs (hw.farA _))).mono ?_
 rintro e w' ⟨h1, h2, h3, h4⟩
 exact ⟨h1, h2, (WT.refl b W).alloc hw.lowH _ |>.trans ⟨h3, h4⟩⟩
theorem encb_len1 {s : ByteArray} (h : s.size ≤ 10000) : ∀ k, (encb ([bs s].take k)).length ≤ 10010 := by
 intro k
 have e1 := enc_len (n := (bs s).length) (by rw [bs_length]; omega)
 rw [bs_length] at e1
 match k with
 | 0 => simp [encb]
 | k + 1 => simp [encb, bs_length]; omega
theorem wBytesH1 {b base : Nat} {s : ByteArray} {xs : List Nat} {W Y : World} (c p n n3 : Nat) (hY : Y = Lib.bytesWorld W 5 s) (hn : n = W.heap.size) (hn3 : n3 = Y.heap.size) (hs : s.size ≤ 10000) (hxs : xs.length ≤ 80000) (hw : Wr W b base xs) :
  Calls Tryz.prog 37 #[.pointer (some ⟨b, 0, none⟩), .slice (some ⟨n3, 0, none⟩) 1 c] (Y.alloc (.cells #[.slice (some ⟨n, 0, none⟩) s.size p] 33)) fun e w' => e = .returned (.tuple #[]) ∧ Wr w' b base (xs ++ encb [bs s]) ∧ WT b W w' := by
 subst hn hn3
 have hb1 : Below W.heap.size W Y := by rw [hY]; exact bw_below W _ s
 have hz1 : Y.heap.size = W.heap.size + 1 := by rw [hY]; exact bw_size _ _ _
 have hc1 : ∀ c, Cells Y Y.heap.size (some ⟨W.heap.size, 0, none⟩) (bs s).length c 1 (flatU (bs s)) := fun c => by rw [hY]; exact bw_cellsH W _ s c
 have hw1 : Wr Y b base xs := hw.below hb1
 have hWT : WT b W (Y.alloc (.cells #[.slice (some ⟨W.heap.size, 0, none⟩) s.size p] 33)) := (WT.below hw.lowH hb1).alloc hw1.lowH _
 have hd : ¬ WD (Y.alloc (.cells #[.slice (some ⟨W.heap.size, 0, none⟩) s.size p] 33)) b W.heap.size := by
  have e : wrow (Y.alloc (.cells #[.slice (some ⟨W.heap.size, 0, none⟩) s.size p] 33)) b = wrow W b := (wrow_belowH ((Below.refl _ _).alloc (Nat.le_refl _) _) hw1.lowH).trans (wrow_belowH hb1 hw.lowH)
  rintro (h1 | h1)
  · have := hw.lowH; omega
  ·
   rw [e] at h1
   exact hw.farH (Nat.le_refl _) (.inr h1)
 have hL : (1 : Nat) = [bs s].length := rfl
 rw [hL]
 refine (wBytesT b base _ c [bs s] xs _ (by simp) (fun x hx => by simp at hx; subst hx; rw [bs_length]; exact hs) (fun k hk => by have := encb_len1 hs k; omega) (hw1.allocH _) ?_).mono ?_
 ·
  intro k hk
  have hk0 : k = 0 := by simp at hk; omega
  subst hk0
  refine ⟨Y.heap.size, 0, some ⟨W.heap.size, 0, none⟩, p, rfl, hw1.farA _, ?_, ?_, fun a ha => by injection ha with ha; subst ha; exact hd⟩
  ·
   rw [Nat.add_zero, cell_of_row _ _ _ _ _ _ (heap_alloc_new Y _)]
   show some _ = some _
   simp [bs_length]
  · exact cells_keep (hc1 p) ((Below.refl _ _).alloc (Nat.le_refl _) _) (by simp)
 ·
  rintro e w' ⟨h1, h2, h3, h4⟩
  exact ⟨h1, h2, hWT.trans ⟨h3, h4⟩⟩
structure Tch (b : Nat) (w w' : World) : Prop where
 os : w'.os = w.os
 tape : w'.tape = w.tape
 output : w'.output = w.output
 size : w.heap.size ≤ w'.heap.size
 block : ∀ k, k < w.heap.size → k ≠ b → w'.heap[k]? = w.heap[k]?
theorem Tch.refl (b : Nat) (w : World) : Tch b w w := ⟨rfl, rfl, rfl, Nat.le_refl _, fun _ _ _ => rfl⟩
theorem Tch.trans {b : Nat} {x y z : World} (h : Tch b x y) (k : Tch b y z) : Tch b x z := ⟨k.os.trans h.os, k.tape.trans h.tape, k.output.trans h.output, Nat.le_trans h.size k.size, fun i hi hn => (k.block i (Nat.lt_of_lt_of_le hi h.size) hn).trans (h.block i hi hn)⟩
theorem Tch.of_fresh (b : Nat) {w w' : World} (h : Below w.heap.size w w') : Tch b w w' := ⟨h.os, h.tape, h.output, h.size, fun k hk _ => h.block k hk⟩
theorem Tch.set {b : Nat} {w w' : World} (h : Tch b w w') (i : Nat) (v : Value) : Tch b w (w'.setCell ⟨b, i, none⟩ v) := ⟨h.os, h.tape, h.output, by simpa [World.setCell] using h.size, fun k hk hn => (Below.heap_setCell _ _ _ _ hn).trans (h.block k hk hn)⟩
theorem Tch.below {b B : Nat} {w w' : World} (h : Tch b w w') (hb : B ≤ b) (hB : B ≤ w.heap.size) : Below B w w' := ⟨h.os, h.tape, h.output, h.size, fun k hk => h.block k (by omega) (by omega)⟩
theorem flatU_take (xs : List Nat) (i : Nat) : flatU (xs.take i) = (flatU xs).take i := by simp [flatU, List.map_take]
theorem cells_takeO {w : World} {ad : Addr} {n c i B : Nat} {xs : List Nat} (h : Cells w B (some ad) n c 1 (flatU xs)) (hi : i ≤ n) (c' : Nat) : Cells w B (some ad) i c' 1 (flatU (xs.take i)) := by
 have hl := h.1
 rw [flatU_length, Nat.mul_one] at hl
 refine ⟨by rw [flatU_length, List.length_take]; omega, (fun e => by cases e), fun k u hu => ?_⟩
 rw [flatU_take, List.getElem?_take] at hu
 split at hu
 · exact h.2.2 k u hu
 · cases hu
theorem cells_mono {w : World} {B B' n c size : Nat} {A : Option Addr} {xs : List Value} (h : Cells w B A n c size xs) (hB : B ≤ B') : Cells w B' A n c size xs :=
 ⟨h.1, h.2.1, fun j u hu => by obtain ⟨q, o, e, hq, hc⟩ := h.2.2 j u hu; exact ⟨q, o, e, by omega, hc⟩⟩
def nb (st : Option (List Nat)) : List Nat × Option (List Nat) := match nx st with
 | (n, some r) => if n ≤ r.length then (r.take n, some (r.drop n)) else ([], none)
 | (_, none) => ([], none)
def strU (xs : List Nat) : ByteArray := strOfNums (xs.map fun x : Nat => (x : Int))
theorem own_cases' {w : World} {base : Nat} {v : Value} {xs : List Nat} (h : w.ownsRow base 5 1 v xs.length (flatU xs)) : (v = .slice none 0 0 ∧ xs = []) ∨ ∃ g cap, v = .slice (some ⟨g, 0, none⟩) xs.length cap := by
 rcases h.2 with ⟨hv, h0⟩ | ⟨g, cap, cur, hv, _⟩
 · exact .inl ⟨hv, List.eq_nil_of_length_eq_zero h0⟩
 · exact .inr ⟨g, cap, hv⟩
theorem conv_own {w : World} {base : Nat} {v : Value} {xs : List Nat} (h : w.ownsRow base 5 1 v xs.length (flatU xs)) : (convert 33 9 v).run Tryz.prog w = .ok (.string (strU xs)) w := by
 rcases own_cases' h with ⟨rfl, rfl⟩ | ⟨g, cap, rfl⟩
 · exact run_convert_bytes_nil w _ _ Tryz.underlying33 Tryz.underlying5 0 0 _ Tryz.underlying9
 ·
  refine run_convert_bytes_arg w _ _ Tryz.underlying33 Tryz.underlying5 g 0 _ cap _ (by simp) (fun i hi => ?_) _ Tryz.underlying9
  have := h.cells (g := g) rfl i (.int .u8 (xs[i] : Nat)) (by simp [flatU, hi])
  rw [add_none] at this
  rw [this]
  simp [List.getD, hi]
set_option maxHeartbeats 1000000 in
set_option maxRecDepth 10000 in
theorem refBytes (A : Option Addr) (c n : Nat) (xs : List Nat) (w : World) (hn : xs.length = n) (hl : n ≤ 100000) (hx : ∀ c, Cells w w.heap.size A xs.length c 1 (flatU xs)) :
  Calls Tryz.prog 73 #[.slice A n c] w fun e w' => ∃ v', e = .returned v' ∧ w'.ownsRow w.heap.size 5 1 v' (enc n ++ xs).length (flatU (enc n ++ xs)) ∧ Below w.heap.size w w' := by
 subst hn
 obtain ⟨i0, hi, hz0, hz1, hz2⟩ := info_parts Tryz.infoByte
 have HX := Lib.hid (hx c)
 have hel : (enc xs.length).length ≤ 10 := enc_len (by omega)
 clear hx
 go_enter Tryz.func73, Tryz.ntmps73
 go_wp2_with fail
 refine (refNum (xs.length : Int) _).mono ?_
 rintro e w1 ⟨v1, rfl, hown1, hb1⟩
 rw [clamp_nat (by omega)] at hown1
 have HO1 := Lib.hid hown1
 have HX1 := Lib.hid (cells_keep HX.out hb1 hb1.size)
 have hs1 := hb1.size
 clear hown1
 go_wp2_with (at_builtin; go_must (refine wpList_append_row rfl (.tmp 5) (.tmp 6) 33 rfl w.heap.size 5 i0 (.int .u8 0) 1 1 Tryz.underlying33 hi hz0 hz1 hz2 rfl (by decide) v1 (enc xs.length).length (flatU (enc xs.length)) rfl HO1.out w1.heap.size A xs.length c (flatU xs) rfl HX1.out (flatU_one _) (by unfold maxLen; omega) (by omega) (by (first | omega | (simp; done) | (simp; omega))) ?_); intro v5 w5 hown5 hb5)
 rw [← flatU_app, ← List.length_append] at hown5
 have HO5 := Lib.hid hown5
 clear hown5
 go_ret
 exact ⟨_, rfl, HO5.out, hb1.trans hb5⟩
theorem nb_enc {xs : List Nat} (h : xs.length ≤ 4611686018427387904) (r : List Nat) : nb (some (enc xs.length ++ (xs ++ r))) = (xs, some r) := by
 unfold nb
 rw [nx_enc h]
 simp
theorem strU_bs (s : ByteArray) : strU (bs s) = s := by
 have h : (strU (bs s)).data.toList = s.data.toList := by
  unfold strU bs
  rw [strOfNums_data, List.map_map, List.map_map]
  refine (List.map_congr_left (g := fun b => b) (fun b _ => ?_)).trans (List.map_id' _)
  simp [Function.comp]
 have h2 : (strU (bs s)).data = s.data := Array.ext' h
 cases s with
 | mk d => cases hh : strU (bs ⟨d⟩) with | mk d2 => rw [hh] at h2; simp only at h2; rw [h2]
theorem ints4 {w : World} {b B : Nat} {i0 i1 i2 i3 : Int} (hb : b < B) (h0 : w.cell? ⟨b, 0, none⟩ = some (.int .i64 i0)) (h1 : w.cell? ⟨b, 1, none⟩ = some (.int .i64 i1)) (h2 : w.cell? ⟨b, 2, none⟩ = some (.int .i64 i2)) (h3 : w.cell? ⟨b, 3, none⟩ = some (.int .i64 i3)) : Ints w B (some ⟨b, 0, none⟩) [i0, i1, i2, i3] := by
 intro k hk
 refine ⟨b, 0, rfl, hb, ?_⟩
 rw [Nat.zero_add]
 match k, hk with
 | 0, _ => exact h0
 | 1, _ => exact h1
 | 2, _ => exact h2
 | 3, _ => exact h3
theorem refEncode (i0 i1 i2 i3 : Int) (w : World) :
  Calls Tryz.prog 74 #[.agg #[.int .i64 i0, .int .i64 i1, .int .i64 i2, .int .i64 i3]] w fun e w' => ∃ v', e = .returned v' ∧ w'.ownsRow w.heap.size 5 1 v' (encs [i0, i1, i2, i3]).length (flatU (encs [i0, i1, i2, i3])) ∧ Below w.heap.size w w' := by
 go_enter Tryz.func74, Tryz.ntmps74
 go_wp2_with fail
 refine (refNums (some ⟨w.heap.size + 1, 0, none⟩) 4 [i0, i1, i2, i3] _ (by simp) (ints4 (by (first | omega | (simp; done) | (simp; omega))) (by exact tC) (by exact tC) (by exact tC) (by exact tC))).mono ?_
 rintro e w1 ⟨v1, rfl, hown1, hb1⟩
 have hs1 := hb1.size; (try simp at hs1)
 have HO := Lib.hid hown1
 clear hown1
 go_wp2_with fail
 go_ret
 exact ⟨_, rfl, World.ownsRow.mono HO.out (by simp; omega), by exact tB⟩
open Go.RowKit Go.ChangeShapes Go.WideShapes Go.ChangeAt Go.Deep
theorem cell_ltR {w : World} {a : Addr} {v : Value} (h : w.cell? a = some v) : a.block < w.heap.size := by
 unfold World.cell? at h
 cases hb : w.heap[a.block]? with
 | none => rw [hb] at h; cases h
 | some o => exact (Array.getElem?_eq_some_iff.1 hb).1
theorem cell_plainR {w : World} {b o : Nat} {s : Option _} {v : Value} (h : w.cell? ⟨b, o, s⟩ = some v) : s = none := by
 have := World.cell?_spot h
 simpa using this
theorem flat_get {β : Type} (f : β → List Value) (size : Nat) (hs : ∀ r, (f r).length = size) : ∀ (xs : List β) (i k : Nat), k < size → (xs.flatMap f)[i * size + k]? = (xs[i]?).bind (fun r => (f r)[k]?)
 | [], i, k, h => by simp
 | x :: r, 0, k, h => by
  simp only [List.flatMap_cons, Nat.zero_mul, Nat.zero_add, List.getElem?_cons_zero, Option.bind_some]
  rw [List.getElem?_append_left (by rw [hs]; exact h)]
 | x :: r, i + 1, k, h => by
  simp only [List.flatMap_cons, List.getElem?_cons_succ]
  rw [List.getElem?_append_right (by rw [hs, Nat.add_mul]; omega), hs, show (i + 1) * size + k - size = i * size + k by rw [Nat.add_mul]; omega]
  exact flat_get f size hs r i k h
theorem flat_lenR {β : Type} (f : β → List Value) (size : Nat) (hs : ∀ r, (f r).length = size) : ∀ (xs : List β), (xs.flatMap f).length = xs.length * size
 | [] => by simp
 | x :: r => by simp only [List.flatMap_cons, List.length_append, hs, flat_lenR f size hs r, List.length_cons, Nat.add_mul]; omega
theorem open_rows {β : Type} {H : Type} {enc : TypeId × Value → H} {P : Program} {W : World} {base : Nat} {t e : TypeId} {v : Value} {d : DataW H} {p : List MemPlace} (f : β → List Value) (Q : β → Prop) (size : Nat) (hpos : 0 < size) (hs : ∀ r, (f r).length = size) (r0 : β)
  (ht : P.underlying t = some (.slice e)) (ce : P.cellsOf e = size)
  (hread : ∀ fuel cs x, DataW.trod enc P W 0 (fun _ => true) true fuel e cs = some x → ∃ r : β, cs = f r ∧ Q r)
  (hv : Value.okWide P W .any base t v) (h : DataW.Trod enc P W 0 (fun _ => true) true t v d p) :
  ∃ (A : Option Addr) (c : Nat) (xs : List β), v = .slice A xs.length c ∧ xs.length ≤ c ∧ c ≤ maxLen ∧ (∀ r ∈ xs, Q r) ∧ Cells W W.heap.size A xs.length c size (xs.flatMap f) := by
 obtain ⟨A, len, c, rfl⟩ := okWide_slice ht hv
 obtain ⟨fuel, hf⟩ := h
 rcases open_slice ht hf with ⟨hcs, _⟩ | ⟨a, l, cap, m, n, D, Pl, hcs, hb, hl, hm, hmm, _, hall⟩
 ·
  simp [Value.cells] at hcs
  obtain ⟨rfl, rfl, rfl⟩ := hcs
  exact ⟨none, 0, [], rfl, Nat.le_refl _, by unfold maxLen; omega, by simp, by simp, fun _ => ⟨rfl, rfl⟩, fun j u hu => by simp at hu⟩
 ·
  simp [Value.cells] at hcs
  obtain ⟨rfl, rfl, rfl⟩ := hcs
  have hlm : len ≤ m := by rw [hmm]; simp; exact hl
  have hc : ∀ i, i < len → ∃ r : β, Q r ∧ ∀ k, k < size → W.cell? (a.add (i * size + k)) = (f r)[k]? := by
   intro i hi
   obtain ⟨cs', h1, h2⟩ := hall i (by omega)
   rw [ce] at h1
   obtain ⟨_, hlen, hcell⟩ := World.cells?_some h1
   obtain ⟨r, rfl, hq⟩ := hread _ _ _ h2
   refine ⟨r, hq, fun k hk => ?_⟩
   have := hcell k (by omega)
   rw [add_add] at this
   exact this
  let g : Nat → β := fun i => if h : i < len then (hc i h).choose else r0
  have hg : ∀ i, i < len → Q (g i) ∧ ∀ k, k < size → W.cell? (a.add (i * size + k)) = (f (g i))[k]? := fun i hi => by
   simp only [g, hi, dite_true]
   exact (hc i hi).choose_spec
  obtain ⟨b, o, s⟩ := a
  refine ⟨some ⟨b, o, s⟩, c, (List.range len).map g, by simp, by simpa using hl, hm, ?_, ?_, (fun e => by cases e), ?_⟩
  ·
   intro r hr
   obtain ⟨i, hi, rfl⟩ := List.mem_map.1 hr
   exact (hg i (List.mem_range.1 hi)).1
  · exact flat_lenR f size hs _
  ·
   intro j u hu
   have hj : j = j / size * size + j % size := by rw [Nat.mul_comm]; exact (Nat.div_add_mod j size).symm
   have hk := Nat.mod_lt j hpos
   rw [hj, flat_get f size hs _ _ _ hk] at hu
   have hi : j / size < len := by
    by_cases hi : j / size < len
    · exact hi
    · rw [List.getElem?_eq_none (by simpa using hi)] at hu; cases hu
   rw [List.getElem?_map, List.getElem?_range hi] at hu
   simp only [Option.map_some, Option.bind_some] at hu
   have hcl := (hg _ hi).2 _ hk
   rw [hu, ← hj] at hcl
   have hsp : s = none := by
    have h0 := (hg 0 (Nat.lt_of_le_of_lt (Nat.zero_le _) hi)).2 0 hpos
    rw [List.getElem?_eq_getElem (by rw [hs]; exact hpos)] at h0
    rw [show 0 * size + 0 = 0 by omega] at h0
    unfold Addr.add at h0
    rw [if_pos rfl] at h0
    exact cell_plainR h0
   subst hsp
   rw [add_none] at hcl
   exact ⟨b, o, rfl, cell_ltR hcl, hcl⟩
structure Va where
 kind : Int
 n : Int
 who : ByteArray
 i : It4
 o : Od
def vaV (a : Va) : List Value := [.int .i64 a.kind, .int .i64 a.n, .string a.who, .int .i64 a.i.1, .int .i64 a.i.2.1, .int .i64 a.i.2.2.1, .int .i64 a.i.2.2.2, .int .i64 a.o.id, .string a.o.who, .bool a.o.buy, .int .i64 a.o.item, .int .i64 a.o.ct, .int .i64 a.o.pr]
def vaQ (a : Va) : Prop := (Lit.int .i64 a.i.1).wf = true ∧ (Lit.int .i64 a.i.2.1).wf = true ∧ (Lit.int .i64 a.i.2.2.1).wf = true ∧ (Lit.int .i64 a.i.2.2.2).wf = true
set_option maxRecDepth 100000 in
theorem read_va {H : Type} {enc : TypeId × Value → H} {W : World} : ∀ fuel cs x, DataW.trod enc Tryz.prog W 0 (fun _ => true) true fuel 40 cs = some x → ∃ r : Va, cs = vaV r ∧ vaQ r := by
 intro fuel cs x h
 obtain ⟨xs, n, _, _, hl, hlen, hf⟩ := DataW.trod_struct Tryz.underlying40 h
 have hc : Tryz.prog.cellsOf 40 = 13 := by kernel_rfl
 have c1 : Tryz.prog.cellsOf 3 = 1 := by kernel_rfl
 have c2 : Tryz.prog.cellsOf 9 = 1 := by kernel_rfl
 have c3 : Tryz.prog.cellsOf 4 = 1 := by kernel_rfl
 have c4 : Tryz.prog.cellsOf 38 = 6 := by kernel_rfl
 have c5 : Tryz.prog.cellsOf 36 = 4 := by kernel_rfl
 rw [hc] at hl
 match cs, hl, xs, hlen with
 | [v0, v1, v2, v3, v4, v5, v6, v7, v8, v9, v10, v11, v12], _, [y0, y1, y2, y3, y4], _ =>
  have g0 := hf 0 _ rfl
  have g1 := hf 1 _ rfl
  have g2 := hf 2 _ rfl
  have g3 := hf 3 _ rfl
  have g4 := hf 4 _ rfl
  simp [c1, c2, c4, c5] at g0 g1 g2 g3 g4
  obtain ⟨k, e0, _, w0⟩ := DataW.trod_int Tryz.underlying3 g0
  obtain ⟨z, e1, _, w1⟩ := DataW.trod_int Tryz.underlying3 g1
  obtain ⟨s0, e2, _, w2⟩ := DataW.trod_string Tryz.underlying9 g2
  obtain ⟨b0, b1, b2, b3, n3, _, k0, k1, k2, k3⟩ := trod_array4 Tryz.underlying36 c1 g3
  obtain ⟨j0, d0, _, x0⟩ := DataW.trod_int Tryz.underlying3 k0
  obtain ⟨j1, d1, _, x1⟩ := DataW.trod_int Tryz.underlying3 k1
  obtain ⟨j2, d2, _, x2⟩ := DataW.trod_int Tryz.underlying3 k2
  obtain ⟨j3, d3, _, x3⟩ := DataW.trod_int Tryz.underlying3 k3
  obtain ⟨xs2, n2, _, _, hl2, hlen2, hf2⟩ := DataW.trod_struct Tryz.underlying38 g4
  match xs2, hlen2 with
  | [z0, z1, z2, z3, z4, z5], _ =>
   have p0 := hf2 0 _ rfl
   have p1 := hf2 1 _ rfl
   have p2 := hf2 2 _ rfl
   have p3 := hf2 3 _ rfl
   have p4 := hf2 4 _ rfl
   have p5 := hf2 5 _ rfl
   simp [c1, c2, c3] at p0 p1 p2 p3 p4 p5
   obtain ⟨i, f0, _, _⟩ := DataW.trod_int Tryz.underlying3 p0
   obtain ⟨s, f1, _, hs⟩ := DataW.trod_string Tryz.underlying9 p1
   obtain ⟨u, f2, _⟩ := DataW.trod_bool Tryz.underlying4 p2
   obtain ⟨t, f3, _, _⟩ := DataW.trod_int Tryz.underlying3 p3
   obtain ⟨c, f4, _, _⟩ := DataW.trod_int Tryz.underlying3 p4
   obtain ⟨q, f5, _, _⟩ := DataW.trod_int Tryz.underlying3 p5
   simp only [List.cons.injEq, and_true] at e0 e1 e2 d0 d1 d2 d3 f0 f1 f2 f3 f4 f5
   subst e0 e1 e2 d0 d1 d2 d3 f0 f1 f2 f3 f4 f5
   exact ⟨⟨k, z, s0, (j0, j1, j2, j3), ⟨i, s, u, t, c, q⟩⟩, rfl, x0, x1, x2, x3⟩
set_option maxRecDepth 100000 in
theorem open_vacts {H : Type} {enc : TypeId × Value → H} {W : World} {base : Nat} {v : Value} {d : DataW H} {p : List MemPlace}
  (hv : Value.okWide Tryz.prog W .any base 22 v) (h : DataW.Trod enc Tryz.prog W 0 (fun _ => true) true 22 v d p) :
  ∃ (A : Option Addr) (c : Nat) (xs : List Va), v = .slice A xs.length c ∧ xs.length ≤ c ∧ c ≤ maxLen ∧ (∀ r ∈ xs, vaQ r) ∧ Cells W W.heap.size A xs.length c 13 (xs.flatMap vaV) :=
 open_rows vaV vaQ 13 (by omega) (fun _ => rfl) ⟨0, 0, ⟨#[]⟩, (0, 0, 0, 0), ⟨0, ⟨#[]⟩, false, 0, 0, 0⟩⟩ Tryz.underlying22 (by kernel_rfl) read_va hv h
theorem va_cell {w : World} {B c : Nat} {A : Option Addr} {xs : List Va} (h : Cells w B A xs.length c 13 (xs.flatMap vaV)) {i : Nat} (hi : i < xs.length) :
  ∃ b o, A = some ⟨b, o, none⟩ ∧ b < B ∧ ∀ k u, k < 13 → (vaV xs[i])[k]? = some u → w.cell? ⟨b, o + i * 13 + k, none⟩ = some u := by
 have g := fun k hk => flat_get vaV 13 (fun _ => rfl) xs i k hk
 have e : xs[i]? = some xs[i] := List.getElem?_eq_getElem hi
 have key : ∀ k u, k < 13 → (vaV xs[i])[k]? = some u → ∃ b o, A = some ⟨b, o, none⟩ ∧ b < B ∧ w.cell? ⟨b, o + (i * 13 + k), none⟩ = some u := fun k u hk hu => h.2.2 (i * 13 + k) u (by rw [g k hk, e]; exact hu)
 obtain ⟨b, o, e0, hb, k0⟩ := key 0 _ (by decide) rfl
 refine ⟨b, o, e0, hb, fun k u hk hu => ?_⟩
 obtain ⟨b1, o1, e1, _, h1⟩ := key k u hk hu
 rw [e0] at e1
 injection e1 with e1
 injection e1 with e3 e4
 subst e3 e4
 rw [Nat.add_assoc]; exact h1
end Go.Proofs.YtdlbiobjnohfbaaGreat
