/- octet's Writer.Bytes, with frames by touched blocks. octet's Writer, step by step: what it may touch, numbers and texts of its callers. -/
import Derived.Test.YtdlbiobjnohfbaaGreatVd11
import Derived.Test.YtdlbiobjnohfbaaGreatVd20
import Derived.Test.YtdlbiobjnohfbaaGreatVd21
namespace Go.Proofs.YtdlbiobjnohfbaaGreat
open Go.RowKit
set_option linter.unusedVariables false
set_option linter.unusedSimpArgs false
/-- a slice of slices of bytes that reads as a list, apart from a Writer -/
def RowsAt (w : World) (b : Nat) (A : Option Addr) (l : List (List Nat)) : Prop :=
  ∀ k (h : k < l.length), ∃ q o Ak ck, A = some ⟨q, o, none⟩ ∧ ¬ WD w b q ∧ w.cell? ⟨q, o + k, none⟩ = some (.slice Ak l[k].length ck) ∧ Cells w w.heap.size Ak l[k].length ck 1 (flatU l[k]) ∧ ∀ a, Ak = some a → ¬ WD w b a.block
set_option maxHeartbeats 2000000 in
set_option maxRecDepth 10000 in
theorem wBytesT (b base : Nat) (A : Option Addr) (c : Nat) (l : List (List Nat)) (xs : List Nat) (w : World) (hl : l.length ≤ 1000) (h1000 : ∀ x ∈ l, x.length ≤ 10000) (hxs : ∀ k, k ≤ l.length → xs.length + (encb (l.take k)).length ≤ 100000) (hw : Wr w b base xs) (hx : RowsAt w b A l) :
    Calls Tryz.prog 37 #[.pointer (some ⟨b, 0, none⟩), .slice A l.length c] w fun e w' => e = .returned (.tuple #[]) ∧ Wr w' b base (xs ++ encb l) ∧ Touch (WD w b) w w' ∧ WNear w b w' := by
  obtain ⟨i0, hi, hz0, hz1, hz2⟩ := info_parts Tryz.infoByte
  have HX := Lib.hid hx
  have HW0 := Lib.hid hw
  have H1 := Lib.hid h1000
  have H2 := Lib.hid hxs
  clear hx hw h1000 hxs
  go_enter Tryz.func37, Tryz.ntmps37
  go_wp2_with fail
  go_loopw [10] (fun i wr => ∃ k : Nat, k ≤ l.length ∧ i = .int .i64 k ∧ Hid (Wr wr b base (xs ++ encb (l.take k))) ∧ Hid (Touch (WD w b) w wr) ∧ Hid (WNear w b wr)) (fun i _ => l.length - (intOf i).toNat)
  case atStart => exact ⟨0, by omega, rfl, Lib.hid (by simpa [encb] using HW0.out), Lib.hid (Touch.refl _ _), Lib.hid (WNear.refl _ _)⟩
  case round =>
    obtain ⟨k, hk, rfl, HW, HT, HN⟩ := hrel
    by_cases hlt : k < l.length
    · obtain ⟨b1, o, Ak, ck, rfl, hb, h1, h2, h2b⟩ := HX.out k hlt
      replace h1 := HT.out.cell h1 hb
      have hsz := HT.out.size
      have hC0 := HT.out.cells h2 h2b
      have hlk : l[k].length ≤ 10000 := H1.out _ (List.getElem_mem _)
      have hq := H2.out k hk
      obtain ⟨⟨s, hs, hown⟩, hfr, hlow, hhigh⟩ := HW.out
      have HO := Lib.hid hown
      have hi1 : (k : Int) < (l.length : Int) := by omega
      have hsb : ¬ s.ownBlock = some b := fun e => by have := (hown.lt b e).1; omega
      have hAs : ∀ a, Ak = some a → a.block < w.heap.size → ¬ s.ownBlock = some a.block := fun a ha hlt2 e => h2b a ha (Or.inr (HN.out.old _ hlt2 ((wrow_of hs).trans e)))
      have hAl : l[k].length ≠ 0 → ∀ a, Ak = some a → a.block < w.heap.size := by
        intro hne a ha
        have hpos : 0 < (flatU l[k]).length := by simp [flatU]; omega
        obtain ⟨bb, oo, ee, hlt3, _⟩ := h2.2.2 0 _ (List.getElem?_eq_getElem hpos)
        rw [ee] at ha; injection ha with ha; subst ha; exact hlt3
      have hC1 : ∀ W, Touch (fun k => s.ownBlock = some k) wr W → Cells W w.heap.size Ak l[k].length ck 1 (flatU l[k]) := by
        intro W ht
        refine ⟨hC0.1, hC0.2.1, fun j u hu => ?_⟩
        obtain ⟨bb, oo, ee, hlt3, hcc⟩ := hC0.2.2 j u hu
        exact ⟨bb, oo, ee, hlt3, ht.cell hcc (hAs _ ee hlt3)⟩
      have HC1 := Lib.hid hC1
      clear hown h2 hC0 hC1 hAl hAs
      go_wp2_with fail
      refine (octAppendT s _ _ (l[k].length : Int) base _ (by rw [List.length_append]; omega) hhigh HO.out).mono ?_
      rintro e w3 ⟨v3, rfl, hown3, ht3, hn3⟩
      have hs3 := ht3.size
      rw [clamp_nat (by omega), ← flatU_app, ← List.length_append] at hown3
      have HO3 := Lib.hid hown3
      have c3 := ht3.cell hs hsb
      have f3 := ht3.frozen (by omega) hfr hsb
      have HC3 := Lib.hid (HC1.out w3 ht3)
      have hen : (enc l[k].length).length ≤ 10 := enc_len (by omega)
      have hln : (xs ++ encb (l.take k) ++ enc l[k].length).length ≤ 200000 := by simp only [List.length_append]; omega
      have hsb3 : ¬ v3.ownBlock = some b := fun e => by have := (hown3.lt b e).1; omega
      have HT3 := Lib.hid (HT.out.trans ht3 (fun n h1 h2 => (Or.inr (HN.out.old n h1 ((wrow_of hs).trans h2)) : WD w b n)))
      have HN3 := Lib.hid hn3
      clear hown3 hn3
      go_wp2_with (at_builtin; go_must (refine wpList_append_touch rfl (.tmp 21) (.tmp 22) 33 rfl base 5 i0 (.int .u8 0) 1 1 Tryz.underlying33 hi hz0 hz1 hz2 rfl (by decide) v3 _ _ rfl HO3.out w.heap.size Ak l[k].length ck (flatU l[k]) rfl HC3.out (flatU_one _) (by unfold maxLen; omega) (by omega) (by omega) ?_); intro v5 w5 hown5 ht5 hl5; have c5 := ht5.cell c3 hsb3; have f5 := ht5.frozen (by omega) f3 hsb3; have hs5 := ht5.size; have HN5 := Lib.hid (HN3.out.step hs3 hl5); have HT5 := Lib.hid (HT3.out.trans ht5 (fun n h1 h2 => (Or.inr (HN.out.old n h1 ((wrow_of hs).trans (HN3.out.old n (by omega) h2))) : WD w b n))); obtain ⟨A5, cp5, rfl, -, -, -⟩ := row_cells hown5; have HO5 := Lib.hid hown5; clear hown5)
      have e5 : xs ++ encb (l.take k) ++ enc l[k].length ++ l[k] = xs ++ encb (l.take (k + 1)) := by rw [encb_snoc hlt]; simp only [List.append_assoc]
      have hO6 := HO5.out
      rw [← flatU_app, ← List.length_append, e5] at hO6
      have hN5 := HN5.out
      rw [← List.length_append, e5] at hN5
      have HW6 : Hid (Wr (w5.setCell ⟨b, 0, none⟩ (.slice A5 (xs ++ encb (l.take (k + 1))).length cp5)) b base (xs ++ encb (l.take (k + 1)))) := Lib.hid ⟨⟨_, c_set_same (h_of c5), row_set hO6 hlow _⟩, f_set f5, hlow, by simp; omega⟩
      have HT6 : Hid (Touch (WD w b) w (w5.setCell ⟨b, 0, none⟩ (.slice A5 (xs ++ encb (l.take (k + 1))).length cp5))) := Lib.hid (HT5.out.set (fun _ => Or.inl rfl))
      have HN6 : Hid (WNear w b (w5.setCell ⟨b, 0, none⟩ (.slice A5 (xs ++ encb (l.take (k + 1))).length cp5))) := Lib.hid (HN.out.step (w2 := w5) hsz hs hN5 (c_set_same (h_of c5)))
      rw [← e5, List.length_append] at HW6 HT6 HN6
      rw [e5] at HW6
      simp only [List.append_assoc, List.length_append] at HW6 HT6 HN6
      clear hO6 hN5
      first
        | (go_roundw
           case rel => exact ⟨k + 1, by omega, by go_num, HW6, HT6, HN6⟩
           case measure => simp [intOf]; omega)
        | (refine ⟨⟨k + 1, by omega, by go_num, HW6, HT6, HN6⟩, ?_⟩
           simp [intOf]; omega)
    · have hke : k = l.length := by omega
      subst hke
      have hO := HW.out
      rw [List.take_length] at hO
      have HO := Lib.hid hO
      clear hO
      go_wp2_with fail
      refine bodyPost_end (v := .tuple #[]) (by simp [results, Tryz.results37, go_sem]) rfl ⟨rfl, HO.out, HT.out, HN.out⟩
end Go.Proofs.YtdlbiobjnohfbaaGreat
namespace Go.Proofs.YtdlbiobjnohfbaaGreat
open Go.RowKit
set_option linter.unusedVariables false
set_option linter.unusedSimpArgs false
theorem wrow_belowH {w w' : World} {b B : Nat} (h : Below B w w') (hb : b < B) : wrow w' b = wrow w b := by
  unfold wrow
  rw [World.cell?_of_block (a := ⟨b, 0, none⟩) (h.block b hb)]
theorem Wr.farH {w : World} {b base : Nat} {xs : List Nat} (h : Wr w b base xs) {g : Nat} (hg : w.heap.size ≤ g) : ¬ WD w b g := by
  obtain ⟨⟨s, hs, ho⟩, _, h1, h2⟩ := h
  rintro (e | e)
  · omega
  · rw [wrow_of hs] at e
    have := (ho.lt g e).2
    omega
theorem Wr.geH {w : World} {b base : Nat} {xs : List Nat} (h : Wr w b base xs) : ∀ k, WD w b k → b ≤ k := by
  obtain ⟨⟨s, hs, ho⟩, _, h1, h2⟩ := h
  rintro k (e | e)
  · omega
  · rw [wrow_of hs] at e
    have := (ho.lt k e).1
    omega
theorem Wr.lowH {w : World} {b base : Nat} {xs : List Nat} (h : Wr w b base xs) : b < w.heap.size := by have := h.low; have := h.high; omega
/-- what happened beside a Writer: only it and its row, or what was new, changed -/
structure WT (b : Nat) (w w' : World) : Prop where
  t : Touch (WD w b) w w'
  n : WNear w b w'
theorem WT.refl (b : Nat) (w : World) : WT b w w := ⟨Touch.refl _ _, WNear.refl _ _⟩
theorem WT.trans {b : Nat} {w w1 w2 : World} (h : WT b w w1) (k : WT b w1 w2) : WT b w w2 :=
  ⟨h.t.trans k.t (fun n hn hd => by
    rcases hd with e | e
    · exact .inl e
    · exact .inr (h.n.old n hn e)), h.n.trans h.t.size k.n⟩
theorem WT.size {b : Nat} {w w' : World} (h : WT b w w') : w.heap.size ≤ w'.heap.size := h.t.size
theorem WT.below {b : Nat} {w w' : World} (hb : b < w.heap.size) (h : Below w.heap.size w w') : WT b w w' :=
  ⟨(Touch.of_below h).mono'' (fun k h1 h2 => absurd h2 (by omega)), .inl (wrow_belowH h hb)⟩
theorem WT.alloc {b : Nat} {w w' : World} (h : WT b w w') (hb : b < w'.heap.size) (o : Obj) : WT b w (w'.alloc o) := h.trans (WT.below hb ((Below.refl _ _).alloc (Nat.le_refl _) _))
/-- a block apart from it stays, and stays apart -/
theorem WT.far {b k : Nat} {w w' : World} (h : WT b w w') (hk : k < w.heap.size) (hd : ¬ WD w b k) : ¬ WD w' b k := by
  rintro (e | e)
  · exact hd (.inl e)
  · exact hd (.inr (h.n.old k hk e))
theorem WT.whl {b k : Nat} {w w' : World} (h : WT b w w') {t : TypeId} {cs : Array Value} (hw : Whl w k t cs) (hd : ¬ WD w b k) : Whl w' k t cs := (h.t.block k hw.low hd).trans hw
theorem WT.base {b base : Nat} {xs : List Nat} {w w' : World} (h : WT b w w') (hw : Wr w b base xs) : Below b w w' := h.t.below (by have := hw.lowH; omega) hw.geH
theorem Wr.allocH {w : World} {b base : Nat} {xs : List Nat} (h : Wr w b base xs) (o : Obj) : Wr (w.alloc o) b base xs := h.below ((Below.refl _ _).alloc (Nat.le_refl _) _)
theorem numsAt_new {w : World} {b : Nat} {e : TypeId} {l : List Int} {cs : Array Value} (hl : cs = (l.map (Value.int .i64)).toArray) (hd : ¬ WD (w.alloc (.cells cs e)) b w.heap.size) : NumsAt (w.alloc (.cells cs e)) b (some ⟨w.heap.size, 0, none⟩) l := by
  intro k hk
  refine ⟨_, _, rfl, hd, ?_⟩
  rw [Nat.zero_add, cell_of_row _ _ _ _ _ _ (heap_alloc_new w _)]
  subst hl
  simp [hk]
theorem bw_cellsH (w : World) (e : TypeId) (s : ByteArray) (c : Nat) : Cells (Lib.bytesWorld w e s) (Lib.bytesWorld w e s).heap.size (some ⟨w.heap.size, 0, none⟩) (bs s).length c 1 (flatU (bs s)) := bw_cells w e s _ c (by simp)
theorem Wr.farA {w : World} {b base : Nat} {xs : List Nat} (h : Wr w b base xs) (o : Obj) : ¬ WD (w.alloc o) b w.heap.size := by
  have e : wrow (w.alloc o) b = wrow w b := wrow_belowH ((Below.refl _ _).alloc (Nat.le_refl _) _) h.lowH
  rintro (h1 | h1)
  · have := h.lowH; omega
  · rw [e] at h1
    exact h.farH (Nat.le_refl _) (.inr h1)
/-- numbers -/
theorem wNumsH {b base n : Nat} {l : List Int} {cs : Array Value} {xs : List Nat} {W : World} (c : Nat) (hn : n = W.heap.size) (hl : l.length ≤ 100) (hcs : cs = (l.map (Value.int .i64)).toArray) (hxs : xs.length ≤ 100000) (hw : Wr W b base xs) :
    Calls Tryz.prog 36 #[.pointer (some ⟨b, 0, none⟩), .slice (some ⟨n, 0, none⟩) l.length c] (W.alloc (.cells cs 3)) fun e w' => e = .returned (.tuple #[]) ∧ Wr w' b base (xs ++ encs l) ∧ WT b W w' := by
  subst hn
  refine (wNumsT b base _ c l xs _ (by omega) hxs (hw.allocH _) (numsAt_new hcs (hw.farA _))).mono ?_
  rintro e w' ⟨h1, h2, h3, h4⟩
  exact ⟨h1, h2, (WT.refl b W).alloc hw.lowH _ |>.trans ⟨h3, h4⟩⟩
theorem encb_len1 {s : ByteArray} (h : s.size ≤ 10000) : ∀ k, (encb ([bs s].take k)).length ≤ 10010 := by
  intro k
  have e1 := enc_len (n := (bs s).length) (by rw [bs_length]; omega)
  rw [bs_length] at e1
  match k with
  | 0 => simp [encb]
  | k + 1 => simp [encb, bs_length]; omega
/-- one text -/
theorem wBytesH1 {b base : Nat} {s : ByteArray} {xs : List Nat} {W Y : World} (c p n n3 : Nat) (hY : Y = Lib.bytesWorld W 5 s) (hn : n = W.heap.size) (hn3 : n3 = Y.heap.size) (hs : s.size ≤ 10000) (hxs : xs.length ≤ 80000) (hw : Wr W b base xs) :
    Calls Tryz.prog 37 #[.pointer (some ⟨b, 0, none⟩), .slice (some ⟨n3, 0, none⟩) 1 c] (Y.alloc (.cells #[.slice (some ⟨n, 0, none⟩) s.size p] 33)) fun e w' => e = .returned (.tuple #[]) ∧ Wr w' b base (xs ++ encb [bs s]) ∧ WT b W w' := by
  subst hn hn3
  have hb1 : Below W.heap.size W Y := by rw [hY]; exact bw_below W _ s
  have hz1 : Y.heap.size = W.heap.size + 1 := by rw [hY]; exact bw_size _ _ _
  have hc1 : ∀ c, Cells Y Y.heap.size (some ⟨W.heap.size, 0, none⟩) (bs s).length c 1 (flatU (bs s)) := fun c => by rw [hY]; exact bw_cellsH W _ s c
  have hw1 : Wr Y b base xs := hw.below hb1
  have hWT : WT b W (Y.alloc (.cells #[.slice (some ⟨W.heap.size, 0, none⟩) s.size p] 33)) := (WT.below hw.lowH hb1).alloc hw1.lowH _
  have hd : ¬ WD (Y.alloc (.cells #[.slice (some ⟨W.heap.size, 0, none⟩) s.size p] 33)) b W.heap.size := by
    have e : wrow (Y.alloc (.cells #[.slice (some ⟨W.heap.size, 0, none⟩) s.size p] 33)) b = wrow W b := (wrow_belowH ((Below.refl _ _).alloc (Nat.le_refl _) _) hw1.lowH).trans (wrow_belowH hb1 hw.lowH)
    rintro (h1 | h1)
    · have := hw.lowH; omega
    · rw [e] at h1
      exact hw.farH (Nat.le_refl _) (.inr h1)
  have hL : (1 : Nat) = [bs s].length := rfl
  rw [hL]
  refine (wBytesT b base _ c [bs s] xs _ (by simp) (fun x hx => by simp at hx; subst hx; rw [bs_length]; exact hs) (fun k hk => by have := encb_len1 hs k; omega) (hw1.allocH _) ?_).mono ?_
  · intro k hk
    have hk0 : k = 0 := by simp at hk; omega
    subst hk0
    refine ⟨Y.heap.size, 0, some ⟨W.heap.size, 0, none⟩, p, rfl, hw1.farA _, ?_, ?_, fun a ha => by injection ha with ha; subst ha; exact hd⟩
    · rw [Nat.add_zero, cell_of_row _ _ _ _ _ _ (heap_alloc_new Y _)]
      show some _ = some _
      simp [bs_length]
    · exact cells_keep (hc1 p) ((Below.refl _ _).alloc (Nat.le_refl _) _) (by simp)
  · rintro e w' ⟨h1, h2, h3, h4⟩
    exact ⟨h1, h2, hWT.trans ⟨h3, h4⟩⟩
end Go.Proofs.YtdlbiobjnohfbaaGreat
