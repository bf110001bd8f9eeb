/- octet's Writer, step by step: what it may touch, numbers and texts of its callers. The code's EncodeChange. -/
import Derived.Deep.Onto
import Derived.Test.YtepjehcmiofehaaGreatPq7
namespace Go.Proofs.YtepjehcmiofehaaGreat
open Go.RowKit
set_option linter.unusedVariables false
set_option linter.unusedSimpArgs false
theorem wrow_belowH {w w' : World} {b B : Nat} (h : Below B w w') (hb : b < B) : wrow w' b = wrow w b := by
  unfold wrow
  rw [World.cell?_of_block (a := ⟨b, 0, none⟩) (h.block b hb)]
theorem Wr.farH {w : World} {b base : Nat} {xs : List Nat} (h : Wr w b base xs) {g : Nat} (hg : w.heap.size ≤ g) : ¬ WD w b g := by
  obtain ⟨⟨s, hs, ho⟩, _, h1, h2⟩ := h
  rintro (e | e)
  · omega
  · rw [wrow_of hs] at e
    have := (ho.lt g e).2
    omega
theorem Wr.geH {w : World} {b base : Nat} {xs : List Nat} (h : Wr w b base xs) : ∀ k, WD w b k → b ≤ k := by
  obtain ⟨⟨s, hs, ho⟩, _, h1, h2⟩ := h
  rintro k (e | e)
  · omega
  · rw [wrow_of hs] at e
    have := (ho.lt k e).1
    omega
theorem Wr.lowH {w : World} {b base : Nat} {xs : List Nat} (h : Wr w b base xs) : b < w.heap.size := by have := h.low; have := h.high; omega
/-- what happened beside a Writer: only it and its row, or what was new, changed -/
structure WT (b : Nat) (w w' : World) : Prop where
  t : Touch (WD w b) w w'
  n : WNear w b w'
theorem WT.refl (b : Nat) (w : World) : WT b w w := ⟨Touch.refl _ _, WNear.refl _ _⟩
theorem WT.trans {b : Nat} {w w1 w2 : World} (h : WT b w w1) (k : WT b w1 w2) : WT b w w2 :=
  ⟨h.t.trans k.t (fun n hn hd => by
    rcases hd with e | e
    · exact .inl e
    · exact .inr (h.n.old n hn e)), h.n.trans h.t.size k.n⟩
theorem WT.size {b : Nat} {w w' : World} (h : WT b w w') : w.heap.size ≤ w'.heap.size := h.t.size
theorem WT.below {b : Nat} {w w' : World} (hb : b < w.heap.size) (h : Below w.heap.size w w') : WT b w w' :=
  ⟨(Touch.of_below h).mono'' (fun k h1 h2 => absurd h2 (by omega)), .inl (wrow_belowH h hb)⟩
theorem WT.alloc {b : Nat} {w w' : World} (h : WT b w w') (hb : b < w'.heap.size) (o : Obj) : WT b w (w'.alloc o) := h.trans (WT.below hb ((Below.refl _ _).alloc (Nat.le_refl _) _))
/-- a block apart from it stays, and stays apart -/
theorem WT.far {b k : Nat} {w w' : World} (h : WT b w w') (hk : k < w.heap.size) (hd : ¬ WD w b k) : ¬ WD w' b k := by
  rintro (e | e)
  · exact hd (.inl e)
  · exact hd (.inr (h.n.old k hk e))
theorem WT.whl {b k : Nat} {w w' : World} (h : WT b w w') {t : TypeId} {cs : Array Value} (hw : Whl w k t cs) (hd : ¬ WD w b k) : Whl w' k t cs := (h.t.block k hw.low hd).trans hw
theorem WT.base {b base : Nat} {xs : List Nat} {w w' : World} (h : WT b w w') (hw : Wr w b base xs) : Below b w w' := h.t.below (by have := hw.lowH; omega) hw.geH
theorem Wr.allocH {w : World} {b base : Nat} {xs : List Nat} (h : Wr w b base xs) (o : Obj) : Wr (w.alloc o) b base xs := h.below ((Below.refl _ _).alloc (Nat.le_refl _) _)
theorem numsAt_new {w : World} {b : Nat} {e : TypeId} {l : List Int} {cs : Array Value} (hl : cs = (l.map (Value.int .i64)).toArray) (hd : ¬ WD (w.alloc (.cells cs e)) b w.heap.size) : NumsAt (w.alloc (.cells cs e)) b (some ⟨w.heap.size, 0, none⟩) l := by
  intro k hk
  refine ⟨_, _, rfl, hd, ?_⟩
  rw [Nat.zero_add, cell_of_row _ _ _ _ _ _ (heap_alloc_new w _)]
  subst hl
  simp [hk]
theorem bw_cellsH (w : World) (e : TypeId) (s : ByteArray) (c : Nat) : Cells (Lib.bytesWorld w e s) (Lib.bytesWorld w e s).heap.size (some ⟨w.heap.size, 0, none⟩) (bs s).length c 1 (flatU (bs s)) := bw_cells w e s _ c (by simp)
theorem Wr.farA {w : World} {b base : Nat} {xs : List Nat} (h : Wr w b base xs) (o : Obj) : ¬ WD (w.alloc o) b w.heap.size := by
  have e : wrow (w.alloc o) b = wrow w b := wrow_belowH ((Below.refl _ _).alloc (Nat.le_refl _) _) h.lowH
  rintro (h1 | h1)
  · have := h.lowH; omega
  · rw [e] at h1
    exact h.farH (Nat.le_refl _) (.inr h1)
/-- numbers -/
theorem wNumsH {b base n : Nat} {l : List Int} {cs : Array Value} {xs : List Nat} {W : World} (c : Nat) (hn : n = W.heap.size) (hl : l.length ≤ 100) (hcs : cs = (l.map (Value.int .i64)).toArray) (hxs : xs.length ≤ 100000) (hw : Wr W b base xs) :
    Calls Tryz.prog 51 #[.pointer (some ⟨b, 0, none⟩), .slice (some ⟨n, 0, none⟩) l.length c] (W.alloc (.cells cs 3)) fun e w' => e = .returned (.tuple #[]) ∧ Wr w' b base (xs ++ encs l) ∧ WT b W w' := by
  subst hn
  refine (wNumsT b base _ c l xs _ (by omega) hxs (hw.allocH _) (numsAt_new hcs (hw.farA _))).mono ?_
  rintro e w' ⟨h1, h2, h3, h4⟩
  exact ⟨h1, h2, (WT.refl b W).alloc hw.lowH _ |>.trans ⟨h3, h4⟩⟩
theorem encb_len1 {s : ByteArray} (h : s.size ≤ 10000) : ∀ k, (encb ([bs s].take k)).length ≤ 10010 := by
  intro k
  have e1 := enc_len (n := (bs s).length) (by rw [bs_length]; omega)
  rw [bs_length] at e1
  match k with
  | 0 => simp [encb]
  | k + 1 => simp [encb, bs_length]; omega
theorem encb_len2 {s t : ByteArray} (h : s.size ≤ 10000) (h2 : t.size ≤ 10000) : ∀ k, (encb ([bs s, bs t].take k)).length ≤ 20020 := by
  intro k
  have e1 := enc_len (n := (bs s).length) (by rw [bs_length]; omega)
  have e2 := enc_len (n := (bs t).length) (by rw [bs_length]; omega)
  rw [bs_length] at e1 e2
  match k with
  | 0 => simp [encb]
  | 1 => simp [encb, bs_length]; omega
  | k + 2 => simp [encb, bs_length]; omega
/-- one text -/
theorem wBytesH1 {b base : Nat} {s : ByteArray} {xs : List Nat} {W Y : World} (c p n n3 : Nat) (hY : Y = Lib.bytesWorld W 5 s) (hn : n = W.heap.size) (hn3 : n3 = Y.heap.size) (hs : s.size ≤ 10000) (hxs : xs.length ≤ 80000) (hw : Wr W b base xs) :
    Calls Tryz.prog 52 #[.pointer (some ⟨b, 0, none⟩), .slice (some ⟨n3, 0, none⟩) 1 c] (Y.alloc (.cells #[.slice (some ⟨n, 0, none⟩) s.size p] 70)) fun e w' => e = .returned (.tuple #[]) ∧ Wr w' b base (xs ++ encb [bs s]) ∧ WT b W w' := by
  subst hn hn3
  have hb1 : Below W.heap.size W Y := by rw [hY]; exact bw_below W _ s
  have hz1 : Y.heap.size = W.heap.size + 1 := by rw [hY]; exact bw_size _ _ _
  have hc1 : ∀ c, Cells Y Y.heap.size (some ⟨W.heap.size, 0, none⟩) (bs s).length c 1 (flatU (bs s)) := fun c => by rw [hY]; exact bw_cellsH W _ s c
  have hw1 : Wr Y b base xs := hw.below hb1
  have hWT : WT b W (Y.alloc (.cells #[.slice (some ⟨W.heap.size, 0, none⟩) s.size p] 70)) := (WT.below hw.lowH hb1).alloc hw1.lowH _
  have hd : ¬ WD (Y.alloc (.cells #[.slice (some ⟨W.heap.size, 0, none⟩) s.size p] 70)) b W.heap.size := by
    have e : wrow (Y.alloc (.cells #[.slice (some ⟨W.heap.size, 0, none⟩) s.size p] 70)) b = wrow W b := (wrow_belowH ((Below.refl _ _).alloc (Nat.le_refl _) _) hw1.lowH).trans (wrow_belowH hb1 hw.lowH)
    rintro (h1 | h1)
    · have := hw.lowH; omega
    · rw [e] at h1
      exact hw.farH (Nat.le_refl _) (.inr h1)
  have hL : (1 : Nat) = [bs s].length := rfl
  rw [hL]
  refine (wBytesT b base _ c [bs s] xs _ (by simp) (fun x hx => by simp at hx; subst hx; rw [bs_length]; exact hs) (fun k hk => by have := encb_len1 hs k; omega) (hw1.allocH _) ?_).mono ?_
  · intro k hk
    have hk0 : k = 0 := by simp at hk; omega
    subst hk0
    refine ⟨Y.heap.size, 0, some ⟨W.heap.size, 0, none⟩, p, rfl, hw1.farA _, ?_, ?_, fun a ha => by injection ha with ha; subst ha; exact hd⟩
    · rw [Nat.add_zero, cell_of_row _ _ _ _ _ _ (heap_alloc_new Y _)]
      show some _ = some _
      simp [bs_length]
    · exact cells_keep (hc1 p) ((Below.refl _ _).alloc (Nat.le_refl _) _) (by simp)
  · rintro e w' ⟨h1, h2, h3, h4⟩
    exact ⟨h1, h2, hWT.trans ⟨h3, h4⟩⟩
/-- two texts -/
theorem wBytesH2 {b base : Nat} {s t : ByteArray} {xs : List Nat} {W Y Z : World} (c p q n n2 n3 : Nat) (hY : Y = Lib.bytesWorld W 5 s) (hZ : Z = Lib.bytesWorld Y 5 t) (hn : n = W.heap.size) (hn2 : n2 = Y.heap.size) (hn3 : n3 = Z.heap.size) (hs : s.size ≤ 10000) (ht : t.size ≤ 10000) (hxs : xs.length ≤ 70000) (hw : Wr W b base xs) :
    Calls Tryz.prog 52 #[.pointer (some ⟨b, 0, none⟩), .slice (some ⟨n3, 0, none⟩) 2 c] (Z.alloc (.cells #[.slice (some ⟨n, 0, none⟩) s.size p, .slice (some ⟨n2, 0, none⟩) t.size q] 70)) fun e w' => e = .returned (.tuple #[]) ∧ Wr w' b base (xs ++ encb [bs s, bs t]) ∧ WT b W w' := by
  subst hn hn2 hn3
  have hb1 : Below W.heap.size W Y := by rw [hY]; exact bw_below W _ s
  have hz1 : Y.heap.size = W.heap.size + 1 := by rw [hY]; exact bw_size _ _ _
  have hc1 : ∀ c, Cells Y Y.heap.size (some ⟨W.heap.size, 0, none⟩) (bs s).length c 1 (flatU (bs s)) := fun c => by rw [hY]; exact bw_cellsH W _ s c
  have hb2 : Below Y.heap.size Y Z := by rw [hZ]; exact bw_below Y _ t
  have hz2 : Z.heap.size = Y.heap.size + 1 := by rw [hZ]; exact bw_size _ _ _
  have hc2 : ∀ c, Cells Z Z.heap.size (some ⟨Y.heap.size, 0, none⟩) (bs t).length c 1 (flatU (bs t)) := fun c => by rw [hZ]; exact bw_cellsH Y _ t c
  have hw1 : Wr Y b base xs := hw.below hb1
  have hw2 : Wr Z b base xs := hw1.below hb2
  obtain ⟨cs, hcs⟩ : ∃ x : Array Value, x = #[.slice (some ⟨W.heap.size, 0, none⟩) s.size p, .slice (some ⟨Y.heap.size, 0, none⟩) t.size q] := ⟨_, rfl⟩
  rw [← hcs]
  have hWT : WT b W (Z.alloc (.cells cs 70)) := ((WT.below hw.lowH hb1).trans (WT.below hw1.lowH hb2)).alloc hw2.lowH _
  have e : wrow (Z.alloc (.cells cs 70)) b = wrow W b := ((wrow_belowH ((Below.refl _ _).alloc (Nat.le_refl _) _) hw2.lowH).trans (wrow_belowH hb2 hw1.lowH)).trans (wrow_belowH hb1 hw.lowH)
  have hd : ∀ k, W.heap.size ≤ k → ¬ WD (Z.alloc (.cells cs 70)) b k := fun k hk => by
    rintro (h1 | h1)
    · have := hw.lowH; omega
    · rw [e] at h1
      exact hw.farH hk (.inr h1)
  have hL : (2 : Nat) = [bs s, bs t].length := rfl
  rw [hL]
  refine (wBytesT b base _ c [bs s, bs t] xs _ (by simp) (fun x hx => by simp at hx; rcases hx with rfl | rfl <;> rw [bs_length] <;> assumption) (fun k hk => by have := encb_len2 hs ht k; omega) (hw2.allocH _) ?_).mono ?_
  · intro k hk
    match k, hk with
    | 0, _ =>
      refine ⟨Z.heap.size, 0, some ⟨W.heap.size, 0, none⟩, p, rfl, hd _ (by omega), ?_, ?_, fun a ha => by injection ha with ha; subst ha; exact hd _ (Nat.le_refl _)⟩
      · rw [Nat.add_zero, cell_of_row _ _ _ _ _ _ (heap_alloc_new Z _), hcs]
        show some _ = some _
        simp [bs_length]
      · exact cells_keep (cells_keep (hc1 p) hb2 (Nat.le_refl _)) ((Below.refl Y.heap.size Z).alloc (by omega) _) (by simp; omega)
    | 1, _ =>
      refine ⟨Z.heap.size, 0, some ⟨Y.heap.size, 0, none⟩, q, rfl, hd _ (by omega), ?_, ?_, fun a ha => by injection ha with ha; subst ha; exact hd _ (by show W.heap.size ≤ Y.heap.size; omega)⟩
      · rw [cell_of_row _ _ _ _ _ _ (heap_alloc_new Z _), hcs]
        show some _ = some _
        simp [bs_length]
      · exact cells_keep (hc2 q) ((Below.refl Z.heap.size Z).alloc (Nat.le_refl _) _) (by simp)
    | k + 2, h => exact absurd h (by simp)
  · rintro e w' ⟨h1, h2, h3, h4⟩
    exact ⟨h1, h2, hWT.trans ⟨h3, h4⟩⟩
end Go.Proofs.YtepjehcmiofehaaGreat
namespace Go.Proofs.YtepjehcmiofehaaGreat
open Go.RowKit
set_option linter.unusedVariables false
set_option linter.unusedSimpArgs false
theorem Wr.newH (w : World) : Wr (w.alloc (.cells #[.slice none 0 0] 102)) w.heap.size (w.heap.size + 1) [] := by
  have hc0 : (w.alloc (.cells #[.slice none 0 0] 102)).cell? ⟨w.heap.size, 0, none⟩ = some (.slice none 0 0) := by
    rw [cell_of_row _ _ _ _ _ _ (heap_alloc_new w _)]; rfl
  exact ⟨⟨_, hc0, World.ownsRow_nil _ _ _ _⟩, (Whl.new rfl : Whl (w.alloc (.cells #[.slice none 0 0] 102)) w.heap.size 102 #[.slice none 0 0]).free 0, by omega, by simp⟩
theorem wd_newH {w : World} {k : Nat} (hk : k ≠ w.heap.size) : ¬ WD (w.alloc (.cells #[.slice none 0 0] 102)) w.heap.size k := by
  have hc0 : (w.alloc (.cells #[.slice none 0 0] 102)).cell? ⟨w.heap.size, 0, none⟩ = some (.slice none 0 0) := by
    rw [cell_of_row _ _ _ _ _ _ (heap_alloc_new w _)]; rfl
  rintro (e | e)
  · exact hk e
  · rw [wrow_of hc0] at e; cases e
theorem encs_le (l : List Int) (n : Nat) (h : l.length ≤ n) : (encs l).length ≤ 10 * n := by have := encs_len l; omega
theorem encb_le1 {s : ByteArray} (h : s.size ≤ 10000) : (encb [bs s]).length ≤ 10 + s.size := by
  have e1 := enc_len (n := (bs s).length) (by rw [bs_length]; omega)
  rw [bs_length] at e1
  simp [encb, bs_length]; omega
theorem encb_le2 {s t : ByteArray} (h : s.size ≤ 10000) (h2 : t.size ≤ 10000) : (encb [bs s, bs t]).length ≤ 20 + s.size + t.size := by
  have e1 := enc_len (n := (bs s).length) (by rw [bs_length]; omega)
  have e2 := enc_len (n := (bs t).length) (by rw [bs_length]; omega)
  rw [bs_length] at e1 e2
  simp [encb, bs_length]; omega
end Go.Proofs.YtepjehcmiofehaaGreat
