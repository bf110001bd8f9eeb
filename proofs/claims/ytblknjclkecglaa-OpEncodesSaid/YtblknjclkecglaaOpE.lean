/- op.Encode, under what May says. -/
import Derived.Test.YtblknjclkecglaaOctetWB
import Derived.Test.YtblknjclkecglaaOpA
import Derived.Deep.Onto
namespace Go.Proofs.Ytblknjclkecglaa
open Go.RowKit
set_option linter.unusedVariables false
set_option linter.unusedSimpArgs false

def one01 (b : Bool) : Int := if b then 1 else 0
/-- a request's bytes -/
def opBs (k cl sq : Int) (ak aw tk tw : ByteArray) (it ct pr : Int) (bu : Bool) (id : Int) : List Nat := encs [k, cl, sq] ++ encb [bs ak, bs aw, bs tk, bs tw] ++ encs [it, ct, pr, one01 bu, id]
theorem wrow_far {w w' : World} {b g : Nat} (h : WNear w b w') (h0 : wrow w b = none) (hg : g < w.heap.size) (hb : g ≠ b) : ¬ WD w' b g := by
  rintro (e | e)
  · exact hb e
  · have := h.old g hg e
    rw [h0] at this; cases this
theorem numsAt_new {w : World} {b : Nat} {e : TypeId} {l : List Int} {cs : Array Value} (hl : cs = (l.map (Value.int .i64)).toArray) (hd : ¬ WD (w.alloc (.cells cs e)) b w.heap.size) : NumsAt (w.alloc (.cells cs e)) b (some ⟨w.heap.size, 0, none⟩) l := by
  intro k hk
  refine ⟨_, _, rfl, hd, ?_⟩
  rw [Nat.zero_add, cell_of_row _ _ _ _ _ _ (heap_alloc_new w _)]
  subst hl
  simp [hk]

theorem wrow_below {w w' : World} {b B : Nat} (h : Below B w w') (hb : b < B) : wrow w' b = wrow w b := by
  unfold wrow
  rw [World.cell?_of_block (a := ⟨b, 0, none⟩) (h.block b hb)]
theorem Wr.far {w : World} {b base : Nat} {xs : List Nat} (h : Wr w b base xs) {g : Nat} (hg : w.heap.size ≤ g) : ¬ WD w b g := by
  obtain ⟨⟨s, hs, ho⟩, _, h1, h2⟩ := h
  rintro (e | e)
  · omega
  · rw [wrow_of hs] at e
    have := (ho.lt g e).2
    omega
theorem Wr.ge {w : World} {b base : Nat} {xs : List Nat} (h : Wr w b base xs) : ∀ k, WD w b k → b ≤ k := by
  obtain ⟨⟨s, hs, ho⟩, _, h1, h2⟩ := h
  rintro k (e | e)
  · omega
  · rw [wrow_of hs] at e
    have := (ho.lt k e).1
    omega
theorem bw_cells' (w : World) (e : TypeId) (s : ByteArray) (c : Nat) : Cells (Lib.bytesWorld w e s) (Lib.bytesWorld w e s).heap.size (some ⟨w.heap.size, 0, none⟩) (bs s).length c 1 (flatU (bs s)) := bw_cells w e s _ c (by simp)
theorem encb_len4 (a b c d : ByteArray) (ha : a.size ≤ 10000) (hb : b.size ≤ 10000) (hc : c.size ≤ 10000) (hd : d.size ≤ 10000) : ∀ k, (encb ([bs a, bs b, bs c, bs d].take k)).length ≤ 40040 := by
  intro k
  have e1 := enc_len (n := (bs a).length) (by rw [bs_length]; omega)
  have e2 := enc_len (n := (bs b).length) (by rw [bs_length]; omega)
  have e3 := enc_len (n := (bs c).length) (by rw [bs_length]; omega)
  have e4 := enc_len (n := (bs d).length) (by rw [bs_length]; omega)
  rw [bs_length] at e1 e2 e3 e4
  match k with
  | 0 => simp [encb]
  | 1 => simp [encb, bs_length]; omega
  | 2 => simp [encb, bs_length]; omega
  | 3 => simp [encb, bs_length]; omega
  | k + 4 => simp [encb, bs_length]; omega

set_option maxHeartbeats 4000000 in
set_option maxRecDepth 10000 in
theorem opEncodeT (k cl sq : Int) (ak aw tk tw : ByteArray) (it ct pr : Int) (id : Int) (w : World)
    (hak : ak.size ≤ 10000) (haw : aw.size ≤ 10000) (htk : tk.size ≤ 10000) (htw : tw.size ≤ 10000)
    (hmay : ∀ w, Calls Try.prog 10 #[.agg #[.int .i64 k, .int .i64 cl, .int .i64 sq, .string ak, .string aw, .string tk, .string tw, .int .i64 it, .int .i64 ct, .int .i64 pr, .bool true, .int .i64 id]] w fun e w' => e = .returned (.bool true) ∧ Below w.heap.size w w') :
    Calls Try.prog 8 #[.agg #[.int .i64 k, .int .i64 cl, .int .i64 sq, .string ak, .string aw, .string tk, .string tw, .int .i64 it, .int .i64 ct, .int .i64 pr, .bool true, .int .i64 id]] w fun e w' => ∃ v', e = .returned (.tuple #[v', .int .i64 0]) ∧ w'.ownsRow w.heap.size 5 1 v' (opBs k cl sq ak aw tk tw it ct pr true id).length (flatU (opBs k cl sq ak aw tk tw it ct pr true id)) ∧ Below w.heap.size w w' := by
  have cv : ∀ (w : World) (s : ByteArray), (convert 9 27 (.string s)).run Try.prog w = .ok (.slice (some ⟨w.heap.size, 0, none⟩) s.size (grownCap w s.size 0 5)) (Lib.bytesWorld w 5 s) := fun w s => Lib.run_convert_string_bytes w _ _ _ s Try.underlying9 Try.underlying27 Try.underlying5
  go_enter Try.func8, Try.ntmps8
  go_wp2_with fail
  have hB0 : Below w.heap.size w (w.alloc (.cells #[.int .i64 k, .int .i64 cl, .int .i64 sq, .string ak, .string aw, .string tk, .string tw, .int .i64 it, .int .i64 ct, .int .i64 pr, .bool true, .int .i64 id] 25)) := (Below.refl _ _).alloc (Nat.le_refl _) _
  have P0 : Whl (w.alloc (.cells #[.int .i64 k, .int .i64 cl, .int .i64 sq, .string ak, .string aw, .string tk, .string tw, .int .i64 it, .int .i64 ct, .int .i64 pr, .bool true, .int .i64 id] 25)) w.heap.size 25 #[.int .i64 k, .int .i64 cl, .int .i64 sq, .string ak, .string aw, .string tk, .string tw, .int .i64 it, .int .i64 ct, .int .i64 pr, .bool true, .int .i64 id] := Whl.new rfl
  have hs0 : w.heap.size < (w.alloc (.cells #[.int .i64 k, .int .i64 cl, .int .i64 sq, .string ak, .string aw, .string tk, .string tw, .int .i64 it, .int .i64 ct, .int .i64 pr, .bool true, .int .i64 id] 25)).heap.size := by simp
  generalize w.alloc (.cells #[.int .i64 k, .int .i64 cl, .int .i64 sq, .string ak, .string aw, .string tk, .string tw, .int .i64 it, .int .i64 ct, .int .i64 pr, .bool true, .int .i64 id] 25) = V at *
  refine (hmay _).mono ?_
  rintro e w1 ⟨rfl, hb1⟩
  have P1 := P0.below hb1 hs0
  have hs1 := hb1.size
  have B1 := hB0.trans (hb1.mono (by omega))
  have hlt1 : w.heap.size < w1.heap.size := by omega
  clear P0 hB0 hb1
  have d0 := P1.cell 0
  have d1 := P1.cell 1
  have d2 := P1.cell 2
  have d10 := P1.cell 10
  simp only [List.getElem?_toArray, List.getElem?_cons_succ, List.getElem?_cons_zero] at d0 d1 d2 d10
  go_wp2_with fail
  have hc0 : ((w1.alloc (.cells #[.slice none 0 0] 53)).alloc (.cells #[.int .i64 k, .int .i64 cl, .int .i64 sq] 3)).cell? ⟨w1.heap.size, 0, none⟩ = some (.slice none 0 0) := by
    rw [World.cell?_alloc_lt _ _ _ (by simp), cell_of_row _ _ _ _ _ _ (heap_alloc_new w1 _)]; rfl
  have hf0 : ((w1.alloc (.cells #[.slice none 0 0] 53)).alloc (.cells #[.int .i64 k, .int .i64 cl, .int .i64 sq] 3)).frozen? ⟨w1.heap.size, 0, none⟩ = false :=
    (Whl.alloc (Whl.new rfl : Whl (w1.alloc (.cells #[.slice none 0 0] 53)) w1.heap.size 53 #[.slice none 0 0]) _).free 0
  have hrow0 : wrow ((w1.alloc (.cells #[.slice none 0 0] 53)).alloc (.cells #[.int .i64 k, .int .i64 cl, .int .i64 sq] 3)) w1.heap.size = none := (wrow_of hc0).trans rfl
  have hWr : Wr ((w1.alloc (.cells #[.slice none 0 0] 53)).alloc (.cells #[.int .i64 k, .int .i64 cl, .int .i64 sq] 3)) w1.heap.size (w1.heap.size + 1) [] := ⟨⟨_, hc0, World.ownsRow_nil _ _ _ _⟩, hf0, by omega, by simp⟩
  have hNA : NumsAt ((w1.alloc (.cells #[.slice none 0 0] 53)).alloc (.cells #[.int .i64 k, .int .i64 cl, .int .i64 sq] 3)) w1.heap.size (some ⟨w1.heap.size + 1, 0, none⟩) [k, cl, sq] := by
    have h := numsAt_new (w := w1.alloc (.cells #[.slice none 0 0] 53)) (b := w1.heap.size) (e := 3) (l := [k, cl, sq]) (cs := #[.int .i64 k, .int .i64 cl, .int .i64 sq]) rfl (by
      rintro (h1 | h1)
      · simp at h1
      · rw [hrow0] at h1; cases h1)
    simpa using h
  have hB2 : Below w1.heap.size w1 ((w1.alloc (.cells #[.slice none 0 0] 53)).alloc (.cells #[.int .i64 k, .int .i64 cl, .int .i64 sq] 3)) := ((Below.refl _ _).alloc (Nat.le_refl _) _).alloc (by simp) _
  have hsW : ((w1.alloc (.cells #[.slice none 0 0] 53)).alloc (.cells #[.int .i64 k, .int .i64 cl, .int .i64 sq] 3)).heap.size = w1.heap.size + 2 := by simp
  generalize hWW : ((w1.alloc (.cells #[.slice none 0 0] 53)).alloc (.cells #[.int .i64 k, .int .i64 cl, .int .i64 sq] 3)) = W at *
  refine (wNumsT w1.heap.size (w1.heap.size + 1) _ 3 [k, cl, sq] [] W (by simp) (by simp) hWr hNA).mono ?_
  rintro e w3 ⟨rfl, hWr3, ht3, hn3⟩
  have hs3 := ht3.size
  have P2 := P1.below hB2 hlt1
  have P3 : Whl w3 w.heap.size 25 #[.int .i64 k, .int .i64 cl, .int .i64 sq, .string ak, .string aw, .string tk, .string tw, .int .i64 it, .int .i64 ct, .int .i64 pr, .bool true, .int .i64 id] := (ht3.block _ (by omega) (by
    rintro (h1 | h1)
    · omega
    · rw [hrow0] at h1; cases h1)).trans P2
  have d3 := P3.cell 3
  have d4 := P3.cell 4
  have d5 := P3.cell 5
  have d6 := P3.cell 6
  simp only [List.getElem?_toArray, List.getElem?_cons_succ, List.getElem?_cons_zero] at d3 d4 d5 d6
  have hlt3 : w.heap.size < w3.heap.size := by omega
  have HW3 := Lib.hid hWr3
  have HT3 := Lib.hid ht3
  have HN3 := Lib.hid hn3
  clear hWr hNA d0 d1 d2 d10 hWr3 ht3 hn3 hc0 hf0
  go_wp2_with fail
  have z1 : (Lib.bytesWorld w3 5 ak).heap.size = w3.heap.size + 1 := bw_size _ _ _
  have q1 := bw_below w3 5 ak
  have C1 := bw_cells' w3 5 ak (grownCap w3 ak.size 0 5)
  generalize grownCap w3 ak.size 0 5 = p1 at *
  generalize Lib.bytesWorld w3 5 ak = Y1 at *
  have z2 : (Lib.bytesWorld Y1 5 aw).heap.size = w3.heap.size + 1 + 1 := by rw [bw_size, z1]
  have q2 := bw_below Y1 5 aw
  have C2 := bw_cells' Y1 5 aw (grownCap Y1 aw.size 0 5)
  rw [z1] at C2
  generalize grownCap Y1 aw.size 0 5 = p2 at *
  generalize Lib.bytesWorld Y1 5 aw = Y2 at *
  have z3 : (Lib.bytesWorld Y2 5 tk).heap.size = w3.heap.size + 1 + 1 + 1 := by rw [bw_size, z2]
  have q3 := bw_below Y2 5 tk
  have C3 := bw_cells' Y2 5 tk (grownCap Y2 tk.size 0 5)
  rw [z2] at C3
  generalize grownCap Y2 tk.size 0 5 = p3 at *
  generalize Lib.bytesWorld Y2 5 tk = Y3 at *
  have z4 : (Lib.bytesWorld Y3 5 tw).heap.size = w3.heap.size + 1 + 1 + 1 + 1 := by rw [bw_size, z3]
  have q4 := bw_below Y3 5 tw
  have C4 := bw_cells' Y3 5 tw (grownCap Y3 tw.size 0 5)
  rw [z3] at C4
  generalize grownCap Y3 tw.size 0 5 = p4 at *
  generalize Lib.bytesWorld Y3 5 tw = Y4 at *
  have q5 : Below Y4.heap.size Y4 (Y4.alloc (.cells #[.slice (some ⟨w3.heap.size, 0, none⟩) ak.size p1, .slice (some ⟨w3.heap.size + 1, 0, none⟩) aw.size p2, .slice (some ⟨w3.heap.size + 1 + 1, 0, none⟩) tk.size p3, .slice (some ⟨w3.heap.size + 1 + 1 + 1, 0, none⟩) tw.size p4] 27)) := (Below.refl _ _).alloc (Nat.le_refl _) _
  have hX : ∀ k, (Y4.alloc (.cells #[.slice (some ⟨w3.heap.size, 0, none⟩) ak.size p1, .slice (some ⟨w3.heap.size + 1, 0, none⟩) aw.size p2, .slice (some ⟨w3.heap.size + 1 + 1, 0, none⟩) tk.size p3, .slice (some ⟨w3.heap.size + 1 + 1 + 1, 0, none⟩) tw.size p4] 27)).cell? ⟨w3.heap.size + 1 + 1 + 1 + 1, 0 + k, none⟩ = (#[.slice (some ⟨w3.heap.size, 0, none⟩) ak.size p1, .slice (some ⟨w3.heap.size + 1, 0, none⟩) aw.size p2, .slice (some ⟨w3.heap.size + 1 + 1, 0, none⟩) tk.size p3, .slice (some ⟨w3.heap.size + 1 + 1 + 1, 0, none⟩) tw.size p4] : Array Value)[k]? := fun k => by rw [← z4, Nat.zero_add]; exact cell_of_row _ _ k _ _ _ (heap_alloc_new Y4 _)
  have z5 : (Y4.alloc (.cells #[.slice (some ⟨w3.heap.size, 0, none⟩) ak.size p1, .slice (some ⟨w3.heap.size + 1, 0, none⟩) aw.size p2, .slice (some ⟨w3.heap.size + 1 + 1, 0, none⟩) tk.size p3, .slice (some ⟨w3.heap.size + 1 + 1 + 1, 0, none⟩) tw.size p4] 27)).heap.size = w3.heap.size + 1 + 1 + 1 + 1 + 1 := by simp [z4]
  generalize Y4.alloc (.cells #[.slice (some ⟨w3.heap.size, 0, none⟩) ak.size p1, .slice (some ⟨w3.heap.size + 1, 0, none⟩) aw.size p2, .slice (some ⟨w3.heap.size + 1 + 1, 0, none⟩) tk.size p3, .slice (some ⟨w3.heap.size + 1 + 1 + 1, 0, none⟩) tw.size p4] 27) = X at *
  have r4 : Below Y4.heap.size Y4 X := q5
  have r3 : Below Y3.heap.size Y3 X := q4.trans (r4.mono (by omega))
  have r2 : Below Y2.heap.size Y2 X := q3.trans (r3.mono (by omega))
  have r1 : Below Y1.heap.size Y1 X := q2.trans (r2.mono (by omega))
  have r0 : Below w3.heap.size w3 X := q1.trans (r1.mono (by omega))
  have K1 := cells_keep (B' := X.heap.size) C1 r1 (by omega)
  have K2 := cells_keep (B' := X.heap.size) C2 r2 (by omega)
  have K3 := cells_keep (B' := X.heap.size) C3 r3 (by omega)
  have K4 := cells_keep (B' := X.heap.size) C4 r4 (by omega)
  have hbl : w1.heap.size < w3.heap.size := by omega
  have hfar : ∀ g, w3.heap.size ≤ g → ¬ WD X w1.heap.size g := fun g hg => by
    unfold WD
    rw [wrow_below r0 hbl]
    exact HW3.out.far hg
  have hRA : RowsAt X w1.heap.size (some ⟨w3.heap.size + 1 + 1 + 1 + 1, 0, none⟩) [bs ak, bs aw, bs tk, bs tw] := by
    intro k hk
    have hk4 : k < 4 := hk
    have hkk : k = 0 ∨ k = 1 ∨ k = 2 ∨ k = 3 := by omega
    rcases hkk with rfl | rfl | rfl | rfl
    · exact ⟨_, _, _, p1, rfl, hfar _ (by omega), by rw [hX 0]; simp [bs_length], K1, fun a ha => by injection ha with ha; subst ha; exact hfar _ (by show w3.heap.size ≤ w3.heap.size; omega)⟩
    · exact ⟨_, _, _, p2, rfl, hfar _ (by omega), by rw [hX 1]; simp [bs_length], K2, fun a ha => by injection ha with ha; subst ha; exact hfar _ (by show _ ≤ w3.heap.size + 1; omega)⟩
    · exact ⟨_, _, _, p3, rfl, hfar _ (by omega), by rw [hX 2]; simp [bs_length], K3, fun a ha => by injection ha with ha; subst ha; exact hfar _ (by show _ ≤ w3.heap.size + 1 + 1; omega)⟩
    · exact ⟨_, _, _, p4, rfl, hfar _ (by omega), by rw [hX 3]; simp [bs_length], K4, fun a ha => by injection ha with ha; subst ha; exact hfar _ (by show _ ≤ w3.heap.size + 1 + 1 + 1; omega)⟩
  have hWrX := HW3.out.below r0
  have hen3 := encs_len [k, cl, sq]
  clear C1 C2 C3 C4 K1 K2 K3 K4 hX d3 d4 d5 d6
  refine (wBytesT w1.heap.size (w1.heap.size + 1) _ 4 [bs ak, bs aw, bs tk, bs tw] _ X (by simp) ?_ ?_ hWrX hRA).mono ?_
  · intro x hx
    simp only [List.mem_cons, List.not_mem_nil, or_false] at hx
    rcases hx with rfl | rfl | rfl | rfl <;> (rw [bs_length]; assumption)
  · intro k2 _
    have h1 := encb_len4 ak aw tk tw hak haw htk htw k2
    simp only [List.nil_append, List.length_cons, List.length_nil] at hen3 ⊢
    omega
  rintro e w5 ⟨rfl, hWr5, ht5, hn5⟩
  have hs5 := ht5.size
  have hfo3 : ¬ WD w3 w1.heap.size w.heap.size := wrow_far HN3.out hrow0 (by omega) (by omega)
  have hfoX : ¬ WD X w1.heap.size w.heap.size := by
    unfold WD at hfo3 ⊢
    rw [wrow_below r0 hbl]
    exact hfo3
  have PX := P3.below r0 hlt3
  have P5 : Whl w5 w.heap.size 25 #[.int .i64 k, .int .i64 cl, .int .i64 sq, .string ak, .string aw, .string tk, .string tw, .int .i64 it, .int .i64 ct, .int .i64 pr, .bool true, .int .i64 id] := (ht5.block _ (by omega) hfoX).trans PX
  have d7 := P5.cell 7
  have d8 := P5.cell 8
  have d9 := P5.cell 9
  have d11 := P5.cell 11
  simp only [List.getElem?_toArray, List.getElem?_cons_succ, List.getElem?_cons_zero] at d7 d8 d9 d11
  have hlt5 : w.heap.size < w5.heap.size := by omega
  have hbl5 : w1.heap.size < w5.heap.size := by omega
  have HW5 := Lib.hid hWr5
  have HT5 := Lib.hid ht5
  have hXge := hWrX.ge
  have hWge : ∀ k, WD W w1.heap.size k → w.heap.size ≤ k := by
    rintro k (e | e)
    · omega
    · rw [hrow0] at e; cases e
  have BX : Below w.heap.size w X := ((B1.trans (hB2.mono (by omega))).trans (HT3.out.below (B := w.heap.size) (by omega) hWge)).trans (r0.mono (by omega))
  have B5 : Below w.heap.size w w5 := BX.trans (ht5.below (B := w.heap.size) (by omega) (fun k hk => by have := hXge k hk; omega))
  clear hWr5 ht5 hn5 hWrX hRA
  go_wp2_with fail
  have q6 : Below w5.heap.size w5 (w5.alloc (.cells #[.int .i64 it, .int .i64 ct, .int .i64 pr, .int .i64 1, .int .i64 id] 3)) := (Below.refl _ _).alloc (Nat.le_refl _) _
  have hNA5 := numsAt_new (w := w5) (b := w1.heap.size) (e := 3) (l := [it, ct, pr, 1, id]) (cs := #[.int .i64 it, .int .i64 ct, .int .i64 pr, .int .i64 1, .int .i64 id]) rfl (by
    unfold WD
    rw [wrow_below q6 hbl5]
    exact HW5.out.far (Nat.le_refl _))
  generalize w5.alloc (.cells #[.int .i64 it, .int .i64 ct, .int .i64 pr, .int .i64 1, .int .i64 id] 3) = Z at *
  have hWrZ := HW5.out.below q6
  have hen5 := encs_len [it, ct, pr, 1, id]
  have hen4 := encb_len4 ak aw tk tw hak haw htk htw 4
  refine (wNumsT w1.heap.size (w1.heap.size + 1) _ 5 [it, ct, pr, 1, id] _ Z (by simp) ?_ hWrZ hNA5).mono ?_
  · simp only [List.nil_append, List.length_append, List.length_cons, List.length_nil, List.take] at hen3 hen4 ⊢
    omega
  rintro e w6 ⟨rfl, hWr6, ht6, hn6⟩
  have HW6 := Lib.hid hWr6
  have B6 : Below w.heap.size w w6 := (B5.trans (q6.mono (by omega))).trans (ht6.below (B := w.heap.size) (by have := q6.size; omega) (fun k hk => by have := hWrZ.ge k hk; omega))
  clear hWr6 hn6 hNA5 d7 d8 d9 d11
  go_wp2_with fail
  refine (wOut w1.heap.size (w1.heap.size + 1) _ w6 ?_ HW6.out).mono ?_
  · simp only [List.nil_append, List.length_append, List.length_cons, List.length_nil, List.take] at hen3 hen4 hen5 ⊢
    omega
  rintro e w7 ⟨v7, rfl, hown7, hb7⟩
  have e7 : [] ++ encs [k, cl, sq] ++ encb [bs ak, bs aw, bs tk, bs tw] ++ encs [it, ct, pr, 1, id] = opBs k cl sq ak aw tk tw it ct pr true id := by simp [opBs, one01]
  rw [e7] at hown7
  generalize hR : opBs k cl sq ak aw tk tw it ct pr true id = R at *
  obtain ⟨A7, c7, rfl, _, _, _⟩ := row_cells hown7
  have HO7 := Lib.hid hown7
  clear hown7
  go_wp2_with fail
  refine bodyPost_ret (v := .tuple #[.slice A7 R.length c7, .int .i64 0]) (by simp [results, Try.results8, go_sem, ↓IntWalk.iteOmega, *]) rfl ⟨_, rfl, ?_, B6.trans (hb7.mono B6.size)⟩
  rw [hR]
  exact HO7.out.mono B6.size


set_option maxHeartbeats 4000000 in
set_option maxRecDepth 10000 in
theorem opEncodeF (k cl sq : Int) (ak aw tk tw : ByteArray) (it ct pr : Int) (id : Int) (w : World)
    (hak : ak.size ≤ 10000) (haw : aw.size ≤ 10000) (htk : tk.size ≤ 10000) (htw : tw.size ≤ 10000)
    (hmay : ∀ w, Calls Try.prog 10 #[.agg #[.int .i64 k, .int .i64 cl, .int .i64 sq, .string ak, .string aw, .string tk, .string tw, .int .i64 it, .int .i64 ct, .int .i64 pr, .bool false, .int .i64 id]] w fun e w' => e = .returned (.bool true) ∧ Below w.heap.size w w') :
    Calls Try.prog 8 #[.agg #[.int .i64 k, .int .i64 cl, .int .i64 sq, .string ak, .string aw, .string tk, .string tw, .int .i64 it, .int .i64 ct, .int .i64 pr, .bool false, .int .i64 id]] w fun e w' => ∃ v', e = .returned (.tuple #[v', .int .i64 0]) ∧ w'.ownsRow w.heap.size 5 1 v' (opBs k cl sq ak aw tk tw it ct pr false id).length (flatU (opBs k cl sq ak aw tk tw it ct pr false id)) ∧ Below w.heap.size w w' := by
  have cv : ∀ (w : World) (s : ByteArray), (convert 9 27 (.string s)).run Try.prog w = .ok (.slice (some ⟨w.heap.size, 0, none⟩) s.size (grownCap w s.size 0 5)) (Lib.bytesWorld w 5 s) := fun w s => Lib.run_convert_string_bytes w _ _ _ s Try.underlying9 Try.underlying27 Try.underlying5
  go_enter Try.func8, Try.ntmps8
  go_wp2_with fail
  have hB0 : Below w.heap.size w (w.alloc (.cells #[.int .i64 k, .int .i64 cl, .int .i64 sq, .string ak, .string aw, .string tk, .string tw, .int .i64 it, .int .i64 ct, .int .i64 pr, .bool false, .int .i64 id] 25)) := (Below.refl _ _).alloc (Nat.le_refl _) _
  have P0 : Whl (w.alloc (.cells #[.int .i64 k, .int .i64 cl, .int .i64 sq, .string ak, .string aw, .string tk, .string tw, .int .i64 it, .int .i64 ct, .int .i64 pr, .bool false, .int .i64 id] 25)) w.heap.size 25 #[.int .i64 k, .int .i64 cl, .int .i64 sq, .string ak, .string aw, .string tk, .string tw, .int .i64 it, .int .i64 ct, .int .i64 pr, .bool false, .int .i64 id] := Whl.new rfl
  have hs0 : w.heap.size < (w.alloc (.cells #[.int .i64 k, .int .i64 cl, .int .i64 sq, .string ak, .string aw, .string tk, .string tw, .int .i64 it, .int .i64 ct, .int .i64 pr, .bool false, .int .i64 id] 25)).heap.size := by simp
  generalize w.alloc (.cells #[.int .i64 k, .int .i64 cl, .int .i64 sq, .string ak, .string aw, .string tk, .string tw, .int .i64 it, .int .i64 ct, .int .i64 pr, .bool false, .int .i64 id] 25) = V at *
  refine (hmay _).mono ?_
  rintro e w1 ⟨rfl, hb1⟩
  have P1 := P0.below hb1 hs0
  have hs1 := hb1.size
  have B1 := hB0.trans (hb1.mono (by omega))
  have hlt1 : w.heap.size < w1.heap.size := by omega
  clear P0 hB0 hb1
  have d0 := P1.cell 0
  have d1 := P1.cell 1
  have d2 := P1.cell 2
  have d10 := P1.cell 10
  simp only [List.getElem?_toArray, List.getElem?_cons_succ, List.getElem?_cons_zero] at d0 d1 d2 d10
  go_wp2_with fail
  have hc0 : ((w1.alloc (.cells #[.slice none 0 0] 53)).alloc (.cells #[.int .i64 k, .int .i64 cl, .int .i64 sq] 3)).cell? ⟨w1.heap.size, 0, none⟩ = some (.slice none 0 0) := by
    rw [World.cell?_alloc_lt _ _ _ (by simp), cell_of_row _ _ _ _ _ _ (heap_alloc_new w1 _)]; rfl
  have hf0 : ((w1.alloc (.cells #[.slice none 0 0] 53)).alloc (.cells #[.int .i64 k, .int .i64 cl, .int .i64 sq] 3)).frozen? ⟨w1.heap.size, 0, none⟩ = false :=
    (Whl.alloc (Whl.new rfl : Whl (w1.alloc (.cells #[.slice none 0 0] 53)) w1.heap.size 53 #[.slice none 0 0]) _).free 0
  have hrow0 : wrow ((w1.alloc (.cells #[.slice none 0 0] 53)).alloc (.cells #[.int .i64 k, .int .i64 cl, .int .i64 sq] 3)) w1.heap.size = none := (wrow_of hc0).trans rfl
  have hWr : Wr ((w1.alloc (.cells #[.slice none 0 0] 53)).alloc (.cells #[.int .i64 k, .int .i64 cl, .int .i64 sq] 3)) w1.heap.size (w1.heap.size + 1) [] := ⟨⟨_, hc0, World.ownsRow_nil _ _ _ _⟩, hf0, by omega, by simp⟩
  have hNA : NumsAt ((w1.alloc (.cells #[.slice none 0 0] 53)).alloc (.cells #[.int .i64 k, .int .i64 cl, .int .i64 sq] 3)) w1.heap.size (some ⟨w1.heap.size + 1, 0, none⟩) [k, cl, sq] := by
    have h := numsAt_new (w := w1.alloc (.cells #[.slice none 0 0] 53)) (b := w1.heap.size) (e := 3) (l := [k, cl, sq]) (cs := #[.int .i64 k, .int .i64 cl, .int .i64 sq]) rfl (by
      rintro (h1 | h1)
      · simp at h1
      · rw [hrow0] at h1; cases h1)
    simpa using h
  have hB2 : Below w1.heap.size w1 ((w1.alloc (.cells #[.slice none 0 0] 53)).alloc (.cells #[.int .i64 k, .int .i64 cl, .int .i64 sq] 3)) := ((Below.refl _ _).alloc (Nat.le_refl _) _).alloc (by simp) _
  have hsW : ((w1.alloc (.cells #[.slice none 0 0] 53)).alloc (.cells #[.int .i64 k, .int .i64 cl, .int .i64 sq] 3)).heap.size = w1.heap.size + 2 := by simp
  generalize hWW : ((w1.alloc (.cells #[.slice none 0 0] 53)).alloc (.cells #[.int .i64 k, .int .i64 cl, .int .i64 sq] 3)) = W at *
  refine (wNumsT w1.heap.size (w1.heap.size + 1) _ 3 [k, cl, sq] [] W (by simp) (by simp) hWr hNA).mono ?_
  rintro e w3 ⟨rfl, hWr3, ht3, hn3⟩
  have hs3 := ht3.size
  have P2 := P1.below hB2 hlt1
  have P3 : Whl w3 w.heap.size 25 #[.int .i64 k, .int .i64 cl, .int .i64 sq, .string ak, .string aw, .string tk, .string tw, .int .i64 it, .int .i64 ct, .int .i64 pr, .bool false, .int .i64 id] := (ht3.block _ (by omega) (by
    rintro (h1 | h1)
    · omega
    · rw [hrow0] at h1; cases h1)).trans P2
  have d3 := P3.cell 3
  have d4 := P3.cell 4
  have d5 := P3.cell 5
  have d6 := P3.cell 6
  simp only [List.getElem?_toArray, List.getElem?_cons_succ, List.getElem?_cons_zero] at d3 d4 d5 d6
  have hlt3 : w.heap.size < w3.heap.size := by omega
  have HW3 := Lib.hid hWr3
  have HT3 := Lib.hid ht3
  have HN3 := Lib.hid hn3
  clear hWr hNA d0 d1 d2 d10 hWr3 ht3 hn3 hc0 hf0
  go_wp2_with fail
  have z1 : (Lib.bytesWorld w3 5 ak).heap.size = w3.heap.size + 1 := bw_size _ _ _
  have q1 := bw_below w3 5 ak
  have C1 := bw_cells' w3 5 ak (grownCap w3 ak.size 0 5)
  generalize grownCap w3 ak.size 0 5 = p1 at *
  generalize Lib.bytesWorld w3 5 ak = Y1 at *
  have z2 : (Lib.bytesWorld Y1 5 aw).heap.size = w3.heap.size + 1 + 1 := by rw [bw_size, z1]
  have q2 := bw_below Y1 5 aw
  have C2 := bw_cells' Y1 5 aw (grownCap Y1 aw.size 0 5)
  rw [z1] at C2
  generalize grownCap Y1 aw.size 0 5 = p2 at *
  generalize Lib.bytesWorld Y1 5 aw = Y2 at *
  have z3 : (Lib.bytesWorld Y2 5 tk).heap.size = w3.heap.size + 1 + 1 + 1 := by rw [bw_size, z2]
  have q3 := bw_below Y2 5 tk
  have C3 := bw_cells' Y2 5 tk (grownCap Y2 tk.size 0 5)
  rw [z2] at C3
  generalize grownCap Y2 tk.size 0 5 = p3 at *
  generalize Lib.bytesWorld Y2 5 tk = Y3 at *
  have z4 : (Lib.bytesWorld Y3 5 tw).heap.size = w3.heap.size + 1 + 1 + 1 + 1 := by rw [bw_size, z3]
  have q4 := bw_below Y3 5 tw
  have C4 := bw_cells' Y3 5 tw (grownCap Y3 tw.size 0 5)
  rw [z3] at C4
  generalize grownCap Y3 tw.size 0 5 = p4 at *
  generalize Lib.bytesWorld Y3 5 tw = Y4 at *
  have q5 : Below Y4.heap.size Y4 (Y4.alloc (.cells #[.slice (some ⟨w3.heap.size, 0, none⟩) ak.size p1, .slice (some ⟨w3.heap.size + 1, 0, none⟩) aw.size p2, .slice (some ⟨w3.heap.size + 1 + 1, 0, none⟩) tk.size p3, .slice (some ⟨w3.heap.size + 1 + 1 + 1, 0, none⟩) tw.size p4] 27)) := (Below.refl _ _).alloc (Nat.le_refl _) _
  have hX : ∀ k, (Y4.alloc (.cells #[.slice (some ⟨w3.heap.size, 0, none⟩) ak.size p1, .slice (some ⟨w3.heap.size + 1, 0, none⟩) aw.size p2, .slice (some ⟨w3.heap.size + 1 + 1, 0, none⟩) tk.size p3, .slice (some ⟨w3.heap.size + 1 + 1 + 1, 0, none⟩) tw.size p4] 27)).cell? ⟨w3.heap.size + 1 + 1 + 1 + 1, 0 + k, none⟩ = (#[.slice (some ⟨w3.heap.size, 0, none⟩) ak.size p1, .slice (some ⟨w3.heap.size + 1, 0, none⟩) aw.size p2, .slice (some ⟨w3.heap.size + 1 + 1, 0, none⟩) tk.size p3, .slice (some ⟨w3.heap.size + 1 + 1 + 1, 0, none⟩) tw.size p4] : Array Value)[k]? := fun k => by rw [← z4, Nat.zero_add]; exact cell_of_row _ _ k _ _ _ (heap_alloc_new Y4 _)
  have z5 : (Y4.alloc (.cells #[.slice (some ⟨w3.heap.size, 0, none⟩) ak.size p1, .slice (some ⟨w3.heap.size + 1, 0, none⟩) aw.size p2, .slice (some ⟨w3.heap.size + 1 + 1, 0, none⟩) tk.size p3, .slice (some ⟨w3.heap.size + 1 + 1 + 1, 0, none⟩) tw.size p4] 27)).heap.size = w3.heap.size + 1 + 1 + 1 + 1 + 1 := by simp [z4]
  generalize Y4.alloc (.cells #[.slice (some ⟨w3.heap.size, 0, none⟩) ak.size p1, .slice (some ⟨w3.heap.size + 1, 0, none⟩) aw.size p2, .slice (some ⟨w3.heap.size + 1 + 1, 0, none⟩) tk.size p3, .slice (some ⟨w3.heap.size + 1 + 1 + 1, 0, none⟩) tw.size p4] 27) = X at *
  have r4 : Below Y4.heap.size Y4 X := q5
  have r3 : Below Y3.heap.size Y3 X := q4.trans (r4.mono (by omega))
  have r2 : Below Y2.heap.size Y2 X := q3.trans (r3.mono (by omega))
  have r1 : Below Y1.heap.size Y1 X := q2.trans (r2.mono (by omega))
  have r0 : Below w3.heap.size w3 X := q1.trans (r1.mono (by omega))
  have K1 := cells_keep (B' := X.heap.size) C1 r1 (by omega)
  have K2 := cells_keep (B' := X.heap.size) C2 r2 (by omega)
  have K3 := cells_keep (B' := X.heap.size) C3 r3 (by omega)
  have K4 := cells_keep (B' := X.heap.size) C4 r4 (by omega)
  have hbl : w1.heap.size < w3.heap.size := by omega
  have hfar : ∀ g, w3.heap.size ≤ g → ¬ WD X w1.heap.size g := fun g hg => by
    unfold WD
    rw [wrow_below r0 hbl]
    exact HW3.out.far hg
  have hRA : RowsAt X w1.heap.size (some ⟨w3.heap.size + 1 + 1 + 1 + 1, 0, none⟩) [bs ak, bs aw, bs tk, bs tw] := by
    intro k hk
    have hk4 : k < 4 := hk
    have hkk : k = 0 ∨ k = 1 ∨ k = 2 ∨ k = 3 := by omega
    rcases hkk with rfl | rfl | rfl | rfl
    · exact ⟨_, _, _, p1, rfl, hfar _ (by omega), by rw [hX 0]; simp [bs_length], K1, fun a ha => by injection ha with ha; subst ha; exact hfar _ (by show w3.heap.size ≤ w3.heap.size; omega)⟩
    · exact ⟨_, _, _, p2, rfl, hfar _ (by omega), by rw [hX 1]; simp [bs_length], K2, fun a ha => by injection ha with ha; subst ha; exact hfar _ (by show _ ≤ w3.heap.size + 1; omega)⟩
    · exact ⟨_, _, _, p3, rfl, hfar _ (by omega), by rw [hX 2]; simp [bs_length], K3, fun a ha => by injection ha with ha; subst ha; exact hfar _ (by show _ ≤ w3.heap.size + 1 + 1; omega)⟩
    · exact ⟨_, _, _, p4, rfl, hfar _ (by omega), by rw [hX 3]; simp [bs_length], K4, fun a ha => by injection ha with ha; subst ha; exact hfar _ (by show _ ≤ w3.heap.size + 1 + 1 + 1; omega)⟩
  have hWrX := HW3.out.below r0
  have hen3 := encs_len [k, cl, sq]
  clear C1 C2 C3 C4 K1 K2 K3 K4 hX d3 d4 d5 d6
  refine (wBytesT w1.heap.size (w1.heap.size + 1) _ 4 [bs ak, bs aw, bs tk, bs tw] _ X (by simp) ?_ ?_ hWrX hRA).mono ?_
  · intro x hx
    simp only [List.mem_cons, List.not_mem_nil, or_false] at hx
    rcases hx with rfl | rfl | rfl | rfl <;> (rw [bs_length]; assumption)
  · intro k2 _
    have h1 := encb_len4 ak aw tk tw hak haw htk htw k2
    simp only [List.nil_append, List.length_cons, List.length_nil] at hen3 ⊢
    omega
  rintro e w5 ⟨rfl, hWr5, ht5, hn5⟩
  have hs5 := ht5.size
  have hfo3 : ¬ WD w3 w1.heap.size w.heap.size := wrow_far HN3.out hrow0 (by omega) (by omega)
  have hfoX : ¬ WD X w1.heap.size w.heap.size := by
    unfold WD at hfo3 ⊢
    rw [wrow_below r0 hbl]
    exact hfo3
  have PX := P3.below r0 hlt3
  have P5 : Whl w5 w.heap.size 25 #[.int .i64 k, .int .i64 cl, .int .i64 sq, .string ak, .string aw, .string tk, .string tw, .int .i64 it, .int .i64 ct, .int .i64 pr, .bool false, .int .i64 id] := (ht5.block _ (by omega) hfoX).trans PX
  have d7 := P5.cell 7
  have d8 := P5.cell 8
  have d9 := P5.cell 9
  have d11 := P5.cell 11
  simp only [List.getElem?_toArray, List.getElem?_cons_succ, List.getElem?_cons_zero] at d7 d8 d9 d11
  have hlt5 : w.heap.size < w5.heap.size := by omega
  have hbl5 : w1.heap.size < w5.heap.size := by omega
  have HW5 := Lib.hid hWr5
  have HT5 := Lib.hid ht5
  have hXge := hWrX.ge
  have hWge : ∀ k, WD W w1.heap.size k → w.heap.size ≤ k := by
    rintro k (e | e)
    · omega
    · rw [hrow0] at e; cases e
  have BX : Below w.heap.size w X := ((B1.trans (hB2.mono (by omega))).trans (HT3.out.below (B := w.heap.size) (by omega) hWge)).trans (r0.mono (by omega))
  have B5 : Below w.heap.size w w5 := BX.trans (ht5.below (B := w.heap.size) (by omega) (fun k hk => by have := hXge k hk; omega))
  clear hWr5 ht5 hn5 hWrX hRA
  go_wp2_with fail
  have q6 : Below w5.heap.size w5 (w5.alloc (.cells #[.int .i64 it, .int .i64 ct, .int .i64 pr, .int .i64 0, .int .i64 id] 3)) := (Below.refl _ _).alloc (Nat.le_refl _) _
  have hNA5 := numsAt_new (w := w5) (b := w1.heap.size) (e := 3) (l := [it, ct, pr, 0, id]) (cs := #[.int .i64 it, .int .i64 ct, .int .i64 pr, .int .i64 0, .int .i64 id]) rfl (by
    unfold WD
    rw [wrow_below q6 hbl5]
    exact HW5.out.far (Nat.le_refl _))
  generalize w5.alloc (.cells #[.int .i64 it, .int .i64 ct, .int .i64 pr, .int .i64 0, .int .i64 id] 3) = Z at *
  have hWrZ := HW5.out.below q6
  have hen5 := encs_len [it, ct, pr, 0, id]
  have hen4 := encb_len4 ak aw tk tw hak haw htk htw 4
  refine (wNumsT w1.heap.size (w1.heap.size + 1) _ 5 [it, ct, pr, 0, id] _ Z (by simp) ?_ hWrZ hNA5).mono ?_
  · simp only [List.nil_append, List.length_append, List.length_cons, List.length_nil, List.take] at hen3 hen4 ⊢
    omega
  rintro e w6 ⟨rfl, hWr6, ht6, hn6⟩
  have HW6 := Lib.hid hWr6
  have B6 : Below w.heap.size w w6 := (B5.trans (q6.mono (by omega))).trans (ht6.below (B := w.heap.size) (by have := q6.size; omega) (fun k hk => by have := hWrZ.ge k hk; omega))
  clear hWr6 hn6 hNA5 d7 d8 d9 d11
  go_wp2_with fail
  refine (wOut w1.heap.size (w1.heap.size + 1) _ w6 ?_ HW6.out).mono ?_
  · simp only [List.nil_append, List.length_append, List.length_cons, List.length_nil, List.take] at hen3 hen4 hen5 ⊢
    omega
  rintro e w7 ⟨v7, rfl, hown7, hb7⟩
  have e7 : [] ++ encs [k, cl, sq] ++ encb [bs ak, bs aw, bs tk, bs tw] ++ encs [it, ct, pr, 0, id] = opBs k cl sq ak aw tk tw it ct pr false id := by simp [opBs, one01]
  rw [e7] at hown7
  generalize hR : opBs k cl sq ak aw tk tw it ct pr false id = R at *
  obtain ⟨A7, c7, rfl, _, _, _⟩ := row_cells hown7
  have HO7 := Lib.hid hown7
  clear hown7
  go_wp2_with fail
  refine bodyPost_ret (v := .tuple #[.slice A7 R.length c7, .int .i64 0]) (by simp [results, Try.results8, go_sem, ↓IntWalk.iteOmega, *]) rfl ⟨_, rfl, ?_, B6.trans (hb7.mono B6.size)⟩
  rw [hR]
  exact HO7.out.mono B6.size


end Go.Proofs.Ytblknjclkecglaa
