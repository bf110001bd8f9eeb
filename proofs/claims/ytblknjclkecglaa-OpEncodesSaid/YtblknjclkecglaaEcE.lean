/- The document's own Encode. -/
import Derived.Test.YtblknjclkecglaaEcP
namespace Go.Proofs.Ytblknjclkecglaa
open Go.RowKit
set_option linter.unusedVariables false
set_option linter.unusedSimpArgs false

theorem whl_of_alloc' {B : Nat} {a W : World} {t : TypeId} {cs : Array Value} (h : Below B a (W.alloc (.cells cs t))) : Whl (W.alloc (.cells cs t)) W.heap.size t cs := Whl.new rfl
theorem bel_alloc {B : Nat} {a W : World} {x : Obj} (h : Below B a (W.alloc x)) : Below W.heap.size W (W.alloc x) := (Below.refl _ _).alloc (Nat.le_refl _) _
theorem ints3_of {W : World} {g B : Nat} {t : TypeId} {x y z : Int} (h : Whl W g t #[.int .i64 x, .int .i64 y, .int .i64 z]) (hg : g < B) : Ints W B (some ⟨g, 0, none⟩) [x, y, z] := by
  intro k hk
  refine ⟨g, 0, rfl, hg, ?_⟩
  rw [Nat.zero_add, h.cell]
  match k, hk with
  | 0, _ => rfl
  | 1, _ => rfl
  | 2, _ => rfl
theorem ints5_of {W : World} {g B : Nat} {t : TypeId} {x y z u v : Int} (h : Whl W g t #[.int .i64 x, .int .i64 y, .int .i64 z, .int .i64 u, .int .i64 v]) (hg : g < B) : Ints W B (some ⟨g, 0, none⟩) [x, y, z, u, v] := by
  intro k hk
  refine ⟨g, 0, rfl, hg, ?_⟩
  rw [Nat.zero_add, h.cell]
  match k, hk with
  | 0, _ => rfl
  | 1, _ => rfl
  | 2, _ => rfl
  | 3, _ => rfl
  | 4, _ => rfl
theorem encb2_len (a b : ByteArray) (ha : a.size ≤ 10000) (hb : b.size ≤ 10000) : (encb [bs a, bs b]).length ≤ 20020 := by
  have h1 := enc_len (show (bs a).length ≤ 4611686018427387904 by rw [bs_length]; omega)
  have h2 := enc_len (show (bs b).length ≤ 4611686018427387904 by rw [bs_length]; omega)
  have h3 := bs_length a
  have h4 := bs_length b
  simp only [encb, List.flatMap_cons, List.flatMap_nil, List.length_append, List.length_nil] at *
  omega
set_option maxHeartbeats 4000000 in
set_option maxRecDepth 10000 in
theorem refOpEncode (k cl sq : Int) (ak aw tk tw : ByteArray) (it ct pr : Int) (bu : Bool) (id : Int) (w : World) (hwf : OpWf k cl sq ak aw tk tw it ct pr bu id) (hm : mB k cl sq ak aw tk tw it ct pr bu id = true) :
    Calls Try.prog 9 #[.agg #[.int .i64 k, .int .i64 cl, .int .i64 sq, .string ak, .string aw, .string tk, .string tw, .int .i64 it, .int .i64 ct, .int .i64 pr, .bool bu, .int .i64 id]] w fun z w' => ∃ v', z = .returned (.tuple #[v', .int .i64 0]) ∧ w'.ownsRow w.heap.size 5 1 v' (opBs k cl sq ak aw tk tw it ct pr bu id).length (flatU (opBs k cl sq ak aw tk tw it ct pr bu id)) ∧ Below w.heap.size w w' := by
  obtain ⟨i0, hi, hz0, hz1, hz2⟩ := info_parts Try.infoByte
  obtain ⟨y0, hy0⟩ : ∃ y, y = encs [k, cl, sq] := ⟨_, rfl⟩
  obtain ⟨y1, hy1⟩ : ∃ y, y = encb [bs ak, bs aw] := ⟨_, rfl⟩
  obtain ⟨y2, hy2⟩ : ∃ y, y = encb [bs tk, bs tw] := ⟨_, rfl⟩
  obtain ⟨y3, hy3⟩ : ∃ y, y = encs [it, ct, pr, one01 bu, id] := ⟨_, rfl⟩
  obtain ⟨z1, hz1'⟩ : ∃ y, y = y0 ++ y1 := ⟨_, rfl⟩
  obtain ⟨z2, hz2'⟩ : ∃ y, y = z1 ++ y2 := ⟨_, rfl⟩
  have HE : Hid (opBs k cl sq ak aw tk tw it ct pr bu id = z2 ++ y3) := Lib.hid (by rw [hz2', hz1', hy0, hy1, hy2, hy3]; simp [opBs, encb, List.append_assoc])
  have l0 : y0.length ≤ 30 := by have := encs_len [k, cl, sq]; rw [hy0]; exact this
  have l1 : y1.length ≤ 20020 := by rw [hy1]; exact encb2_len _ _ hwf.ak hwf.aw
  have l2 : y2.length ≤ 20020 := by rw [hy2]; exact encb2_len _ _ hwf.tk hwf.tw
  have l3 : y3.length ≤ 50 := by have := encs_len [it, ct, pr, one01 bu, id]; rw [hy3]; exact this
  have l4 : z1.length ≤ 20050 := by rw [hz1', List.length_append]; omega
  have l5 : z2.length ≤ 40070 := by rw [hz2', List.length_append]; omega
  have HY0 := Lib.hid hy0
  have HY1 := Lib.hid hy1
  have HY2 := Lib.hid hy2
  have HY3 := Lib.hid hy3
  have HZ1 := Lib.hid hz1'
  have HZ2 := Lib.hid hz2'
  clear hy0 hy1 hy2 hy3 hz1' hz2'
  go_enter Try.func9, Try.ntmps9
  go_wp2_with fail
  have hB0 : Below w.heap.size w (w.alloc (.cells #[.int .i64 k, .int .i64 cl, .int .i64 sq, .string ak, .string aw, .string tk, .string tw, .int .i64 it, .int .i64 ct, .int .i64 pr, .bool bu, .int .i64 id] 25)) := (Below.refl _ _).alloc (Nat.le_refl _) _
  have P0 : Whl (w.alloc (.cells #[.int .i64 k, .int .i64 cl, .int .i64 sq, .string ak, .string aw, .string tk, .string tw, .int .i64 it, .int .i64 ct, .int .i64 pr, .bool bu, .int .i64 id] 25)) w.heap.size 25 #[.int .i64 k, .int .i64 cl, .int .i64 sq, .string ak, .string aw, .string tk, .string tw, .int .i64 it, .int .i64 ct, .int .i64 pr, .bool bu, .int .i64 id] := Whl.new rfl
  have hs0 : w.heap.size < (w.alloc (.cells #[.int .i64 k, .int .i64 cl, .int .i64 sq, .string ak, .string aw, .string tk, .string tw, .int .i64 it, .int .i64 ct, .int .i64 pr, .bool bu, .int .i64 id] 25)).heap.size := by simp
  generalize (w.alloc (.cells #[.int .i64 k, .int .i64 cl, .int .i64 sq, .string ak, .string aw, .string tk, .string tw, .int .i64 it, .int .i64 ct, .int .i64 pr, .bool bu, .int .i64 id] 25)) = V0 at *
  refine (refMay k cl sq ak aw tk tw it ct pr bu id hwf _).mono ?_
  rintro z V ⟨hz, hb1⟩
  rw [hm] at hz
  subst hz
  have P1 := P0.below hb1 hs0
  have hs1 := hb1.size
  have B1 := hB0.trans (hb1.mono (by omega))
  have hltV : w.heap.size < V.heap.size := by omega
  clear P0 hB0 hb1 hm
  have d0 := P1.cell 0
  have d1 := P1.cell 1
  have d2 := P1.cell 2
  simp only [List.getElem?_toArray, List.getElem?_cons_succ, List.getElem?_cons_zero] at d0 d1 d2
  go_wp2_with fail
  have HI : Whl (V.alloc (.cells #[.int .i64 k, .int .i64 cl, .int .i64 sq] 3)) V.heap.size 3 #[.int .i64 k, .int .i64 cl, .int .i64 sq] := Whl.new rfl
  refine (refNums (some ⟨V.heap.size, 0, none⟩) 3 [k, cl, sq] _ (by simp) (ints3_of HI (by simp))).mono ?_
  rintro z w4 ⟨v4, rfl, hown4, hb4⟩
  rw [← HY0.out] at hown4
  have hs4 := hb4.size
  simp at hs4
  have q4 : Below V.heap.size V w4 := ((Below.refl _ _).alloc (Nat.le_refl _) _).trans (hb4.mono (by simp))
  have P4 := P1.below q4 hltV
  have B4 := B1.trans (q4.mono (by omega))
  have O4 : Hid (w4.ownsRow (w.heap.size + 1) 5 1 v4 y0.length (flatU y0)) := Lib.hid (hown4.mono (by simp; omega))
  clear hown4 hb4 q4 P1 B1 HI d0 d1 d2
  have d3 := P4.cell 3
  have d4 := P4.cell 4
  simp only [List.getElem?_toArray, List.getElem?_cons_succ, List.getElem?_cons_zero] at d3 d4
  go_wp2_with fail
  clear d3 d4
  refine (refPut ak aw _ hwf.ak hwf.aw).mono ?_
  rintro z w5 ⟨v5, rfl, hown5, hb5⟩
  rw [← HY1.out] at hown5
  have hs5 := hb5.size
  obtain ⟨A5, c5, rfl, hc5, hm5, hx5⟩ := row_cells hown5
  have HX5 := Lib.hid hx5
  have P5 := P4.below hb5 (by omega)
  have O5 := Lib.hid (row_below O4.out hb5)
  have B5 := B4.trans (hb5.mono (by omega))
  clear hown5 hx5 P4 O4 B4 hb5
  have d5 := P5.cell 5
  have d6 := P5.cell 6
  simp only [List.getElem?_toArray, List.getElem?_cons_succ, List.getElem?_cons_zero] at d5 d6
  go_wp2_with (at_builtin; go_must (refine wpList_append_row rfl (.tmp 16) (.tmp 19) 27 rfl (w.heap.size + 1) 5 i0 (.int .u8 0) 1 1 Try.underlying27 hi hz0 hz1 hz2 rfl (by decide) v4 y0.length (flatU y0) rfl O5.out w5.heap.size A5 y1.length c5 (flatU y1) rfl HX5.out (flatU_one _) (by unfold maxLen; omega) (by omega) (by omega) ?_); intro v6 w6 hown6 hb6; have d5 := bkeep hb6 d5 (by omega); have d6 := bkeep hb6 d6 (by omega); have hs6 := hb6.size; rw [← flatU_app, ← List.length_append, ← HZ1.out] at hown6; have O6 := Lib.hid hown6; clear hown6)
  have P6 := P5.below hb6 (by omega)
  have B6 := B5.trans (hb6.mono (by omega : w.heap.size ≤ (w.heap.size + 1)))
  clear P5 O5 B5 hb6
  clear d5 d6
  refine (refPut tk tw _ hwf.tk hwf.tw).mono ?_
  rintro z w7 ⟨v7, rfl, hown7, hb7⟩
  rw [← HY2.out] at hown7
  have hs7 := hb7.size
  obtain ⟨A7, c7, rfl, hc7, hm7, hx7⟩ := row_cells hown7
  have HX7 := Lib.hid hx7
  have P7 := P6.below hb7 (by omega)
  have O7 := Lib.hid (row_below O6.out hb7)
  have B7 := B6.trans (hb7.mono (by omega))
  clear hown7 hx7 P6 O6 B6 hb7
  have d7 := P7.cell 7
  have d8 := P7.cell 8
  have d9 := P7.cell 9
  have d10 := P7.cell 10
  have d11 := P7.cell 11
  simp only [List.getElem?_toArray, List.getElem?_cons_succ, List.getElem?_cons_zero] at d7 d8 d9 d10 d11
  go_wp2_with (at_builtin; go_must (refine wpList_append_row rfl (.tmp 21) (.tmp 24) 27 rfl (w.heap.size + 1) 5 i0 (.int .u8 0) 1 1 Try.underlying27 hi hz0 hz1 hz2 rfl (by decide) v6 z1.length (flatU z1) rfl O7.out w7.heap.size A7 y2.length c7 (flatU y2) rfl HX7.out (flatU_one _) (by unfold maxLen; omega) (by omega) (by omega) ?_); intro v8 w8 hown8 hb8; have d7 := bkeep hb8 d7 (by omega); have d8 := bkeep hb8 d8 (by omega); have d9 := bkeep hb8 d9 (by omega); have d10 := bkeep hb8 d10 (by omega); have d11 := bkeep hb8 d11 (by omega); have hs8 := hb8.size; rw [← flatU_app, ← List.length_append, ← HZ2.out] at hown8; have O8 := Lib.hid hown8; clear hown8)
  have P8 := P7.below hb8 (by omega)
  have B8 := B7.trans (hb8.mono (by omega : w.heap.size ≤ (w.heap.size + 1)))
  clear P7 O7 B7 hb8
  have HOD : Hid (w8.drew.ownsRow (w.heap.size + 1) 5 1 v8 z2.length (flatU z2)) := Lib.hid (row_below O8.out (Below.refl _ _).drew)
  clear P8
  refine wp_region_held_drew (S := (fun W => Below (w.heap.size + 1) w8 W ∧ W.cell? ⟨w.heap.size, 7, none⟩ = some (.int .i64 it) ∧ W.cell? ⟨w.heap.size, 8, none⟩ = some (.int .i64 ct) ∧ W.cell? ⟨w.heap.size, 9, none⟩ = some (.int .i64 pr) ∧ W.cell? ⟨w.heap.size, 10, none⟩ = some (.bool bu) ∧ W.cell? ⟨w.heap.size, 11, none⟩ = some (.int .i64 id))) (by kernel_rfl) ⟨(Below.refl _ _).drew, d7, d8, d9, d10, d11⟩ (fun hHeld => ?_)
  refine wpAnyH_take (i := 0) (oi := ⟨some 26, _, _, _, _, _⟩) (v := ?v0) rfl (by kernel_rfl) (by kernel_rfl) (by kernel_rfl) (fun _ _ _ h => h) (Or.inl ⟨by rfl, ?y0⟩) (by assumption) ?r0
  case y0 => (intro w hSw; (try dsimp only at hSw); (try go_split_ands); go_simp); (try with_reducible rfl)
  case r0 =>
  (try simp only [Act.put, List.setIfInBounds_toArray, List.set_cons_zero, List.set_cons_succ])
  refine wpAnyH_take (i := 1) (oi := ⟨some 27, _, _, _, _, _⟩) (v := ?v1) rfl (by kernel_rfl) (by kernel_rfl) (by kernel_rfl) (fun _ _ _ h => h) (Or.inl ⟨by rfl, ?y1⟩) (by assumption) ?r1
  case y1 => (intro w hSw; (try dsimp only at hSw); (try go_split_ands); go_simp); (try with_reducible rfl)
  case r1 =>
  (try simp only [Act.put, List.setIfInBounds_toArray, List.set_cons_zero, List.set_cons_succ])
  refine wpAnyH_take (i := 2) (oi := ⟨some 28, _, _, _, _, _⟩) (v := ?v2) rfl (by kernel_rfl) (by kernel_rfl) (by kernel_rfl) (fun _ _ _ h => h) (Or.inl ⟨by rfl, ?y2⟩) (by assumption) ?r2
  case y2 => (intro w hSw; (try dsimp only at hSw); (try go_split_ands); go_simp); (try with_reducible rfl)
  case r2 =>
  (try simp only [Act.put, List.setIfInBounds_toArray, List.set_cons_zero, List.set_cons_succ])
  refine wpAnyH_take (i := 3) (oi := ⟨some 29, _, _, _, _, _⟩) (v := ?v3) rfl (by kernel_rfl) (by kernel_rfl) (by kernel_rfl) (fun _ _ _ h => h) (Or.inl ⟨by rfl, ?y3⟩) (by assumption) ?r3
  case y3 => (intro w hSw; (try dsimp only at hSw); (try go_split_ands); go_simp); (try with_reducible rfl)
  case r3 =>
  (try simp only [Act.put, List.setIfInBounds_toArray, List.set_cons_zero, List.set_cons_succ])
  refine wpAnyH_take (i := 4) (oi := ⟨some 30, _, _, _, _, _⟩) (v := ?v4) rfl (by kernel_rfl) (by kernel_rfl) (by kernel_rfl) (fun _ _ _ h => h) (Or.inl ⟨by rfl, ?y4⟩) (by assumption) ?r4
  case y4 => (intro w hSw; (try dsimp only at hSw); (try go_split_ands); go_simp); (try with_reducible rfl)
  case r4 =>
  (try simp only [Act.put, List.setIfInBounds_toArray, List.set_cons_zero, List.set_cons_succ])
  refine wpAnyH_take (i := 5) (oi := ⟨some 31, _, _, _, _, _⟩) (v := ?v5) rfl (by kernel_rfl) (by kernel_rfl) (by kernel_rfl) (fun _ _ _ h => h) (Or.inl ⟨by rfl, ?y5⟩) (by assumption) ?r5
  case y5 => (intro w hSw; (try dsimp only at hSw); (try go_split_ands); go_simp); (try with_reducible rfl)
  case r5 =>
  (try simp only [Act.put, List.setIfInBounds_toArray, List.set_cons_zero, List.set_cons_succ])
  refine wpAnyH_take (i := 6) (oi := ⟨some 32, _, _, _, _, _⟩) (v := ?v6) rfl (by kernel_rfl) (by kernel_rfl) (by kernel_rfl) (fun _ _ _ h => h) (Or.inl ⟨by rfl, ?y6⟩) (by assumption) ?r6
  case y6 => (intro w hSw; (try dsimp only at hSw); (try go_split_ands); go_simp); (try with_reducible rfl)
  case r6 =>
  (try simp only [Act.put, List.setIfInBounds_toArray, List.set_cons_zero, List.set_cons_succ])
  refine wpAnyH_take (i := 7) (oi := ⟨some 33, _, _, _, _, _⟩) (v := ?v7) rfl (by kernel_rfl) (by kernel_rfl) (by kernel_rfl) (fun _ _ _ h => h) (Or.inl ⟨by rfl, ?y7⟩) (by assumption) ?r7
  case y7 => (intro w hSw; (try dsimp only at hSw); (try go_split_ands); go_simp); (try with_reducible rfl)
  case r7 =>
  (try simp only [Act.put, List.setIfInBounds_toArray, List.set_cons_zero, List.set_cons_succ])
  refine wpAnyH_take (i := 8) (oi := ⟨some 34, _, _, _, _, _⟩) (v := ?v8) rfl (by kernel_rfl) (by kernel_rfl) (by kernel_rfl) (fun _ _ _ h => h) (Or.inl ⟨by rfl, ?y8⟩) (by assumption) ?r8
  case y8 => (intro w hSw; (try dsimp only at hSw); (try go_split_ands); go_simp); (try with_reducible rfl)
  case r8 =>
  (try simp only [Act.put, List.setIfInBounds_toArray, List.set_cons_zero, List.set_cons_succ])
  refine wpAnyH_take (i := 10) (oi := ⟨some 36, _, _, _, _, _⟩) (v := ?v10) rfl (by kernel_rfl) (by kernel_rfl) (by kernel_rfl) (fun _ _ _ h => h) (Or.inl ⟨by rfl, ?y10⟩) (by assumption) ?r10
  case y10 => (intro w hSw; (try dsimp only at hSw); (try go_split_ands); go_simp); (try with_reducible rfl)
  case r10 =>
  (try simp only [Act.put, List.setIfInBounds_toArray, List.set_cons_zero, List.set_cons_succ])
  refine wpAnyH_take (i := 11) (oi := ⟨some 37, _, _, _, _, _⟩) (v := ?v11) rfl (by kernel_rfl) (by kernel_rfl) (by kernel_rfl) (fun _ _ _ h => h) (Or.inl ⟨by rfl, ?y11⟩) (by assumption) ?r11
  case y11 => (intro w hSw; (try dsimp only at hSw); (try go_split_ands); go_simp); (try with_reducible rfl)
  case r11 =>
  (try simp only [Act.put, List.setIfInBounds_toArray, List.set_cons_zero, List.set_cons_succ])
  refine wpAnyH_ready (rs := [9]) (by kernel_rfl) (by simp) ?_
  refine AllReadyH.cons (o := ⟨some 35, _, _, _, _, _⟩) rfl (fun K hK => ?_) AllReadyH.nil
  go_simp
  refine (refOne bu _).mono ?_
  rintro z w9 ⟨rfl, rfl⟩
  have hb3 := hHeld.1
  go_wp2_with fail
  refine hK.out _ _ ⟨hb3, bkeep hb3 d7 (by omega), bkeep hb3 d8 (by omega), bkeep hb3 d9 (by omega), bkeep hb3 d10 (by omega), bkeep hb3 d11 (by omega)⟩ (fun hHeld => ?_)
  clear hK K
  (try simp only [Act.put, List.setIfInBounds_toArray, List.set_cons_zero, List.set_cons_succ])
  refine wpAnyH_ready (rs := [12]) (by kernel_rfl) (by simp) ?_
  refine AllReadyH.cons (o := ⟨some 38, _, _, _, _, _⟩) rfl (fun K hK => ?_) AllReadyH.nil
  go_simp
  have hq := hHeld.1.size
  have hb3 := hHeld.1.alloc (by omega) (.cells #[.int .i64 it, .int .i64 ct, .int .i64 pr, .int .i64 (one01 bu), .int .i64 id] 3)
  have HI := whl_of_alloc' hb3
  have HOD := Lib.hid (row_below HOD.out (bel_alloc hb3))
  refine hK.out _ _ ⟨hb3, bkeep hb3 d7 (by omega), bkeep hb3 d8 (by omega), bkeep hb3 d9 (by omega), bkeep hb3 d10 (by omega), bkeep hb3 d11 (by omega)⟩ (fun hHeld => ?_)
  clear hK K
  (try simp only [Act.put, List.setIfInBounds_toArray, List.set_cons_zero, List.set_cons_succ])
  refine wpAnyH_ready (rs := [13]) (by kernel_rfl) (by simp) ?_
  refine AllReadyH.cons (o := ⟨some 39, _, _, _, _, _⟩) rfl (fun K hK => ?_) AllReadyH.nil
  go_simp
  refine (refNums (some ⟨_, 0, none⟩) 5 [it, ct, pr, one01 bu, id] _ (by simp) (ints5_of HI HI.low)).mono ?_
  rintro z w9 ⟨v9, rfl, hown9, hb9⟩
  rw [← HY3.out] at hown9
  have hq := hHeld.1.size
  have hb3 := hHeld.1.trans (hb9.mono (Nat.le_trans (show w.heap.size + 1 ≤ w8.heap.size by omega) hHeld.1.size))
  obtain ⟨A9, c9, rfl, hc9, hm9, hx9⟩ := row_cells hown9
  have HX9 := Lib.hid hx9
  have HOD := Lib.hid (row_below HOD.out hb9)
  clear hown9 hx9
  go_wp2_with fail
  refine hK.out _ _ ⟨hb3, bkeep hb3 d7 (by omega), bkeep hb3 d8 (by omega), bkeep hb3 d9 (by omega), bkeep hb3 d10 (by omega), bkeep hb3 d11 (by omega)⟩ (fun hHeld => ?_)
  clear hK K
  (try simp only [Act.put, List.setIfInBounds_toArray, List.set_cons_zero, List.set_cons_succ])
  refine wpAnyH_ready (rs := [14]) (by kernel_rfl) (by simp) ?_
  refine AllReadyH.cons (o := ⟨some 40, _, _, _, _, _⟩) rfl (fun K hK => ?_) AllReadyH.nil
  have hq := hHeld.1.size
  refine step_append_cells rfl (.tmp 26) (.tmp 39) 27 rfl (w.heap.size + 1) 5 i0 (.int .u8 0) 1 1 Try.underlying27 hi hz0 hz1 hz2 rfl (by decide) v8 z2.length (flatU z2) rfl HOD.out _ A9 y3.length c9 (flatU y3) rfl HX9.out (flatU_one _) (by unfold maxLen; omega) (by omega) (by omega) ?_
  intro v10 w10 hown10 ht10 hb10
  have hb3 := hHeld.1.trans (ht10.below (B := (w.heap.size + 1)) (by omega) (fun k hk => (HOD.out.lt k hk).1))
  have HO10 := Lib.hid hown10
  clear hown10
  refine hK.out _ _ ⟨hb3, bkeep hb3 d7 (by omega), bkeep hb3 d8 (by omega), bkeep hb3 d9 (by omega), bkeep hb3 d10 (by omega), bkeep hb3 d11 (by omega)⟩ (fun hHeld => ?_)
  clear hK K
  (try simp only [Act.put, List.setIfInBounds_toArray, List.set_cons_zero, List.set_cons_succ])
  refine wpAnyH_take (i := 15) (oi := ⟨some 2, _, _, _, _, _⟩) (v := ?v15) rfl (by kernel_rfl) (by kernel_rfl) (by kernel_rfl) (fun _ _ _ h => h) (Or.inl ⟨by rfl, ?y15⟩) (by assumption) ?r15
  case y15 => (intro w hSw; (try dsimp only at hSw); (try go_split_ands); go_simp); (try with_reducible rfl)
  case r15 =>
  (try simp only [Act.put, List.setIfInBounds_toArray, List.set_cons_zero, List.set_cons_succ])
  refine wpAnyH_take (i := 16) (oi := ⟨some 3, _, _, _, _, _⟩) (v := ?v16) rfl (by kernel_rfl) (by kernel_rfl) (by kernel_rfl) (fun _ _ _ h => h) (Or.inl ⟨by rfl, ?y16⟩) (by assumption) ?r16
  case y16 => (intro w hSw; (try dsimp only at hSw); (try go_split_ands); go_simp); (try with_reducible rfl)
  case r16 =>
  (try simp only [Act.put, List.setIfInBounds_toArray, List.set_cons_zero, List.set_cons_succ])
  refine wpAnyH_done (by kernel_rfl) ?_ _
  go_wp2_with fail
  refine bodyPost_ret (v := .tuple #[v10, .int .i64 0]) (by simp [results, Try.results9, go_sem, ↓IntWalk.iteOmega, *]) rfl ⟨_, rfl, ?_, B8.trans (hHeld.1.mono (by omega))⟩
  have h5 := HO10.out.mono (show w.heap.size ≤ w.heap.size + 1 by omega)
  rw [← flatU_app, ← List.length_append] at h5
  rw [HE.out]
  exact h5

set_option maxHeartbeats 1000000 in
theorem refOpEncodeNo (k cl sq : Int) (ak aw tk tw : ByteArray) (it ct pr : Int) (bu : Bool) (id : Int) (w : World) (hwf : OpWf k cl sq ak aw tk tw it ct pr bu id) (hm : mB k cl sq ak aw tk tw it ct pr bu id = false) :
    Calls Try.prog 9 #[.agg #[.int .i64 k, .int .i64 cl, .int .i64 sq, .string ak, .string aw, .string tk, .string tw, .int .i64 it, .int .i64 ct, .int .i64 pr, .bool bu, .int .i64 id]] w fun z w' => z = .returned (.tuple #[.slice none 0 0, .int .i64 1]) ∧ Below w.heap.size w w' := by
  go_enter Try.func9, Try.ntmps9
  go_wp2_with fail
  refine (refMay k cl sq ak aw tk tw it ct pr bu id hwf _).mono ?_
  rintro z w1 ⟨hz, hb1⟩
  rw [hm] at hz
  subst hz
  have hs1 := hb1.size; (try simp at hs1)
  go_wp2_with fail
  refine bodyPost_ret (v := .tuple #[.slice none 0 0, .int .i64 1]) (by simp [results, Try.results9, go_sem, ↓IntWalk.iteOmega, *]) rfl ⟨rfl, ?_⟩
  ((repeat (first | (with_reducible exact Below.refl _ _) | (with_reducible assumption) | ((with_reducible refine b_set ?_ ?_); · (first | omega | (simp; done) | (simp; omega))) | ((with_reducible refine b_alloc ?_ ?_); · (first | omega | (simp; done) | (simp; omega))) | (with_reducible refine Below.drew ?_) | (with_reducible refine b_drewN ?_) | ((with_reducible refine b_call (by assumption) ?_ ?_); · (first | omega | (simp; done) | (simp; omega))))); done)
end Go.Proofs.Ytblknjclkecglaa
