/- OpEncodes returns true: the walk of the statement. -/
import Derived.Test.YtblknjclkecglaaEcE
import Derived.Test.YtblknjclkecglaaDcW
import Derived.Test.YtblknjclkecglaaOpKn
import Derived.Deep.RegionHeld3
import Derived.Lib.Bytes
namespace Go.Proofs.Ytblknjclkecglaa
open Go.RowKit
set_option linter.unusedVariables false
set_option linter.unusedSimpArgs false

theorem strNe (s : ByteArray) (w : World) : (binOp .neq 9 (.string s) (.string s)).run Try.prog w = .ok (.bool false) w := by
  go_simp
theorem opBs_len (k cl sq : Int) (ak aw tk tw : ByteArray) (it ct pr : Int) (bu : Bool) (id : Int) (h : mB k cl sq ak aw tk tw it ct pr bu id = true) : (opBs k cl sq ak aw tk tw it ct pr bu id).length ≤ 1000 := by
  obtain ⟨_, _, _, _, _, _, _, gak, gaw, gtk, gtw⟩ := mB_bounds h
  have h1 := encs_len [k, cl, sq]
  have h2 := encs_len [it, ct, pr, one01 bu, id]
  have e1 := enc_len (show (bs ak).length ≤ 4611686018427387904 by rw [bs_length]; omega)
  have e2 := enc_len (show (bs aw).length ≤ 4611686018427387904 by rw [bs_length]; omega)
  have e3 := enc_len (show (bs tk).length ≤ 4611686018427387904 by rw [bs_length]; omega)
  have e4 := enc_len (show (bs tw).length ≤ 4611686018427387904 by rw [bs_length]; omega)
  have b1 := bs_length ak
  have b2 := bs_length aw
  have b3 := bs_length tk
  have b4 := bs_length tw
  simp only [opBs, encb, List.flatMap_cons, List.flatMap_nil, List.length_append, List.length_cons, List.length_nil] at *
  omega
set_option maxHeartbeats 8000000 in
set_option maxRecDepth 10000 in
theorem walkOpEncodes (k cl sq : Int) (ak aw tk tw : ByteArray) (it ct pr : Int) (bu : Bool) (id : Int) (hw : ak.size ≤ 2000 → aw.size ≤ 2000 → tk.size ≤ 2000 → tw.size ≤ 2000 → OpWf k cl sq ak aw tk tw it ct pr bu id) (w : World) :
    Calls Try.prog 3 #[.agg #[.int .i64 k, .int .i64 cl, .int .i64 sq, .string ak, .string aw, .string tk, .string tw, .int .i64 it, .int .i64 ct, .int .i64 pr, .bool bu, .int .i64 id]] w fun e w' => e = .returned (.bool true) ∧ Below w.heap.size w w' := by
  have KN : Hid (∀ w, Calls Try.prog 13 #[] w fun e w' => e = .returned (.bool true) ∧ Below w.heap.size w w') := Lib.hid opKnKnown
  have B0 : Below w.heap.size w (w.alloc (.cells #[.int .i64 k, .int .i64 cl, .int .i64 sq, .string ak, .string aw, .string tk, .string tw, .int .i64 it, .int .i64 ct, .int .i64 pr, .bool bu, .int .i64 id] 25)) := (Below.refl _ _).alloc (Nat.le_refl _) _
  have P0 : Whl (w.alloc (.cells #[.int .i64 k, .int .i64 cl, .int .i64 sq, .string ak, .string aw, .string tk, .string tw, .int .i64 it, .int .i64 ct, .int .i64 pr, .bool bu, .int .i64 id] 25)) w.heap.size 25 #[.int .i64 k, .int .i64 cl, .int .i64 sq, .string ak, .string aw, .string tk, .string tw, .int .i64 it, .int .i64 ct, .int .i64 pr, .bool bu, .int .i64 id] := Whl.new rfl
  have hs0 : w.heap.size < (w.alloc (.cells #[.int .i64 k, .int .i64 cl, .int .i64 sq, .string ak, .string aw, .string tk, .string tw, .int .i64 it, .int .i64 ct, .int .i64 pr, .bool bu, .int .i64 id] 25)).heap.size := by simp
  have HW := Lib.hid hw
  have heq : ∀ w, (binOp .eql 25 (.agg #[.int .i64 k, .int .i64 cl, .int .i64 sq, .string ak, .string aw, .string tk, .string tw, .int .i64 it, .int .i64 ct, .int .i64 pr, .bool bu, .int .i64 id]) (.agg #[.int .i64 k, .int .i64 cl, .int .i64 sq, .string ak, .string aw, .string tk, .string tw, .int .i64 it, .int .i64 ct, .int .i64 pr, .bool bu, .int .i64 id])).run Try.prog w = .ok (.bool true) w := fun w => by rw [opEqO, opSame]
  clear hw
  go_enter Try.func3, Try.ntmps3
  go_wp2_with fail
  generalize (w.alloc (.cells #[.int .i64 k, .int .i64 cl, .int .i64 sq, .string ak, .string aw, .string tk, .string tw, .int .i64 it, .int .i64 ct, .int .i64 pr, .bool bu, .int .i64 id] 25)) = U at *
  refine (lawHeavy k cl sq ak aw tk tw it ct pr bu id _).mono ?_
  rintro z w1 ⟨rfl, hb1⟩
  have hs1 := hb1.size
  have P1 := P0.below hb1 (by omega)
  have B1 := B0.trans (hb1.mono (by omega))
  clear P0 B0 hb1
  cases hv1 : hvB ak aw tk tw
  case true =>
    go_wp2_with fail
    go_ret
    exact ⟨rfl, B1⟩
  case false =>
  obtain ⟨f1, f2, f3, f4⟩ := hvB_no hv1
  have HA := Lib.hid (HW.out f1 f2 f3 f4)
  cases hm1 : mB k cl sq ak aw tk tw it ct pr bu id
  · obtain ⟨x0, x1, x2, s3, s4, s5, s6, x7, x8, x9, b10, x11, er, hdec⟩ := dV_form []
    have HBACK := Lib.hid hdec
    clear hdec
    have p0 := P1.cell 0
    have p1 := P1.cell 1
    have p2 := P1.cell 2
    have p3 := P1.cell 3
    have p4 := P1.cell 4
    have p5 := P1.cell 5
    have p6 := P1.cell 6
    have p7 := P1.cell 7
    have p8 := P1.cell 8
    have p9 := P1.cell 9
    have p10 := P1.cell 10
    have p11 := P1.cell 11
    simp only [List.getElem?_toArray, List.getElem?_cons_succ, List.getElem?_cons_zero] at p0 p1 p2 p3 p4 p5 p6 p7 p8 p9 p10 p11
    go_wp2_with fail
    clear p0 p1 p2 p3 p4 p5 p6 p7 p8 p9 p10 p11
    refine (codeEncodeNo k cl sq ak aw tk tw it ct pr bu id HA.out hm1 _).mono ?_
    rintro z w3 ⟨rfl, hb3⟩
    have HO5 : Hid (w3.ownsRow w.heap.size 5 1 (.slice none 0 0) ([] : List Nat).length (flatU [])) := Lib.hid (World.ownsRow_nil _ _ _ _)
    have hs3 := hb3.size
    have P3 := P1.below hb3 (by omega)
    have B3 := B1.trans (hb3.mono (by omega))
    clear P1 B1 hb3
    have p0 := P3.cell 0
    have p1 := P3.cell 1
    have p2 := P3.cell 2
    have p3 := P3.cell 3
    have p4 := P3.cell 4
    have p5 := P3.cell 5
    have p6 := P3.cell 6
    have p7 := P3.cell 7
    have p8 := P3.cell 8
    have p9 := P3.cell 9
    have p10 := P3.cell 10
    have p11 := P3.cell 11
    simp only [List.getElem?_toArray, List.getElem?_cons_succ, List.getElem?_cons_zero] at p0 p1 p2 p3 p4 p5 p6 p7 p8 p9 p10 p11
    go_wp2_with fail
    clear p0 p1 p2 p3 p4 p5 p6 p7 p8 p9 p10 p11
    refine (refOpEncodeNo k cl sq ak aw tk tw it ct pr bu id _ HA.out hm1).mono ?_
    rintro z w4 ⟨rfl, hb4⟩
    have HO7 : Hid (w4.ownsRow w.heap.size 5 1 (.slice none 0 0) ([] : List Nat).length (flatU [])) := Lib.hid (World.ownsRow_nil _ _ _ _)
    have hs4 := hb4.size
    have P4 := P3.below hb4 (by omega)
    have B4 := B3.trans (hb4.mono (by omega))
    have HO5 := Lib.hid (row_below HO5.out hb4)
    clear P3 B3 hb4
    have hne : ∀ (s : ByteArray) w, (binOp .neq 9 (.string s) (.string s)).run Try.prog w = .ok (.bool false) w := strNe
    have p0 := P4.cell 0
    have p1 := P4.cell 1
    have p2 := P4.cell 2
    have p3 := P4.cell 3
    have p4 := P4.cell 4
    have p5 := P4.cell 5
    have p6 := P4.cell 6
    have p7 := P4.cell 7
    have p8 := P4.cell 8
    have p9 := P4.cell 9
    have p10 := P4.cell 10
    have p11 := P4.cell 11
    simp only [List.getElem?_toArray, List.getElem?_cons_succ, List.getElem?_cons_zero] at p0 p1 p2 p3 p4 p5 p6 p7 p8 p9 p10 p11
    go_wp2_with fail
    refine wp_region_held_drew (S := (fun W => Below w4.heap.size w4 W ∧ (convert 27 9 (.slice none 0 0)).run Try.prog W = .ok (.string (strU [])) W ∧ (convert 27 9 (.slice none 0 0)).run Try.prog W = .ok (.string (strU [])) W ∧ W.cell? ⟨w.heap.size, 0, none⟩ = some (.int .i64 k) ∧ W.cell? ⟨w.heap.size, 1, none⟩ = some (.int .i64 cl) ∧ W.cell? ⟨w.heap.size, 2, none⟩ = some (.int .i64 sq) ∧ W.cell? ⟨w.heap.size, 3, none⟩ = some (.string ak) ∧ W.cell? ⟨w.heap.size, 4, none⟩ = some (.string aw) ∧ W.cell? ⟨w.heap.size, 5, none⟩ = some (.string tk) ∧ W.cell? ⟨w.heap.size, 6, none⟩ = some (.string tw) ∧ W.cell? ⟨w.heap.size, 7, none⟩ = some (.int .i64 it) ∧ W.cell? ⟨w.heap.size, 8, none⟩ = some (.int .i64 ct) ∧ W.cell? ⟨w.heap.size, 9, none⟩ = some (.int .i64 pr) ∧ W.cell? ⟨w.heap.size, 10, none⟩ = some (.bool bu) ∧ W.cell? ⟨w.heap.size, 11, none⟩ = some (.int .i64 id))) (by kernel_rfl) ⟨(Below.refl _ _).drew, conv_own (row_below HO5.out (Below.refl _ _).drew), conv_own (row_below HO7.out (Below.refl _ _).drew), p0, p1, p2, p3, p4, p5, p6, p7, p8, p9, p10, p11⟩ (fun hHeld => ?_)
    refine wpAnyH_take (i := 0) (oi := ⟨some 21, _, _, _, _, _⟩) (v := ?v0false) rfl (by kernel_rfl) (by kernel_rfl) (by kernel_rfl) (fun _ _ _ h => h) (Or.inl ⟨by rfl, ?y0false⟩) (by assumption) ?r0false
    case y0false => (intro w hSw; (try dsimp only at hSw); (try go_split_ands); go_simp); (try with_reducible rfl)
    case r0false =>
    (try simp only [Act.put, List.setIfInBounds_toArray, List.set_cons_zero, List.set_cons_succ])
    refine wpAnyH_take (i := 1) (oi := ⟨some 22, _, _, _, _, _⟩) (v := ?v1false) rfl (by kernel_rfl) (by kernel_rfl) (by kernel_rfl) (fun _ _ _ h => h) (Or.inl ⟨by rfl, ?y1false⟩) (by assumption) ?r1false
    case y1false => (intro w hSw; (try dsimp only at hSw); (try go_split_ands); go_simp); (try with_reducible rfl)
    case r1false =>
    (try simp only [Act.put, List.setIfInBounds_toArray, List.set_cons_zero, List.set_cons_succ])
    refine wpAnyH_take (i := 2) (oi := ⟨some 23, _, _, _, _, _⟩) (v := ?v2false) rfl (by kernel_rfl) (by kernel_rfl) (by kernel_rfl) (fun _ _ _ h => h) (Or.inl ⟨by rfl, ?y2false⟩) (by assumption) ?r2false
    case y2false => (intro w hSw; (try dsimp only at hSw); (try go_split_ands); go_simp); (try with_reducible rfl)
    case r2false =>
    (try simp only [Act.put, List.setIfInBounds_toArray, List.set_cons_zero, List.set_cons_succ])
    refine wpAnyH_take (i := 3) (oi := ⟨some 24, _, _, _, _, _⟩) (v := ?v3false) rfl (by kernel_rfl) (by kernel_rfl) (by kernel_rfl) (fun _ _ _ h => h) (Or.inl ⟨by rfl, ?y3false⟩) (by assumption) ?r3false
    case y3false => (intro w hSw; (try dsimp only at hSw); (try go_split_ands); go_simp); (try with_reducible rfl)
    case r3false =>
    (try simp only [Act.put, List.setIfInBounds_toArray, List.set_cons_zero, List.set_cons_succ])
    refine wpAnyH_take (i := 4) (oi := ⟨some 25, _, _, _, _, _⟩) (v := ?v4false) rfl (by kernel_rfl) (by kernel_rfl) (by kernel_rfl) (fun _ _ _ h => h) (Or.inl ⟨by rfl, ?y4false⟩) (by assumption) ?r4false
    case y4false => (intro w hSw; (try dsimp only at hSw); (try go_split_ands); go_simp); (try with_reducible rfl)
    case r4false =>
    (try simp only [Act.put, List.setIfInBounds_toArray, List.set_cons_zero, List.set_cons_succ])
    refine wpAnyH_take (i := 5) (oi := ⟨some 26, _, _, _, _, _⟩) (v := ?v5false) rfl (by kernel_rfl) (by kernel_rfl) (by kernel_rfl) (fun _ _ _ h => h) (Or.inl ⟨by rfl, ?y5false⟩) (by assumption) ?r5false
    case y5false => (intro w hSw; (try dsimp only at hSw); (try go_split_ands); go_simp); (try with_reducible rfl)
    case r5false =>
    (try simp only [Act.put, List.setIfInBounds_toArray, List.set_cons_zero, List.set_cons_succ])
    refine wpAnyH_take (i := 6) (oi := ⟨some 27, _, _, _, _, _⟩) (v := ?v6false) rfl (by kernel_rfl) (by kernel_rfl) (by kernel_rfl) (fun _ _ _ h => h) (Or.inl ⟨by rfl, ?y6false⟩) (by assumption) ?r6false
    case y6false => (intro w hSw; (try dsimp only at hSw); (try go_split_ands); go_simp); (try with_reducible rfl)
    case r6false =>
    (try simp only [Act.put, List.setIfInBounds_toArray, List.set_cons_zero, List.set_cons_succ])
    refine wpAnyH_take (i := 7) (oi := ⟨some 28, _, _, _, _, _⟩) (v := ?v7false) rfl (by kernel_rfl) (by kernel_rfl) (by kernel_rfl) (fun _ _ _ h => h) (Or.inl ⟨by rfl, ?y7false⟩) (by assumption) ?r7false
    case y7false => (intro w hSw; (try dsimp only at hSw); (try go_split_ands); go_simp); (try with_reducible rfl)
    case r7false =>
    (try simp only [Act.put, List.setIfInBounds_toArray, List.set_cons_zero, List.set_cons_succ])
    refine wpAnyH_take (i := 8) (oi := ⟨some 29, _, _, _, _, _⟩) (v := ?v8false) rfl (by kernel_rfl) (by kernel_rfl) (by kernel_rfl) (fun _ _ _ h => h) (Or.inl ⟨by rfl, ?y8false⟩) (by assumption) ?r8false
    case y8false => (intro w hSw; (try dsimp only at hSw); (try go_split_ands); go_simp); (try with_reducible rfl)
    case r8false =>
    (try simp only [Act.put, List.setIfInBounds_toArray, List.set_cons_zero, List.set_cons_succ])
    refine wpAnyH_take (i := 9) (oi := ⟨some 30, _, _, _, _, _⟩) (v := ?v9false) rfl (by kernel_rfl) (by kernel_rfl) (by kernel_rfl) (fun _ _ _ h => h) (Or.inl ⟨by rfl, ?y9false⟩) (by assumption) ?r9false
    case y9false => (intro w hSw; (try dsimp only at hSw); (try go_split_ands); go_simp); (try with_reducible rfl)
    case r9false =>
    (try simp only [Act.put, List.setIfInBounds_toArray, List.set_cons_zero, List.set_cons_succ])
    refine wpAnyH_take (i := 10) (oi := ⟨some 31, _, _, _, _, _⟩) (v := ?v10false) rfl (by kernel_rfl) (by kernel_rfl) (by kernel_rfl) (fun _ _ _ h => h) (Or.inl ⟨by rfl, ?y10false⟩) (by assumption) ?r10false
    case y10false => (intro w hSw; (try dsimp only at hSw); (try go_split_ands); go_simp); (try with_reducible rfl)
    case r10false =>
    (try simp only [Act.put, List.setIfInBounds_toArray, List.set_cons_zero, List.set_cons_succ])
    refine wpAnyH_take (i := 11) (oi := ⟨some 32, _, _, _, _, _⟩) (v := ?v11false) rfl (by kernel_rfl) (by kernel_rfl) (by kernel_rfl) (fun _ _ _ h => h) (Or.inl ⟨by rfl, ?y11false⟩) (by assumption) ?r11false
    case y11false => (intro w hSw; (try dsimp only at hSw); (try go_split_ands); go_simp); (try with_reducible rfl)
    case r11false =>
    (try simp only [Act.put, List.setIfInBounds_toArray, List.set_cons_zero, List.set_cons_succ])
    refine wpAnyH_take (i := 13) (oi := ⟨some 34, _, _, _, _, _⟩) (v := ?v13false) rfl (by kernel_rfl) (by kernel_rfl) (by kernel_rfl) (fun _ _ _ h => h) (Or.inl ⟨by rfl, ?y13false⟩) (by assumption) ?r13false
    case y13false => (intro w hSw; (try dsimp only at hSw); (try go_split_ands); go_simp); (try with_reducible rfl)
    case r13false =>
    (try simp only [Act.put, List.setIfInBounds_toArray, List.set_cons_zero, List.set_cons_succ])
    refine wpAnyH_take (i := 14) (oi := ⟨some 35, _, _, _, _, _⟩) (v := ?v14false) rfl (by kernel_rfl) (by kernel_rfl) (by kernel_rfl) (fun _ _ _ h => h) (Or.inl ⟨by rfl, ?y14false⟩) (by assumption) ?r14false
    case y14false => (intro w hSw; (try dsimp only at hSw); (try go_split_ands); go_simp); (try with_reducible rfl)
    case r14false =>
    (try simp only [Act.put, List.setIfInBounds_toArray, List.set_cons_zero, List.set_cons_succ])
    refine wpAnyH_ready (rs := [12]) (by kernel_rfl) (by simp) ?_
    refine AllReadyH.cons (o := ⟨some 33, _, _, _, _, _⟩) rfl (fun K hK => ?_) AllReadyH.nil
    go_simp
    refine (codeMay k cl sq ak aw tk tw it ct pr bu id HA.out _).mono ?_
    rintro z w8 ⟨hz, hb8⟩
    rw [hm1] at hz
    subst hz
    have hb3 := hHeld.1.trans (hb8.mono hHeld.1.size)
    go_wp2_with fail
    refine hK.out _ _ ⟨hb3, conv_own (row_below HO5.out hb3), conv_own (row_below HO7.out hb3), bkeep hb3 p0 (by omega), bkeep hb3 p1 (by omega), bkeep hb3 p2 (by omega), bkeep hb3 p3 (by omega), bkeep hb3 p4 (by omega), bkeep hb3 p5 (by omega), bkeep hb3 p6 (by omega), bkeep hb3 p7 (by omega), bkeep hb3 p8 (by omega), bkeep hb3 p9 (by omega), bkeep hb3 p10 (by omega), bkeep hb3 p11 (by omega)⟩ (fun hHeld => ?_)
    clear hK K
    (try simp only [Act.put, List.setIfInBounds_toArray, List.set_cons_zero, List.set_cons_succ])
    refine wpAnyH_take (i := 15) (oi := ⟨some 36, _, _, _, _, _⟩) (v := ?v15false) rfl (by kernel_rfl) (by kernel_rfl) (by kernel_rfl) (fun _ _ _ h => h) (Or.inl ⟨by rfl, ?y15false⟩) (by assumption) ?r15false
    case y15false => (intro w hSw; (try dsimp only at hSw); (try go_split_ands); go_simp); (try with_reducible rfl)
    case r15false =>
    (try simp only [Act.put, List.setIfInBounds_toArray, List.set_cons_zero, List.set_cons_succ])
    refine wpAnyH_take (i := 16) (oi := ⟨some 37, _, _, _, _, _⟩) (v := ?v16false) rfl (by kernel_rfl) (by kernel_rfl) (by kernel_rfl) (fun _ _ _ h => h) (Or.inl ⟨by rfl, ?y16false⟩) (by assumption) ?r16false
    case y16false => (intro w hSw; (try dsimp only at hSw); (try go_split_ands); go_simp); (try with_reducible rfl)
    case r16false =>
    (try simp only [Act.put, List.setIfInBounds_toArray, List.set_cons_zero, List.set_cons_succ])
    refine wpAnyH_take (i := 17) (oi := ⟨some 38, _, _, _, _, _⟩) (v := ?v17false) rfl (by kernel_rfl) (by kernel_rfl) (by kernel_rfl) (fun _ _ _ h => h) (Or.inl ⟨by rfl, ?y17false⟩) (by assumption) ?r17false
    case y17false => (intro w hSw; (try dsimp only at hSw); (try go_split_ands); go_simp); (try with_reducible rfl)
    case r17false =>
    (try simp only [Act.put, List.setIfInBounds_toArray, List.set_cons_zero, List.set_cons_succ])
    refine wpAnyH_take (i := 18) (oi := ⟨some 39, _, _, _, _, _⟩) (v := ?v18false) rfl (by kernel_rfl) (by kernel_rfl) (by kernel_rfl) (fun _ _ _ h => h) (Or.inl ⟨by rfl, ?y18false⟩) (by assumption) ?r18false
    case y18false => (intro w hSw; (try dsimp only at hSw); (try go_split_ands); go_simp); (try with_reducible rfl)
    case r18false =>
    (try simp only [Act.put, List.setIfInBounds_toArray, List.set_cons_zero, List.set_cons_succ])
    refine wpAnyH_take (i := 20) (oi := ⟨some 41, _, _, _, _, _⟩) (v := ?v20false) rfl (by kernel_rfl) (by kernel_rfl) (by kernel_rfl) (fun _ _ _ h => h) (Or.inl ⟨by rfl, ?y20false⟩) (by assumption) ?r20false
    case y20false => (intro w hSw; (try dsimp only at hSw); (try go_split_ands); go_simp); (try with_reducible rfl)
    case r20false =>
    (try simp only [Act.put, List.setIfInBounds_toArray, List.set_cons_zero, List.set_cons_succ])
    refine wpAnyH_take (i := 21) (oi := ⟨some 42, _, _, _, _, _⟩) (v := ?v21false) rfl (by kernel_rfl) (by kernel_rfl) (by kernel_rfl) (fun _ _ _ h => h) (Or.inl ⟨by rfl, ?y21false⟩) (by assumption) ?r21false
    case y21false => (intro w hSw; (try dsimp only at hSw); (try go_split_ands); go_simp); (try with_reducible rfl)
    case r21false =>
    (try simp only [Act.put, List.setIfInBounds_toArray, List.set_cons_zero, List.set_cons_succ])
    refine wpAnyH_take (i := 22) (oi := ⟨some 43, _, _, _, _, _⟩) (v := ?v22false) rfl (by kernel_rfl) (by kernel_rfl) (by kernel_rfl) (fun _ _ _ h => h) (Or.inl ⟨by rfl, ?y22false⟩) (by assumption) ?r22false
    case y22false => (intro w hSw; (try dsimp only at hSw); (try go_split_ands); go_simp); (try with_reducible rfl)
    case r22false =>
    (try simp only [Act.put, List.setIfInBounds_toArray, List.set_cons_zero, List.set_cons_succ])
    refine wpAnyH_ready (rs := [19]) (by kernel_rfl) (by simp) ?_
    refine AllReadyH.cons (o := ⟨some 40, _, _, _, _, _⟩) rfl (fun K hK => ?_) AllReadyH.nil
    go_simp
    refine (opKey k cl sq ak aw tk tw it ct pr bu id _).mono ?_
    rintro z w8 ⟨rfl, hb8⟩
    have hb3 := hHeld.1.trans (hb8.mono hHeld.1.size)
    go_wp2_with fail
    refine hK.out _ _ ⟨hb3, conv_own (row_below HO5.out hb3), conv_own (row_below HO7.out hb3), bkeep hb3 p0 (by omega), bkeep hb3 p1 (by omega), bkeep hb3 p2 (by omega), bkeep hb3 p3 (by omega), bkeep hb3 p4 (by omega), bkeep hb3 p5 (by omega), bkeep hb3 p6 (by omega), bkeep hb3 p7 (by omega), bkeep hb3 p8 (by omega), bkeep hb3 p9 (by omega), bkeep hb3 p10 (by omega), bkeep hb3 p11 (by omega)⟩ (fun hHeld => ?_)
    clear hK K
    (try simp only [Act.put, List.setIfInBounds_toArray, List.set_cons_zero, List.set_cons_succ])
    refine wpAnyH_take (i := 23) (oi := ⟨some 44, _, _, _, _, _⟩) (v := ?v23false) rfl (by kernel_rfl) (by kernel_rfl) (by kernel_rfl) (fun _ _ _ h => h) (Or.inl ⟨by rfl, ?y23false⟩) (by assumption) ?r23false
    case y23false => (intro w hSw; (try dsimp only at hSw); (try go_split_ands); go_simp); (try with_reducible rfl)
    case r23false =>
    (try simp only [Act.put, List.setIfInBounds_toArray, List.set_cons_zero, List.set_cons_succ])
    refine wpAnyH_take (i := 24) (oi := ⟨some 45, _, _, _, _, _⟩) (v := ?v24false) rfl (by kernel_rfl) (by kernel_rfl) (by kernel_rfl) (fun _ _ _ h => h) (Or.inl ⟨by rfl, ?y24false⟩) (by assumption) ?r24false
    case y24false => (intro w hSw; (try dsimp only at hSw); (try go_split_ands); go_simp); (try with_reducible rfl)
    case r24false =>
    (try simp only [Act.put, List.setIfInBounds_toArray, List.set_cons_zero, List.set_cons_succ])
    refine wpAnyH_done (by kernel_rfl) ?_ _
    go_wp2_with fail
    have hq := hHeld.1.size
    refine (opDecode none 0 [] _ (by simp) (by simp) ⟨rfl, fun _ => ⟨rfl, rfl⟩, fun j u hu => by simp [flatU] at hu⟩).mono ?_
    rintro z w7 ⟨hz, hb7⟩
    rw [HBACK.out] at hz
    subst hz
    have hs7 := hb7.size
    have P7 := (P4.below hHeld.1 (by omega)).below hb7 (by omega)
    have B7 := (B4.trans (hHeld.1.mono (by omega))).trans (hb7.mono (by omega))
    clear p0 p1 p2 p3 p4 p5 p6 p7 p8 p9 p10 p11
    have Z8 : Whl (w7.alloc (.cells #[.int .i64 x0, .int .i64 x1, .int .i64 x2, .string s3, .string s4, .string s5, .string s6, .int .i64 x7, .int .i64 x8, .int .i64 x9, .bool b10, .int .i64 x11] 25)) w7.heap.size 25 #[.int .i64 x0, .int .i64 x1, .int .i64 x2, .string s3, .string s4, .string s5, .string s6, .int .i64 x7, .int .i64 x8, .int .i64 x9, .bool b10, .int .i64 x11] := Whl.new rfl
    have P8 := P7.alloc (.cells #[.int .i64 x0, .int .i64 x1, .int .i64 x2, .string s3, .string s4, .string s5, .string s6, .int .i64 x7, .int .i64 x8, .int .i64 x9, .bool b10, .int .i64 x11] 25)
    have B8 := B7.alloc (by omega) (.cells #[.int .i64 x0, .int .i64 x1, .int .i64 x2, .string s3, .string s4, .string s5, .string s6, .int .i64 x7, .int .i64 x8, .int .i64 x9, .bool b10, .int .i64 x11] 25)
    clear P4 B4 P7 B7 hb7
    have p0 := P8.cell 0
    have p1 := P8.cell 1
    have p2 := P8.cell 2
    have p3 := P8.cell 3
    have p4 := P8.cell 4
    have p5 := P8.cell 5
    have p6 := P8.cell 6
    have p7 := P8.cell 7
    have p8 := P8.cell 8
    have p9 := P8.cell 9
    have p10 := P8.cell 10
    have p11 := P8.cell 11
    simp only [List.getElem?_toArray, List.getElem?_cons_succ, List.getElem?_cons_zero] at p0 p1 p2 p3 p4 p5 p6 p7 p8 p9 p10 p11
    have zz0 := Z8.cell 0
    have zz1 := Z8.cell 1
    have zz2 := Z8.cell 2
    have zz3 := Z8.cell 3
    have zz4 := Z8.cell 4
    have zz5 := Z8.cell 5
    have zz6 := Z8.cell 6
    have zz7 := Z8.cell 7
    have zz8 := Z8.cell 8
    have zz9 := Z8.cell 9
    have zz10 := Z8.cell 10
    have zz11 := Z8.cell 11
    simp only [List.getElem?_toArray, List.getElem?_cons_succ, List.getElem?_cons_zero] at zz0 zz1 zz2 zz3 zz4 zz5 zz6 zz7 zz8 zz9 zz10 zz11
    go_wp2_with fail
    refine (KN.out _).mono ?_
    rintro z w9 ⟨rfl, hb9⟩
    go_wp2_with fail
    go_ret
    exact ⟨rfl, B8.trans (hb9.mono (by simp; omega))⟩
  · have HBACK0 := op_back hm1
    have hxb := opBs_byte k cl sq ak aw tk tw it ct pr bu id
    have hxl := opBs_len k cl sq ak aw tk tw it ct pr bu id hm1
    obtain ⟨X, hX⟩ : ∃ X, X = opBs k cl sq ak aw tk tw it ct pr bu id := ⟨_, rfl⟩
    rw [← hX] at HBACK0 hxb hxl
    have HXE := Lib.hid hX.symm
    have HBACK := Lib.hid HBACK0
    have HXB := Lib.hid hxb
    clear HBACK0 hxb hX
    have p0 := P1.cell 0
    have p1 := P1.cell 1
    have p2 := P1.cell 2
    have p3 := P1.cell 3
    have p4 := P1.cell 4
    have p5 := P1.cell 5
    have p6 := P1.cell 6
    have p7 := P1.cell 7
    have p8 := P1.cell 8
    have p9 := P1.cell 9
    have p10 := P1.cell 10
    have p11 := P1.cell 11
    simp only [List.getElem?_toArray, List.getElem?_cons_succ, List.getElem?_cons_zero] at p0 p1 p2 p3 p4 p5 p6 p7 p8 p9 p10 p11
    go_wp2_with fail
    clear p0 p1 p2 p3 p4 p5 p6 p7 p8 p9 p10 p11
    refine (codeEncode k cl sq ak aw tk tw it ct pr bu id HA.out hm1 _).mono ?_
    rintro z w3 ⟨v5, rfl, hown5, hb3⟩
    rw [HXE.out] at hown5
    obtain ⟨A5, c5, rfl, hc5, hm5, hx5⟩ := row_cells hown5
    have HO5 := Lib.hid hown5
    have HX5 := Lib.hid hx5
    clear hown5 hx5
    have hs3 := hb3.size
    have P3 := P1.below hb3 (by omega)
    have B3 := B1.trans (hb3.mono (by omega))
    clear P1 B1 hb3
    have p0 := P3.cell 0
    have p1 := P3.cell 1
    have p2 := P3.cell 2
    have p3 := P3.cell 3
    have p4 := P3.cell 4
    have p5 := P3.cell 5
    have p6 := P3.cell 6
    have p7 := P3.cell 7
    have p8 := P3.cell 8
    have p9 := P3.cell 9
    have p10 := P3.cell 10
    have p11 := P3.cell 11
    simp only [List.getElem?_toArray, List.getElem?_cons_succ, List.getElem?_cons_zero] at p0 p1 p2 p3 p4 p5 p6 p7 p8 p9 p10 p11
    go_wp2_with fail
    clear p0 p1 p2 p3 p4 p5 p6 p7 p8 p9 p10 p11
    refine (refOpEncode k cl sq ak aw tk tw it ct pr bu id _ HA.out hm1).mono ?_
    rintro z w4 ⟨v7, rfl, hown7, hb4⟩
    rw [HXE.out] at hown7
    obtain ⟨A7, c7, rfl, hc7, hm7, hx7⟩ := row_cells hown7
    have HO7 := Lib.hid hown7
    have HX7 := Lib.hid hx7
    clear hown7 hx7
    have hs4 := hb4.size
    have P4 := P3.below hb4 (by omega)
    have B4 := B3.trans (hb4.mono (by omega))
    have HO5 := Lib.hid (row_below HO5.out hb4)
    have HX5 := Lib.hid (cells_keep HX5.out hb4 hb4.size)
    clear P3 B3 hb4
    have hne : ∀ (s : ByteArray) w, (binOp .neq 9 (.string s) (.string s)).run Try.prog w = .ok (.bool false) w := strNe
    have p0 := P4.cell 0
    have p1 := P4.cell 1
    have p2 := P4.cell 2
    have p3 := P4.cell 3
    have p4 := P4.cell 4
    have p5 := P4.cell 5
    have p6 := P4.cell 6
    have p7 := P4.cell 7
    have p8 := P4.cell 8
    have p9 := P4.cell 9
    have p10 := P4.cell 10
    have p11 := P4.cell 11
    simp only [List.getElem?_toArray, List.getElem?_cons_succ, List.getElem?_cons_zero] at p0 p1 p2 p3 p4 p5 p6 p7 p8 p9 p10 p11
    go_wp2_with fail
    refine wp_region_held_drew (S := (fun W => Below w4.heap.size w4 W ∧ (convert 27 9 (.slice A5 X.length c5)).run Try.prog W = .ok (.string (strU X)) W ∧ (convert 27 9 (.slice A7 X.length c7)).run Try.prog W = .ok (.string (strU X)) W ∧ W.cell? ⟨w.heap.size, 0, none⟩ = some (.int .i64 k) ∧ W.cell? ⟨w.heap.size, 1, none⟩ = some (.int .i64 cl) ∧ W.cell? ⟨w.heap.size, 2, none⟩ = some (.int .i64 sq) ∧ W.cell? ⟨w.heap.size, 3, none⟩ = some (.string ak) ∧ W.cell? ⟨w.heap.size, 4, none⟩ = some (.string aw) ∧ W.cell? ⟨w.heap.size, 5, none⟩ = some (.string tk) ∧ W.cell? ⟨w.heap.size, 6, none⟩ = some (.string tw) ∧ W.cell? ⟨w.heap.size, 7, none⟩ = some (.int .i64 it) ∧ W.cell? ⟨w.heap.size, 8, none⟩ = some (.int .i64 ct) ∧ W.cell? ⟨w.heap.size, 9, none⟩ = some (.int .i64 pr) ∧ W.cell? ⟨w.heap.size, 10, none⟩ = some (.bool bu) ∧ W.cell? ⟨w.heap.size, 11, none⟩ = some (.int .i64 id))) (by kernel_rfl) ⟨(Below.refl _ _).drew, conv_own (row_below HO5.out (Below.refl _ _).drew), conv_own (row_below HO7.out (Below.refl _ _).drew), p0, p1, p2, p3, p4, p5, p6, p7, p8, p9, p10, p11⟩ (fun hHeld => ?_)
    refine wpAnyH_take (i := 0) (oi := ⟨some 21, _, _, _, _, _⟩) (v := ?v0true) rfl (by kernel_rfl) (by kernel_rfl) (by kernel_rfl) (fun _ _ _ h => h) (Or.inl ⟨by rfl, ?y0true⟩) (by assumption) ?r0true
    case y0true => (intro w hSw; (try dsimp only at hSw); (try go_split_ands); go_simp); (try with_reducible rfl)
    case r0true =>
    (try simp only [Act.put, List.setIfInBounds_toArray, List.set_cons_zero, List.set_cons_succ])
    refine wpAnyH_take (i := 1) (oi := ⟨some 22, _, _, _, _, _⟩) (v := ?v1true) rfl (by kernel_rfl) (by kernel_rfl) (by kernel_rfl) (fun _ _ _ h => h) (Or.inl ⟨by rfl, ?y1true⟩) (by assumption) ?r1true
    case y1true => (intro w hSw; (try dsimp only at hSw); (try go_split_ands); go_simp); (try with_reducible rfl)
    case r1true =>
    (try simp only [Act.put, List.setIfInBounds_toArray, List.set_cons_zero, List.set_cons_succ])
    refine wpAnyH_take (i := 2) (oi := ⟨some 23, _, _, _, _, _⟩) (v := ?v2true) rfl (by kernel_rfl) (by kernel_rfl) (by kernel_rfl) (fun _ _ _ h => h) (Or.inl ⟨by rfl, ?y2true⟩) (by assumption) ?r2true
    case y2true => (intro w hSw; (try dsimp only at hSw); (try go_split_ands); go_simp); (try with_reducible rfl)
    case r2true =>
    (try simp only [Act.put, List.setIfInBounds_toArray, List.set_cons_zero, List.set_cons_succ])
    refine wpAnyH_take (i := 3) (oi := ⟨some 24, _, _, _, _, _⟩) (v := ?v3true) rfl (by kernel_rfl) (by kernel_rfl) (by kernel_rfl) (fun _ _ _ h => h) (Or.inl ⟨by rfl, ?y3true⟩) (by assumption) ?r3true
    case y3true => (intro w hSw; (try dsimp only at hSw); (try go_split_ands); go_simp); (try with_reducible rfl)
    case r3true =>
    (try simp only [Act.put, List.setIfInBounds_toArray, List.set_cons_zero, List.set_cons_succ])
    refine wpAnyH_take (i := 4) (oi := ⟨some 25, _, _, _, _, _⟩) (v := ?v4true) rfl (by kernel_rfl) (by kernel_rfl) (by kernel_rfl) (fun _ _ _ h => h) (Or.inl ⟨by rfl, ?y4true⟩) (by assumption) ?r4true
    case y4true => (intro w hSw; (try dsimp only at hSw); (try go_split_ands); go_simp); (try with_reducible rfl)
    case r4true =>
    (try simp only [Act.put, List.setIfInBounds_toArray, List.set_cons_zero, List.set_cons_succ])
    refine wpAnyH_take (i := 5) (oi := ⟨some 26, _, _, _, _, _⟩) (v := ?v5true) rfl (by kernel_rfl) (by kernel_rfl) (by kernel_rfl) (fun _ _ _ h => h) (Or.inl ⟨by rfl, ?y5true⟩) (by assumption) ?r5true
    case y5true => (intro w hSw; (try dsimp only at hSw); (try go_split_ands); go_simp); (try with_reducible rfl)
    case r5true =>
    (try simp only [Act.put, List.setIfInBounds_toArray, List.set_cons_zero, List.set_cons_succ])
    refine wpAnyH_take (i := 6) (oi := ⟨some 27, _, _, _, _, _⟩) (v := ?v6true) rfl (by kernel_rfl) (by kernel_rfl) (by kernel_rfl) (fun _ _ _ h => h) (Or.inl ⟨by rfl, ?y6true⟩) (by assumption) ?r6true
    case y6true => (intro w hSw; (try dsimp only at hSw); (try go_split_ands); go_simp); (try with_reducible rfl)
    case r6true =>
    (try simp only [Act.put, List.setIfInBounds_toArray, List.set_cons_zero, List.set_cons_succ])
    refine wpAnyH_take (i := 7) (oi := ⟨some 28, _, _, _, _, _⟩) (v := ?v7true) rfl (by kernel_rfl) (by kernel_rfl) (by kernel_rfl) (fun _ _ _ h => h) (Or.inl ⟨by rfl, ?y7true⟩) (by assumption) ?r7true
    case y7true => (intro w hSw; (try dsimp only at hSw); (try go_split_ands); go_simp); (try with_reducible rfl)
    case r7true =>
    (try simp only [Act.put, List.setIfInBounds_toArray, List.set_cons_zero, List.set_cons_succ])
    refine wpAnyH_take (i := 8) (oi := ⟨some 29, _, _, _, _, _⟩) (v := ?v8true) rfl (by kernel_rfl) (by kernel_rfl) (by kernel_rfl) (fun _ _ _ h => h) (Or.inl ⟨by rfl, ?y8true⟩) (by assumption) ?r8true
    case y8true => (intro w hSw; (try dsimp only at hSw); (try go_split_ands); go_simp); (try with_reducible rfl)
    case r8true =>
    (try simp only [Act.put, List.setIfInBounds_toArray, List.set_cons_zero, List.set_cons_succ])
    refine wpAnyH_take (i := 9) (oi := ⟨some 30, _, _, _, _, _⟩) (v := ?v9true) rfl (by kernel_rfl) (by kernel_rfl) (by kernel_rfl) (fun _ _ _ h => h) (Or.inl ⟨by rfl, ?y9true⟩) (by assumption) ?r9true
    case y9true => (intro w hSw; (try dsimp only at hSw); (try go_split_ands); go_simp); (try with_reducible rfl)
    case r9true =>
    (try simp only [Act.put, List.setIfInBounds_toArray, List.set_cons_zero, List.set_cons_succ])
    refine wpAnyH_take (i := 10) (oi := ⟨some 31, _, _, _, _, _⟩) (v := ?v10true) rfl (by kernel_rfl) (by kernel_rfl) (by kernel_rfl) (fun _ _ _ h => h) (Or.inl ⟨by rfl, ?y10true⟩) (by assumption) ?r10true
    case y10true => (intro w hSw; (try dsimp only at hSw); (try go_split_ands); go_simp); (try with_reducible rfl)
    case r10true =>
    (try simp only [Act.put, List.setIfInBounds_toArray, List.set_cons_zero, List.set_cons_succ])
    refine wpAnyH_take (i := 11) (oi := ⟨some 32, _, _, _, _, _⟩) (v := ?v11true) rfl (by kernel_rfl) (by kernel_rfl) (by kernel_rfl) (fun _ _ _ h => h) (Or.inl ⟨by rfl, ?y11true⟩) (by assumption) ?r11true
    case y11true => (intro w hSw; (try dsimp only at hSw); (try go_split_ands); go_simp); (try with_reducible rfl)
    case r11true =>
    (try simp only [Act.put, List.setIfInBounds_toArray, List.set_cons_zero, List.set_cons_succ])
    refine wpAnyH_take (i := 13) (oi := ⟨some 34, _, _, _, _, _⟩) (v := ?v13true) rfl (by kernel_rfl) (by kernel_rfl) (by kernel_rfl) (fun _ _ _ h => h) (Or.inl ⟨by rfl, ?y13true⟩) (by assumption) ?r13true
    case y13true => (intro w hSw; (try dsimp only at hSw); (try go_split_ands); go_simp); (try with_reducible rfl)
    case r13true =>
    (try simp only [Act.put, List.setIfInBounds_toArray, List.set_cons_zero, List.set_cons_succ])
    refine wpAnyH_take (i := 14) (oi := ⟨some 35, _, _, _, _, _⟩) (v := ?v14true) rfl (by kernel_rfl) (by kernel_rfl) (by kernel_rfl) (fun _ _ _ h => h) (Or.inl ⟨by rfl, ?y14true⟩) (by assumption) ?r14true
    case y14true => (intro w hSw; (try dsimp only at hSw); (try go_split_ands); go_simp); (try with_reducible rfl)
    case r14true =>
    (try simp only [Act.put, List.setIfInBounds_toArray, List.set_cons_zero, List.set_cons_succ])
    refine wpAnyH_ready (rs := [12]) (by kernel_rfl) (by simp) ?_
    refine AllReadyH.cons (o := ⟨some 33, _, _, _, _, _⟩) rfl (fun K hK => ?_) AllReadyH.nil
    go_simp
    refine (codeMay k cl sq ak aw tk tw it ct pr bu id HA.out _).mono ?_
    rintro z w8 ⟨hz, hb8⟩
    rw [hm1] at hz
    subst hz
    have hb3 := hHeld.1.trans (hb8.mono hHeld.1.size)
    go_wp2_with fail
    refine hK.out _ _ ⟨hb3, conv_own (row_below HO5.out hb3), conv_own (row_below HO7.out hb3), bkeep hb3 p0 (by omega), bkeep hb3 p1 (by omega), bkeep hb3 p2 (by omega), bkeep hb3 p3 (by omega), bkeep hb3 p4 (by omega), bkeep hb3 p5 (by omega), bkeep hb3 p6 (by omega), bkeep hb3 p7 (by omega), bkeep hb3 p8 (by omega), bkeep hb3 p9 (by omega), bkeep hb3 p10 (by omega), bkeep hb3 p11 (by omega)⟩ (fun hHeld => ?_)
    clear hK K
    (try simp only [Act.put, List.setIfInBounds_toArray, List.set_cons_zero, List.set_cons_succ])
    refine wpAnyH_take (i := 15) (oi := ⟨some 36, _, _, _, _, _⟩) (v := ?v15true) rfl (by kernel_rfl) (by kernel_rfl) (by kernel_rfl) (fun _ _ _ h => h) (Or.inl ⟨by rfl, ?y15true⟩) (by assumption) ?r15true
    case y15true => (intro w hSw; (try dsimp only at hSw); (try go_split_ands); go_simp); (try with_reducible rfl)
    case r15true =>
    (try simp only [Act.put, List.setIfInBounds_toArray, List.set_cons_zero, List.set_cons_succ])
    refine wpAnyH_take (i := 16) (oi := ⟨some 37, _, _, _, _, _⟩) (v := ?v16true) rfl (by kernel_rfl) (by kernel_rfl) (by kernel_rfl) (fun _ _ _ h => h) (Or.inl ⟨by rfl, ?y16true⟩) (by assumption) ?r16true
    case y16true => (intro w hSw; (try dsimp only at hSw); (try go_split_ands); go_simp); (try with_reducible rfl)
    case r16true =>
    (try simp only [Act.put, List.setIfInBounds_toArray, List.set_cons_zero, List.set_cons_succ])
    refine wpAnyH_take (i := 17) (oi := ⟨some 38, _, _, _, _, _⟩) (v := ?v17true) rfl (by kernel_rfl) (by kernel_rfl) (by kernel_rfl) (fun _ _ _ h => h) (Or.inl ⟨by rfl, ?y17true⟩) (by assumption) ?r17true
    case y17true => (intro w hSw; (try dsimp only at hSw); (try go_split_ands); go_simp); (try with_reducible rfl)
    case r17true =>
    (try simp only [Act.put, List.setIfInBounds_toArray, List.set_cons_zero, List.set_cons_succ])
    refine wpAnyH_take (i := 18) (oi := ⟨some 39, _, _, _, _, _⟩) (v := ?v18true) rfl (by kernel_rfl) (by kernel_rfl) (by kernel_rfl) (fun _ _ _ h => h) (Or.inl ⟨by rfl, ?y18true⟩) (by assumption) ?r18true
    case y18true => (intro w hSw; (try dsimp only at hSw); (try go_split_ands); go_simp); (try with_reducible rfl)
    case r18true =>
    (try simp only [Act.put, List.setIfInBounds_toArray, List.set_cons_zero, List.set_cons_succ])
    refine wpAnyH_take (i := 20) (oi := ⟨some 41, _, _, _, _, _⟩) (v := ?v20true) rfl (by kernel_rfl) (by kernel_rfl) (by kernel_rfl) (fun _ _ _ h => h) (Or.inl ⟨by rfl, ?y20true⟩) (by assumption) ?r20true
    case y20true => (intro w hSw; (try dsimp only at hSw); (try go_split_ands); go_simp); (try with_reducible rfl)
    case r20true =>
    (try simp only [Act.put, List.setIfInBounds_toArray, List.set_cons_zero, List.set_cons_succ])
    refine wpAnyH_take (i := 21) (oi := ⟨some 42, _, _, _, _, _⟩) (v := ?v21true) rfl (by kernel_rfl) (by kernel_rfl) (by kernel_rfl) (fun _ _ _ h => h) (Or.inl ⟨by rfl, ?y21true⟩) (by assumption) ?r21true
    case y21true => (intro w hSw; (try dsimp only at hSw); (try go_split_ands); go_simp); (try with_reducible rfl)
    case r21true =>
    (try simp only [Act.put, List.setIfInBounds_toArray, List.set_cons_zero, List.set_cons_succ])
    refine wpAnyH_take (i := 22) (oi := ⟨some 43, _, _, _, _, _⟩) (v := ?v22true) rfl (by kernel_rfl) (by kernel_rfl) (by kernel_rfl) (fun _ _ _ h => h) (Or.inl ⟨by rfl, ?y22true⟩) (by assumption) ?r22true
    case y22true => (intro w hSw; (try dsimp only at hSw); (try go_split_ands); go_simp); (try with_reducible rfl)
    case r22true =>
    (try simp only [Act.put, List.setIfInBounds_toArray, List.set_cons_zero, List.set_cons_succ])
    refine wpAnyH_ready (rs := [19]) (by kernel_rfl) (by simp) ?_
    refine AllReadyH.cons (o := ⟨some 40, _, _, _, _, _⟩) rfl (fun K hK => ?_) AllReadyH.nil
    go_simp
    refine (opKey k cl sq ak aw tk tw it ct pr bu id _).mono ?_
    rintro z w8 ⟨rfl, hb8⟩
    have hb3 := hHeld.1.trans (hb8.mono hHeld.1.size)
    go_wp2_with fail
    refine hK.out _ _ ⟨hb3, conv_own (row_below HO5.out hb3), conv_own (row_below HO7.out hb3), bkeep hb3 p0 (by omega), bkeep hb3 p1 (by omega), bkeep hb3 p2 (by omega), bkeep hb3 p3 (by omega), bkeep hb3 p4 (by omega), bkeep hb3 p5 (by omega), bkeep hb3 p6 (by omega), bkeep hb3 p7 (by omega), bkeep hb3 p8 (by omega), bkeep hb3 p9 (by omega), bkeep hb3 p10 (by omega), bkeep hb3 p11 (by omega)⟩ (fun hHeld => ?_)
    clear hK K
    (try simp only [Act.put, List.setIfInBounds_toArray, List.set_cons_zero, List.set_cons_succ])
    refine wpAnyH_take (i := 23) (oi := ⟨some 44, _, _, _, _, _⟩) (v := ?v23true) rfl (by kernel_rfl) (by kernel_rfl) (by kernel_rfl) (fun _ _ _ h => h) (Or.inl ⟨by rfl, ?y23true⟩) (by assumption) ?r23true
    case y23true => (intro w hSw; (try dsimp only at hSw); (try go_split_ands); go_simp); (try with_reducible rfl)
    case r23true =>
    (try simp only [Act.put, List.setIfInBounds_toArray, List.set_cons_zero, List.set_cons_succ])
    refine wpAnyH_take (i := 24) (oi := ⟨some 45, _, _, _, _, _⟩) (v := ?v24true) rfl (by kernel_rfl) (by kernel_rfl) (by kernel_rfl) (fun _ _ _ h => h) (Or.inl ⟨by rfl, ?y24true⟩) (by assumption) ?r24true
    case y24true => (intro w hSw; (try dsimp only at hSw); (try go_split_ands); go_simp); (try with_reducible rfl)
    case r24true =>
    (try simp only [Act.put, List.setIfInBounds_toArray, List.set_cons_zero, List.set_cons_succ])
    refine wpAnyH_done (by kernel_rfl) ?_ _
    go_wp2_with fail
    have hq := hHeld.1.size
    refine (opDecode A5 c5 X _ (by omega) HXB.out (cells_keep HX5.out hHeld.1 hHeld.1.size)).mono ?_
    rintro z w7 ⟨hz, hb7⟩
    rw [HBACK.out] at hz
    subst hz
    have hs7 := hb7.size
    have P7 := (P4.below hHeld.1 (by omega)).below hb7 (by omega)
    have B7 := (B4.trans (hHeld.1.mono (by omega))).trans (hb7.mono (by omega))
    clear p0 p1 p2 p3 p4 p5 p6 p7 p8 p9 p10 p11
    have Z8 : Whl (w7.alloc (.cells #[.int .i64 k, .int .i64 cl, .int .i64 sq, .string ak, .string aw, .string tk, .string tw, .int .i64 it, .int .i64 ct, .int .i64 pr, .bool bu, .int .i64 id] 25)) w7.heap.size 25 #[.int .i64 k, .int .i64 cl, .int .i64 sq, .string ak, .string aw, .string tk, .string tw, .int .i64 it, .int .i64 ct, .int .i64 pr, .bool bu, .int .i64 id] := Whl.new rfl
    have P8 := P7.alloc (.cells #[.int .i64 k, .int .i64 cl, .int .i64 sq, .string ak, .string aw, .string tk, .string tw, .int .i64 it, .int .i64 ct, .int .i64 pr, .bool bu, .int .i64 id] 25)
    have B8 := B7.alloc (by omega) (.cells #[.int .i64 k, .int .i64 cl, .int .i64 sq, .string ak, .string aw, .string tk, .string tw, .int .i64 it, .int .i64 ct, .int .i64 pr, .bool bu, .int .i64 id] 25)
    clear P4 B4 P7 B7 hb7
    have p0 := P8.cell 0
    have p1 := P8.cell 1
    have p2 := P8.cell 2
    have p3 := P8.cell 3
    have p4 := P8.cell 4
    have p5 := P8.cell 5
    have p6 := P8.cell 6
    have p7 := P8.cell 7
    have p8 := P8.cell 8
    have p9 := P8.cell 9
    have p10 := P8.cell 10
    have p11 := P8.cell 11
    simp only [List.getElem?_toArray, List.getElem?_cons_succ, List.getElem?_cons_zero] at p0 p1 p2 p3 p4 p5 p6 p7 p8 p9 p10 p11
    have zz0 := Z8.cell 0
    have zz1 := Z8.cell 1
    have zz2 := Z8.cell 2
    have zz3 := Z8.cell 3
    have zz4 := Z8.cell 4
    have zz5 := Z8.cell 5
    have zz6 := Z8.cell 6
    have zz7 := Z8.cell 7
    have zz8 := Z8.cell 8
    have zz9 := Z8.cell 9
    have zz10 := Z8.cell 10
    have zz11 := Z8.cell 11
    simp only [List.getElem?_toArray, List.getElem?_cons_succ, List.getElem?_cons_zero] at zz0 zz1 zz2 zz3 zz4 zz5 zz6 zz7 zz8 zz9 zz10 zz11
    go_wp2_with fail
    refine (KN.out _).mono ?_
    rintro z w9 ⟨rfl, hb9⟩
    go_wp2_with fail
    go_ret
    exact ⟨rfl, B8.trans (hb9.mono (by simp; omega))⟩
end Go.Proofs.Ytblknjclkecglaa
