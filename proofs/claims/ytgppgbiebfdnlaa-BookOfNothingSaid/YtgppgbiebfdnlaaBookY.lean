/- book: Place of the second order. -/
import Derived.Test.YtgppgbiebfdnlaaBookX
namespace Go.Proofs.Ytgppgbiebfdnlaa
open Go.RowKit
set_option linter.unusedVariables false
set_option linter.unusedSimpArgs false

theorem Try.infoTrade : (Try.prog.info? 101).map (fun i => (i.zero, i.size, i.bytes)) = some (some (.agg #[.string ⟨#[]⟩, .string ⟨#[]⟩, .int .i64 0, .int .i64 0, .int .i64 0, .int .i64 0, .int .i64 0, .int .i64 0]), 8, 80) := by kernel_rfl
theorem trade_cells {w : World} {e : TypeId} : Cells (w.alloc (.cells #[Value.string ⟨#[98]⟩, Value.string ⟨#[97]⟩, Value.int .i64 2, Value.int .i64 1, Value.int .i64 1, Value.int .i64 2, Value.int .i64 5, Value.int .i64 7] e)) (w.alloc (.cells #[Value.string ⟨#[98]⟩, Value.string ⟨#[97]⟩, Value.int .i64 2, Value.int .i64 1, Value.int .i64 1, Value.int .i64 2, Value.int .i64 5, Value.int .i64 7] e)).heap.size (some ⟨w.heap.size, 0, none⟩) 1 1 8 [Value.string ⟨#[98]⟩, Value.string ⟨#[97]⟩, Value.int .i64 2, Value.int .i64 1, Value.int .i64 1, Value.int .i64 2, Value.int .i64 5, Value.int .i64 7] := by
  refine ⟨rfl, (fun e => by cases e), ?_⟩
  intro j u hu
  refine ⟨w.heap.size, 0, rfl, by simp, ?_⟩
  rw [Nat.zero_add, cell_of_row _ _ _ _ _ _ (heap_alloc_new w _)]
  simpa using hu
theorem trade_one : ∀ u ∈ ([Value.string ⟨#[98]⟩, Value.string ⟨#[97]⟩, Value.int .i64 2, Value.int .i64 1, Value.int .i64 1, Value.int .i64 2, Value.int .i64 5, Value.int .i64 7] : List Value), u.oneCell' = true := by
  intro u hu
  simp only [List.mem_cons, List.not_mem_nil, or_false] at hu
  rcases hu with rfl | rfl | rfl | rfl | rfl | rfl | rfl | rfl <;> rfl
/-- an order of six cells at block g -/
structure Six (w : World) (g : Nat) : Prop where
  c0 : w.cell? ⟨g, 0, none⟩ = some (Value.int .i64 1)
  c1 : w.cell? ⟨g, 1, none⟩ = some (Value.string ⟨#[97]⟩)
  c2 : w.cell? ⟨g, 2, none⟩ = some (Value.bool false)
  c3 : w.cell? ⟨g, 3, none⟩ = some (Value.int .i64 1)
  c4 : w.cell? ⟨g, 4, none⟩ = some (Value.int .i64 3)
  c5 : w.cell? ⟨g, 5, none⟩ = some (Value.int .i64 5)
  free : w.frozen? ⟨g, 4, none⟩ = false
  low : g < w.heap.size
theorem Six.touch {w w' : World} {D : Nat → Prop} {g : Nat} (h : Six w g) (hb : Touch D w w') (hB : ¬ D g) : Six w' g :=
  ⟨hb.cell h.c0 hB, hb.cell h.c1 hB, hb.cell h.c2 hB, hb.cell h.c3 hB, hb.cell h.c4 hB, hb.cell h.c5 hB, hb.frozen h.low h.free hB, Nat.lt_of_lt_of_le h.low hb.size⟩
theorem Six.of_own {w : World} {base g cap : Nat} (h : w.ownsRow base 23 6 (.slice (some ⟨g, 0, none⟩) 1 cap) 1 [Value.int .i64 1, Value.string ⟨#[97]⟩, Value.bool false, Value.int .i64 1, Value.int .i64 3, Value.int .i64 5]) : Six w g := by
  have hc : ∀ j u, ([Value.int .i64 1, Value.string ⟨#[97]⟩, Value.bool false, Value.int .i64 1, Value.int .i64 3, Value.int .i64 5] : List Value)[j]? = some u → w.cell? ⟨g, j, none⟩ = some u := by
    intro j u hu
    have := h.cells (g := g) rfl j u hu
    rw [add_none, Nat.zero_add] at this
    exact this
  refine ⟨hc 0 _ rfl, hc 1 _ rfl, hc 2 _ rfl, hc 3 _ rfl, hc 4 _ rfl, hc 5 _ rfl, ?_, (h.lt g rfl).2⟩
  rcases h.2 with ⟨hv, _⟩ | ⟨g', cap', cur, hv, _, hh, _⟩
  · cases hv
  · injection hv with hv; injection hv with hv; injection hv with hv
    subst hv
    simp [World.frozen?, hh]

set_option maxHeartbeats 4000000 in
set_option maxRecDepth 10000 in
theorem place2 (b g cap : Nat) (w : World) (h : Bk w b (.slice (some ⟨g, 0, none⟩) 1 cap) 1) (h6 : Six w g) (hgb : g ≠ b) (hcap : 1 ≤ cap) :
    Calls Try.prog 11 #[.pointer (some ⟨b, 0, none⟩), .agg #[Value.int .i64 2, Value.string ⟨#[98]⟩, Value.bool true, Value.int .i64 1, Value.int .i64 2, Value.int .i64 7]] w fun e w' => ∃ t c, e = .returned (.tuple #[.slice (some ⟨t, 0, none⟩) 1 c, .int .i64 0, .int .i64 0]) ∧ w'.ownsRow w.heap.size 101 8 (.slice (some ⟨t, 0, none⟩) 1 c) 1 [Value.string ⟨#[98]⟩, Value.string ⟨#[97]⟩, Value.int .i64 2, Value.int .i64 1, Value.int .i64 1, Value.int .i64 2, Value.int .i64 5, Value.int .i64 7] ∧ Touch (fun x => x = b ∨ x = g) w w' := by
  obtain ⟨i0, hi, hz0, hz1, hz2⟩ := info_parts Try.infoTrade
  have hlow := h.low
  have hglow := h6.low
  have HB := Lib.hid h
  have H6 := Lib.hid h6
  clear h h6
  go_enter Try.func11, Try.ntmps11
  go_wp2_with fail
  have hB0 : Below w.heap.size w (w.alloc (.cells #[Value.int .i64 2, Value.string ⟨#[98]⟩, Value.bool true, Value.int .i64 1, Value.int .i64 2, Value.int .i64 7] 23)) := (Below.refl _ _).alloc (Nat.le_refl _) _
  have P0 : Whl (w.alloc (.cells #[Value.int .i64 2, Value.string ⟨#[98]⟩, Value.bool true, Value.int .i64 1, Value.int .i64 2, Value.int .i64 7] 23)) w.heap.size 23 #[Value.int .i64 2, Value.string ⟨#[98]⟩, Value.bool true, Value.int .i64 1, Value.int .i64 2, Value.int .i64 7] := Whl.new rfl
  have hs0 : w.heap.size < (w.alloc (.cells #[Value.int .i64 2, Value.string ⟨#[98]⟩, Value.bool true, Value.int .i64 1, Value.int .i64 2, Value.int .i64 7] 23)).heap.size := by simp
  generalize w.alloc (.cells #[Value.int .i64 2, Value.string ⟨#[98]⟩, Value.bool true, Value.int .i64 1, Value.int .i64 2, Value.int .i64 7] 23) = V at *
  have HB0 := Lib.hid (HB.out.below hB0 hlow)
  have k8 := HB0.out.last
  have d0 := P0.cell 0
  have d1 := P0.cell 1
  have d2 := P0.cell 2
  have d3 := P0.cell 3
  have d4 := P0.cell 4
  have d5 := P0.cell 5
  simp only [List.getElem?_toArray, List.getElem?_cons_succ, List.getElem?_cons_zero] at d0 d1 d2 d3 d4 d5
  have hkeep : ∀ W, Below V.heap.size V W → (Below V.heap.size V W ∧ W.cell? ⟨b, 8, none⟩ = some (.int .i64 1) ∧ W.cell? ⟨w.heap.size, 0, none⟩ = some (Value.int .i64 2) ∧ W.cell? ⟨w.heap.size, 1, none⟩ = some (Value.string ⟨#[98]⟩) ∧ W.cell? ⟨w.heap.size, 2, none⟩ = some (Value.bool true) ∧ W.cell? ⟨w.heap.size, 3, none⟩ = some (Value.int .i64 1) ∧ W.cell? ⟨w.heap.size, 4, none⟩ = some (Value.int .i64 2) ∧ W.cell? ⟨w.heap.size, 5, none⟩ = some (Value.int .i64 7)) := fun W hh => ⟨hh, bkeep hh k8 (by omega), bkeep hh d0 (by omega), bkeep hh d1 (by omega), bkeep hh d2 (by omega), bkeep hh d3 (by omega), bkeep hh d4 (by omega), bkeep hh d5 (by omega)⟩
  refine wp_region_held_drew (S := (fun W => Below V.heap.size V W ∧ W.cell? ⟨b, 8, none⟩ = some (.int .i64 1) ∧ W.cell? ⟨w.heap.size, 0, none⟩ = some (Value.int .i64 2) ∧ W.cell? ⟨w.heap.size, 1, none⟩ = some (Value.string ⟨#[98]⟩) ∧ W.cell? ⟨w.heap.size, 2, none⟩ = some (Value.bool true) ∧ W.cell? ⟨w.heap.size, 3, none⟩ = some (Value.int .i64 1) ∧ W.cell? ⟨w.heap.size, 4, none⟩ = some (Value.int .i64 2) ∧ W.cell? ⟨w.heap.size, 5, none⟩ = some (Value.int .i64 7))) (by kernel_rfl) (hkeep _ (Below.refl _ _).drew) (fun hHeld => ?_)
  refine wpAnyH_take (i := 0) (oi := ⟨some 12, _, _, _, _, _⟩) (v := ?v0a) rfl (by kernel_rfl) (by kernel_rfl) (by kernel_rfl) (fun _ _ _ h => h) (Or.inl ⟨by rfl, ?y0a⟩) (by assumption) ?r0a
  case y0a => (intro w hSw; (try dsimp only at hSw); (try go_split_ands); go_simp); (try with_reducible rfl)
  case r0a =>
  (try simp only [Act.put, List.setIfInBounds_toArray, List.set_cons_zero, List.set_cons_succ])
  refine wpAnyH_take (i := 1) (oi := ⟨some 13, _, _, _, _, _⟩) (v := ?v1a) rfl (by kernel_rfl) (by kernel_rfl) (by kernel_rfl) (fun _ _ _ h => h) (Or.inl ⟨by rfl, ?y1a⟩) (by assumption) ?r1a
  case y1a => (intro w hSw; (try dsimp only at hSw); (try go_split_ands); go_simp); (try with_reducible rfl)
  case r1a =>
  (try simp only [Act.put, List.setIfInBounds_toArray, List.set_cons_zero, List.set_cons_succ])
  refine wpAnyH_take (i := 2) (oi := ⟨some 14, _, _, _, _, _⟩) (v := ?v2a) rfl (by kernel_rfl) (by kernel_rfl) (by kernel_rfl) (fun _ _ _ h => h) (Or.inl ⟨by rfl, ?y2a⟩) (by assumption) ?r2a
  case y2a => (intro w hSw; (try dsimp only at hSw); (try go_split_ands); go_simp); (try with_reducible rfl)
  case r2a =>
  (try simp only [Act.put, List.setIfInBounds_toArray, List.set_cons_zero, List.set_cons_succ])
  refine wpAnyH_take (i := 3) (oi := ⟨some 15, _, _, _, _, _⟩) (v := ?v3a) rfl (by kernel_rfl) (by kernel_rfl) (by kernel_rfl) (fun _ _ _ h => h) (Or.inl ⟨by rfl, ?y3a⟩) (by assumption) ?r3a
  case y3a => (intro w hSw; (try dsimp only at hSw); (try go_split_ands); go_simp); (try with_reducible rfl)
  case r3a =>
  (try simp only [Act.put, List.setIfInBounds_toArray, List.set_cons_zero, List.set_cons_succ])
  refine wpAnyH_ready (rs := [4]) (by kernel_rfl) (by simp) ?_
  refine AllReadyH.cons (o := ⟨some 16, _, _, _, _, _⟩) rfl (fun K hK => ?_) AllReadyH.nil
  go_simp
  refine (bkMay 2 1 2 7 ⟨#[98]⟩ true _ (by decide) (by decide) (by decide) (by decide) (by decide) (by decide) (by decide) (by decide) (by decide) (by decide)).mono ?_
  rintro e wc ⟨rfl, hbc⟩
  have hb3 := hHeld.1.trans (hbc.mono hHeld.1.size)
  have hsc := hbc.size
  go_wp2_with fail
  refine hK.out _ _ (hkeep _ hb3) (fun hHeld => ?_)
  clear hK K
  (try simp only [Act.put, List.setIfInBounds_toArray, List.set_cons_zero, List.set_cons_succ])
  refine wpAnyH_take (i := 5) (oi := ⟨some 17, _, _, _, _, _⟩) (v := ?v5a) rfl (by kernel_rfl) (by kernel_rfl) (by kernel_rfl) (fun _ _ _ h => h) (Or.inl ⟨by rfl, ?y5a⟩) (by assumption) ?r5a
  case y5a => (intro w hSw; (try dsimp only at hSw); (try go_split_ands); go_simp); (try with_reducible rfl)
  case r5a =>
  (try simp only [Act.put, List.setIfInBounds_toArray, List.set_cons_zero, List.set_cons_succ])
  refine wpAnyH_take (i := 6) (oi := ⟨some 18, _, _, _, _, _⟩) (v := ?v6a) rfl (by kernel_rfl) (by kernel_rfl) (by kernel_rfl) (fun _ _ _ h => h) (Or.inl ⟨by rfl, ?y6a⟩) (by assumption) ?r6a
  case y6a => (intro w hSw; (try dsimp only at hSw); (try go_split_ands); go_simp); (try with_reducible rfl)
  case r6a =>
  (try simp only [Act.put, List.setIfInBounds_toArray, List.set_cons_zero, List.set_cons_succ])
  refine wpAnyH_take (i := 7) (oi := ⟨some 19, _, _, _, _, _⟩) (v := ?v7a) rfl (by kernel_rfl) (by kernel_rfl) (by kernel_rfl) (fun _ _ _ h => h) (Or.inl ⟨by rfl, ?y7a⟩) (by assumption) ?r7a
  case y7a => (intro w hSw; (try dsimp only at hSw); (try go_split_ands); go_simp); (try with_reducible rfl)
  case r7a =>
  (try simp only [Act.put, List.setIfInBounds_toArray, List.set_cons_zero, List.set_cons_succ])
  refine wpAnyH_take (i := 8) (oi := ⟨some 20, _, _, _, _, _⟩) (v := ?v8a) rfl (by kernel_rfl) (by kernel_rfl) (by kernel_rfl) (fun _ _ _ h => h) (Or.inl ⟨by rfl, ?y8a⟩) (by assumption) ?r8a
  case y8a => (intro w hSw; (try dsimp only at hSw); (try go_split_ands); go_simp); (try with_reducible rfl)
  case r8a =>
  (try simp only [Act.put, List.setIfInBounds_toArray, List.set_cons_zero, List.set_cons_succ])
  refine wpAnyH_take (i := 9) (oi := ⟨some 21, _, _, _, _, _⟩) (v := ?v9a) rfl (by kernel_rfl) (by kernel_rfl) (by kernel_rfl) (fun _ _ _ h => h) (Or.inl ⟨by rfl, ?y9a⟩) (by assumption) ?r9a
  case y9a => (intro w hSw; (try dsimp only at hSw); (try go_split_ands); go_simp); (try with_reducible rfl)
  case r9a =>
  (try simp only [Act.put, List.setIfInBounds_toArray, List.set_cons_zero, List.set_cons_succ])
  refine wpAnyH_take (i := 10) (oi := ⟨some 22, _, _, _, _, _⟩) (v := ?v10a) rfl (by kernel_rfl) (by kernel_rfl) (by kernel_rfl) (fun _ _ _ h => h) (Or.inl ⟨by rfl, ?y10a⟩) (by assumption) ?r10a
  case y10a => (intro w hSw; (try dsimp only at hSw); (try go_split_ands); go_simp); (try with_reducible rfl)
  case r10a =>
  (try simp only [Act.put, List.setIfInBounds_toArray, List.set_cons_zero, List.set_cons_succ])
  refine wpAnyH_take (i := 11) (oi := ⟨some 23, _, _, _, _, _⟩) (v := ?v11a) rfl (by kernel_rfl) (by kernel_rfl) (by kernel_rfl) (fun _ _ _ h => h) (Or.inl ⟨by rfl, ?y11a⟩) (by assumption) ?r11a
  case y11a => (intro w hSw; (try dsimp only at hSw); (try go_split_ands); go_simp); (try with_reducible rfl)
  case r11a =>
  (try simp only [Act.put, List.setIfInBounds_toArray, List.set_cons_zero, List.set_cons_succ])
  refine wpAnyH_take (i := 12) (oi := ⟨some 24, _, _, _, _, _⟩) (v := ?v12a) rfl (by kernel_rfl) (by kernel_rfl) (by kernel_rfl) (fun _ _ _ h => h) (Or.inl ⟨by rfl, ?y12a⟩) (by assumption) ?r12a
  case y12a => (intro w hSw; (try dsimp only at hSw); (try go_split_ands); go_simp); (try with_reducible rfl)
  case r12a =>
  (try simp only [Act.put, List.setIfInBounds_toArray, List.set_cons_zero, List.set_cons_succ])
  refine wpAnyH_take (i := 13) (oi := ⟨some 25, _, _, _, _, _⟩) (v := ?v13a) rfl (by kernel_rfl) (by kernel_rfl) (by kernel_rfl) (fun _ _ _ h => h) (Or.inl ⟨by rfl, ?y13a⟩) (by assumption) ?r13a
  case y13a => (intro w hSw; (try dsimp only at hSw); (try go_split_ands); go_simp); (try with_reducible rfl)
  case r13a =>
  (try simp only [Act.put, List.setIfInBounds_toArray, List.set_cons_zero, List.set_cons_succ])
  refine wpAnyH_take (i := 14) (oi := ⟨some 26, _, _, _, _, _⟩) (v := ?v14a) rfl (by kernel_rfl) (by kernel_rfl) (by kernel_rfl) (fun _ _ _ h => h) (Or.inl ⟨by rfl, ?y14a⟩) (by assumption) ?r14a
  case y14a => (intro w hSw; (try dsimp only at hSw); (try go_split_ands); go_simp); (try with_reducible rfl)
  case r14a =>
  (try simp only [Act.put, List.setIfInBounds_toArray, List.set_cons_zero, List.set_cons_succ])
  refine wpAnyH_take (i := 15) (oi := ⟨some 27, _, _, _, _, _⟩) (v := ?v15a) rfl (by kernel_rfl) (by kernel_rfl) (by kernel_rfl) (fun _ _ _ h => h) (Or.inl ⟨by rfl, ?y15a⟩) (by assumption) ?r15a
  case y15a => (intro w hSw; (try dsimp only at hSw); (try go_split_ands); go_simp); (try with_reducible rfl)
  case r15a =>
  (try simp only [Act.put, List.setIfInBounds_toArray, List.set_cons_zero, List.set_cons_succ])
  refine wpAnyH_done (by kernel_rfl) ?_ _
  go_wp2_with fail
  have hbw := hHeld.1
  have hBc := HB0.out.below hbw (by omega)
  clear hHeld hkeep d0 d1 d2 d3 d4 d5 k8
  refine (bkLen b _ (hBc.few (by omega)) hBc.low).mono ?_
  rintro e w2 ⟨n, hn, rfl, hb2⟩
  have HB2 := Lib.hid (hBc.below hb2 hBc.low)
  have hbc2 : Below V.heap.size V w2 := hbw.trans (hb2.mono hbw.size)
  have P2 := P0.below hbc2 (by omega)
  have hs2 := hbc2.size
  clear hBc hbw hb2 hbc
  have hn32 : ¬ ((32 : Int) ≤ (n : Int)) := by omega
  have k8 := HB2.out.last
  have f8 := HB2.out.free 8
  have d0 := P2.cell 0
  simp only [List.getElem?_toArray, List.getElem?_cons_succ, List.getElem?_cons_zero] at d0
  go_wp2_with fail
  have HB3 := Lib.hid (HB2.out.setLast 2)
  have P3 : Whl (w2.setCell ⟨b, 8, none⟩ (.int .i64 2)) w.heap.size 23 #[Value.int .i64 2, Value.string ⟨#[98]⟩, Value.bool true, Value.int .i64 1, Value.int .i64 2, Value.int .i64 7] := P2.far (by show w.heap.size ≠ b; omega)
  have ht3 : Touch (fun x => x = b) w2 (w2.setCell ⟨b, 8, none⟩ (.int .i64 2)) := (Touch.refl _ _).set (fun _ => rfl)
  have hz3 : (w2.setCell ⟨b, 8, none⟩ (.int .i64 2)).heap.size = w2.heap.size := by simp [World.setCell]
  generalize w2.setCell ⟨b, 8, none⟩ (.int .i64 2) = V3 at *
  clear k8 f8 d0
  have d0 := P3.cell 0
  have d1 := P3.cell 1
  have d2 := P3.cell 2
  have d3 := P3.cell 3
  have d4 := P3.cell 4
  have d5 := P3.cell 5
  simp only [List.getElem?_toArray, List.getElem?_cons_succ, List.getElem?_cons_zero] at d0 d1 d2 d3 d4 d5
  go_quiet (fail)
  go_wp2_with fail
  have HB4 : Hid (Bk (V3.drewN nq) b (.slice (some ⟨g, 0, none⟩) 1 cap) 2) := Lib.hid (HB3.out.below (b_drewN (Below.refl V3.heap.size V3)) (by have := HB3.out.low; omega))
  have P4 : Whl (V3.drewN nq) w.heap.size 23 #[Value.int .i64 2, Value.string ⟨#[98]⟩, Value.bool true, Value.int .i64 1, Value.int .i64 2, Value.int .i64 7] := P3
  have ht4 : Touch (fun x => x = b) w2 (V3.drewN nq) := ht3.drewN nq
  have hz4 : (V3.drewN nq).heap.size = w2.heap.size := hz3
  generalize V3.drewN nq = V4 at *
  clear d0 d1 d2 d3 d4 d5 P3 ht3 hz3 HB3
  have hh := hB0.trans (hbc2.mono (by omega))
  have t1 : Touch (fun x => x = b) w w2 := ⟨hh.os, hh.tape, hh.output, hh.size, fun q hq _ => hh.block q hq⟩
  have t4 : Touch (fun x => x = b) w V4 := t1.trans ht4 (fun _ _ h => h)
  have H64 := Lib.hid (H6.out.touch t4 hgb)
  have hs4 := t4.size
  clear hh t1 ht4
  have k5 := HB4.out.five
  obtain ⟨e0, e1, e2, e3, e4, e5, fg4, hg4⟩ := H64.out
  have d0 := P4.cell 0
  have d1 := P4.cell 1
  have d2 := P4.cell 2
  have d3 := P4.cell 3
  have d4 := P4.cell 4
  have d5 := P4.cell 5
  simp only [List.getElem?_toArray, List.getElem?_cons_succ, List.getElem?_cons_zero] at d0 d1 d2 d3 d4 d5
  refine wp_loop_rounds 2 ?_; rw [rounds_succ]
  go_wp2_with fail
  have hqs : w.heap.size < V4.heap.size := by omega
  have hbs : b < V4.heap.size := by omega
  have hkeep : ∀ W, Below V4.heap.size V4 W → (Below V4.heap.size V4 W ∧ W.cell? ⟨b, 5, none⟩ = some (.slice (some ⟨g, 0, none⟩) 1 cap) ∧ (W.cell? ⟨w.heap.size, 0, none⟩ = some (Value.int .i64 2) ∧ W.cell? ⟨w.heap.size, 1, none⟩ = some (Value.string ⟨#[98]⟩) ∧ W.cell? ⟨w.heap.size, 2, none⟩ = some (Value.bool true) ∧ W.cell? ⟨w.heap.size, 3, none⟩ = some (Value.int .i64 1) ∧ W.cell? ⟨w.heap.size, 4, none⟩ = some (Value.int .i64 2) ∧ W.cell? ⟨w.heap.size, 5, none⟩ = some (Value.int .i64 7)) ∧ W.cell? ⟨g, 0, none⟩ = some (Value.int .i64 1) ∧ W.cell? ⟨g, 1, none⟩ = some (Value.string ⟨#[97]⟩) ∧ W.cell? ⟨g, 2, none⟩ = some (Value.bool false) ∧ W.cell? ⟨g, 3, none⟩ = some (Value.int .i64 1) ∧ W.cell? ⟨g, 4, none⟩ = some (Value.int .i64 3) ∧ W.cell? ⟨g, 5, none⟩ = some (Value.int .i64 5)) := fun W hh => ⟨hh, bkeep hh k5 (by omega), ⟨bkeep hh d0 (by omega), bkeep hh d1 (by omega), bkeep hh d2 (by omega), bkeep hh d3 (by omega), bkeep hh d4 (by omega), bkeep hh d5 (by omega)⟩, bkeep hh e0 (by omega), bkeep hh e1 (by omega), bkeep hh e2 (by omega), bkeep hh e3 (by omega), bkeep hh e4 (by omega), bkeep hh e5 (by omega)⟩
  refine wp_region_held_drew (S := (fun W => Below V4.heap.size V4 W ∧ W.cell? ⟨b, 5, none⟩ = some (.slice (some ⟨g, 0, none⟩) 1 cap) ∧ (W.cell? ⟨w.heap.size, 0, none⟩ = some (Value.int .i64 2) ∧ W.cell? ⟨w.heap.size, 1, none⟩ = some (Value.string ⟨#[98]⟩) ∧ W.cell? ⟨w.heap.size, 2, none⟩ = some (Value.bool true) ∧ W.cell? ⟨w.heap.size, 3, none⟩ = some (Value.int .i64 1) ∧ W.cell? ⟨w.heap.size, 4, none⟩ = some (Value.int .i64 2) ∧ W.cell? ⟨w.heap.size, 5, none⟩ = some (Value.int .i64 7)) ∧ W.cell? ⟨g, 0, none⟩ = some (Value.int .i64 1) ∧ W.cell? ⟨g, 1, none⟩ = some (Value.string ⟨#[97]⟩) ∧ W.cell? ⟨g, 2, none⟩ = some (Value.bool false) ∧ W.cell? ⟨g, 3, none⟩ = some (Value.int .i64 1) ∧ W.cell? ⟨g, 4, none⟩ = some (Value.int .i64 3) ∧ W.cell? ⟨g, 5, none⟩ = some (Value.int .i64 5))) (by kernel_rfl) (hkeep _ (Below.refl _ _).drew) (fun hHeld => ?_)
  refine wpAnyH_take (i := 0) (oi := ⟨some 52, _, _, _, _, _⟩) (v := ?v0b) rfl (by kernel_rfl) (by kernel_rfl) (by kernel_rfl) (fun _ _ _ h => h) (Or.inl ⟨by rfl, ?y0b⟩) (by assumption) ?r0b
  case y0b => (intro w hSw; (try dsimp only at hSw); (try go_split_ands); go_simp); (try with_reducible rfl)
  case r0b =>
  (try simp only [Act.put, List.setIfInBounds_toArray, List.set_cons_zero, List.set_cons_succ])
  refine wpAnyH_take (i := 1) (oi := ⟨some 53, _, _, _, _, _⟩) (v := ?v1b) rfl (by kernel_rfl) (by kernel_rfl) (by kernel_rfl) (fun _ _ _ h => h) (Or.inl ⟨by rfl, ?y1b⟩) (by assumption) ?r1b
  case y1b => (intro w hSw; (try dsimp only at hSw); (try go_split_ands); go_simp); (try with_reducible rfl)
  case r1b =>
  (try simp only [Act.put, List.setIfInBounds_toArray, List.set_cons_zero, List.set_cons_succ])
  refine wpAnyH_take (i := 2) (oi := ⟨some 54, _, _, _, _, _⟩) (v := ?v2b) rfl (by kernel_rfl) (by kernel_rfl) (by kernel_rfl) (fun _ _ _ h => h) (Or.inl ⟨by rfl, ?y2b⟩) (by assumption) ?r2b
  case y2b => (intro w hSw; (try dsimp only at hSw); (try go_split_ands); go_simp); (try with_reducible rfl)
  case r2b =>
  (try simp only [Act.put, List.setIfInBounds_toArray, List.set_cons_zero, List.set_cons_succ])
  refine wpAnyH_take (i := 3) (oi := ⟨some 55, _, _, _, _, _⟩) (v := ?v3b) rfl (by kernel_rfl) (by kernel_rfl) (by kernel_rfl) (fun _ _ _ h => h) (Or.inl ⟨by rfl, ?y3b⟩) (by assumption) ?r3b
  case y3b => (intro w hSw; (try dsimp only at hSw); (try go_split_ands); go_simp); (try with_reducible rfl)
  case r3b =>
  (try simp only [Act.put, List.setIfInBounds_toArray, List.set_cons_zero, List.set_cons_succ])
  refine wpAnyH_take (i := 4) (oi := ⟨some 56, _, _, _, _, _⟩) (v := ?v4b) rfl (by kernel_rfl) (by kernel_rfl) (by kernel_rfl) (fun _ _ _ h => h) (Or.inl ⟨by rfl, ?y4b⟩) (by assumption) ?r4b
  case y4b => (intro w hSw; (try dsimp only at hSw); (try go_split_ands); go_simp); (try with_reducible rfl)
  case r4b =>
  (try simp only [Act.put, List.setIfInBounds_toArray, List.set_cons_zero, List.set_cons_succ])
  refine wpAnyH_take (i := 5) (oi := ⟨some 57, _, _, _, _, _⟩) (v := ?v5b) rfl (by kernel_rfl) (by kernel_rfl) (by kernel_rfl) (fun _ _ _ h => h) (Or.inl ⟨by rfl, ?y5b⟩) (by assumption) ?r5b
  case y5b => (intro w hSw; (try dsimp only at hSw); (try go_split_ands); go_simp); (try with_reducible rfl)
  case r5b =>
  (try simp only [Act.put, List.setIfInBounds_toArray, List.set_cons_zero, List.set_cons_succ])
  refine wpAnyH_take (i := 6) (oi := ⟨some 58, _, _, _, _, _⟩) (v := ?v6b) rfl (by kernel_rfl) (by kernel_rfl) (by kernel_rfl) (fun _ _ _ h => h) (Or.inl ⟨by rfl, ?y6b⟩) (by assumption) ?r6b
  case y6b => (intro w hSw; (try dsimp only at hSw); (try go_split_ands); go_simp); (try with_reducible rfl)
  case r6b =>
  (try simp only [Act.put, List.setIfInBounds_toArray, List.set_cons_zero, List.set_cons_succ])
  refine wpAnyH_take (i := 7) (oi := ⟨some 59, _, _, _, _, _⟩) (v := ?v7b) rfl (by kernel_rfl) (by kernel_rfl) (by kernel_rfl) (fun _ _ _ h => h) (Or.inl ⟨by rfl, ?y7b⟩) (by assumption) ?r7b
  case y7b => (intro w hSw; (try dsimp only at hSw); (try go_split_ands); go_simp); (try with_reducible rfl)
  case r7b =>
  (try simp only [Act.put, List.setIfInBounds_toArray, List.set_cons_zero, List.set_cons_succ])
  refine wpAnyH_take (i := 8) (oi := ⟨some 60, _, _, _, _, _⟩) (v := ?v8b) rfl (by kernel_rfl) (by kernel_rfl) (by kernel_rfl) (fun _ _ _ h => h) (Or.inl ⟨by rfl, ?y8b⟩) (by assumption) ?r8b
  case y8b => (intro w hSw; (try dsimp only at hSw); (try go_split_ands); go_simp); (try with_reducible rfl)
  case r8b =>
  (try simp only [Act.put, List.setIfInBounds_toArray, List.set_cons_zero, List.set_cons_succ])
  refine wpAnyH_take (i := 9) (oi := ⟨some 61, _, _, _, _, _⟩) (v := ?v9b) rfl (by kernel_rfl) (by kernel_rfl) (by kernel_rfl) (fun _ _ _ h => h) (Or.inl ⟨by rfl, ?y9b⟩) (by assumption) ?r9b
  case y9b => (intro w hSw; (try dsimp only at hSw); (try go_split_ands); go_simp); (try with_reducible rfl)
  case r9b =>
  (try simp only [Act.put, List.setIfInBounds_toArray, List.set_cons_zero, List.set_cons_succ])
  refine wpAnyH_take (i := 10) (oi := ⟨some 62, _, _, _, _, _⟩) (v := ?v10b) rfl (by kernel_rfl) (by kernel_rfl) (by kernel_rfl) (fun _ _ _ h => h) (Or.inl ⟨by rfl, ?y10b⟩) (by assumption) ?r10b
  case y10b => (intro w hSw; (try dsimp only at hSw); (try go_split_ands); go_simp); (try with_reducible rfl)
  case r10b =>
  (try simp only [Act.put, List.setIfInBounds_toArray, List.set_cons_zero, List.set_cons_succ])
  refine wpAnyH_take (i := 11) (oi := ⟨some 63, _, _, _, _, _⟩) (v := ?v11b) rfl (by kernel_rfl) (by kernel_rfl) (by kernel_rfl) (fun _ _ _ h => h) (Or.inl ⟨by rfl, ?y11b⟩) (by assumption) ?r11b
  case y11b => (intro w hSw; (try dsimp only at hSw); (try go_split_ands); go_simp); (try with_reducible rfl)
  case r11b =>
  (try simp only [Act.put, List.setIfInBounds_toArray, List.set_cons_zero, List.set_cons_succ])
  refine wpAnyH_take (i := 12) (oi := ⟨some 64, _, _, _, _, _⟩) (v := ?v12b) rfl (by kernel_rfl) (by kernel_rfl) (by kernel_rfl) (fun _ _ _ h => h) (Or.inl ⟨by rfl, ?y12b⟩) (by assumption) ?r12b
  case y12b => (intro w hSw; (try dsimp only at hSw); (try go_split_ands); go_simp); (try with_reducible rfl)
  case r12b =>
  (try simp only [Act.put, List.setIfInBounds_toArray, List.set_cons_zero, List.set_cons_succ])
  refine wpAnyH_take (i := 13) (oi := ⟨some 65, _, _, _, _, _⟩) (v := ?v13b) rfl (by kernel_rfl) (by kernel_rfl) (by kernel_rfl) (fun _ _ _ h => h) (Or.inl ⟨by rfl, ?y13b⟩) (by assumption) ?r13b
  case y13b => (intro w hSw; (try dsimp only at hSw); (try go_split_ands); go_simp); (try with_reducible rfl)
  case r13b =>
  (try simp only [Act.put, List.setIfInBounds_toArray, List.set_cons_zero, List.set_cons_succ])
  refine wpAnyH_take (i := 14) (oi := ⟨some 66, _, _, _, _, _⟩) (v := ?v14b) rfl (by kernel_rfl) (by kernel_rfl) (by kernel_rfl) (fun _ _ _ h => h) (Or.inl ⟨by rfl, ?y14b⟩) (by assumption) ?r14b
  case y14b => (intro w hSw; (try dsimp only at hSw); (try go_split_ands); go_simp); (try with_reducible rfl)
  case r14b =>
  (try simp only [Act.put, List.setIfInBounds_toArray, List.set_cons_zero, List.set_cons_succ])
  refine wpAnyH_take (i := 15) (oi := ⟨some 67, _, _, _, _, _⟩) (v := ?v15b) rfl (by kernel_rfl) (by kernel_rfl) (by kernel_rfl) (fun _ _ _ h => h) (Or.inl ⟨by rfl, ?y15b⟩) (by assumption) ?r15b
  case y15b => (intro w hSw; (try dsimp only at hSw); (try go_split_ands); go_simp); (try with_reducible rfl)
  case r15b =>
  (try simp only [Act.put, List.setIfInBounds_toArray, List.set_cons_zero, List.set_cons_succ])
  refine wpAnyH_take (i := 16) (oi := ⟨some 68, _, _, _, _, _⟩) (v := ?v16b) rfl (by kernel_rfl) (by kernel_rfl) (by kernel_rfl) (fun _ _ _ h => h) (Or.inl ⟨by rfl, ?y16b⟩) (by assumption) ?r16b
  case y16b => (intro w hSw; (try dsimp only at hSw); (try go_split_ands); go_simp); (try with_reducible rfl)
  case r16b =>
  (try simp only [Act.put, List.setIfInBounds_toArray, List.set_cons_zero, List.set_cons_succ])
  refine wpAnyH_ready (rs := [17]) (by kernel_rfl) (by simp) ?_
  refine AllReadyH.cons (o := ⟨some 69, _, _, _, _, _⟩) rfl (fun K hK => ?_) AllReadyH.nil
  go_simp
  refine (bkMeet 2 1 2 7 1 1 3 5 _ _ _ _ (by decide)).mono ?_
  rintro e wm ⟨rfl, hbm⟩
  have hb3 := hHeld.1.trans (hbm.mono hHeld.1.size)
  have hsm := hbm.size
  go_wp2_with fail
  refine hK.out _ _ (hkeep _ hb3) (fun hHeld => ?_)
  clear hK K
  (try simp only [Act.put, List.setIfInBounds_toArray, List.set_cons_zero, List.set_cons_succ])
  refine wpAnyH_take (i := 18) (oi := ⟨some 70, _, _, _, _, _⟩) (v := ?v18b) rfl (by kernel_rfl) (by kernel_rfl) (by kernel_rfl) (fun _ _ _ h => h) (Or.inl ⟨by rfl, ?y18b⟩) (by assumption) ?r18b
  case y18b => (intro w hSw; (try dsimp only at hSw); (try go_split_ands); go_simp); (try with_reducible rfl)
  case r18b =>
  (try simp only [Act.put, List.setIfInBounds_toArray, List.set_cons_zero, List.set_cons_succ])
  refine wpAnyH_done (by kernel_rfl) ?_ _
  have hbm4 := hHeld.1
  clear hHeld
  have k5m := bkeep hbm4 k5 hbs
  go_wp2_with fail
  refine wp_region_held_drew (S := (fun W => Below V4.heap.size V4 W ∧ W.cell? ⟨b, 5, none⟩ = some (.slice (some ⟨g, 0, none⟩) 1 cap) ∧ (W.cell? ⟨w.heap.size, 0, none⟩ = some (Value.int .i64 2) ∧ W.cell? ⟨w.heap.size, 1, none⟩ = some (Value.string ⟨#[98]⟩) ∧ W.cell? ⟨w.heap.size, 2, none⟩ = some (Value.bool true) ∧ W.cell? ⟨w.heap.size, 3, none⟩ = some (Value.int .i64 1) ∧ W.cell? ⟨w.heap.size, 4, none⟩ = some (Value.int .i64 2) ∧ W.cell? ⟨w.heap.size, 5, none⟩ = some (Value.int .i64 7)) ∧ W.cell? ⟨g, 0, none⟩ = some (Value.int .i64 1) ∧ W.cell? ⟨g, 1, none⟩ = some (Value.string ⟨#[97]⟩) ∧ W.cell? ⟨g, 2, none⟩ = some (Value.bool false) ∧ W.cell? ⟨g, 3, none⟩ = some (Value.int .i64 1) ∧ W.cell? ⟨g, 4, none⟩ = some (Value.int .i64 3) ∧ W.cell? ⟨g, 5, none⟩ = some (Value.int .i64 5))) (by kernel_rfl) (hkeep _ hbm4.drew) (fun hHeld => ?_)
  refine wpAnyH_take (i := 0) (oi := ⟨some 75, _, _, _, _, _⟩) (v := ?v0c) rfl (by kernel_rfl) (by kernel_rfl) (by kernel_rfl) (fun _ _ _ h => h) (Or.inl ⟨by rfl, ?y0c⟩) (by assumption) ?r0c
  case y0c => (intro w hSw; (try dsimp only at hSw); (try go_split_ands); go_simp); (try with_reducible rfl)
  case r0c =>
  (try simp only [Act.put, List.setIfInBounds_toArray, List.set_cons_zero, List.set_cons_succ])
  refine wpAnyH_take (i := 1) (oi := ⟨some 76, _, _, _, _, _⟩) (v := ?v1c) rfl (by kernel_rfl) (by kernel_rfl) (by kernel_rfl) (fun _ _ _ h => h) (Or.inl ⟨by rfl, ?y1c⟩) (by assumption) ?r1c
  case y1c => (intro w hSw; (try dsimp only at hSw); (try go_split_ands); go_simp); (try with_reducible rfl)
  case r1c =>
  (try simp only [Act.put, List.setIfInBounds_toArray, List.set_cons_zero, List.set_cons_succ])
  refine wpAnyH_take (i := 2) (oi := ⟨some 77, _, _, _, _, _⟩) (v := ?v2c) rfl (by kernel_rfl) (by kernel_rfl) (by kernel_rfl) (fun _ _ _ h => h) (Or.inl ⟨by rfl, ?y2c⟩) (by assumption) ?r2c
  case y2c => (intro w hSw; (try dsimp only at hSw); (try go_split_ands); go_simp); (try with_reducible rfl)
  case r2c =>
  (try simp only [Act.put, List.setIfInBounds_toArray, List.set_cons_zero, List.set_cons_succ])
  refine wpAnyH_take (i := 3) (oi := ⟨some 78, _, _, _, _, _⟩) (v := ?v3c) rfl (by kernel_rfl) (by kernel_rfl) (by kernel_rfl) (fun _ _ _ h => h) (Or.inl ⟨by rfl, ?y3c⟩) (by assumption) ?r3c
  case y3c => (intro w hSw; (try dsimp only at hSw); (try go_split_ands); go_simp); (try with_reducible rfl)
  case r3c =>
  (try simp only [Act.put, List.setIfInBounds_toArray, List.set_cons_zero, List.set_cons_succ])
  refine wpAnyH_take (i := 4) (oi := ⟨some 79, _, _, _, _, _⟩) (v := ?v4c) rfl (by kernel_rfl) (by kernel_rfl) (by kernel_rfl) (fun _ _ _ h => h) (Or.inl ⟨by rfl, ?y4c⟩) (by assumption) ?r4c
  case y4c => (intro w hSw; (try dsimp only at hSw); (try go_split_ands); go_simp); (try with_reducible rfl)
  case r4c =>
  (try simp only [Act.put, List.setIfInBounds_toArray, List.set_cons_zero, List.set_cons_succ])
  refine wpAnyH_take (i := 5) (oi := ⟨some 80, _, _, _, _, _⟩) (v := ?v5c) rfl (by kernel_rfl) (by kernel_rfl) (by kernel_rfl) (fun _ _ _ h => h) (Or.inl ⟨by rfl, ?y5c⟩) (by assumption) ?r5c
  case y5c => (intro w hSw; (try dsimp only at hSw); (try go_split_ands); go_simp); (try with_reducible rfl)
  case r5c =>
  (try simp only [Act.put, List.setIfInBounds_toArray, List.set_cons_zero, List.set_cons_succ])
  refine wpAnyH_take (i := 6) (oi := ⟨some 81, _, _, _, _, _⟩) (v := .int .i64 2) rfl (by kernel_rfl) (by kernel_rfl) (by kernel_rfl) (fun _ _ _ h => h) (Or.inl ⟨by rfl, ?y6c⟩) (by assumption) ?r6c
  case y6c => (intro w hSw; (try dsimp only at hSw); (try go_split_ands); go_simp)
  case r6c =>
  (try simp only [Act.put, List.setIfInBounds_toArray, List.set_cons_zero, List.set_cons_succ])
  refine wpAnyH_take (i := 7) (oi := ⟨some 11, _, _, _, _, _⟩) (v := ?v7c) rfl (by kernel_rfl) (by kernel_rfl) (by kernel_rfl) (fun _ _ _ h => h) (Or.inl ⟨by rfl, ?y7c⟩) (by assumption) ?r7c
  case y7c => (intro w hSw; (try dsimp only at hSw); (try go_split_ands); go_simp); (try with_reducible rfl)
  case r7c =>
  (try simp only [Act.put, List.setIfInBounds_toArray, List.set_cons_zero, List.set_cons_succ])
  refine wpAnyH_done (by kernel_rfl) ?_ _
  clear hHeld
  go_wp2_with fail
  refine wp_region_held_drew (S := (fun W => Below V4.heap.size V4 W ∧ W.cell? ⟨b, 5, none⟩ = some (.slice (some ⟨g, 0, none⟩) 1 cap) ∧ (W.cell? ⟨w.heap.size, 0, none⟩ = some (Value.int .i64 2) ∧ W.cell? ⟨w.heap.size, 1, none⟩ = some (Value.string ⟨#[98]⟩) ∧ W.cell? ⟨w.heap.size, 2, none⟩ = some (Value.bool true) ∧ W.cell? ⟨w.heap.size, 3, none⟩ = some (Value.int .i64 1) ∧ W.cell? ⟨w.heap.size, 4, none⟩ = some (Value.int .i64 2) ∧ W.cell? ⟨w.heap.size, 5, none⟩ = some (Value.int .i64 7)) ∧ W.cell? ⟨g, 0, none⟩ = some (Value.int .i64 1) ∧ W.cell? ⟨g, 1, none⟩ = some (Value.string ⟨#[97]⟩) ∧ W.cell? ⟨g, 2, none⟩ = some (Value.bool false) ∧ W.cell? ⟨g, 3, none⟩ = some (Value.int .i64 1) ∧ W.cell? ⟨g, 4, none⟩ = some (Value.int .i64 3) ∧ W.cell? ⟨g, 5, none⟩ = some (Value.int .i64 5))) (by kernel_rfl) (hkeep _ (Below.drew (Below.drew hbm4))) (fun hHeld => ?_)
  refine wpAnyH_take (i := 0) (oi := ⟨some 82, _, _, _, _, _⟩) (v := ?v0d) rfl (by kernel_rfl) (by kernel_rfl) (by kernel_rfl) (fun _ _ _ h => h) (Or.inl ⟨by rfl, ?y0d⟩) (by assumption) ?r0d
  case y0d => (intro w hSw; (try dsimp only at hSw); (try go_split_ands); go_simp); (try with_reducible rfl)
  case r0d =>
  (try simp only [Act.put, List.setIfInBounds_toArray, List.set_cons_zero, List.set_cons_succ])
  refine wpAnyH_take (i := 1) (oi := ⟨some 83, _, _, _, _, _⟩) (v := ?v1d) rfl (by kernel_rfl) (by kernel_rfl) (by kernel_rfl) (fun _ _ _ h => h) (Or.inl ⟨by rfl, ?y1d⟩) (by assumption) ?r1d
  case y1d => (intro w hSw; (try dsimp only at hSw); (try go_split_ands); go_simp); (try with_reducible rfl)
  case r1d =>
  (try simp only [Act.put, List.setIfInBounds_toArray, List.set_cons_zero, List.set_cons_succ])
  refine wpAnyH_take (i := 2) (oi := ⟨some 84, _, _, _, _, _⟩) (v := ?v2d) rfl (by kernel_rfl) (by kernel_rfl) (by kernel_rfl) (fun _ _ _ h => h) (Or.inl ⟨by rfl, ?y2d⟩) (by assumption) ?r2d
  case y2d => (intro w hSw; (try dsimp only at hSw); (try go_split_ands); go_simp); (try with_reducible rfl)
  case r2d =>
  (try simp only [Act.put, List.setIfInBounds_toArray, List.set_cons_zero, List.set_cons_succ])
  refine wpAnyH_take (i := 3) (oi := ⟨some 85, _, _, _, _, _⟩) (v := ?v3d) rfl (by kernel_rfl) (by kernel_rfl) (by kernel_rfl) (fun _ _ _ h => h) (Or.inl ⟨by rfl, ?y3d⟩) (by assumption) ?r3d
  case y3d => (intro w hSw; (try dsimp only at hSw); (try go_split_ands); go_simp); (try with_reducible rfl)
  case r3d =>
  (try simp only [Act.put, List.setIfInBounds_toArray, List.set_cons_zero, List.set_cons_succ])
  refine wpAnyH_take (i := 4) (oi := ⟨some 86, _, _, _, _, _⟩) (v := ?v4d) rfl (by kernel_rfl) (by kernel_rfl) (by kernel_rfl) (fun _ _ _ h => h) (Or.inl ⟨by rfl, ?y4d⟩) (by assumption) ?r4d
  case y4d => (intro w hSw; (try dsimp only at hSw); (try go_split_ands); go_simp); (try with_reducible rfl)
  case r4d =>
  (try simp only [Act.put, List.setIfInBounds_toArray, List.set_cons_zero, List.set_cons_succ])
  refine wpAnyH_take (i := 5) (oi := ⟨some 87, _, _, _, _, _⟩) (v := ?v5d) rfl (by kernel_rfl) (by kernel_rfl) (by kernel_rfl) (fun _ _ _ h => h) (Or.inl ⟨by rfl, ?y5d⟩) (by assumption) ?r5d
  case y5d => (intro w hSw; (try dsimp only at hSw); (try go_split_ands); go_simp); (try with_reducible rfl)
  case r5d =>
  (try simp only [Act.put, List.setIfInBounds_toArray, List.set_cons_zero, List.set_cons_succ])
  refine wpAnyH_ready (rs := [6]) (by kernel_rfl) (by simp) ?_
  refine AllReadyH.cons (o := ⟨some 88, _, _, _, _, _⟩) rfl (fun K hK => ?_) AllReadyH.nil
  go_simp
  refine (bkTrade _).mono ?_
  rintro e wt ⟨rfl, hbt⟩
  have hb3 := hHeld.1.trans (hbt.mono hHeld.1.size)
  have hst := hbt.size
  go_wp2_with fail
  refine hK.out _ _ (hkeep _ hb3) (fun hHeld => ?_)
  clear hK K
  (try simp only [Act.put, List.setIfInBounds_toArray, List.set_cons_zero, List.set_cons_succ])
  refine wpAnyH_ready (rs := [7]) (by kernel_rfl) (by simp) ?_
  refine AllReadyH.cons (o := ⟨some 89, _, _, _, _, _⟩) rfl (fun K hK => ?_) AllReadyH.nil
  go_simp
  have hb3 := hHeld.1.alloc hHeld.1.size (.cells #[Value.string ⟨#[98]⟩, Value.string ⟨#[97]⟩, Value.int .i64 2, Value.int .i64 1, Value.int .i64 1, Value.int .i64 2, Value.int .i64 5, Value.int .i64 7] 101)
  refine hK.out _ _ (hkeep _ hb3) (fun hHeld => ?_)
  clear hK K
  (try simp only [Act.put, List.setIfInBounds_toArray, List.set_cons_zero, List.set_cons_succ])
  refine wpAnyH_ready (rs := [8]) (by kernel_rfl) (by simp) ?_
  refine AllReadyH.cons (o := ⟨some 90, _, _, _, _, _⟩) rfl (fun K hK => ?_) AllReadyH.nil
  refine step_append_cells rfl (.tmp 82) (.tmp 89) 25 rfl V4.heap.size 101 i0 (.agg #[.string ⟨#[]⟩, .string ⟨#[]⟩, .int .i64 0, .int .i64 0, .int .i64 0, .int .i64 0, .int .i64 0, .int .i64 0]) 8 80 Try.underlying25 hi hz0 hz1 hz2 rfl (by decide) (.slice none 0 0) 0 [] rfl (World.ownsRow_nil _ _ _ _) _ _ 1 1 [Value.string ⟨#[98]⟩, Value.string ⟨#[97]⟩, Value.int .i64 2, Value.int .i64 1, Value.int .i64 1, Value.int .i64 2, Value.int .i64 5, Value.int .i64 7] rfl (trade_cells (w := wt) (e := 101)) trade_one (by unfold maxLen; omega) (by omega) hHeld.1.size ?_
  intro v5 w5 hown5 ht5 hb5
  have hb3 := hHeld.1.trans (ht5.below (B := V4.heap.size) hHeld.1.size (by intro g hg; cases hg))
  simp only [Nat.zero_add, List.nil_append] at hown5
  obtain ⟨g5, c5, rfl, hg1, hg2, hg3, hg5⟩ := own_form hown5 (by decide)
  have HO := Lib.hid hown5
  clear hown5
  refine hK.out _ _ (hkeep _ hb3) (fun hHeld => ?_)
  clear hK K
  (try simp only [Act.put, List.setIfInBounds_toArray, List.set_cons_zero, List.set_cons_succ])
  refine wpAnyH_take (i := 9) (oi := ⟨some 9, _, _, _, _, _⟩) (v := ?v9d) rfl (by kernel_rfl) (by kernel_rfl) (by kernel_rfl) (fun _ _ _ h => h) (Or.inl ⟨by rfl, ?y9d⟩) (by assumption) ?r9d
  case y9d => (intro w hSw; (try dsimp only at hSw); (try go_split_ands); go_simp); (try with_reducible rfl)
  case r9d =>
  (try simp only [Act.put, List.setIfInBounds_toArray, List.set_cons_zero, List.set_cons_succ])
  refine wpAnyH_done (by kernel_rfl) ?_ _
  clear e0 e1 e2 e3 e4 e5 d0 d1 d2 d3 d4 d5
  obtain ⟨hb5, k55, ⟨d0, d1, d2, d3, d4, d5⟩, e0, e1, e2, e3, e4, e5⟩ := hHeld
  have fo : w5.frozen? ⟨w.heap.size, 4, none⟩ = false := (World.frozen?_of_block (hb5.block _ hqs)).trans (P4.free 4)
  have fg : w5.frozen? ⟨g, 4, none⟩ = false := (World.frozen?_of_block (hb5.block _ (by omega))).trans fg4
  go_wp2_with fail
  have q4 : ((w5.setCell ⟨w.heap.size, 4, none⟩ (.int .i64 0)).setCell ⟨g, 4, none⟩ (.int .i64 1)).cell? ⟨w.heap.size, 4, none⟩ = some (.int .i64 0) := c_set_other (Or.inl (by omega)) (c_set_same (h_of d4))
  have t6 : Touch (fun x => x = w.heap.size ∨ x = g) w5 ((w5.setCell ⟨w.heap.size, 4, none⟩ (.int .i64 0)).setCell ⟨g, 4, none⟩ (.int .i64 1)) := ((Touch.refl _ _).set (fun _ => Or.inl rfl)).set (fun _ => Or.inr rfl)
  have HO6 := Lib.hid (t6.own HO.out (by intro x hx; have hx2 : some g5 = some x := hx; injection hx2 with hx3; omega))
  have hz6 := t6.size
  generalize (w5.setCell ⟨w.heap.size, 4, none⟩ (.int .i64 0)).setCell ⟨g, 4, none⟩ (.int .i64 1) = V6 at *
  clear d0 d1 d2 d3 d4 d5 e0 e1 e2 e3 e4 e5 fo fg k55 HO
  rw [rounds_succ]
  go_wp2_with fail
  refine wp_region_held_drew (S := (fun W => W.cell? ⟨w.heap.size, 4, none⟩ = some (.int .i64 0))) (by kernel_rfl) q4 (fun hHeld => ?_)
  refine wpAnyH_take (i := 0) (oi := ⟨some 52, _, _, _, _, _⟩) (v := ?v0e) rfl (by kernel_rfl) (by kernel_rfl) (by kernel_rfl) (fun _ _ _ h => h) (Or.inl ⟨by rfl, ?y0e⟩) (by assumption) ?r0e
  case y0e => (intro w hSw; (try dsimp only at hSw); (try go_split_ands); go_simp); (try with_reducible rfl)
  case r0e =>
  (try simp only [Act.put, List.setIfInBounds_toArray, List.set_cons_zero, List.set_cons_succ])
  refine wpAnyH_take (i := 1) (oi := ⟨some 53, _, _, _, _, _⟩) (v := ?v1e) rfl (by kernel_rfl) (by kernel_rfl) (by kernel_rfl) (fun _ _ _ h => h) (Or.inl ⟨by rfl, ?y1e⟩) (by assumption) ?r1e
  case y1e => (intro w hSw; (try dsimp only at hSw); (try go_split_ands); go_simp); (try with_reducible rfl)
  case r1e =>
  (try simp only [Act.put, List.setIfInBounds_toArray, List.set_cons_zero, List.set_cons_succ])
  refine wpAnyH_take (i := 2) (oi := ⟨some 54, _, _, _, _, _⟩) (v := ?v2e) rfl (by kernel_rfl) (by kernel_rfl) (by kernel_rfl) (fun _ _ _ h => h) (Or.inl ⟨by rfl, ?y2e⟩) (by assumption) ?r2e
  case y2e => (intro w hSw; (try dsimp only at hSw); (try go_split_ands); go_simp); (try with_reducible rfl)
  case r2e =>
  (try simp only [Act.put, List.setIfInBounds_toArray, List.set_cons_zero, List.set_cons_succ])
  refine wpAnyH_take (i := 3) (oi := ⟨some 55, _, _, _, _, _⟩) (v := ?v3e) rfl (by kernel_rfl) (by kernel_rfl) (by kernel_rfl) (fun _ _ _ h => h) (Or.inl ⟨by rfl, ?y3e⟩) (by assumption) ?r3e
  case y3e => (intro w hSw; (try dsimp only at hSw); (try go_split_ands); go_simp); (try with_reducible rfl)
  case r3e =>
  (try simp only [Act.put, List.setIfInBounds_toArray, List.set_cons_zero, List.set_cons_succ])
  refine wpAnyH_take (i := 4) (oi := ⟨some 56, _, _, _, _, _⟩) (v := undef) rfl (by kernel_rfl) (by kernel_rfl) (by kernel_rfl) (fun _ _ _ h => h) (Or.inr ⟨by rfl, rfl⟩) (by assumption) ?_
  (try simp only [Act.put, List.setIfInBounds_toArray, List.set_cons_zero, List.set_cons_succ])
  refine wpAnyH_take (i := 5) (oi := ⟨some 57, _, _, _, _, _⟩) (v := undef) rfl (by kernel_rfl) (by kernel_rfl) (by kernel_rfl) (fun _ _ _ h => h) (Or.inr ⟨by rfl, rfl⟩) (by assumption) ?_
  (try simp only [Act.put, List.setIfInBounds_toArray, List.set_cons_zero, List.set_cons_succ])
  refine wpAnyH_take (i := 6) (oi := ⟨some 58, _, _, _, _, _⟩) (v := undef) rfl (by kernel_rfl) (by kernel_rfl) (by kernel_rfl) (fun _ _ _ h => h) (Or.inr ⟨by rfl, rfl⟩) (by assumption) ?_
  (try simp only [Act.put, List.setIfInBounds_toArray, List.set_cons_zero, List.set_cons_succ])
  refine wpAnyH_take (i := 7) (oi := ⟨some 59, _, _, _, _, _⟩) (v := undef) rfl (by kernel_rfl) (by kernel_rfl) (by kernel_rfl) (fun _ _ _ h => h) (Or.inr ⟨by rfl, rfl⟩) (by assumption) ?_
  (try simp only [Act.put, List.setIfInBounds_toArray, List.set_cons_zero, List.set_cons_succ])
  refine wpAnyH_take (i := 8) (oi := ⟨some 60, _, _, _, _, _⟩) (v := undef) rfl (by kernel_rfl) (by kernel_rfl) (by kernel_rfl) (fun _ _ _ h => h) (Or.inr ⟨by rfl, rfl⟩) (by assumption) ?_
  (try simp only [Act.put, List.setIfInBounds_toArray, List.set_cons_zero, List.set_cons_succ])
  refine wpAnyH_take (i := 9) (oi := ⟨some 61, _, _, _, _, _⟩) (v := ?v9e) rfl (by kernel_rfl) (by kernel_rfl) (by kernel_rfl) (fun _ _ _ h => h) (Or.inl ⟨by rfl, ?y9e⟩) (by assumption) ?r9e
  case y9e => (intro w hSw; (try dsimp only at hSw); (try go_split_ands); go_simp); (try with_reducible rfl)
  case r9e =>
  (try simp only [Act.put, List.setIfInBounds_toArray, List.set_cons_zero, List.set_cons_succ])
  refine wpAnyH_take (i := 10) (oi := ⟨some 62, _, _, _, _, _⟩) (v := ?v10e) rfl (by kernel_rfl) (by kernel_rfl) (by kernel_rfl) (fun _ _ _ h => h) (Or.inl ⟨by rfl, ?y10e⟩) (by assumption) ?r10e
  case y10e => (intro w hSw; (try dsimp only at hSw); (try go_split_ands); go_simp); (try with_reducible rfl)
  case r10e =>
  (try simp only [Act.put, List.setIfInBounds_toArray, List.set_cons_zero, List.set_cons_succ])
  refine wpAnyH_take (i := 11) (oi := ⟨some 63, _, _, _, _, _⟩) (v := undef) rfl (by kernel_rfl) (by kernel_rfl) (by kernel_rfl) (fun _ _ _ h => h) (Or.inr ⟨by rfl, rfl⟩) (by assumption) ?_
  (try simp only [Act.put, List.setIfInBounds_toArray, List.set_cons_zero, List.set_cons_succ])
  refine wpAnyH_take (i := 12) (oi := ⟨some 64, _, _, _, _, _⟩) (v := undef) rfl (by kernel_rfl) (by kernel_rfl) (by kernel_rfl) (fun _ _ _ h => h) (Or.inr ⟨by rfl, rfl⟩) (by assumption) ?_
  (try simp only [Act.put, List.setIfInBounds_toArray, List.set_cons_zero, List.set_cons_succ])
  refine wpAnyH_take (i := 13) (oi := ⟨some 65, _, _, _, _, _⟩) (v := undef) rfl (by kernel_rfl) (by kernel_rfl) (by kernel_rfl) (fun _ _ _ h => h) (Or.inr ⟨by rfl, rfl⟩) (by assumption) ?_
  (try simp only [Act.put, List.setIfInBounds_toArray, List.set_cons_zero, List.set_cons_succ])
  refine wpAnyH_take (i := 14) (oi := ⟨some 66, _, _, _, _, _⟩) (v := undef) rfl (by kernel_rfl) (by kernel_rfl) (by kernel_rfl) (fun _ _ _ h => h) (Or.inr ⟨by rfl, rfl⟩) (by assumption) ?_
  (try simp only [Act.put, List.setIfInBounds_toArray, List.set_cons_zero, List.set_cons_succ])
  refine wpAnyH_take (i := 15) (oi := ⟨some 67, _, _, _, _, _⟩) (v := undef) rfl (by kernel_rfl) (by kernel_rfl) (by kernel_rfl) (fun _ _ _ h => h) (Or.inr ⟨by rfl, rfl⟩) (by assumption) ?_
  (try simp only [Act.put, List.setIfInBounds_toArray, List.set_cons_zero, List.set_cons_succ])
  refine wpAnyH_take (i := 16) (oi := ⟨some 68, _, _, _, _, _⟩) (v := undef) rfl (by kernel_rfl) (by kernel_rfl) (by kernel_rfl) (fun _ _ _ h => h) (Or.inr ⟨by rfl, rfl⟩) (by assumption) ?_
  (try simp only [Act.put, List.setIfInBounds_toArray, List.set_cons_zero, List.set_cons_succ])
  refine wpAnyH_take (i := 17) (oi := ⟨some 69, _, _, _, _, _⟩) (v := undef) rfl (by kernel_rfl) (by kernel_rfl) (by kernel_rfl) (fun _ _ _ h => h) (Or.inr ⟨by rfl, rfl⟩) (by assumption) ?_
  (try simp only [Act.put, List.setIfInBounds_toArray, List.set_cons_zero, List.set_cons_succ])
  refine wpAnyH_take (i := 18) (oi := ⟨some 70, _, _, _, _, _⟩) (v := ?v18e) rfl (by kernel_rfl) (by kernel_rfl) (by kernel_rfl) (fun _ _ _ h => h) (Or.inl ⟨by rfl, ?y18e⟩) (by assumption) ?r18e
  case y18e => (intro w hSw; (try dsimp only at hSw); (try go_split_ands); go_simp); (try with_reducible rfl)
  case r18e =>
  (try simp only [Act.put, List.setIfInBounds_toArray, List.set_cons_zero, List.set_cons_succ])
  refine wpAnyH_done (by kernel_rfl) ?_ _
  clear hHeld
  have q5 : V6.drew.cell? ⟨w.heap.size, 4, none⟩ = some (.int .i64 0) := q4
  go_wp2_with fail
  go_quiet (fail)
  go_wp2_with fail
  have hh5 := hb5.size
  have t5 : Touch (fun x => x = b ∨ x = g) w V4 := t4.mono (fun _ h => Or.inl h)
  have t55 : Touch (fun x => x = b ∨ x = g) w w5 := t5.trans (Touch.of_below hb5) (fun q h1 h2 => by omega)
  have t66 : Touch (fun x => x = b ∨ x = g) w V6 := t55.trans t6 (fun q h1 h2 => by omega)
  refine bodyPost_ret (v := .tuple #[.slice (some ⟨g5, 0, none⟩) 1 c5, .int .i64 0, .int .i64 0]) (by simp [results, Try.results11, go_sem, ↓IntWalk.iteOmega, *]) rfl ⟨g5, c5, rfl, ?_, (t66.trans (Touch.of_drew (fun _ => False) V6) (fun _ _ h => h.elim)).drewN _⟩
  exact (HO6.out.mono (by omega) : V6.ownsRow w.heap.size 101 8 _ 1 _)

end Go.Proofs.Ytgppgbiebfdnlaa
