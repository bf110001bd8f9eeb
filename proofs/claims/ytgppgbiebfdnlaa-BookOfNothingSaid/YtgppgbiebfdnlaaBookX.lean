/- book: Place of the first order. -/
import Derived.Test.YtgppgbiebfdnlaaBookH
namespace Go.Proofs.Ytgppgbiebfdnlaa
open Go.RowKit
set_option linter.unusedVariables false
set_option linter.unusedSimpArgs false

/-- a book: all sides but the sixth are nil -/
structure Bk (w : World) (b : Nat) (s5 : Value) (last : Int) : Prop where
  others : ∀ k, k < 8 → k ≠ 5 → w.cell? ⟨b, k, none⟩ = some (.slice none 0 0)
  five : w.cell? ⟨b, 5, none⟩ = some s5
  last : w.cell? ⟨b, 8, none⟩ = some (.int .i64 last)
  free : ∀ j, w.frozen? ⟨b, j, none⟩ = false
  low : b < w.heap.size
theorem Bk.touch {w w' : World} {D : Nat → Prop} {b : Nat} {s5 : Value} {last : Int} (h : Bk w b s5 last) (hb : Touch D w w') (hB : ¬ D b) : Bk w' b s5 last :=
  ⟨fun k h1 h2 => hb.cell (h.others k h1 h2) hB, hb.cell h.five hB, hb.cell h.last hB, fun j => hb.frozen h.low (h.free j) hB, Nat.lt_of_lt_of_le h.low hb.size⟩
theorem Bk.below {w w' : World} {B b : Nat} {s5 : Value} {last : Int} (h : Bk w b s5 last) (hb : Below B w w') (hB : b < B) : Bk w' b s5 last := h.touch (Touch.of_below hb) (by omega)
theorem Bk.few {w : World} {b n c : Nat} {r : Option Addr} {last : Int} (h : Bk w b (.slice r n c) last) (hn : n ≤ 1) : Few w b := fun k hk => by
  by_cases h5 : k = 5
  · subst h5; exact ⟨r, n, c, h.five, hn⟩
  · exact ⟨none, 0, 0, h.others k hk h5, by omega⟩
theorem Bk.setLast {w : World} {b : Nat} {s5 : Value} {last : Int} (h : Bk w b s5 last) (m : Int) : Bk (w.setCell ⟨b, 8, none⟩ (.int .i64 m)) b s5 m :=
  ⟨fun k h1 h2 => c_set_other (Or.inr (by omega)) (h.others k h1 h2), c_set_other (Or.inr (by decide)) h.five, c_set_same (h_of h.last), fun j => f_set (h.free j), by simpa [World.setCell] using h.low⟩
/-- an order's six cells at block q -/
structure Od (w : World) (q : Nat) (cs : Array Value) : Prop where
  whl : Whl w q 23 cs

set_option maxHeartbeats 2000000 in
set_option maxRecDepth 10000 in
theorem place1 (b : Nat) (w : World) (h : Bk w b (.slice none 0 0) 0) :
    Calls Try.prog 11 #[.pointer (some ⟨b, 0, none⟩), .agg #[Value.int .i64 1, Value.string ⟨#[97]⟩, Value.bool false, Value.int .i64 1, Value.int .i64 3, Value.int .i64 5]] w fun e w' => e = .returned (.tuple #[.slice none 0 0, .int .i64 3, .int .i64 0]) ∧ ∃ g cap, w.heap.size ≤ g ∧ w'.ownsRow w.heap.size 23 6 (.slice (some ⟨g, 0, none⟩) 1 cap) 1 [Value.int .i64 1, Value.string ⟨#[97]⟩, Value.bool false, Value.int .i64 1, Value.int .i64 3, Value.int .i64 5] ∧ Bk w' b (.slice (some ⟨g, 0, none⟩) 1 cap) 1 ∧ Touch (fun x => x = b) w w' := by
  have hlow := h.low
  have HB := Lib.hid h
  clear h
  go_enter Try.func11, Try.ntmps11
  go_wp2_with fail
  have hB0 : Below w.heap.size w (w.alloc (.cells #[Value.int .i64 1, Value.string ⟨#[97]⟩, Value.bool false, Value.int .i64 1, Value.int .i64 3, Value.int .i64 5] 23)) := (Below.refl _ _).alloc (Nat.le_refl _) _
  have P0 : Whl (w.alloc (.cells #[Value.int .i64 1, Value.string ⟨#[97]⟩, Value.bool false, Value.int .i64 1, Value.int .i64 3, Value.int .i64 5] 23)) w.heap.size 23 #[Value.int .i64 1, Value.string ⟨#[97]⟩, Value.bool false, Value.int .i64 1, Value.int .i64 3, Value.int .i64 5] := Whl.new rfl
  have hs0 : w.heap.size < (w.alloc (.cells #[Value.int .i64 1, Value.string ⟨#[97]⟩, Value.bool false, Value.int .i64 1, Value.int .i64 3, Value.int .i64 5] 23)).heap.size := by simp
  generalize w.alloc (.cells #[Value.int .i64 1, Value.string ⟨#[97]⟩, Value.bool false, Value.int .i64 1, Value.int .i64 3, Value.int .i64 5] 23) = V at *
  have HB0 := Lib.hid (HB.out.below hB0 hlow)
  have k8 := HB0.out.last
  have d0 := P0.cell 0
  have d1 := P0.cell 1
  have d2 := P0.cell 2
  have d3 := P0.cell 3
  have d4 := P0.cell 4
  have d5 := P0.cell 5
  simp only [List.getElem?_toArray, List.getElem?_cons_succ, List.getElem?_cons_zero] at d0 d1 d2 d3 d4 d5
  have hkeep : ∀ W, Below V.heap.size V W → (Below V.heap.size V W ∧ W.cell? ⟨b, 8, none⟩ = some (.int .i64 0) ∧ W.cell? ⟨w.heap.size, 0, none⟩ = some (Value.int .i64 1) ∧ W.cell? ⟨w.heap.size, 1, none⟩ = some (Value.string ⟨#[97]⟩) ∧ W.cell? ⟨w.heap.size, 2, none⟩ = some (Value.bool false) ∧ W.cell? ⟨w.heap.size, 3, none⟩ = some (Value.int .i64 1) ∧ W.cell? ⟨w.heap.size, 4, none⟩ = some (Value.int .i64 3) ∧ W.cell? ⟨w.heap.size, 5, none⟩ = some (Value.int .i64 5)) := fun W hh => ⟨hh, bkeep hh k8 (by omega), bkeep hh d0 (by omega), bkeep hh d1 (by omega), bkeep hh d2 (by omega), bkeep hh d3 (by omega), bkeep hh d4 (by omega), bkeep hh d5 (by omega)⟩
  refine wp_region_held_drew (S := (fun W => Below V.heap.size V W ∧ W.cell? ⟨b, 8, none⟩ = some (.int .i64 0) ∧ W.cell? ⟨w.heap.size, 0, none⟩ = some (Value.int .i64 1) ∧ W.cell? ⟨w.heap.size, 1, none⟩ = some (Value.string ⟨#[97]⟩) ∧ W.cell? ⟨w.heap.size, 2, none⟩ = some (Value.bool false) ∧ W.cell? ⟨w.heap.size, 3, none⟩ = some (Value.int .i64 1) ∧ W.cell? ⟨w.heap.size, 4, none⟩ = some (Value.int .i64 3) ∧ W.cell? ⟨w.heap.size, 5, none⟩ = some (Value.int .i64 5))) (by kernel_rfl) (hkeep _ (Below.refl _ _).drew) (fun hHeld => ?_)
  refine wpAnyH_take (i := 0) (oi := ⟨some 12, _, _, _, _, _⟩) (v := ?v0a) rfl (by kernel_rfl) (by kernel_rfl) (by kernel_rfl) (fun _ _ _ h => h) (Or.inl ⟨by rfl, ?y0a⟩) (by assumption) ?r0a
  case y0a => (intro w hSw; (try dsimp only at hSw); (try go_split_ands); go_simp); (try with_reducible rfl)
  case r0a =>
  (try simp only [Act.put, List.setIfInBounds_toArray, List.set_cons_zero, List.set_cons_succ])
  refine wpAnyH_take (i := 1) (oi := ⟨some 13, _, _, _, _, _⟩) (v := ?v1a) rfl (by kernel_rfl) (by kernel_rfl) (by kernel_rfl) (fun _ _ _ h => h) (Or.inl ⟨by rfl, ?y1a⟩) (by assumption) ?r1a
  case y1a => (intro w hSw; (try dsimp only at hSw); (try go_split_ands); go_simp); (try with_reducible rfl)
  case r1a =>
  (try simp only [Act.put, List.setIfInBounds_toArray, List.set_cons_zero, List.set_cons_succ])
  refine wpAnyH_take (i := 2) (oi := ⟨some 14, _, _, _, _, _⟩) (v := ?v2a) rfl (by kernel_rfl) (by kernel_rfl) (by kernel_rfl) (fun _ _ _ h => h) (Or.inl ⟨by rfl, ?y2a⟩) (by assumption) ?r2a
  case y2a => (intro w hSw; (try dsimp only at hSw); (try go_split_ands); go_simp); (try with_reducible rfl)
  case r2a =>
  (try simp only [Act.put, List.setIfInBounds_toArray, List.set_cons_zero, List.set_cons_succ])
  refine wpAnyH_take (i := 3) (oi := ⟨some 15, _, _, _, _, _⟩) (v := ?v3a) rfl (by kernel_rfl) (by kernel_rfl) (by kernel_rfl) (fun _ _ _ h => h) (Or.inl ⟨by rfl, ?y3a⟩) (by assumption) ?r3a
  case y3a => (intro w hSw; (try dsimp only at hSw); (try go_split_ands); go_simp); (try with_reducible rfl)
  case r3a =>
  (try simp only [Act.put, List.setIfInBounds_toArray, List.set_cons_zero, List.set_cons_succ])
  refine wpAnyH_ready (rs := [4]) (by kernel_rfl) (by simp) ?_
  refine AllReadyH.cons (o := ⟨some 16, _, _, _, _, _⟩) rfl (fun K hK => ?_) AllReadyH.nil
  go_simp
  refine (bkMay 1 1 3 5 ⟨#[97]⟩ false _ (by decide) (by decide) (by decide) (by decide) (by decide) (by decide) (by decide) (by decide) (by decide) (by decide)).mono ?_
  rintro e wc ⟨rfl, hbc⟩
  have hb3 := hHeld.1.trans (hbc.mono hHeld.1.size)
  have hsc := hbc.size
  go_wp2_with fail
  refine hK.out _ _ (hkeep _ hb3) (fun hHeld => ?_)
  clear hK K
  (try simp only [Act.put, List.setIfInBounds_toArray, List.set_cons_zero, List.set_cons_succ])
  refine wpAnyH_take (i := 5) (oi := ⟨some 17, _, _, _, _, _⟩) (v := ?v5a) rfl (by kernel_rfl) (by kernel_rfl) (by kernel_rfl) (fun _ _ _ h => h) (Or.inl ⟨by rfl, ?y5a⟩) (by assumption) ?r5a
  case y5a => (intro w hSw; (try dsimp only at hSw); (try go_split_ands); go_simp); (try with_reducible rfl)
  case r5a =>
  (try simp only [Act.put, List.setIfInBounds_toArray, List.set_cons_zero, List.set_cons_succ])
  refine wpAnyH_take (i := 6) (oi := ⟨some 18, _, _, _, _, _⟩) (v := ?v6a) rfl (by kernel_rfl) (by kernel_rfl) (by kernel_rfl) (fun _ _ _ h => h) (Or.inl ⟨by rfl, ?y6a⟩) (by assumption) ?r6a
  case y6a => (intro w hSw; (try dsimp only at hSw); (try go_split_ands); go_simp); (try with_reducible rfl)
  case r6a =>
  (try simp only [Act.put, List.setIfInBounds_toArray, List.set_cons_zero, List.set_cons_succ])
  refine wpAnyH_take (i := 7) (oi := ⟨some 19, _, _, _, _, _⟩) (v := ?v7a) rfl (by kernel_rfl) (by kernel_rfl) (by kernel_rfl) (fun _ _ _ h => h) (Or.inl ⟨by rfl, ?y7a⟩) (by assumption) ?r7a
  case y7a => (intro w hSw; (try dsimp only at hSw); (try go_split_ands); go_simp); (try with_reducible rfl)
  case r7a =>
  (try simp only [Act.put, List.setIfInBounds_toArray, List.set_cons_zero, List.set_cons_succ])
  refine wpAnyH_take (i := 8) (oi := ⟨some 20, _, _, _, _, _⟩) (v := ?v8a) rfl (by kernel_rfl) (by kernel_rfl) (by kernel_rfl) (fun _ _ _ h => h) (Or.inl ⟨by rfl, ?y8a⟩) (by assumption) ?r8a
  case y8a => (intro w hSw; (try dsimp only at hSw); (try go_split_ands); go_simp); (try with_reducible rfl)
  case r8a =>
  (try simp only [Act.put, List.setIfInBounds_toArray, List.set_cons_zero, List.set_cons_succ])
  refine wpAnyH_take (i := 9) (oi := ⟨some 21, _, _, _, _, _⟩) (v := ?v9a) rfl (by kernel_rfl) (by kernel_rfl) (by kernel_rfl) (fun _ _ _ h => h) (Or.inl ⟨by rfl, ?y9a⟩) (by assumption) ?r9a
  case y9a => (intro w hSw; (try dsimp only at hSw); (try go_split_ands); go_simp); (try with_reducible rfl)
  case r9a =>
  (try simp only [Act.put, List.setIfInBounds_toArray, List.set_cons_zero, List.set_cons_succ])
  refine wpAnyH_take (i := 10) (oi := ⟨some 22, _, _, _, _, _⟩) (v := ?v10a) rfl (by kernel_rfl) (by kernel_rfl) (by kernel_rfl) (fun _ _ _ h => h) (Or.inl ⟨by rfl, ?y10a⟩) (by assumption) ?r10a
  case y10a => (intro w hSw; (try dsimp only at hSw); (try go_split_ands); go_simp); (try with_reducible rfl)
  case r10a =>
  (try simp only [Act.put, List.setIfInBounds_toArray, List.set_cons_zero, List.set_cons_succ])
  refine wpAnyH_take (i := 11) (oi := ⟨some 23, _, _, _, _, _⟩) (v := ?v11a) rfl (by kernel_rfl) (by kernel_rfl) (by kernel_rfl) (fun _ _ _ h => h) (Or.inl ⟨by rfl, ?y11a⟩) (by assumption) ?r11a
  case y11a => (intro w hSw; (try dsimp only at hSw); (try go_split_ands); go_simp); (try with_reducible rfl)
  case r11a =>
  (try simp only [Act.put, List.setIfInBounds_toArray, List.set_cons_zero, List.set_cons_succ])
  refine wpAnyH_take (i := 12) (oi := ⟨some 24, _, _, _, _, _⟩) (v := ?v12a) rfl (by kernel_rfl) (by kernel_rfl) (by kernel_rfl) (fun _ _ _ h => h) (Or.inl ⟨by rfl, ?y12a⟩) (by assumption) ?r12a
  case y12a => (intro w hSw; (try dsimp only at hSw); (try go_split_ands); go_simp); (try with_reducible rfl)
  case r12a =>
  (try simp only [Act.put, List.setIfInBounds_toArray, List.set_cons_zero, List.set_cons_succ])
  refine wpAnyH_take (i := 13) (oi := ⟨some 25, _, _, _, _, _⟩) (v := ?v13a) rfl (by kernel_rfl) (by kernel_rfl) (by kernel_rfl) (fun _ _ _ h => h) (Or.inl ⟨by rfl, ?y13a⟩) (by assumption) ?r13a
  case y13a => (intro w hSw; (try dsimp only at hSw); (try go_split_ands); go_simp); (try with_reducible rfl)
  case r13a =>
  (try simp only [Act.put, List.setIfInBounds_toArray, List.set_cons_zero, List.set_cons_succ])
  refine wpAnyH_take (i := 14) (oi := ⟨some 26, _, _, _, _, _⟩) (v := ?v14a) rfl (by kernel_rfl) (by kernel_rfl) (by kernel_rfl) (fun _ _ _ h => h) (Or.inl ⟨by rfl, ?y14a⟩) (by assumption) ?r14a
  case y14a => (intro w hSw; (try dsimp only at hSw); (try go_split_ands); go_simp); (try with_reducible rfl)
  case r14a =>
  (try simp only [Act.put, List.setIfInBounds_toArray, List.set_cons_zero, List.set_cons_succ])
  refine wpAnyH_take (i := 15) (oi := ⟨some 27, _, _, _, _, _⟩) (v := ?v15a) rfl (by kernel_rfl) (by kernel_rfl) (by kernel_rfl) (fun _ _ _ h => h) (Or.inl ⟨by rfl, ?y15a⟩) (by assumption) ?r15a
  case y15a => (intro w hSw; (try dsimp only at hSw); (try go_split_ands); go_simp); (try with_reducible rfl)
  case r15a =>
  (try simp only [Act.put, List.setIfInBounds_toArray, List.set_cons_zero, List.set_cons_succ])
  refine wpAnyH_done (by kernel_rfl) ?_ _
  go_wp2_with fail
  have hbw := hHeld.1
  have hBc := HB0.out.below hbw (by omega)
  clear hHeld hkeep d0 d1 d2 d3 d4 d5 k8
  refine (bkLen b _ (hBc.few (by omega)) hBc.low).mono ?_
  rintro e w2 ⟨n, hn, rfl, hb2⟩
  have HB2 := Lib.hid (hBc.below hb2 hBc.low)
  have hbc2 : Below V.heap.size V w2 := hbw.trans (hb2.mono hbw.size)
  have P2 := P0.below hbc2 (by omega)
  have hs2 := hbc2.size
  clear hBc hbw hb2 hbc
  have hn32 : ¬ ((32 : Int) ≤ (n : Int)) := by omega
  have k8 := HB2.out.last
  have f8 := HB2.out.free 8
  have d0 := P2.cell 0
  simp only [List.getElem?_toArray, List.getElem?_cons_succ, List.getElem?_cons_zero] at d0
  go_wp2_with fail
  have HB3 := Lib.hid (HB2.out.setLast 1)
  have P3 : Whl (w2.setCell ⟨b, 8, none⟩ (.int .i64 1)) w.heap.size 23 #[Value.int .i64 1, Value.string ⟨#[97]⟩, Value.bool false, Value.int .i64 1, Value.int .i64 3, Value.int .i64 5] := P2.far (by show w.heap.size ≠ b; omega)
  have ht3 : Touch (fun x => x = b) w2 (w2.setCell ⟨b, 8, none⟩ (.int .i64 1)) := (Touch.refl _ _).set (fun _ => rfl)
  have hz3 : (w2.setCell ⟨b, 8, none⟩ (.int .i64 1)).heap.size = w2.heap.size := by simp [World.setCell]
  generalize w2.setCell ⟨b, 8, none⟩ (.int .i64 1) = V3 at *
  clear k8 f8 d0
  have d0 := P3.cell 0
  have d1 := P3.cell 1
  have d2 := P3.cell 2
  have d3 := P3.cell 3
  have d4 := P3.cell 4
  have d5 := P3.cell 5
  simp only [List.getElem?_toArray, List.getElem?_cons_succ, List.getElem?_cons_zero] at d0 d1 d2 d3 d4 d5
  go_quiet (fail)
  go_wp2_with fail
  have HB4 : Hid (Bk (V3.drewN nq) b (.slice none 0 0) 1) := Lib.hid (HB3.out.below (b_drewN (Below.refl V3.heap.size V3)) (by have := HB3.out.low; omega))
  have P4 : Whl (V3.drewN nq) w.heap.size 23 #[Value.int .i64 1, Value.string ⟨#[97]⟩, Value.bool false, Value.int .i64 1, Value.int .i64 3, Value.int .i64 5] := P3
  have ht4 : Touch (fun x => x = b) w2 (V3.drewN nq) := ht3.drewN nq
  have hz4 : (V3.drewN nq).heap.size = w2.heap.size := hz3
  generalize V3.drewN nq = V4 at *
  clear d0 d1 d2 d3 d4 d5 P3 ht3 hz3 HB3
  have k1 := HB4.out.others 1 (by decide) (by decide)
  have d0 := P4.cell 0
  have d1 := P4.cell 1
  have d2 := P4.cell 2
  have d3 := P4.cell 3
  have d4 := P4.cell 4
  have d5 := P4.cell 5
  simp only [List.getElem?_toArray, List.getElem?_cons_succ, List.getElem?_cons_zero] at d0 d1 d2 d3 d4 d5
  refine wp_loop_rounds 1 ?_; rw [rounds_succ]
  go_wp2_with fail
  refine wp_region_held_drew (S := (fun W => W.cell? ⟨b, 1, none⟩ = some (.slice none 0 0) ∧ W.cell? ⟨w.heap.size, 4, none⟩ = some (.int .i64 3))) (by kernel_rfl) ⟨k1, d4⟩ (fun hHeld => ?_)
  refine wpAnyH_take (i := 0) (oi := ⟨some 52, _, _, _, _, _⟩) (v := ?v0b) rfl (by kernel_rfl) (by kernel_rfl) (by kernel_rfl) (fun _ _ _ h => h) (Or.inl ⟨by rfl, ?y0b⟩) (by assumption) ?r0b
  case y0b => (intro w hSw; (try dsimp only at hSw); (try go_split_ands); go_simp); (try with_reducible rfl)
  case r0b =>
  (try simp only [Act.put, List.setIfInBounds_toArray, List.set_cons_zero, List.set_cons_succ])
  refine wpAnyH_take (i := 1) (oi := ⟨some 53, _, _, _, _, _⟩) (v := ?v1b) rfl (by kernel_rfl) (by kernel_rfl) (by kernel_rfl) (fun _ _ _ h => h) (Or.inl ⟨by rfl, ?y1b⟩) (by assumption) ?r1b
  case y1b => (intro w hSw; (try dsimp only at hSw); (try go_split_ands); go_simp); (try with_reducible rfl)
  case r1b =>
  (try simp only [Act.put, List.setIfInBounds_toArray, List.set_cons_zero, List.set_cons_succ])
  refine wpAnyH_take (i := 2) (oi := ⟨some 54, _, _, _, _, _⟩) (v := ?v2b) rfl (by kernel_rfl) (by kernel_rfl) (by kernel_rfl) (fun _ _ _ h => h) (Or.inl ⟨by rfl, ?y2b⟩) (by assumption) ?r2b
  case y2b => (intro w hSw; (try dsimp only at hSw); (try go_split_ands); go_simp); (try with_reducible rfl)
  case r2b =>
  (try simp only [Act.put, List.setIfInBounds_toArray, List.set_cons_zero, List.set_cons_succ])
  refine wpAnyH_take (i := 3) (oi := ⟨some 55, _, _, _, _, _⟩) (v := ?v3b) rfl (by kernel_rfl) (by kernel_rfl) (by kernel_rfl) (fun _ _ _ h => h) (Or.inl ⟨by rfl, ?y3b⟩) (by assumption) ?r3b
  case y3b => (intro w hSw; (try dsimp only at hSw); (try go_split_ands); go_simp); (try with_reducible rfl)
  case r3b =>
  (try simp only [Act.put, List.setIfInBounds_toArray, List.set_cons_zero, List.set_cons_succ])
  refine wpAnyH_take (i := 4) (oi := ⟨some 56, _, _, _, _, _⟩) (v := ?v4b) rfl (by kernel_rfl) (by kernel_rfl) (by kernel_rfl) (fun _ _ _ h => h) (Or.inl ⟨by rfl, ?y4b⟩) (by assumption) ?r4b
  case y4b => (intro w hSw; (try dsimp only at hSw); (try go_split_ands); go_simp); (try with_reducible rfl)
  case r4b =>
  (try simp only [Act.put, List.setIfInBounds_toArray, List.set_cons_zero, List.set_cons_succ])
  refine wpAnyH_take (i := 5) (oi := ⟨some 57, _, _, _, _, _⟩) (v := ?v5b) rfl (by kernel_rfl) (by kernel_rfl) (by kernel_rfl) (fun _ _ _ h => h) (Or.inl ⟨by rfl, ?y5b⟩) (by assumption) ?r5b
  case y5b => (intro w hSw; (try dsimp only at hSw); (try go_split_ands); go_simp); (try with_reducible rfl)
  case r5b =>
  (try simp only [Act.put, List.setIfInBounds_toArray, List.set_cons_zero, List.set_cons_succ])
  refine wpAnyH_take (i := 6) (oi := ⟨some 58, _, _, _, _, _⟩) (v := ?v6b) rfl (by kernel_rfl) (by kernel_rfl) (by kernel_rfl) (fun _ _ _ h => h) (Or.inl ⟨by rfl, ?y6b⟩) (by assumption) ?r6b
  case y6b => (intro w hSw; (try dsimp only at hSw); (try go_split_ands); go_simp); (try with_reducible rfl)
  case r6b =>
  (try simp only [Act.put, List.setIfInBounds_toArray, List.set_cons_zero, List.set_cons_succ])
  refine wpAnyH_take (i := 7) (oi := ⟨some 59, _, _, _, _, _⟩) (v := ?v7b) rfl (by kernel_rfl) (by kernel_rfl) (by kernel_rfl) (fun _ _ _ h => h) (Or.inl ⟨by rfl, ?y7b⟩) (by assumption) ?r7b
  case y7b => (intro w hSw; (try dsimp only at hSw); (try go_split_ands); go_simp); (try with_reducible rfl)
  case r7b =>
  (try simp only [Act.put, List.setIfInBounds_toArray, List.set_cons_zero, List.set_cons_succ])
  refine wpAnyH_take (i := 8) (oi := ⟨some 60, _, _, _, _, _⟩) (v := ?v8b) rfl (by kernel_rfl) (by kernel_rfl) (by kernel_rfl) (fun _ _ _ h => h) (Or.inl ⟨by rfl, ?y8b⟩) (by assumption) ?r8b
  case y8b => (intro w hSw; (try dsimp only at hSw); (try go_split_ands); go_simp); (try with_reducible rfl)
  case r8b =>
  (try simp only [Act.put, List.setIfInBounds_toArray, List.set_cons_zero, List.set_cons_succ])
  refine wpAnyH_take (i := 9) (oi := ⟨some 61, _, _, _, _, _⟩) (v := ?v9b) rfl (by kernel_rfl) (by kernel_rfl) (by kernel_rfl) (fun _ _ _ h => h) (Or.inl ⟨by rfl, ?y9b⟩) (by assumption) ?r9b
  case y9b => (intro w hSw; (try dsimp only at hSw); (try go_split_ands); go_simp); (try with_reducible rfl)
  case r9b =>
  (try simp only [Act.put, List.setIfInBounds_toArray, List.set_cons_zero, List.set_cons_succ])
  refine wpAnyH_take (i := 10) (oi := ⟨some 62, _, _, _, _, _⟩) (v := ?v10b) rfl (by kernel_rfl) (by kernel_rfl) (by kernel_rfl) (fun _ _ _ h => h) (Or.inl ⟨by rfl, ?y10b⟩) (by assumption) ?r10b
  case y10b => (intro w hSw; (try dsimp only at hSw); (try go_split_ands); go_simp); (try with_reducible rfl)
  case r10b =>
  (try simp only [Act.put, List.setIfInBounds_toArray, List.set_cons_zero, List.set_cons_succ])
  refine wpAnyH_take (i := 11) (oi := ⟨some 63, _, _, _, _, _⟩) (v := undef) rfl (by kernel_rfl) (by kernel_rfl) (by kernel_rfl) (fun _ _ _ h => h) (Or.inr ⟨by rfl, rfl⟩) (by assumption) ?_
  (try simp only [Act.put, List.setIfInBounds_toArray, List.set_cons_zero, List.set_cons_succ])
  refine wpAnyH_take (i := 12) (oi := ⟨some 64, _, _, _, _, _⟩) (v := undef) rfl (by kernel_rfl) (by kernel_rfl) (by kernel_rfl) (fun _ _ _ h => h) (Or.inr ⟨by rfl, rfl⟩) (by assumption) ?_
  (try simp only [Act.put, List.setIfInBounds_toArray, List.set_cons_zero, List.set_cons_succ])
  refine wpAnyH_take (i := 13) (oi := ⟨some 65, _, _, _, _, _⟩) (v := undef) rfl (by kernel_rfl) (by kernel_rfl) (by kernel_rfl) (fun _ _ _ h => h) (Or.inr ⟨by rfl, rfl⟩) (by assumption) ?_
  (try simp only [Act.put, List.setIfInBounds_toArray, List.set_cons_zero, List.set_cons_succ])
  refine wpAnyH_take (i := 14) (oi := ⟨some 66, _, _, _, _, _⟩) (v := undef) rfl (by kernel_rfl) (by kernel_rfl) (by kernel_rfl) (fun _ _ _ h => h) (Or.inr ⟨by rfl, rfl⟩) (by assumption) ?_
  (try simp only [Act.put, List.setIfInBounds_toArray, List.set_cons_zero, List.set_cons_succ])
  refine wpAnyH_take (i := 15) (oi := ⟨some 67, _, _, _, _, _⟩) (v := undef) rfl (by kernel_rfl) (by kernel_rfl) (by kernel_rfl) (fun _ _ _ h => h) (Or.inr ⟨by rfl, rfl⟩) (by assumption) ?_
  (try simp only [Act.put, List.setIfInBounds_toArray, List.set_cons_zero, List.set_cons_succ])
  refine wpAnyH_take (i := 16) (oi := ⟨some 68, _, _, _, _, _⟩) (v := undef) rfl (by kernel_rfl) (by kernel_rfl) (by kernel_rfl) (fun _ _ _ h => h) (Or.inr ⟨by rfl, rfl⟩) (by assumption) ?_
  (try simp only [Act.put, List.setIfInBounds_toArray, List.set_cons_zero, List.set_cons_succ])
  refine wpAnyH_take (i := 17) (oi := ⟨some 69, _, _, _, _, _⟩) (v := undef) rfl (by kernel_rfl) (by kernel_rfl) (by kernel_rfl) (fun _ _ _ h => h) (Or.inr ⟨by rfl, rfl⟩) (by assumption) ?_
  (try simp only [Act.put, List.setIfInBounds_toArray, List.set_cons_zero, List.set_cons_succ])
  refine wpAnyH_take (i := 18) (oi := ⟨some 70, _, _, _, _, _⟩) (v := ?v18b) rfl (by kernel_rfl) (by kernel_rfl) (by kernel_rfl) (fun _ _ _ h => h) (Or.inl ⟨by rfl, ?y18b⟩) (by assumption) ?r18b
  case y18b => (intro w hSw; (try dsimp only at hSw); (try go_split_ands); go_simp); (try with_reducible rfl)
  case r18b =>
  (try simp only [Act.put, List.setIfInBounds_toArray, List.set_cons_zero, List.set_cons_succ])
  refine wpAnyH_done (by kernel_rfl) ?_ _
  clear hHeld
  go_wp2_with fail
  have HBd : Bk V4.drew b (.slice none 0 0) 1 := HB4.out.touch (Touch.of_drew (fun _ => False) V4) (fun h => h)
  refine (heapPush b 5 1 1 3 5 ⟨#[97]⟩ false _ HBd.five (HBd.free 5) HBd.low).mono ?_
  rintro e w5 ⟨rfl, g, cap, hg, hown, h5, hoth, ht5, hfr⟩
  have hBk : Bk w5 b (.slice (some ⟨g, 0, none⟩) 1 cap) 1 := ⟨fun k h1 h2 => (hoth k h2).trans (HBd.others k h1 h2), h5, (hoth 8 (by decide)).trans HBd.last, fun j => (hfr j).trans (HBd.free j), Nat.lt_of_lt_of_le HBd.low ht5.size⟩
  have e4 : w5.cell? ⟨w.heap.size, 4, none⟩ = some (.int .i64 3) := ht5.cell (show V4.drew.cell? ⟨w.heap.size, 4, none⟩ = some (.int .i64 3) from d4) (by omega)
  have hgs : V4.heap.size ≤ g := hg
  have HO := Lib.hid (show w5.ownsRow V4.heap.size 23 6 _ 1 _ from hown)
  have HBk := Lib.hid hBk
  have ht6 : Touch (fun x => x = b) V4 w5 := ⟨ht5.os, ht5.tape, ht5.output, ht5.size, ht5.block⟩
  clear d0 d1 d2 d3 d4 d5 k1 HBd hBk hown h5 hoth hfr ht5
  go_wp2_with fail
  go_quiet (fail)
  go_wp2_with fail
  have hh := hB0.trans (hbc2.mono (by omega))
  have t1 : Touch (fun x => x = b) w w2 := ⟨hh.os, hh.tape, hh.output, hh.size, fun q hq _ => hh.block q hq⟩
  have t2 : Touch (fun x => x = b) w w5 := (t1.trans ht4 (fun _ _ h => h)).trans ht6 (fun _ _ h => h)
  refine bodyPost_ret (v := .tuple #[.slice none 0 0, .int .i64 3, .int .i64 0]) (by simp [results, Try.results11, go_sem, ↓IntWalk.iteOmega, *]) rfl ⟨rfl, g, cap, by omega, ?_, ?_, t2.drewN _⟩
  · exact (HO.out.mono (by omega) : w5.ownsRow w.heap.size 23 6 _ 1 _)
  · exact HBk.out.touch ((Touch.refl (fun _ => False) _).drewN _) (fun h => h)

end Go.Proofs.Ytgppgbiebfdnlaa
