/- BookOf: the walk. -/
import Derived.Test.YtekelnkjigaofaaBqOc
import Derived.Test.YtekelnkjigaofaaBqOd
import Derived.Test.YtekelnkjigaofaaBqY
import Derived.Deep.QuietTactic
import Derived.BigQuiet
import Derived.Deep.Cut
import Derived.StillTailTactics
namespace Go.Proofs.Ytekelnkjigaofaa
open Go.RowKit
set_option linter.unusedVariables false
set_option linter.unusedSimpArgs false

theorem of_yes {P Q R : Prop} (h : P) (hr : (P ∧ Q) ∨ (¬ P ∧ R)) : Q := by rcases hr with h1 | h1; exact h1.2; exact absurd h h1.1
theorem of_no {P Q R : Prop} (h : ¬ P) (hr : (P ∧ Q) ∨ (¬ P ∧ R)) : R := by rcases hr with h1 | h1; exact absurd h1.1 h; exact h1.2
set_option maxHeartbeats 20000000 in
set_option maxRecDepth 10000 in
theorem walkBookOf (A : Option Addr) (c : Nat) (xs : List Od) (o : Od) (w : World) (hx : Cells w w.heap.size A xs.length c 6 (flatO xs)) :
    Calls Try.prog 4 #[.slice A xs.length c, .agg #[.int .i64 o.id, .string o.who, .bool o.buy, .int .i64 o.item, .int .i64 o.ct, .int .i64 o.pr]] w fun e w' => e = .returned (.bool true) ∧ Below w.heap.size w w' := by
  have HX := Lib.hid hx
  clear hx
  by_cases hl60 : xs.length ≤ 60
  case neg =>
    have q : (60 : Int) < (xs.length : Int) := by omega
    go_enter Try.func4, Try.ntmps4
    go_wp2_with fail
    go_ret
    exact ⟨rfl, by ((repeat (first | (with_reducible exact Below.refl _ _) | (with_reducible assumption) | ((with_reducible refine b_set ?_ ?_); · (first | omega | (simp; done) | (simp; omega))) | ((with_reducible refine b_alloc ?_ ?_); · (first | omega | (simp; done) | (simp; omega))) | (with_reducible refine Below.drew ?_) | (with_reducible refine b_drewN ?_) | ((with_reducible refine b_call (by assumption) ?_ ?_); · (first | omega | (simp; done) | (simp; omega))))); done)⟩
  have q : ¬ (60 : Int) < (xs.length : Int) := by omega
  obtain ⟨i0, hi0, hz0, hz1, hz2⟩ := info_parts Try.infoOrder
  by_cases hof : OfK xs
  case neg =>
    have HOF := Lib.hid hof
    clear hof
    go_enter Try.func4, Try.ntmps4
    go_wp2_with (first
      | (at_builtin; refine wpList_append_touch rfl (.tmp 19) (.tmp 20) 28 rfl w.heap.size 35 i0 (.agg #[.int .i64 0, .string ⟨#[]⟩, .bool false, .int .i64 0, .int .i64 0, .int .i64 0]) 6 56 Try.underlying28 hi0 hz0 hz1 hz2 rfl (by decide) (.slice (some ⟨w.heap.size + 1, 0, none⟩) 0 0) 0 [] rfl (owns_lit0 (by (first | omega | (simp; done) | (simp; omega))) (by (first | omega | (simp; done) | (simp; omega)))) w.heap.size A xs.length c (flatO xs) rfl (cells_keep HX.out ((Below.refl _ _).alloc (Nat.le_refl _) _ |>.alloc (by (first | omega | (simp; done) | (simp; omega))) _) (Nat.le_refl _)) (flatO_one _) (by unfold maxLen; omega) (by omega) (by (first | omega | (simp; done) | (simp; omega))) ?_; intro v1 w1 hown1 ht1 hb1; have hbw : Below w.heap.size w w1 := (((Below.refl _ _).alloc (Nat.le_refl _) _).alloc (by (first | omega | (simp; done) | (simp; omega))) _).trans (ht1.below (by (first | omega | (simp; done) | (simp; omega))) (fun k hk => by simp [Value.ownBlock] at hk; omega)); have hsw := hbw.size; obtain ⟨A1, c1, hv1, _, _, hC1⟩ := row_cells hown1; simp only [Nat.zero_add, List.nil_append] at hv1 hC1; subst hv1; have HC1 := Lib.hid hC1; have HBW := Lib.hid hbw; have hK1 : Whl w1 w.heap.size 35 #[.int .i64 o.id, .string o.who, .bool o.buy, .int .i64 o.item, .int .i64 o.ct, .int .i64 o.pr] := (ht1.block _ (by (first | omega | (simp; done) | (simp; omega))) (fun h => by simp [Value.ownBlock] at h)).trans ((Whl.new rfl).alloc _); have HK1 := Lib.hid hK1; have hs1 := ht1.size; (try simp at hs1); clear hown1 ht1 hb1 hbw hC1 hK1)
      | (go_at_call 14; go_loud (refine (bkOf _ A1 c1 xs _ HC1.out (Nat.le_refl _) hl60).mono ?_; rintro e w2 ⟨hb2, hres⟩; obtain rfl := of_no HOF.out hres; have HB2 := Lib.hid hb2; have hs2 := hb2.size; clear hb2))
      | (go_at_call 15; go_loud (refine (refOf _ A c xs _ (cells_keep HX.out (HBW.out.trans (HB2.out.mono hsw)) (Nat.le_refl _)) (by omega) hl60).mono ?_; rintro e w3 ⟨hb3, hres⟩; obtain rfl := of_no HOF.out hres; have HB3 := Lib.hid hb3; have hs3 := hb3.size; clear hb3))
      | (go_at_call 13; refine (bkKnown _).mono ?_; rintro e w6 ⟨rfl, hb6⟩)
      | fail)
    go_ret
    exact ⟨rfl, ((HBW.out.trans (HB2.out.mono hsw)).trans (HB3.out.mono (by omega))).trans (hb6.mono (by omega))⟩
  have HOF := Lib.hid hof
  clear hof
  go_enter Try.func4, Try.ntmps4
  go_wp2_with (first
    | (at_builtin; refine wpList_append_touch rfl (.tmp 19) (.tmp 20) 28 rfl w.heap.size 35 i0 (.agg #[.int .i64 0, .string ⟨#[]⟩, .bool false, .int .i64 0, .int .i64 0, .int .i64 0]) 6 56 Try.underlying28 hi0 hz0 hz1 hz2 rfl (by decide) (.slice (some ⟨w.heap.size + 1, 0, none⟩) 0 0) 0 [] rfl (owns_lit0 (by (first | omega | (simp; done) | (simp; omega))) (by (first | omega | (simp; done) | (simp; omega)))) w.heap.size A xs.length c (flatO xs) rfl (cells_keep HX.out ((Below.refl _ _).alloc (Nat.le_refl _) _ |>.alloc (by (first | omega | (simp; done) | (simp; omega))) _) (Nat.le_refl _)) (flatO_one _) (by unfold maxLen; omega) (by omega) (by (first | omega | (simp; done) | (simp; omega))) ?_; intro v1 w1 hown1 ht1 hb1; have hbw : Below w.heap.size w w1 := (((Below.refl _ _).alloc (Nat.le_refl _) _).alloc (by (first | omega | (simp; done) | (simp; omega))) _).trans (ht1.below (by (first | omega | (simp; done) | (simp; omega))) (fun k hk => by simp [Value.ownBlock] at hk; omega)); have hsw := hbw.size; obtain ⟨A1, c1, hv1, _, _, hC1⟩ := row_cells hown1; simp only [Nat.zero_add, List.nil_append] at hv1 hC1; subst hv1; have HC1 := Lib.hid hC1; have HBW := Lib.hid hbw; have hK1 : Whl w1 w.heap.size 35 #[.int .i64 o.id, .string o.who, .bool o.buy, .int .i64 o.item, .int .i64 o.ct, .int .i64 o.pr] := (ht1.block _ (by (first | omega | (simp; done) | (simp; omega))) (fun h => by simp [Value.ownBlock] at h)).trans ((Whl.new rfl).alloc _); have HK1 := Lib.hid hK1; have hs1 := ht1.size; (try simp at hs1); clear hown1 ht1 hb1 hbw hC1 hK1)
    | (go_at_call 14; go_loud (refine (bkOf _ A1 c1 xs _ HC1.out (Nat.le_refl _) hl60).mono ?_; rintro e w2 ⟨hb2, hres⟩; obtain ⟨b, v, rfl, hbk, hfr⟩ := of_yes HOF.out hres; have HB2 := Lib.hid hb2; have hs2 := hb2.size; have HB2k := Lib.hid hbk; have HFR := Lib.hid hfr; clear hb2 hbk hfr))
    | (go_at_call 15; go_loud (refine (refOf _ A c xs _ (cells_keep HX.out (HBW.out.trans (HB2.out.mono hsw)) (Nat.le_refl _)) (by omega) hl60).mono ?_; rintro e w3 ⟨hb3, hres⟩; obtain ⟨x, u, rfl, hrf⟩ := of_yes HOF.out hres; have HB3 := Lib.hid hb3; have hs3 := hb3.size; have HR3 := Lib.hid hrf; have HB3k := Lib.hid (HB2k.out.below hb3); have HK3 := Lib.hid ((HK1.out.below HB2.out (by omega)).below hb3 (by omega)); have d0 := HK3.out.cell 0; have d1 := HK3.out.cell 1; have d2 := HK3.out.cell 2; have d3 := HK3.out.cell 3; have d4 := HK3.out.cell 4; have d5 := HK3.out.cell 5; simp only [List.getElem?_toArray, List.getElem?_cons_succ, List.getElem?_cons_zero] at d0 d1 d2 d3 d4 d5; clear hb3 hrf))
    | (go_at_call 17; go_loud (refine (refPlace w2.heap.size x u (lastOf xs) xs o _ HR4.out HB3k.out.bk (by omega)).mono ?_; rintro e w5 ⟨T2, n2, e2, L2, last2, ur, tv2, rfl, hp2, hr2, ho2, ha2, ht2, hf2⟩; obtain ⟨rfl, rfl, rfl, rfl, rfl⟩ := Placed.det HB3k.out.bk HPD.out (Placed.of_r hp2); have hs5 := ht2.size; have HR5 := Lib.hid hr2; have HB5 := Lib.hid (HB4.out.keep ht2 (fun k hk => HD4.out k hk)); have HW5 := Lib.hid (HW4.out.trans (ht2.below (by omega) (fun k hk => by have := (HR3.out.lows k hk).1; omega))); obtain ⟨At, kt, hvt, _, _, _⟩ := own_slice HTV.out; subst hvt; obtain ⟨At2, kt2, hvt2, _, _, _⟩ := own_slice ho2; subst hvt2; clear ho2 hr2 ha2 ht2 hf2 hp2))
    | (go_at_call 16; go_loud (refine (place b v xs (lastOf xs) o _ HB3k.out).mono ?_; rintro e w4 ⟨T, n, e', L', last', v4, tv, rfl, hp, hb, ho, ha, ht, hf⟩; have hs4 := ht.size; have HB4 := Lib.hid hb; have HTV := Lib.hid ho; have HPD := Lib.hid hp; have hTl := hp.len; have HW4 := Lib.hid (((HBW.out.trans (HB2.out.mono hsw)).trans (HB3.out.mono (by omega))).trans (ht.below (by omega) (fun k hk => by have := HFR.out k hk; omega))); have HR4 := Lib.hid (HR3.out.keep ht (fun k hk h => by have h1 := (HR3.out.lows k hk).1; have h2 := HB2k.out.lows k h; omega)); have HD4 : Hid (∀ k, Ft b v4 k → ¬ Fx x u k) := Lib.hid (fun k hk hx => by rcases hf k hk with h | h; have h1 := (HR3.out.lows k hx).1; have h2 := HB2k.out.lows k h; omega; have h1 := (HR3.out.lows k hx).2; omega); have hkk : ∀ k, Ft b v k → w1.heap.size ≤ k := HFR.out; replace d0 := ht.cell d0 (fun h => by have := hkk _ h; omega); replace d1 := ht.cell d1 (fun h => by have := hkk _ h; omega); replace d2 := ht.cell d2 (fun h => by have := hkk _ h; omega); replace d3 := ht.cell d3 (fun h => by have := hkk _ h; omega); replace d4 := ht.cell d4 (fun h => by have := hkk _ h; omega); replace d5 := ht.cell d5 (fun h => by have := hkk _ h; omega); clear ho hb ha hf hp ht hkk))
    | fail)
  obtain ⟨Ax, cx, hux, _, _, hCx⟩ := row_cells HR5.out.row
  have l4 := HR5.out.blk.cell 0
  simp only [List.getElem?_toArray, List.getElem?_cons_succ, List.getElem?_cons_zero] at l4
  rw [hux] at l4
  have hxF := HR5.out.blk.low
  have HDW : Hid (Touch (fun _ => False) w5 w5.drew) := Lib.hid (Touch.of_drew _ _)
  clear hCx
  refine wp_region_held_drew (S := (fun W => W.cell? ⟨x, 0, none⟩ = some (.slice Ax L'.length cx))) (by kernel_rfl) l4 (fun hHeld => ?_)
  refine wpAnyH_take (i := 0) (oi := ⟨some 57, _, _, _, _, _⟩) (v := ?v0z) rfl (by kernel_rfl) (by kernel_rfl) (by kernel_rfl) (fun _ _ _ h => h) (Or.inl ⟨by rfl, ?y0z⟩) (by assumption) ?r0z
  case y0z => (intro w hSw; (try dsimp only at hSw); (try go_split_ands); go_simp); (try with_reducible rfl)
  case r0z =>
  (try simp only [Act.put, List.setIfInBounds_toArray, List.set_cons_zero, List.set_cons_succ])
  refine wpAnyH_take (i := 1) (oi := ⟨some 58, _, _, _, _, _⟩) (v := ?v1z) rfl (by kernel_rfl) (by kernel_rfl) (by kernel_rfl) (fun _ _ _ h => h) (Or.inl ⟨by rfl, ?y1z⟩) (by assumption) ?r1z
  case y1z => (intro w hSw; (try dsimp only at hSw); (try go_split_ands); go_simp); (try with_reducible rfl)
  case r1z =>
  (try simp only [Act.put, List.setIfInBounds_toArray, List.set_cons_zero, List.set_cons_succ])
  refine wpAnyH_take (i := 2) (oi := ⟨some 59, _, _, _, _, _⟩) (v := ?v2z) rfl (by kernel_rfl) (by kernel_rfl) (by kernel_rfl) (fun _ _ _ h => h) (Or.inl ⟨by rfl, ?y2z⟩) (by assumption) ?r2z
  case y2z => (intro w hSw; (try dsimp only at hSw); (try go_split_ands); go_simp); (try with_reducible rfl)
  case r2z =>
  (try simp only [Act.put, List.setIfInBounds_toArray, List.set_cons_zero, List.set_cons_succ])
  refine wpAnyH_take (i := 3) (oi := ⟨some 60, _, _, _, _, _⟩) (v := ?v3z) rfl (by kernel_rfl) (by kernel_rfl) (by kernel_rfl) (fun _ _ _ h => h) (Or.inl ⟨by rfl, ?y3z⟩) (by assumption) ?r3z
  case y3z => (intro w hSw; (try dsimp only at hSw); (try go_split_ands); go_simp); (try with_reducible rfl)
  case r3z =>
  (try simp only [Act.put, List.setIfInBounds_toArray, List.set_cons_zero, List.set_cons_succ])
  refine wpAnyH_take (i := 4) (oi := ⟨some 61, _, _, _, _, _⟩) (v := .bool true) rfl (by kernel_rfl) (by kernel_rfl) (by kernel_rfl) (fun _ _ _ h => h) (Or.inl ⟨by rfl, ?y4z⟩) (by assumption) ?r4z
  case y4z => (intro w hSw; (try dsimp only at hSw); (try go_split_ands); go_simp)
  case r4z =>
  (try simp only [Act.put, List.setIfInBounds_toArray, List.set_cons_zero, List.set_cons_succ])
  refine wpAnyH_take (i := 5) (oi := ⟨some 62, _, _, _, _, _⟩) (v := .bool true) rfl (by kernel_rfl) (by kernel_rfl) (by kernel_rfl) (fun _ _ _ h => h) (Or.inl ⟨by rfl, ?y5z⟩) (by assumption) ?r5z
  case y5z => (intro w hSw; (try dsimp only at hSw); (try go_split_ands); go_simp)
  case r5z =>
  (try simp only [Act.put, List.setIfInBounds_toArray, List.set_cons_zero, List.set_cons_succ])
  refine wpAnyH_take (i := 6) (oi := ⟨some 63, _, _, _, _, _⟩) (v := ?v6z) rfl (by kernel_rfl) (by kernel_rfl) (by kernel_rfl) (fun _ _ _ h => h) (Or.inl ⟨by rfl, ?y6z⟩) (by assumption) ?r6z
  case y6z => (intro w hSw; (try dsimp only at hSw); (try go_split_ands); go_simp); (try with_reducible rfl)
  case r6z =>
  (try simp only [Act.put, List.setIfInBounds_toArray, List.set_cons_zero, List.set_cons_succ])
  refine wpAnyH_take (i := 7) (oi := ⟨some 64, _, _, _, _, _⟩) (v := ?v7z) rfl (by kernel_rfl) (by kernel_rfl) (by kernel_rfl) (fun _ _ _ h => h) (Or.inl ⟨by rfl, ?y7z⟩) (by assumption) ?r7z
  case y7z => (intro w hSw; (try dsimp only at hSw); (try go_split_ands); go_simp); (try with_reducible rfl)
  case r7z =>
  (try simp only [Act.put, List.setIfInBounds_toArray, List.set_cons_zero, List.set_cons_succ])
  refine wpAnyH_take (i := 8) (oi := ⟨some 65, _, _, _, _, _⟩) (v := ?v8z) rfl (by kernel_rfl) (by kernel_rfl) (by kernel_rfl) (fun _ _ _ h => h) (Or.inl ⟨by rfl, ?y8z⟩) (by assumption) ?r8z
  case y8z => (intro w hSw; (try dsimp only at hSw); (try go_split_ands); go_simp); (try with_reducible rfl)
  case r8z =>
  (try simp only [Act.put, List.setIfInBounds_toArray, List.set_cons_zero, List.set_cons_succ])
  refine wpAnyH_take (i := 9) (oi := ⟨some 66, _, _, _, _, _⟩) (v := .bool true) rfl (by kernel_rfl) (by kernel_rfl) (by kernel_rfl) (fun _ _ _ h => h) (Or.inl ⟨by rfl, ?y9z⟩) (by assumption) ?r9z
  case y9z => (intro w hSw; (try dsimp only at hSw); (try go_split_ands); go_simp)
  case r9z =>
  (try simp only [Act.put, List.setIfInBounds_toArray, List.set_cons_zero, List.set_cons_succ])
  refine wpAnyH_take (i := 10) (oi := ⟨some 67, _, _, _, _, _⟩) (v := .bool true) rfl (by kernel_rfl) (by kernel_rfl) (by kernel_rfl) (fun _ _ _ h => h) (Or.inl ⟨by rfl, ?y10z⟩) (by assumption) ?r10z
  case y10z => (intro w hSw; (try dsimp only at hSw); (try go_split_ands); go_simp)
  case r10z =>
  (try simp only [Act.put, List.setIfInBounds_toArray, List.set_cons_zero, List.set_cons_succ])
  refine wpAnyH_take (i := 11) (oi := ⟨some 68, _, _, _, _, _⟩) (v := ?v11z) rfl (by kernel_rfl) (by kernel_rfl) (by kernel_rfl) (fun _ _ _ h => h) (Or.inl ⟨by rfl, ?y11z⟩) (by assumption) ?r11z
  case y11z => (intro w hSw; (try dsimp only at hSw); (try go_split_ands); go_simp); (try with_reducible rfl)
  case r11z =>
  (try simp only [Act.put, List.setIfInBounds_toArray, List.set_cons_zero, List.set_cons_succ])
  refine wpAnyH_take (i := 12) (oi := ⟨some 69, _, _, _, _, _⟩) (v := ?v12z) rfl (by kernel_rfl) (by kernel_rfl) (by kernel_rfl) (fun _ _ _ h => h) (Or.inl ⟨by rfl, ?y12z⟩) (by assumption) ?r12z
  case y12z => (intro w hSw; (try dsimp only at hSw); (try go_split_ands); go_simp); (try with_reducible rfl)
  case r12z =>
  (try simp only [Act.put, List.setIfInBounds_toArray, List.set_cons_zero, List.set_cons_succ])
  refine wpAnyH_take (i := 13) (oi := ⟨some 70, _, _, _, _, _⟩) (v := ?v13z) rfl (by kernel_rfl) (by kernel_rfl) (by kernel_rfl) (fun _ _ _ h => h) (Or.inl ⟨by rfl, ?y13z⟩) (by assumption) ?r13z
  case y13z => (intro w hSw; (try dsimp only at hSw); (try go_split_ands); go_simp); (try with_reducible rfl)
  case r13z =>
  (try simp only [Act.put, List.setIfInBounds_toArray, List.set_cons_zero, List.set_cons_succ])
  refine wpAnyH_take (i := 14) (oi := ⟨some 71, _, _, _, _, _⟩) (v := .bool true) rfl (by kernel_rfl) (by kernel_rfl) (by kernel_rfl) (fun _ _ _ h => h) (Or.inl ⟨by rfl, ?y14z⟩) (by assumption) ?r14z
  case y14z => (intro w hSw; (try dsimp only at hSw); (try go_split_ands); go_simp)
  case r14z =>
  (try simp only [Act.put, List.setIfInBounds_toArray, List.set_cons_zero, List.set_cons_succ])
  refine wpAnyH_take (i := 15) (oi := ⟨some 72, _, _, _, _, _⟩) (v := .bool true) rfl (by kernel_rfl) (by kernel_rfl) (by kernel_rfl) (fun _ _ _ h => h) (Or.inl ⟨by rfl, ?y15z⟩) (by assumption) ?r15z
  case y15z => (intro w hSw; (try dsimp only at hSw); (try go_split_ands); go_simp)
  case r15z =>
  (try simp only [Act.put, List.setIfInBounds_toArray, List.set_cons_zero, List.set_cons_succ])
  refine wpAnyH_take (i := 16) (oi := ⟨some 73, _, _, _, _, _⟩) (v := ?v16z) rfl (by kernel_rfl) (by kernel_rfl) (by kernel_rfl) (fun _ _ _ h => h) (Or.inl ⟨by rfl, ?y16z⟩) (by assumption) ?r16z
  case y16z => (intro w hSw; (try dsimp only at hSw); (try go_split_ands); go_simp); (try with_reducible rfl)
  case r16z =>
  (try simp only [Act.put, List.setIfInBounds_toArray, List.set_cons_zero, List.set_cons_succ])
  refine wpAnyH_take (i := 18) (oi := ⟨some 75, _, _, _, _, _⟩) (v := ?v18z) rfl (by kernel_rfl) (by kernel_rfl) (by kernel_rfl) (fun _ _ _ h => h) (Or.inl ⟨by rfl, ?y18z⟩) (by assumption) ?r18z
  case y18z => (intro w hSw; (try dsimp only at hSw); (try go_split_ands); go_simp); (try with_reducible rfl)
  case r18z =>
  (try simp only [Act.put, List.setIfInBounds_toArray, List.set_cons_zero, List.set_cons_succ])
  refine wpAnyH_take (i := 19) (oi := ⟨some 76, _, _, _, _, _⟩) (v := ?v19z) rfl (by kernel_rfl) (by kernel_rfl) (by kernel_rfl) (fun _ _ _ h => h) (Or.inl ⟨by rfl, ?y19z⟩) (by assumption) ?r19z
  case y19z => (intro w hSw; (try dsimp only at hSw); (try go_split_ands); go_simp); (try with_reducible rfl)
  case r19z =>
  (try simp only [Act.put, List.setIfInBounds_toArray, List.set_cons_zero, List.set_cons_succ])
  refine wpAnyH_take (i := 20) (oi := ⟨some 77, _, _, _, _, _⟩) (v := ?v20z) rfl (by kernel_rfl) (by kernel_rfl) (by kernel_rfl) (fun _ _ _ h => h) (Or.inl ⟨by rfl, ?y20z⟩) (by assumption) ?r20z
  case y20z => (intro w hSw; (try dsimp only at hSw); (try go_split_ands); go_simp); (try with_reducible rfl)
  case r20z =>
  (try simp only [Act.put, List.setIfInBounds_toArray, List.set_cons_zero, List.set_cons_succ])
  refine wpAnyH_take (i := 21) (oi := ⟨some 78, _, _, _, _, _⟩) (v := ?v21z) rfl (by kernel_rfl) (by kernel_rfl) (by kernel_rfl) (fun _ _ _ h => h) (Or.inl ⟨by rfl, ?y21z⟩) (by assumption) ?r21z
  case y21z => (intro w hSw; (try dsimp only at hSw); (try go_split_ands); go_simp); (try with_reducible rfl)
  case r21z =>
  (try simp only [Act.put, List.setIfInBounds_toArray, List.set_cons_zero, List.set_cons_succ])
  refine wpAnyH_ready (rs := [17]) (by kernel_rfl) (by simp) ?_
  refine AllReadyH.cons (o := ⟨some 74, _, _, _, _, _⟩) rfl (fun K hK => ?_) AllReadyH.nil
  go_simp
  refine (list b v4 L' last' _ (HB5.out.keep HDW.out (fun _ _ h => h))).mono ?_; rintro e wb ⟨ub, rfl, hub, hbb⟩
  go_wp2_with fail
  have HBB : Hid (Below w5.heap.size w5 wb) := Lib.hid ((Below.refl _ _).drew.trans hbb)
  obtain ⟨Ab, cb, hub2, _, _, hCb⟩ := row_cells hub
  subst hub2
  have HCB := Lib.hid hCb
  clear hub hCb hbb
  refine hK.out _ _ (by first | exact bkeep HBD.out l4 hxF | exact bkeep HBC.out l4 hxF | exact bkeep HBB.out l4 hxF) (fun hHeld => ?_)
  clear hK K
  (try simp only [Act.put, List.setIfInBounds_toArray, List.set_cons_zero, List.set_cons_succ])
  refine wpAnyH_ready (rs := [22]) (by kernel_rfl) (by simp) ?_
  refine AllReadyH.cons (o := ⟨some 79, _, _, _, _, _⟩) rfl (fun K hK => ?_) AllReadyH.nil
  go_simp
  obtain ⟨Ar, cr, hur, _, _, hCr⟩ := row_cells (HR5.out.below HBB.out).row
  obtain ⟨hA, hc⟩ : Ar = Ax ∧ cr = cx := by rw [hux] at hur; injection hur with h1 h2 h3; exact ⟨h1.symm, h3.symm⟩
  subst hA hc
  refine (lawOrders 0 Ab Ar cb cr L' _ HCB.out hCr (by have := HB5.out.len; omega)).mono ?_; rintro e wc ⟨rfl, hbc⟩
  go_wp2_with fail
  have HBC : Hid (Below w5.heap.size w5 wc) := Lib.hid (HBB.out.trans (hbc.mono HBB.out.size))
  refine hK.out _ _ (by first | exact bkeep HBD.out l4 hxF | exact bkeep HBC.out l4 hxF | exact bkeep HBB.out l4 hxF) (fun hHeld => ?_)
  clear hK K
  (try simp only [Act.put, List.setIfInBounds_toArray, List.set_cons_zero, List.set_cons_succ])
  refine wpAnyH_take (i := 23) (oi := ⟨some 80, _, _, _, _, _⟩) (v := .bool true) rfl (by kernel_rfl) (by kernel_rfl) (by kernel_rfl) (fun _ _ _ h => h) (Or.inl ⟨by rfl, ?y23z⟩) (by assumption) ?r23z
  case y23z => (intro w hSw; (try dsimp only at hSw); (try go_split_ands); go_simp)
  case r23z =>
  (try simp only [Act.put, List.setIfInBounds_toArray, List.set_cons_zero, List.set_cons_succ])
  refine wpAnyH_take (i := 24) (oi := ⟨some 81, _, _, _, _, _⟩) (v := .bool true) rfl (by kernel_rfl) (by kernel_rfl) (by kernel_rfl) (fun _ _ _ h => h) (Or.inl ⟨by rfl, ?y24z⟩) (by assumption) ?r24z
  case y24z => (intro w hSw; (try dsimp only at hSw); (try go_split_ands); go_simp)
  case r24z =>
  (try simp only [Act.put, List.setIfInBounds_toArray, List.set_cons_zero, List.set_cons_succ])
  refine wpAnyH_ready (rs := [25]) (by kernel_rfl) (by simp) ?_
  refine AllReadyH.cons (o := ⟨some 82, _, _, _, _, _⟩) rfl (fun K hK => ?_) AllReadyH.nil
  go_simp
  refine (bkKnown _).mono ?_; rintro e wd ⟨rfl, hbd⟩
  go_wp2_with fail
  have HBD : Hid (Below w5.heap.size w5 wd) := Lib.hid (HBC.out.trans (hbd.mono HBC.out.size))
  refine hK.out _ _ (by first | exact bkeep HBD.out l4 hxF | exact bkeep HBC.out l4 hxF | exact bkeep HBB.out l4 hxF) (fun hHeld => ?_)
  clear hK K
  (try simp only [Act.put, List.setIfInBounds_toArray, List.set_cons_zero, List.set_cons_succ])
  refine wpAnyH_take (i := 26) (oi := ⟨some 83, _, _, _, _, _⟩) (v := .bool true) rfl (by kernel_rfl) (by kernel_rfl) (by kernel_rfl) (fun _ _ _ h => h) (Or.inl ⟨by rfl, ?y26z⟩) (by assumption) ?r26z
  case y26z => (intro w hSw; (try dsimp only at hSw); (try go_split_ands); go_simp)
  case r26z =>
  (try simp only [Act.put, List.setIfInBounds_toArray, List.set_cons_zero, List.set_cons_succ])
  refine wpAnyH_take (i := 27) (oi := ⟨some 4, _, _, _, _, _⟩) (v := ?v27z) rfl (by kernel_rfl) (by kernel_rfl) (by kernel_rfl) (fun _ _ _ h => h) (Or.inl ⟨by rfl, ?y27z⟩) (by assumption) ?r27z
  case y27z => (intro w hSw; (try dsimp only at hSw); (try go_split_ands); go_simp); (try with_reducible rfl)
  case r27z =>
  (try simp only [Act.put, List.setIfInBounds_toArray, List.set_cons_zero, List.set_cons_succ])
  refine wpAnyH_done (by kernel_rfl) ?_ _

  go_wp2_with fail
  go_ret
  exact ⟨rfl, HW5.out.trans (HBD.out.mono HW5.out.size)⟩
end Go.Proofs.Ytekelnkjigaofaa
