/- A reply as bytes: the document's own EncodeReply, of one that may be. -/
import Derived.Test.YtblknjclkecglaaRepE
import Derived.Test.YtblknjclkecglaaTouch
namespace Go.Proofs.Ytblknjclkecglaa
open Go.RowKit
set_option linter.unusedVariables false
set_option linter.unusedSimpArgs false

theorem whl_of_alloc {B : Nat} {a W : World} {t : TypeId} {cs : Array Value} (h : Below B a (W.alloc (.cells cs t))) : Whl (W.alloc (.cells cs t)) W.heap.size t cs := Whl.new rfl
theorem ints2_of {W : World} {g B : Nat} {t : TypeId} {x y : Int} (h : Whl W g t #[.int .i64 x, .int .i64 y]) (hg : g < B) : Ints W B (some ⟨g, 0, none⟩) [x, y] := by
  intro k hk
  refine ⟨g, 0, rfl, hg, ?_⟩
  rw [Nat.zero_add, h.cell]
  match k, hk with
  | 0, _ => rfl
  | 1, _ => rfl
set_option maxHeartbeats 4000000 in
set_option maxRecDepth 10000 in
theorem refEncodeReply (e i a b c d : Int) (w : World) (h : repB e i a b c d = true) :
    Calls Try.prog 16 #[.agg #[.int .i64 e, .int .i64 i, .int .i64 a, .int .i64 b, .int .i64 c, .int .i64 d]] w fun z w' => ∃ v', z = .returned (.tuple #[v', .int .i64 0]) ∧ w'.ownsRow w.heap.size 5 1 v' (repBs e i a b c d).length (flatU (repBs e i a b c d)) ∧ Below w.heap.size w w' := by
  obtain ⟨i0, hi, hz0, hz1, hz2⟩ := info_parts Try.infoByte
  go_enter Try.func16, Try.ntmps16
  go_wp2_with fail
  have hB0 : Below w.heap.size w (w.alloc (.cells #[.int .i64 e, .int .i64 i, .int .i64 a, .int .i64 b, .int .i64 c, .int .i64 d] 43)) := (Below.refl _ _).alloc (Nat.le_refl _) _
  have P0 : Whl (w.alloc (.cells #[.int .i64 e, .int .i64 i, .int .i64 a, .int .i64 b, .int .i64 c, .int .i64 d] 43)) w.heap.size 43 #[.int .i64 e, .int .i64 i, .int .i64 a, .int .i64 b, .int .i64 c, .int .i64 d] := Whl.new rfl
  have hs0 : w.heap.size < (w.alloc (.cells #[.int .i64 e, .int .i64 i, .int .i64 a, .int .i64 b, .int .i64 c, .int .i64 d] 43)).heap.size := by simp
  generalize w.alloc (.cells #[.int .i64 e, .int .i64 i, .int .i64 a, .int .i64 b, .int .i64 c, .int .i64 d] 43) = U at *
  refine (refMayReply _ _ _ _ _ _ _).mono ?_
  rintro z V ⟨hz, hb1⟩
  rw [h] at hz
  subst hz
  have P1 := P0.below hb1 hs0
  have hs1 := hb1.size
  have B1 := hB0.trans (hb1.mono (by omega))
  have hltV : w.heap.size < V.heap.size := by omega
  have hen2 := encs_len [e, i]
  have hen4 := encs_len [a, b, c, d]
  simp only [List.length_cons, List.length_nil] at hen2 hen4
  clear P0 hB0 hb1
  have k0 := P1.cell 0
  have k1 := P1.cell 1
  have k2 := P1.cell 2
  have k3 := P1.cell 3
  have k4 := P1.cell 4
  have k5 := P1.cell 5
  simp only [List.getElem?_toArray, List.getElem?_cons_succ, List.getElem?_cons_zero] at k0 k1 k2 k3 k4 k5
  go_wp2_with fail
  refine wp_region_held_drew (S := (fun W => Below V.heap.size V W ∧ W.cell? ⟨w.heap.size, 0, none⟩ = some (.int .i64 e) ∧ W.cell? ⟨w.heap.size, 1, none⟩ = some (.int .i64 i) ∧ W.cell? ⟨w.heap.size, 2, none⟩ = some (.int .i64 a) ∧ W.cell? ⟨w.heap.size, 3, none⟩ = some (.int .i64 b) ∧ W.cell? ⟨w.heap.size, 4, none⟩ = some (.int .i64 c) ∧ W.cell? ⟨w.heap.size, 5, none⟩ = some (.int .i64 d))) (by kernel_rfl) ⟨(Below.refl _ _).drew, k0, k1, k2, k3, k4, k5⟩ (fun hHeld => ?_)
  refine wpAnyH_take (i := 0) (oi := ⟨some 7, _, _, _, _, _⟩) (v := ?v0) rfl (by kernel_rfl) (by kernel_rfl) (by kernel_rfl) (fun _ _ _ h => h) (Or.inl ⟨by rfl, ?y0⟩) (by assumption) ?r0
  case y0 => (intro w hSw; (try dsimp only at hSw); (try go_split_ands); go_simp); (try with_reducible rfl)
  case r0 =>
  (try simp only [Act.put, List.setIfInBounds_toArray, List.set_cons_zero, List.set_cons_succ])
  refine wpAnyH_take (i := 1) (oi := ⟨some 8, _, _, _, _, _⟩) (v := ?v1) rfl (by kernel_rfl) (by kernel_rfl) (by kernel_rfl) (fun _ _ _ h => h) (Or.inl ⟨by rfl, ?y1⟩) (by assumption) ?r1
  case y1 => (intro w hSw; (try dsimp only at hSw); (try go_split_ands); go_simp); (try with_reducible rfl)
  case r1 =>
  (try simp only [Act.put, List.setIfInBounds_toArray, List.set_cons_zero, List.set_cons_succ])
  refine wpAnyH_take (i := 2) (oi := ⟨some 9, _, _, _, _, _⟩) (v := ?v2) rfl (by kernel_rfl) (by kernel_rfl) (by kernel_rfl) (fun _ _ _ h => h) (Or.inl ⟨by rfl, ?y2⟩) (by assumption) ?r2
  case y2 => (intro w hSw; (try dsimp only at hSw); (try go_split_ands); go_simp); (try with_reducible rfl)
  case r2 =>
  (try simp only [Act.put, List.setIfInBounds_toArray, List.set_cons_zero, List.set_cons_succ])
  refine wpAnyH_take (i := 3) (oi := ⟨some 10, _, _, _, _, _⟩) (v := ?v3) rfl (by kernel_rfl) (by kernel_rfl) (by kernel_rfl) (fun _ _ _ h => h) (Or.inl ⟨by rfl, ?y3⟩) (by assumption) ?r3
  case y3 => (intro w hSw; (try dsimp only at hSw); (try go_split_ands); go_simp); (try with_reducible rfl)
  case r3 =>
  (try simp only [Act.put, List.setIfInBounds_toArray, List.set_cons_zero, List.set_cons_succ])
  refine wpAnyH_take (i := 6) (oi := ⟨some 13, _, _, _, _, _⟩) (v := ?v6) rfl (by kernel_rfl) (by kernel_rfl) (by kernel_rfl) (fun _ _ _ h => h) (Or.inl ⟨by rfl, ?y6⟩) (by assumption) ?r6
  case y6 => (intro w hSw; (try dsimp only at hSw); (try go_split_ands); go_simp); (try with_reducible rfl)
  case r6 =>
  (try simp only [Act.put, List.setIfInBounds_toArray, List.set_cons_zero, List.set_cons_succ])
  refine wpAnyH_take (i := 7) (oi := ⟨some 14, _, _, _, _, _⟩) (v := ?v7) rfl (by kernel_rfl) (by kernel_rfl) (by kernel_rfl) (fun _ _ _ h => h) (Or.inl ⟨by rfl, ?y7⟩) (by assumption) ?r7
  case y7 => (intro w hSw; (try dsimp only at hSw); (try go_split_ands); go_simp); (try with_reducible rfl)
  case r7 =>
  (try simp only [Act.put, List.setIfInBounds_toArray, List.set_cons_zero, List.set_cons_succ])
  refine wpAnyH_ready (rs := [4]) (by kernel_rfl) (by simp) ?_
  refine AllReadyH.cons (o := ⟨some 11, _, _, _, _, _⟩) rfl (fun K hK => ?_) AllReadyH.nil
  go_simp
  have hb3 := hHeld.1.alloc hHeld.1.size (.cells #[.int .i64 e, .int .i64 i] 3)
  have HI := whl_of_alloc hb3
  refine hK.out _ _ ⟨hb3, bkeep hb3 k0 hltV, bkeep hb3 k1 hltV, bkeep hb3 k2 hltV, bkeep hb3 k3 hltV, bkeep hb3 k4 hltV, bkeep hb3 k5 hltV⟩ (fun hHeld => ?_)
  clear hK K
  (try simp only [Act.put, List.setIfInBounds_toArray, List.set_cons_zero, List.set_cons_succ])
  refine wpAnyH_ready (rs := [5]) (by kernel_rfl) (by simp) ?_
  refine AllReadyH.cons (o := ⟨some 12, _, _, _, _, _⟩) rfl (fun K hK => ?_) AllReadyH.nil
  go_simp
  refine (refNums (some ⟨_, 0, none⟩) 2 [e, i] _ (by simp) (ints2_of HI HI.low)).mono ?_
  rintro z w8 ⟨v8, rfl, hown8, hb8⟩
  have hb3 := hHeld.1.trans (hb8.mono hHeld.1.size)
  have HO8 := Lib.hid (hown8.mono hHeld.1.size)
  clear hown8
  go_wp2_with fail
  refine hK.out _ _ ⟨hb3, bkeep hb3 k0 hltV, bkeep hb3 k1 hltV, bkeep hb3 k2 hltV, bkeep hb3 k3 hltV, bkeep hb3 k4 hltV, bkeep hb3 k5 hltV⟩ (fun hHeld => ?_)
  clear hK K
  (try simp only [Act.put, List.setIfInBounds_toArray, List.set_cons_zero, List.set_cons_succ])
  refine wpAnyH_ready (rs := [8]) (by kernel_rfl) (by simp) ?_
  refine AllReadyH.cons (o := ⟨some 15, _, _, _, _, _⟩) rfl (fun K hK => ?_) AllReadyH.nil
  go_simp
  refine (refEncode a b c d _).mono ?_
  rintro z w9 ⟨v9, rfl, hown9, hb9⟩
  have hb3 := hHeld.1.trans (hb9.mono hHeld.1.size)
  obtain ⟨A9, c9, rfl, hc9, hm9, hx9⟩ := row_cells hown9
  have HX9 := Lib.hid hx9
  clear hown9 hx9
  have HO8 := Lib.hid (row_below HO8.out hb9)
  go_wp2_with fail
  refine hK.out _ _ ⟨hb3, bkeep hb3 k0 hltV, bkeep hb3 k1 hltV, bkeep hb3 k2 hltV, bkeep hb3 k3 hltV, bkeep hb3 k4 hltV, bkeep hb3 k5 hltV⟩ (fun hHeld => ?_)
  clear hK K
  (try simp only [Act.put, List.setIfInBounds_toArray, List.set_cons_zero, List.set_cons_succ])
  refine wpAnyH_ready (rs := [9]) (by kernel_rfl) (by simp) ?_
  refine AllReadyH.cons (o := ⟨some 16, _, _, _, _, _⟩) rfl (fun K hK => ?_) AllReadyH.nil
  refine step_append_cells rfl (.tmp 12) (.tmp 15) 27 rfl V.heap.size 5 i0 (.int .u8 0) 1 1 Try.underlying27 hi hz0 hz1 hz2 rfl (by decide) v8 (encs [e, i]).length (flatU (encs [e, i])) rfl HO8.out _ A9 (encs [a, b, c, d]).length c9 (flatU (encs [a, b, c, d])) rfl HX9.out (flatU_one _) (by unfold maxLen; omega) (by omega) hHeld.1.size ?_
  intro v5 w5 hown5 ht5 hb5
  have hb3 := hHeld.1.trans (ht5.below (B := V.heap.size) hHeld.1.size (fun k hk => (HO8.out.lt k hk).1))
  have HO5 := Lib.hid hown5
  clear hown5
  refine hK.out _ _ ⟨hb3, bkeep hb3 k0 hltV, bkeep hb3 k1 hltV, bkeep hb3 k2 hltV, bkeep hb3 k3 hltV, bkeep hb3 k4 hltV, bkeep hb3 k5 hltV⟩ (fun hHeld => ?_)
  clear hK K
  (try simp only [Act.put, List.setIfInBounds_toArray, List.set_cons_zero, List.set_cons_succ])
  refine wpAnyH_take (i := 10) (oi := ⟨some 2, _, _, _, _, _⟩) (v := ?v10) rfl (by kernel_rfl) (by kernel_rfl) (by kernel_rfl) (fun _ _ _ h => h) (Or.inl ⟨by rfl, ?y10⟩) (by assumption) ?r10
  case y10 => (intro w hSw; (try dsimp only at hSw); (try go_split_ands); go_simp); (try with_reducible rfl)
  case r10 =>
  (try simp only [Act.put, List.setIfInBounds_toArray, List.set_cons_zero, List.set_cons_succ])
  refine wpAnyH_take (i := 11) (oi := ⟨some 3, _, _, _, _, _⟩) (v := ?v11) rfl (by kernel_rfl) (by kernel_rfl) (by kernel_rfl) (fun _ _ _ h => h) (Or.inl ⟨by rfl, ?y11⟩) (by assumption) ?r11
  case y11 => (intro w hSw; (try dsimp only at hSw); (try go_split_ands); go_simp); (try with_reducible rfl)
  case r11 =>
  (try simp only [Act.put, List.setIfInBounds_toArray, List.set_cons_zero, List.set_cons_succ])
  refine wpAnyH_done (by kernel_rfl) ?_ _
  go_wp2_with fail
  refine bodyPost_ret (v := .tuple #[v5, .int .i64 0]) (by simp [results, Try.results16, go_sem, ↓IntWalk.iteOmega, *]) rfl ⟨_, rfl, ?_, B1.trans (hHeld.1.mono B1.size)⟩
  have h5 := HO5.out.mono B1.size
  have e5 : flatU (repBs e i a b c d) = flatU (encs [e, i]) ++ flatU (encs [a, b, c, d]) := by simp [repBs, flatU]
  rw [e5, show (repBs e i a b c d).length = (encs [e, i]).length + (encs [a, b, c, d]).length by simp [repBs]]
  exact h5
end Go.Proofs.Ytblknjclkecglaa
