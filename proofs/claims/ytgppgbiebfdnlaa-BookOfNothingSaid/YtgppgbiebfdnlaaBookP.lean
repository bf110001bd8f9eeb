/- book: Push of a side that is nil. -/
import Derived.Test.YtgppgbiebfdnlaaBookM
import Derived.Deep.Onto
namespace Go.Proofs.Ytgppgbiebfdnlaa
open Go.RowKit
set_option linter.unusedVariables false
set_option linter.unusedSimpArgs false

theorem Try.infoOrder : (Try.prog.info? 23).map (fun i => (i.zero, i.size, i.bytes)) = some (some (.agg #[.int .i64 0, .string ⟨#[]⟩, .bool false, .int .i64 0, .int .i64 0, .int .i64 0]), 6, 56) := by kernel_rfl
theorem ord_cells {w : World} {e : TypeId} {id item ct pr : Int} {who : ByteArray} {buy : Bool} : Cells (w.alloc (.cells #[.int .i64 id, .string who, .bool buy, .int .i64 item, .int .i64 ct, .int .i64 pr] e)) (w.alloc (.cells #[.int .i64 id, .string who, .bool buy, .int .i64 item, .int .i64 ct, .int .i64 pr] e)).heap.size (some ⟨w.heap.size, 0, none⟩) 1 1 6 [.int .i64 id, .string who, .bool buy, .int .i64 item, .int .i64 ct, .int .i64 pr] := by
  refine ⟨rfl, (fun e => by cases e), ?_⟩
  intro j u hu
  refine ⟨w.heap.size, 0, rfl, by simp, ?_⟩
  rw [Nat.zero_add, cell_of_row _ _ _ _ _ _ (heap_alloc_new w _)]
  simpa using hu
theorem ord_one {id item ct pr : Int} {who : ByteArray} {buy : Bool} : ∀ u ∈ ([.int .i64 id, .string who, .bool buy, .int .i64 item, .int .i64 ct, .int .i64 pr] : List Value), u.oneCell' = true := by
  intro u hu
  simp only [List.mem_cons, List.not_mem_nil, or_false] at hu
  rcases hu with rfl | rfl | rfl | rfl | rfl | rfl <;> rfl

theorem tassert (v : Value) (w : World) : (Instr.typeAssert (.iface 23 v) 20 23 true).run Try.prog w = .ok (.tuple #[v, .bool true]) w := by
  simp [Instr.typeAssert, run_underlying Try.underlying23]

set_option maxHeartbeats 2000000 in
set_option maxRecDepth 10000 in
theorem sidePush (b k : Nat) (id item ct pr : Int) (who : ByteArray) (buy : Bool) (w : World) (hc : w.cell? ⟨b, k, none⟩ = some (.slice none 0 0)) (hf : w.frozen? ⟨b, k, none⟩ = false) (hl : b < w.heap.size) :
    Calls Try.prog 213 #[.pointer (some ⟨b, k, none⟩), .iface 23 (.agg #[.int .i64 id, .string who, .bool buy, .int .i64 item, .int .i64 ct, .int .i64 pr])] w fun e w' => e = .returned (.tuple #[]) ∧ ∃ g cap, w.heap.size ≤ g ∧ w'.ownsRow w.heap.size 23 6 (.slice (some ⟨g, 0, none⟩) 1 cap) 1 [.int .i64 id, .string who, .bool buy, .int .i64 item, .int .i64 ct, .int .i64 pr] ∧ w'.cell? ⟨b, k, none⟩ = some (.slice (some ⟨g, 0, none⟩) 1 cap) ∧ (∀ o, o ≠ k → w'.cell? ⟨b, o, none⟩ = w.cell? ⟨b, o, none⟩) ∧ Touch (fun x => x = b) w w' ∧ ∀ o, w'.frozen? ⟨b, o, none⟩ = w.frozen? ⟨b, o, none⟩ := by
  obtain ⟨i0, hi, hz0, hz1, hz2⟩ := info_parts Try.infoOrder
  have ta := tassert (.agg #[.int .i64 id, .string who, .bool buy, .int .i64 item, .int .i64 ct, .int .i64 pr])
  go_enter Try.func213, Try.ntmps213
  go_wp2_with fail
  have k0 : (w.alloc (.cells #[.int .i64 id, .string who, .bool buy, .int .i64 item, .int .i64 ct, .int .i64 pr] 23)).cell? ⟨b, k, none⟩ = some (.slice none 0 0) := by ((repeat (first | (with_reducible assumption) | ((with_reducible refine c_set_same ?_); ((repeat (first | (with_reducible exact h_of (by assumption)) | (with_reducible assumption) | (with_reducible refine h_set ?_) | ((with_reducible refine h_alloc ?_ ?_); · (first | omega | (simp; done) | (simp; omega))) | ((with_reducible refine h_new ?_ ?_) <;> (first | omega | (simp; done) | (simp; omega))) | (with_reducible refine h_drew ?_) | (with_reducible refine h_drewN ?_) | ((with_reducible refine h_keep (by assumption) ?_ ?_); · (first | omega | (simp; done) | (simp; omega))))); done)) | ((with_reducible refine c_set_other ?_ ?_); · (first | omega | (simp; done) | (simp; omega))) | ((with_reducible refine c_alloc ?_ ?_); · (first | omega | (simp; done) | (simp; omega))) | ((with_reducible refine c_new ?_ ?_) <;> (first | omega | (simp; done) | (simp; omega))) | (with_reducible refine c_drew ?_) | (with_reducible refine c_drewN ?_) | ((with_reducible refine c_keep (by assumption) ?_ ?_); · (first | omega | (simp; done) | (simp; omega))))); done)
  have f0 : (w.alloc (.cells #[.int .i64 id, .string who, .bool buy, .int .i64 item, .int .i64 ct, .int .i64 pr] 23)).frozen? ⟨b, k, none⟩ = false := (World.frozen?_of_block (Below.heap_alloc w _ b hl)).trans hf
  have hB0 : Below w.heap.size w (w.alloc (.cells #[.int .i64 id, .string who, .bool buy, .int .i64 item, .int .i64 ct, .int .i64 pr] 23)) := (Below.refl _ _).alloc (Nat.le_refl _) _
  have P0 : Whl (w.alloc (.cells #[.int .i64 id, .string who, .bool buy, .int .i64 item, .int .i64 ct, .int .i64 pr] 23)) w.heap.size 23 #[.int .i64 id, .string who, .bool buy, .int .i64 item, .int .i64 ct, .int .i64 pr] := Whl.new rfl
  have hs0 : w.heap.size < (w.alloc (.cells #[.int .i64 id, .string who, .bool buy, .int .i64 item, .int .i64 ct, .int .i64 pr] 23)).heap.size := by simp
  generalize w.alloc (.cells #[.int .i64 id, .string who, .bool buy, .int .i64 item, .int .i64 ct, .int .i64 pr] 23) = V at *
  have d0 := P0.cell 0
  have d1 := P0.cell 1
  have d2 := P0.cell 2
  have d3 := P0.cell 3
  have d4 := P0.cell 4
  have d5 := P0.cell 5
  simp only [List.getElem?_toArray, List.getElem?_cons_succ, List.getElem?_cons_zero] at d0 d1 d2 d3 d4 d5
  refine wp_region_held_drew (S := (fun _ => True)) (by kernel_rfl) trivial (fun hHeld => ?_)
  refine wpAnyH_take (i := 0) (oi := ⟨some 12, _, _, _, _, _⟩) (v := ?v0) rfl (by kernel_rfl) (by kernel_rfl) (by kernel_rfl) (fun _ _ _ h => h) (Or.inl ⟨by rfl, ?y0⟩) (by assumption) ?r0
  case y0 => (intro w hSw; (try dsimp only at hSw); (try go_split_ands); go_simp); (try with_reducible rfl)
  case r0 =>
  (try simp only [Act.put, List.setIfInBounds_toArray, List.set_cons_zero, List.set_cons_succ])
  refine wpAnyH_take (i := 1) (oi := ⟨some 13, _, _, _, _, _⟩) (v := ?v1) rfl (by kernel_rfl) (by kernel_rfl) (by kernel_rfl) (fun _ _ _ h => h) (Or.inl ⟨by rfl, ?y1⟩) (by assumption) ?r1
  case y1 => (intro w hSw; (try dsimp only at hSw); (try go_split_ands); go_simp); (try with_reducible rfl)
  case r1 =>
  (try simp only [Act.put, List.setIfInBounds_toArray, List.set_cons_zero, List.set_cons_succ])
  refine wpAnyH_take (i := 2) (oi := ⟨some 14, _, _, _, _, _⟩) (v := ?v2) rfl (by kernel_rfl) (by kernel_rfl) (by kernel_rfl) (fun _ _ _ h => h) (Or.inl ⟨by rfl, ?y2⟩) (by assumption) ?r2
  case y2 => (intro w hSw; (try dsimp only at hSw); (try go_split_ands); go_simp); (try with_reducible rfl)
  case r2 =>
  (try simp only [Act.put, List.setIfInBounds_toArray, List.set_cons_zero, List.set_cons_succ])
  refine wpAnyH_ready (rs := [3, 4]) (by kernel_rfl) (by simp) ?_
  refine AllReadyH.cons (o := ⟨some 15, _, _, _, _, _⟩) rfl (fun K hK => ?_) (AllReadyH.cons (o := ⟨some 16, _, _, _, _, _⟩) rfl (fun K hK => ?_) AllReadyH.nil)
  · have k9 : V.drew.cell? ⟨b, k, none⟩ = some (.slice none 0 0) := k0
    go_simp
    refine hK.out _ _ trivial (fun hHeld => ?_)
    clear hK K
    (try simp only [Act.put, List.setIfInBounds_toArray, List.set_cons_zero, List.set_cons_succ])
    refine wpAnyH_ready (rs := [4]) (by kernel_rfl) (by simp) ?_
    refine AllReadyH.cons (o := ⟨some 16, _, _, _, _, _⟩) rfl (fun K hK => ?_) AllReadyH.nil
    have e0 : V.drew.cell? ⟨w.heap.size, 0, none⟩ = _ := d0
    have e1 : V.drew.cell? ⟨w.heap.size, 1, none⟩ = _ := d1
    have e2 : V.drew.cell? ⟨w.heap.size, 2, none⟩ = _ := d2
    have e3 : V.drew.cell? ⟨w.heap.size, 3, none⟩ = _ := d3
    have e4 : V.drew.cell? ⟨w.heap.size, 4, none⟩ = _ := d4
    have e5 : V.drew.cell? ⟨w.heap.size, 5, none⟩ = _ := d5
    go_simp
    refine hK.out _ _ trivial (fun hHeld => ?_)
    clear hK K
    (try simp only [Act.put, List.setIfInBounds_toArray, List.set_cons_zero, List.set_cons_succ])
    refine wpAnyH_ready (rs := [5]) (by kernel_rfl) (by simp) ?_
    refine AllReadyH.cons (o := ⟨some 17, _, _, _, _, _⟩) rfl (fun K hK => ?_) AllReadyH.nil
    go_simp
    have hb3 : Below V.heap.size V (V.drew.alloc (.cells #[.int .i64 id, .string who, .bool buy, .int .i64 item, .int .i64 ct, .int .i64 pr] 23)) := (Below.refl _ _).drew.alloc (Nat.le_refl _) _
    refine hK.out _ _ trivial (fun hHeld => ?_)
    clear hK K
    (try simp only [Act.put, List.setIfInBounds_toArray, List.set_cons_zero, List.set_cons_succ])
    refine wpAnyH_ready (rs := [6]) (by kernel_rfl) (by simp) ?_
    refine AllReadyH.cons (o := ⟨some 18, _, _, _, _, _⟩) rfl (fun K hK => ?_) AllReadyH.nil
    refine step_append_cells rfl (.tmp 15) (.tmp 17) 93 rfl V.heap.size 23 i0 (.agg #[.int .i64 0, .string ⟨#[]⟩, .bool false, .int .i64 0, .int .i64 0, .int .i64 0]) 6 56 Try.underlying93 hi hz0 hz1 hz2 rfl (by decide) (.slice none 0 0) 0 [] rfl (World.ownsRow_nil _ _ _ _) _ _ 1 1 [.int .i64 id, .string who, .bool buy, .int .i64 item, .int .i64 ct, .int .i64 pr] rfl (ord_cells (w := V.drew) (e := 23)) ord_one (by unfold maxLen; omega) (by omega) hb3.size ?_
    intro v5 w5 hown5 ht5 hb5
    have hb6 : Below V.heap.size V w5 := hb3.trans (ht5.below (B := V.heap.size) hb3.size (by intro g hg; cases hg))
    simp only [Nat.zero_add, List.nil_append] at hown5
    obtain ⟨g5, c5, rfl, hg1, hg2, hg3, hg4⟩ := own_form hown5 (by decide)
    have HO := Lib.hid hown5
    clear hown5
    refine hK.out _ _ trivial (fun hHeld => ?_)
    clear hK K
    (try simp only [Act.put, List.setIfInBounds_toArray, List.set_cons_zero, List.set_cons_succ])
    refine wpAnyH_take (i := 7) (oi := ⟨some 19, _, _, _, _, _⟩) (v := ?v7) rfl (by kernel_rfl) (by kernel_rfl) (by kernel_rfl) (fun _ _ _ h => h) (Or.inl ⟨by rfl, ?y7⟩) (by assumption) ?r7
    case y7 => (intro w hSw; (try dsimp only at hSw); (try go_split_ands); go_simp); (try with_reducible rfl)
    case r7 =>
    (try simp only [Act.put, List.setIfInBounds_toArray, List.set_cons_zero, List.set_cons_succ])
    refine wpAnyH_ready (rs := [8]) (by kernel_rfl) (by simp) ?_
    refine AllReadyH.cons (o := ⟨none, _, _, _, _, _⟩) rfl (fun K hK => ?_) AllReadyH.nil
    have k7 := bkeep hb6 k0 (by omega)
    have f7 : w5.frozen? ⟨b, k, none⟩ = false := (World.frozen?_of_block (hb6.block b (by omega))).trans f0
    go_simp
    refine hK.out _ _ trivial (fun hHeld => ?_)
    clear hK K
    (try simp only [Act.put, List.setIfInBounds_toArray, List.set_cons_zero, List.set_cons_succ])
    refine wpAnyH_done (by kernel_rfl) ?_ _
    go_wp2_with fail
    refine bodyPost_end (v := .tuple #[]) (by simp [results, Try.results213, go_sem]) rfl ⟨rfl, g5, c5, by omega, ?_, ?_, ?_, ?_, ?_⟩
    · exact own_set_ne (HO.out.mono (by omega)) (by intro x hx; have hx2 : some g5 = some x := hx; injection hx2 with hx3; show x ≠ b; omega)
    · exact c_set_same (h_of k7)
    · intro o ho
      have h1 := World.cell?_of_block (a := ⟨b, o, none⟩) (hb6.block b (by omega))
      have h2 := World.cell?_of_block (a := ⟨b, o, none⟩) (hB0.block b (by omega))
      rw [World.cell?_setCell_other _ _ _ _ (by intro e; injection e; omega)]
      exact h1.trans h2
    · have hh := hB0.trans (hb6.mono (by omega))
      exact (⟨hh.os, hh.tape, hh.output, hh.size, fun q hq _ => hh.block q hq⟩ : Touch (fun x => x = b) w w5).set (fun _ => rfl)
    · exact fun o => (f_set rfl).trans ((World.frozen?_of_block (hb6.block b (by omega))).trans (World.frozen?_of_block (hB0.block b (by omega))))
  · have e0 : V.drew.cell? ⟨w.heap.size, 0, none⟩ = _ := d0
    have e1 : V.drew.cell? ⟨w.heap.size, 1, none⟩ = _ := d1
    have e2 : V.drew.cell? ⟨w.heap.size, 2, none⟩ = _ := d2
    have e3 : V.drew.cell? ⟨w.heap.size, 3, none⟩ = _ := d3
    have e4 : V.drew.cell? ⟨w.heap.size, 4, none⟩ = _ := d4
    have e5 : V.drew.cell? ⟨w.heap.size, 5, none⟩ = _ := d5
    go_simp
    refine hK.out _ _ trivial (fun hHeld => ?_)
    clear hK K
    (try simp only [Act.put, List.setIfInBounds_toArray, List.set_cons_zero, List.set_cons_succ])
    refine wpAnyH_ready (rs := [3, 5]) (by kernel_rfl) (by simp) ?_
    refine AllReadyH.cons (o := ⟨some 15, _, _, _, _, _⟩) rfl (fun K hK => ?_) (AllReadyH.cons (o := ⟨some 17, _, _, _, _, _⟩) rfl (fun K hK => ?_) AllReadyH.nil)
    · have k9 : V.drew.cell? ⟨b, k, none⟩ = some (.slice none 0 0) := k0
      go_simp
      refine hK.out _ _ trivial (fun hHeld => ?_)
      clear hK K
      (try simp only [Act.put, List.setIfInBounds_toArray, List.set_cons_zero, List.set_cons_succ])
      refine wpAnyH_ready (rs := [5]) (by kernel_rfl) (by simp) ?_
      refine AllReadyH.cons (o := ⟨some 17, _, _, _, _, _⟩) rfl (fun K hK => ?_) AllReadyH.nil
      go_simp
      have hb3 : Below V.heap.size V (V.drew.alloc (.cells #[.int .i64 id, .string who, .bool buy, .int .i64 item, .int .i64 ct, .int .i64 pr] 23)) := (Below.refl _ _).drew.alloc (Nat.le_refl _) _
      refine hK.out _ _ trivial (fun hHeld => ?_)
      clear hK K
      (try simp only [Act.put, List.setIfInBounds_toArray, List.set_cons_zero, List.set_cons_succ])
      refine wpAnyH_ready (rs := [6]) (by kernel_rfl) (by simp) ?_
      refine AllReadyH.cons (o := ⟨some 18, _, _, _, _, _⟩) rfl (fun K hK => ?_) AllReadyH.nil
      refine step_append_cells rfl (.tmp 15) (.tmp 17) 93 rfl V.heap.size 23 i0 (.agg #[.int .i64 0, .string ⟨#[]⟩, .bool false, .int .i64 0, .int .i64 0, .int .i64 0]) 6 56 Try.underlying93 hi hz0 hz1 hz2 rfl (by decide) (.slice none 0 0) 0 [] rfl (World.ownsRow_nil _ _ _ _) _ _ 1 1 [.int .i64 id, .string who, .bool buy, .int .i64 item, .int .i64 ct, .int .i64 pr] rfl (ord_cells (w := V.drew) (e := 23)) ord_one (by unfold maxLen; omega) (by omega) hb3.size ?_
      intro v5 w5 hown5 ht5 hb5
      have hb6 : Below V.heap.size V w5 := hb3.trans (ht5.below (B := V.heap.size) hb3.size (by intro g hg; cases hg))
      simp only [Nat.zero_add, List.nil_append] at hown5
      obtain ⟨g5, c5, rfl, hg1, hg2, hg3, hg4⟩ := own_form hown5 (by decide)
      have HO := Lib.hid hown5
      clear hown5
      refine hK.out _ _ trivial (fun hHeld => ?_)
      clear hK K
      (try simp only [Act.put, List.setIfInBounds_toArray, List.set_cons_zero, List.set_cons_succ])
      refine wpAnyH_take (i := 7) (oi := ⟨some 19, _, _, _, _, _⟩) (v := ?v7) rfl (by kernel_rfl) (by kernel_rfl) (by kernel_rfl) (fun _ _ _ h => h) (Or.inl ⟨by rfl, ?y7⟩) (by assumption) ?r7
      case y7 => (intro w hSw; (try dsimp only at hSw); (try go_split_ands); go_simp); (try with_reducible rfl)
      case r7 =>
      (try simp only [Act.put, List.setIfInBounds_toArray, List.set_cons_zero, List.set_cons_succ])
      refine wpAnyH_ready (rs := [8]) (by kernel_rfl) (by simp) ?_
      refine AllReadyH.cons (o := ⟨none, _, _, _, _, _⟩) rfl (fun K hK => ?_) AllReadyH.nil
      have k7 := bkeep hb6 k0 (by omega)
      have f7 : w5.frozen? ⟨b, k, none⟩ = false := (World.frozen?_of_block (hb6.block b (by omega))).trans f0
      go_simp
      refine hK.out _ _ trivial (fun hHeld => ?_)
      clear hK K
      (try simp only [Act.put, List.setIfInBounds_toArray, List.set_cons_zero, List.set_cons_succ])
      refine wpAnyH_done (by kernel_rfl) ?_ _
      go_wp2_with fail
      refine bodyPost_end (v := .tuple #[]) (by simp [results, Try.results213, go_sem]) rfl ⟨rfl, g5, c5, by omega, ?_, ?_, ?_, ?_, ?_⟩
      · exact own_set_ne (HO.out.mono (by omega)) (by intro x hx; have hx2 : some g5 = some x := hx; injection hx2 with hx3; show x ≠ b; omega)
      · exact c_set_same (h_of k7)
      · intro o ho
        have h1 := World.cell?_of_block (a := ⟨b, o, none⟩) (hb6.block b (by omega))
        have h2 := World.cell?_of_block (a := ⟨b, o, none⟩) (hB0.block b (by omega))
        rw [World.cell?_setCell_other _ _ _ _ (by intro e; injection e; omega)]
        exact h1.trans h2
      · have hh := hB0.trans (hb6.mono (by omega))
        exact (⟨hh.os, hh.tape, hh.output, hh.size, fun q hq _ => hh.block q hq⟩ : Touch (fun x => x = b) w w5).set (fun _ => rfl)
      · exact fun o => (f_set rfl).trans ((World.frozen?_of_block (hb6.block b (by omega))).trans (World.frozen?_of_block (hB0.block b (by omega))))
    · go_simp
      have hb3 : Below V.heap.size V (V.drew.alloc (.cells #[.int .i64 id, .string who, .bool buy, .int .i64 item, .int .i64 ct, .int .i64 pr] 23)) := (Below.refl _ _).drew.alloc (Nat.le_refl _) _
      refine hK.out _ _ trivial (fun hHeld => ?_)
      clear hK K
      (try simp only [Act.put, List.setIfInBounds_toArray, List.set_cons_zero, List.set_cons_succ])
      refine wpAnyH_ready (rs := [3]) (by kernel_rfl) (by simp) ?_
      refine AllReadyH.cons (o := ⟨some 15, _, _, _, _, _⟩) rfl (fun K hK => ?_) AllReadyH.nil
      have k9 : (V.alloc (.cells #[.int .i64 id, .string who, .bool buy, .int .i64 item, .int .i64 ct, .int .i64 pr] 23)).drew.cell? ⟨b, k, none⟩ = some (.slice none 0 0) := bkeep hb3 k0 (by omega)
      have k10 : V.cell? ⟨b, k, none⟩ = some (.slice none 0 0) := k0
      have hbV : b < V.heap.size := by omega
      go_simp
      refine hK.out _ _ trivial (fun hHeld => ?_)
      clear hK K
      (try simp only [Act.put, List.setIfInBounds_toArray, List.set_cons_zero, List.set_cons_succ])
      refine wpAnyH_ready (rs := [6]) (by kernel_rfl) (by simp) ?_
      refine AllReadyH.cons (o := ⟨some 18, _, _, _, _, _⟩) rfl (fun K hK => ?_) AllReadyH.nil
      refine step_append_cells rfl (.tmp 15) (.tmp 17) 93 rfl V.heap.size 23 i0 (.agg #[.int .i64 0, .string ⟨#[]⟩, .bool false, .int .i64 0, .int .i64 0, .int .i64 0]) 6 56 Try.underlying93 hi hz0 hz1 hz2 rfl (by decide) (.slice none 0 0) 0 [] rfl (World.ownsRow_nil _ _ _ _) _ _ 1 1 [.int .i64 id, .string who, .bool buy, .int .i64 item, .int .i64 ct, .int .i64 pr] rfl (ord_cells (w := V.drew) (e := 23)) ord_one (by unfold maxLen; omega) (by omega) hb3.size ?_
      intro v5 w5 hown5 ht5 hb5
      have hb6 : Below V.heap.size V w5 := hb3.trans (ht5.below (B := V.heap.size) hb3.size (by intro g hg; cases hg))
      simp only [Nat.zero_add, List.nil_append] at hown5
      obtain ⟨g5, c5, rfl, hg1, hg2, hg3, hg4⟩ := own_form hown5 (by decide)
      have HO := Lib.hid hown5
      clear hown5
      refine hK.out _ _ trivial (fun hHeld => ?_)
      clear hK K
      (try simp only [Act.put, List.setIfInBounds_toArray, List.set_cons_zero, List.set_cons_succ])
      refine wpAnyH_take (i := 7) (oi := ⟨some 19, _, _, _, _, _⟩) (v := ?v7) rfl (by kernel_rfl) (by kernel_rfl) (by kernel_rfl) (fun _ _ _ h => h) (Or.inl ⟨by rfl, ?y7⟩) (by assumption) ?r7
      case y7 => (intro w hSw; (try dsimp only at hSw); (try go_split_ands); go_simp); (try with_reducible rfl)
      case r7 =>
      (try simp only [Act.put, List.setIfInBounds_toArray, List.set_cons_zero, List.set_cons_succ])
      refine wpAnyH_ready (rs := [8]) (by kernel_rfl) (by simp) ?_
      refine AllReadyH.cons (o := ⟨none, _, _, _, _, _⟩) rfl (fun K hK => ?_) AllReadyH.nil
      have k7 := bkeep hb6 k0 (by omega)
      have f7 : w5.frozen? ⟨b, k, none⟩ = false := (World.frozen?_of_block (hb6.block b (by omega))).trans f0
      go_simp
      refine hK.out _ _ trivial (fun hHeld => ?_)
      clear hK K
      (try simp only [Act.put, List.setIfInBounds_toArray, List.set_cons_zero, List.set_cons_succ])
      refine wpAnyH_done (by kernel_rfl) ?_ _
      go_wp2_with fail
      refine bodyPost_end (v := .tuple #[]) (by simp [results, Try.results213, go_sem]) rfl ⟨rfl, g5, c5, by omega, ?_, ?_, ?_, ?_, ?_⟩
      · exact own_set_ne (HO.out.mono (by omega)) (by intro x hx; have hx2 : some g5 = some x := hx; injection hx2 with hx3; show x ≠ b; omega)
      · exact c_set_same (h_of k7)
      · intro o ho
        have h1 := World.cell?_of_block (a := ⟨b, o, none⟩) (hb6.block b (by omega))
        have h2 := World.cell?_of_block (a := ⟨b, o, none⟩) (hB0.block b (by omega))
        rw [World.cell?_setCell_other _ _ _ _ (by intro e; injection e; omega)]
        exact h1.trans h2
      · have hh := hB0.trans (hb6.mono (by omega))
        exact (⟨hh.os, hh.tape, hh.output, hh.size, fun q hq _ => hh.block q hq⟩ : Touch (fun x => x = b) w w5).set (fun _ => rfl)
      · exact fun o => (f_set rfl).trans ((World.frozen?_of_block (hb6.block b (by omega))).trans (World.frozen?_of_block (hB0.block b (by omega))))

end Go.Proofs.Ytgppgbiebfdnlaa
