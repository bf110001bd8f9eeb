/- The document's Of. -/
import Derived.Test.YtdlbiobjnohfbaaGreatVd33
namespace Go.Proofs.YtdlbiobjnohfbaaGreat
open Go.RowKit
set_option linter.unusedVariables false
set_option linter.unusedSimpArgs false
theorem RfB.app {w w' : World} {B x n : Nat} {u v : Value} {L L' : List Od} {last : Int} (h : RfB w B x u L last) (ht : Touch (fun k => u.ownBlock = some k) w w') (ho : w'.ownsRow B 38 6 v n (flatO L')) (hn : n = L'.length) (hv : v.ownBlock = u.ownBlock ∨ ∃ g, v.ownBlock = some g ∧ w.heap.size ≤ g) :
    RfB (w'.setCell ⟨x, 0, none⟩ v) B x v L' last := by
  subst hn
  have hb : Whl w' x 68 #[u, .int .i64 last] := (ht.block x h.blk.low (fun e => h.apart x e rfl)).trans h.blk
  have hx := h.blk.low
  have hap : ∀ g, v.ownBlock = some g → g ≠ x := fun g hg e => by
    rcases hv with e2 | ⟨g2, e2, h2⟩
    · rw [e2] at hg; exact h.apart g hg e
    · rw [e2] at hg; injection hg with hg; omega
  exact ⟨hb.set 0 v, own_set_ne ho (fun g hg => hap g hg), hap, h.low⟩
set_option maxHeartbeats 20000000 in
set_option maxRecDepth 10000 in
theorem refOf (B0 : Nat) (A : Option Addr) (c : Nat) (xs : List Od) (w : World) (hx : Cells w B0 A xs.length c 6 (flatO xs)) (hB : B0 ≤ w.heap.size) (hl : xs.length ≤ 60) :
    Calls Tryz.prog 56 #[.slice A xs.length c] w fun e w' => Below w.heap.size w w' ∧ ((OfK xs ∧ ∃ (x : Nat) (u : Value), e = .returned (.tuple #[.pointer (some ⟨x, 0, none⟩), .int .i64 0]) ∧ RfB w' w.heap.size x u xs (lastOf xs)) ∨ (¬ OfK xs ∧ e = .returned (.tuple #[.pointer none, .int .i64 1]))) := by
  have HX := Lib.hid hx
  clear hx
  by_cases h32 : xs.length ≤ 32
  case neg =>
    have q : (32 : Int) < (xs.length : Int) := by omega
    go_enter Tryz.func56, Tryz.ntmps56
    go_wp2_with fail
    refine bodyPost_ret (v := .tuple #[.pointer none, .int .i64 1]) (by simp [results, Tryz.results56, go_sem]) rfl ⟨Below.refl _ _, .inr ⟨fun h => h32 h.1, rfl⟩⟩
  have q : ¬ (32 : Int) < (xs.length : Int) := by omega
  go_enter Tryz.func56, Tryz.ntmps56
  go_wp2_with fail
  go_loopw [5] (fun iv wr => ∃ (i : Nat) (u : Value), i ≤ xs.length ∧ iv = .int .i64 i ∧ RfB wr w.heap.size w.heap.size u (xs.take i) (lastOf (xs.take i)) ∧ OfAt xs i ∧ Below w.heap.size w wr) (fun iv _ => xs.length - (intOf iv).toNat)
  case atStart => exact ⟨0, _, Nat.zero_le _, rfl, RfB.new (Nat.le_refl _), OfAt.zero xs, by ((repeat (first | (with_reducible exact Below.refl _ _) | (with_reducible assumption) | ((with_reducible refine b_set ?_ ?_); · (first | omega | (simp; done) | (simp; omega))) | ((with_reducible refine b_alloc ?_ ?_); · (first | omega | (simp; done) | (simp; omega))) | (with_reducible refine Below.drew ?_) | (with_reducible refine b_drewN ?_) | ((with_reducible refine b_call (by assumption) ?_ ?_); · (first | omega | (simp; done) | (simp; omega))))); done)⟩
  case round =>
    obtain ⟨i, u, hil, rfl, hRf, hOf, hBw⟩ := hrel
    have HR : Hid (RfB wr w.heap.size w.heap.size u (xs.take i) (lastOf (xs.take i))) := Lib.hid hRf
    have HBK := Lib.hid (hOf.bk hil)
    have HO := Lib.hid hOf
    have HW := Lib.hid hBw
    have hsw := hBw.size
    have hxw := hRf.blk.low
    have hti : (xs.take i).length = i := by rw [List.length_take]; omega
    by_cases hlt : i < xs.length
    · have q3 : (i : Int) < (xs.length : Int) := by omega
      obtain ⟨qb, qo, rfl, hqb', a0, a1, a2, a3, a4, a5⟩ := cells_orderAt HX.out hlt
      have hqb : qb < w.heap.size := by omega
      have hqw : qb < wr.heap.size := by omega
      have hqx : qb ≠ w.heap.size := by omega
      have hqu0 : ∀ g, u.ownBlock = some g → g ≠ qb := fun g hg e => by have := (hRf.row.lt g hg).1; omega
      have a0 := bkeep hBw a0 hqb
      have a1 := bkeep hBw a1 hqb
      have a2 := bkeep hBw a2 hqb
      have a3 := bkeep hBw a3 hqb
      have a4 := bkeep hBw a4 hqb
      have a5 := bkeep hBw a5 hqb
      obtain ⟨o, ho⟩ : ∃ o, o = xs[i] := ⟨_, rfl⟩
      rw [← ho] at a0 a1 a2 a3 a4 a5
      have HOE := Lib.hid ho
      have l1 := hRf.blk.cell 1
      simp only [List.getElem?_toArray, List.getElem?_cons_succ, List.getElem?_cons_zero] at l1
      clear hOf hBw ho hRf
      by_cases hok : OkO o
      case neg =>
        have HMAY : Hid (decide (OkO o) = false) := Lib.hid (decide_eq_false hok)
        have hno : ¬ OfK xs := not_of' hlt (by rw [← HOE.out]; exact fun h => hok h.1)
        go_wp2_with fail
        refine wp_region_held_drew (S := (fun W => Below wr.heap.size wr W ∧ W.cell? ⟨qb, qo + i * 6, none⟩ = some (.int .i64 o.id) ∧ W.cell? ⟨qb, qo + i * 6 + 1, none⟩ = some (.string o.who) ∧ W.cell? ⟨qb, qo + i * 6 + 2, none⟩ = some (.bool o.buy) ∧ W.cell? ⟨qb, qo + i * 6 + 3, none⟩ = some (.int .i64 o.item) ∧ W.cell? ⟨qb, qo + i * 6 + 4, none⟩ = some (.int .i64 o.ct) ∧ W.cell? ⟨qb, qo + i * 6 + 5, none⟩ = some (.int .i64 o.pr) ∧ W.cell? ⟨w.heap.size, 1, none⟩ = some (.int .i64 (lastOf (xs.take i))))) (by kernel_rfl) ⟨(Below.refl _ _).drew, a0, a1, a2, a3, a4, a5, l1⟩ (fun hHeld => ?_)
        refine wpAnyH_take (i := 0) (oi := ⟨some 17, _, _, _, _, _⟩) (v := ?v0a) rfl (by kernel_rfl) (by kernel_rfl) (by kernel_rfl) (fun _ _ _ h => h) (Or.inl ⟨by rfl, ?y0a⟩) (by assumption) ?r0a
        case y0a => (intro w hSw; (try dsimp only at hSw); (try go_split_ands); go_simp); (try with_reducible rfl)
        case r0a =>
        (try simp only [Act.put, List.setIfInBounds_toArray, List.set_cons_zero, List.set_cons_succ])
        refine wpAnyH_take (i := 1) (oi := ⟨some 18, _, _, _, _, _⟩) (v := ?v1a) rfl (by kernel_rfl) (by kernel_rfl) (by kernel_rfl) (fun _ _ _ h => h) (Or.inl ⟨by rfl, ?y1a⟩) (by assumption) ?r1a
        case y1a => (intro w hSw; (try dsimp only at hSw); (try go_split_ands); go_simp); (try with_reducible rfl)
        case r1a =>
        (try simp only [Act.put, List.setIfInBounds_toArray, List.set_cons_zero, List.set_cons_succ])
        refine wpAnyH_take (i := 2) (oi := ⟨some 19, _, _, _, _, _⟩) (v := ?v2a) rfl (by kernel_rfl) (by kernel_rfl) (by kernel_rfl) (fun _ _ _ h => h) (Or.inl ⟨by rfl, ?y2a⟩) (by assumption) ?r2a
        case y2a => (intro w hSw; (try dsimp only at hSw); (try go_split_ands); go_simp); (try with_reducible rfl)
        case r2a =>
        (try simp only [Act.put, List.setIfInBounds_toArray, List.set_cons_zero, List.set_cons_succ])
        refine wpAnyH_take (i := 3) (oi := ⟨some 20, _, _, _, _, _⟩) (v := ?v3a) rfl (by kernel_rfl) (by kernel_rfl) (by kernel_rfl) (fun _ _ _ h => h) (Or.inl ⟨by rfl, ?y3a⟩) (by assumption) ?r3a
        case y3a => (intro w hSw; (try dsimp only at hSw); (try go_split_ands); go_simp); (try with_reducible rfl)
        case r3a =>
        (try simp only [Act.put, List.setIfInBounds_toArray, List.set_cons_zero, List.set_cons_succ])
        refine wpAnyH_ready (rs := [4]) (by kernel_rfl) (by simp) ?_
        refine AllReadyH.cons (o := ⟨some 21, _, _, _, _, _⟩) rfl (fun K hK => ?_) AllReadyH.nil
        go_simp
        refine (refMay o _).mono ?_; rintro e w3 ⟨he, hb3⟩; rw [HMAY.out] at he; subst he
        go_wp2_with fail
        refine hK.out _ _ (by have hh := Below.trans hHeld.1 (Below.mono hb3 (Below.size hHeld.1)); exact ⟨hh, bkeep hh a0 hqw, bkeep hh a1 hqw, bkeep hh a2 hqw, bkeep hh a3 hqw, bkeep hh a4 hqw, bkeep hh a5 hqw, bkeep hh l1 hxw⟩) (fun hHeld => ?_)
        clear hK K
        (try simp only [Act.put, List.setIfInBounds_toArray, List.set_cons_zero, List.set_cons_succ])
        refine wpAnyH_take (i := 5) (oi := ⟨some 22, _, _, _, _, _⟩) (v := .bool true) rfl (by kernel_rfl) (by kernel_rfl) (by kernel_rfl) (fun _ _ _ h => h) (Or.inl ⟨by rfl, ?y5a⟩) (by assumption) ?r5a
        case y5a => (intro w hSw; (try dsimp only at hSw); (try go_split_ands); go_simp)
        case r5a =>
        (try simp only [Act.put, List.setIfInBounds_toArray, List.set_cons_zero, List.set_cons_succ])
        refine wpAnyH_take (i := 6) (oi := ⟨some 23, _, _, _, _, _⟩) (v := .bool true) rfl (by kernel_rfl) (by kernel_rfl) (by kernel_rfl) (fun _ _ _ h => h) (Or.inl ⟨by rfl, ?y6a⟩) (by assumption) ?r6a
        case y6a => (intro w hSw; (try dsimp only at hSw); (try go_split_ands); go_simp)
        case r6a =>
        (try simp only [Act.put, List.setIfInBounds_toArray, List.set_cons_zero, List.set_cons_succ])
        refine wpAnyH_take (i := 7) (oi := ⟨some 24, _, _, _, _, _⟩) (v := undef) rfl (by kernel_rfl) (by kernel_rfl) (by kernel_rfl) (fun _ _ _ h => h) (Or.inr ⟨by rfl, rfl⟩) (by assumption) ?_
        (try simp only [Act.put, List.setIfInBounds_toArray, List.set_cons_zero, List.set_cons_succ])
        refine wpAnyH_take (i := 8) (oi := ⟨some 25, _, _, _, _, _⟩) (v := undef) rfl (by kernel_rfl) (by kernel_rfl) (by kernel_rfl) (fun _ _ _ h => h) (Or.inr ⟨by rfl, rfl⟩) (by assumption) ?_
        (try simp only [Act.put, List.setIfInBounds_toArray, List.set_cons_zero, List.set_cons_succ])
        refine wpAnyH_take (i := 9) (oi := ⟨some 26, _, _, _, _, _⟩) (v := undef) rfl (by kernel_rfl) (by kernel_rfl) (by kernel_rfl) (fun _ _ _ h => h) (Or.inr ⟨by rfl, rfl⟩) (by assumption) ?_
        (try simp only [Act.put, List.setIfInBounds_toArray, List.set_cons_zero, List.set_cons_succ])
        refine wpAnyH_take (i := 10) (oi := ⟨some 27, _, _, _, _, _⟩) (v := undef) rfl (by kernel_rfl) (by kernel_rfl) (by kernel_rfl) (fun _ _ _ h => h) (Or.inr ⟨by rfl, rfl⟩) (by assumption) ?_
        (try simp only [Act.put, List.setIfInBounds_toArray, List.set_cons_zero, List.set_cons_succ])
        refine wpAnyH_take (i := 11) (oi := ⟨some 28, _, _, _, _, _⟩) (v := undef) rfl (by kernel_rfl) (by kernel_rfl) (by kernel_rfl) (fun _ _ _ h => h) (Or.inr ⟨by rfl, rfl⟩) (by assumption) ?_
        (try simp only [Act.put, List.setIfInBounds_toArray, List.set_cons_zero, List.set_cons_succ])
        refine wpAnyH_take (i := 12) (oi := ⟨some 29, _, _, _, _, _⟩) (v := undef) rfl (by kernel_rfl) (by kernel_rfl) (by kernel_rfl) (fun _ _ _ h => h) (Or.inr ⟨by rfl, rfl⟩) (by assumption) ?_
        (try simp only [Act.put, List.setIfInBounds_toArray, List.set_cons_zero, List.set_cons_succ])
        refine wpAnyH_take (i := 13) (oi := ⟨some 30, _, _, _, _, _⟩) (v := undef) rfl (by kernel_rfl) (by kernel_rfl) (by kernel_rfl) (fun _ _ _ h => h) (Or.inr ⟨by rfl, rfl⟩) (by assumption) ?_
        (try simp only [Act.put, List.setIfInBounds_toArray, List.set_cons_zero, List.set_cons_succ])
        refine wpAnyH_take (i := 14) (oi := ⟨some 31, _, _, _, _, _⟩) (v := undef) rfl (by kernel_rfl) (by kernel_rfl) (by kernel_rfl) (fun _ _ _ h => h) (Or.inr ⟨by rfl, rfl⟩) (by assumption) ?_
        (try simp only [Act.put, List.setIfInBounds_toArray, List.set_cons_zero, List.set_cons_succ])
        refine wpAnyH_take (i := 15) (oi := ⟨some 32, _, _, _, _, _⟩) (v := undef) rfl (by kernel_rfl) (by kernel_rfl) (by kernel_rfl) (fun _ _ _ h => h) (Or.inr ⟨by rfl, rfl⟩) (by assumption) ?_
        (try simp only [Act.put, List.setIfInBounds_toArray, List.set_cons_zero, List.set_cons_succ])
        refine wpAnyH_take (i := 16) (oi := ⟨some 33, _, _, _, _, _⟩) (v := undef) rfl (by kernel_rfl) (by kernel_rfl) (by kernel_rfl) (fun _ _ _ h => h) (Or.inr ⟨by rfl, rfl⟩) (by assumption) ?_
        (try simp only [Act.put, List.setIfInBounds_toArray, List.set_cons_zero, List.set_cons_succ])
        refine wpAnyH_take (i := 17) (oi := ⟨some 34, _, _, _, _, _⟩) (v := .bool true) rfl (by kernel_rfl) (by kernel_rfl) (by kernel_rfl) (fun _ _ _ h => h) (Or.inl ⟨by rfl, ?y17a⟩) (by assumption) ?r17a
        case y17a => (intro w hSw; (try dsimp only at hSw); (try go_split_ands); go_simp)
        case r17a =>
        (try simp only [Act.put, List.setIfInBounds_toArray, List.set_cons_zero, List.set_cons_succ])
        refine wpAnyH_take (i := 18) (oi := ⟨some 35, _, _, _, _, _⟩) (v := .bool true) rfl (by kernel_rfl) (by kernel_rfl) (by kernel_rfl) (fun _ _ _ h => h) (Or.inl ⟨by rfl, ?y18a⟩) (by assumption) ?r18a
        case y18a => (intro w hSw; (try dsimp only at hSw); (try go_split_ands); go_simp)
        case r18a =>
        (try simp only [Act.put, List.setIfInBounds_toArray, List.set_cons_zero, List.set_cons_succ])
        refine wpAnyH_take (i := 19) (oi := ⟨some 36, _, _, _, _, _⟩) (v := undef) rfl (by kernel_rfl) (by kernel_rfl) (by kernel_rfl) (fun _ _ _ h => h) (Or.inr ⟨by rfl, rfl⟩) (by assumption) ?_
        (try simp only [Act.put, List.setIfInBounds_toArray, List.set_cons_zero, List.set_cons_succ])
        refine wpAnyH_take (i := 20) (oi := ⟨some 37, _, _, _, _, _⟩) (v := undef) rfl (by kernel_rfl) (by kernel_rfl) (by kernel_rfl) (fun _ _ _ h => h) (Or.inr ⟨by rfl, rfl⟩) (by assumption) ?_
        (try simp only [Act.put, List.setIfInBounds_toArray, List.set_cons_zero, List.set_cons_succ])
        refine wpAnyH_take (i := 21) (oi := ⟨some 38, _, _, _, _, _⟩) (v := undef) rfl (by kernel_rfl) (by kernel_rfl) (by kernel_rfl) (fun _ _ _ h => h) (Or.inr ⟨by rfl, rfl⟩) (by assumption) ?_
        (try simp only [Act.put, List.setIfInBounds_toArray, List.set_cons_zero, List.set_cons_succ])
        refine wpAnyH_take (i := 22) (oi := ⟨some 39, _, _, _, _, _⟩) (v := undef) rfl (by kernel_rfl) (by kernel_rfl) (by kernel_rfl) (fun _ _ _ h => h) (Or.inr ⟨by rfl, rfl⟩) (by assumption) ?_
        (try simp only [Act.put, List.setIfInBounds_toArray, List.set_cons_zero, List.set_cons_succ])
        refine wpAnyH_take (i := 23) (oi := ⟨some 40, _, _, _, _, _⟩) (v := undef) rfl (by kernel_rfl) (by kernel_rfl) (by kernel_rfl) (fun _ _ _ h => h) (Or.inr ⟨by rfl, rfl⟩) (by assumption) ?_
        (try simp only [Act.put, List.setIfInBounds_toArray, List.set_cons_zero, List.set_cons_succ])
        refine wpAnyH_take (i := 24) (oi := ⟨some 41, _, _, _, _, _⟩) (v := undef) rfl (by kernel_rfl) (by kernel_rfl) (by kernel_rfl) (fun _ _ _ h => h) (Or.inr ⟨by rfl, rfl⟩) (by assumption) ?_
        (try simp only [Act.put, List.setIfInBounds_toArray, List.set_cons_zero, List.set_cons_succ])
        refine wpAnyH_take (i := 25) (oi := ⟨some 42, _, _, _, _, _⟩) (v := undef) rfl (by kernel_rfl) (by kernel_rfl) (by kernel_rfl) (fun _ _ _ h => h) (Or.inr ⟨by rfl, rfl⟩) (by assumption) ?_
        (try simp only [Act.put, List.setIfInBounds_toArray, List.set_cons_zero, List.set_cons_succ])
        refine wpAnyH_take (i := 26) (oi := ⟨some 43, _, _, _, _, _⟩) (v := .bool true) rfl (by kernel_rfl) (by kernel_rfl) (by kernel_rfl) (fun _ _ _ h => h) (Or.inl ⟨by rfl, ?y26a⟩) (by assumption) ?r26a
        case y26a => (intro w hSw; (try dsimp only at hSw); (try go_split_ands); go_simp)
        case r26a =>
        (try simp only [Act.put, List.setIfInBounds_toArray, List.set_cons_zero, List.set_cons_succ])
        refine wpAnyH_done (by kernel_rfl) ?_ _

        go_wp2_with fail
        refine bodyPost_ret (v := .tuple #[.pointer none, .int .i64 1]) (by simp [results, Tryz.results56, go_sem]) rfl ⟨HW.out.trans (hHeld.1.mono hsw), .inr ⟨hno, rfl⟩⟩
      have HMAY : Hid (decide (OkO o) = true) := Lib.hid (decide_eq_true hok)
      by_cases hid : lastOf (xs.take i) < o.id
      case neg =>
        have hid2 : o.id ≤ lastOf (xs.take i) := by omega
        have hno : ¬ OfK xs := not_of' hlt (by rw [← HOE.out]; exact fun h => hid h.2.1)
        go_wp2_with fail
        refine wp_region_held_drew (S := (fun W => Below wr.heap.size wr W ∧ W.cell? ⟨qb, qo + i * 6, none⟩ = some (.int .i64 o.id) ∧ W.cell? ⟨qb, qo + i * 6 + 1, none⟩ = some (.string o.who) ∧ W.cell? ⟨qb, qo + i * 6 + 2, none⟩ = some (.bool o.buy) ∧ W.cell? ⟨qb, qo + i * 6 + 3, none⟩ = some (.int .i64 o.item) ∧ W.cell? ⟨qb, qo + i * 6 + 4, none⟩ = some (.int .i64 o.ct) ∧ W.cell? ⟨qb, qo + i * 6 + 5, none⟩ = some (.int .i64 o.pr) ∧ W.cell? ⟨w.heap.size, 1, none⟩ = some (.int .i64 (lastOf (xs.take i))))) (by kernel_rfl) ⟨(Below.refl _ _).drew, a0, a1, a2, a3, a4, a5, l1⟩ (fun hHeld => ?_)
        refine wpAnyH_take (i := 0) (oi := ⟨some 17, _, _, _, _, _⟩) (v := ?v0b) rfl (by kernel_rfl) (by kernel_rfl) (by kernel_rfl) (fun _ _ _ h => h) (Or.inl ⟨by rfl, ?y0b⟩) (by assumption) ?r0b
        case y0b => (intro w hSw; (try dsimp only at hSw); (try go_split_ands); go_simp); (try with_reducible rfl)
        case r0b =>
        (try simp only [Act.put, List.setIfInBounds_toArray, List.set_cons_zero, List.set_cons_succ])
        refine wpAnyH_take (i := 1) (oi := ⟨some 18, _, _, _, _, _⟩) (v := ?v1b) rfl (by kernel_rfl) (by kernel_rfl) (by kernel_rfl) (fun _ _ _ h => h) (Or.inl ⟨by rfl, ?y1b⟩) (by assumption) ?r1b
        case y1b => (intro w hSw; (try dsimp only at hSw); (try go_split_ands); go_simp); (try with_reducible rfl)
        case r1b =>
        (try simp only [Act.put, List.setIfInBounds_toArray, List.set_cons_zero, List.set_cons_succ])
        refine wpAnyH_take (i := 2) (oi := ⟨some 19, _, _, _, _, _⟩) (v := ?v2b) rfl (by kernel_rfl) (by kernel_rfl) (by kernel_rfl) (fun _ _ _ h => h) (Or.inl ⟨by rfl, ?y2b⟩) (by assumption) ?r2b
        case y2b => (intro w hSw; (try dsimp only at hSw); (try go_split_ands); go_simp); (try with_reducible rfl)
        case r2b =>
        (try simp only [Act.put, List.setIfInBounds_toArray, List.set_cons_zero, List.set_cons_succ])
        refine wpAnyH_take (i := 3) (oi := ⟨some 20, _, _, _, _, _⟩) (v := ?v3b) rfl (by kernel_rfl) (by kernel_rfl) (by kernel_rfl) (fun _ _ _ h => h) (Or.inl ⟨by rfl, ?y3b⟩) (by assumption) ?r3b
        case y3b => (intro w hSw; (try dsimp only at hSw); (try go_split_ands); go_simp); (try with_reducible rfl)
        case r3b =>
        (try simp only [Act.put, List.setIfInBounds_toArray, List.set_cons_zero, List.set_cons_succ])
        refine wpAnyH_ready (rs := [4]) (by kernel_rfl) (by simp) ?_
        refine AllReadyH.cons (o := ⟨some 21, _, _, _, _, _⟩) rfl (fun K hK => ?_) AllReadyH.nil
        go_simp
        refine (refMay o _).mono ?_; rintro e w3 ⟨he, hb3⟩; rw [HMAY.out] at he; subst he
        go_wp2_with fail
        refine hK.out _ _ (by have hh := Below.trans hHeld.1 (Below.mono hb3 (Below.size hHeld.1)); exact ⟨hh, bkeep hh a0 hqw, bkeep hh a1 hqw, bkeep hh a2 hqw, bkeep hh a3 hqw, bkeep hh a4 hqw, bkeep hh a5 hqw, bkeep hh l1 hxw⟩) (fun hHeld => ?_)
        clear hK K
        (try simp only [Act.put, List.setIfInBounds_toArray, List.set_cons_zero, List.set_cons_succ])
        refine wpAnyH_take (i := 5) (oi := ⟨some 22, _, _, _, _, _⟩) (v := .bool false) rfl (by kernel_rfl) (by kernel_rfl) (by kernel_rfl) (fun _ _ _ h => h) (Or.inl ⟨by rfl, ?y5b⟩) (by assumption) ?r5b
        case y5b => (intro w hSw; (try dsimp only at hSw); (try go_split_ands); go_simp)
        case r5b =>
        (try simp only [Act.put, List.setIfInBounds_toArray, List.set_cons_zero, List.set_cons_succ])
        refine wpAnyH_take (i := 6) (oi := ⟨some 23, _, _, _, _, _⟩) (v := .bool false) rfl (by kernel_rfl) (by kernel_rfl) (by kernel_rfl) (fun _ _ _ h => h) (Or.inl ⟨by rfl, ?y6b⟩) (by assumption) ?r6b
        case y6b => (intro w hSw; (try dsimp only at hSw); (try go_split_ands); go_simp)
        case r6b =>
        (try simp only [Act.put, List.setIfInBounds_toArray, List.set_cons_zero, List.set_cons_succ])
        refine wpAnyH_take (i := 7) (oi := ⟨some 24, _, _, _, _, _⟩) (v := ?v7b) rfl (by kernel_rfl) (by kernel_rfl) (by kernel_rfl) (fun _ _ _ h => h) (Or.inl ⟨by rfl, ?y7b⟩) (by assumption) ?r7b
        case y7b => (intro w hSw; (try dsimp only at hSw); (try go_split_ands); go_simp); (try with_reducible rfl)
        case r7b =>
        (try simp only [Act.put, List.setIfInBounds_toArray, List.set_cons_zero, List.set_cons_succ])
        refine wpAnyH_take (i := 8) (oi := ⟨some 25, _, _, _, _, _⟩) (v := ?v8b) rfl (by kernel_rfl) (by kernel_rfl) (by kernel_rfl) (fun _ _ _ h => h) (Or.inl ⟨by rfl, ?y8b⟩) (by assumption) ?r8b
        case y8b => (intro w hSw; (try dsimp only at hSw); (try go_split_ands); go_simp); (try with_reducible rfl)
        case r8b =>
        (try simp only [Act.put, List.setIfInBounds_toArray, List.set_cons_zero, List.set_cons_succ])
        refine wpAnyH_take (i := 9) (oi := ⟨some 26, _, _, _, _, _⟩) (v := ?v9b) rfl (by kernel_rfl) (by kernel_rfl) (by kernel_rfl) (fun _ _ _ h => h) (Or.inl ⟨by rfl, ?y9b⟩) (by assumption) ?r9b
        case y9b => (intro w hSw; (try dsimp only at hSw); (try go_split_ands); go_simp); (try with_reducible rfl)
        case r9b =>
        (try simp only [Act.put, List.setIfInBounds_toArray, List.set_cons_zero, List.set_cons_succ])
        refine wpAnyH_take (i := 10) (oi := ⟨some 27, _, _, _, _, _⟩) (v := ?v10b) rfl (by kernel_rfl) (by kernel_rfl) (by kernel_rfl) (fun _ _ _ h => h) (Or.inl ⟨by rfl, ?y10b⟩) (by assumption) ?r10b
        case y10b => (intro w hSw; (try dsimp only at hSw); (try go_split_ands); go_simp); (try with_reducible rfl)
        case r10b =>
        (try simp only [Act.put, List.setIfInBounds_toArray, List.set_cons_zero, List.set_cons_succ])
        refine wpAnyH_take (i := 11) (oi := ⟨some 28, _, _, _, _, _⟩) (v := ?v11b) rfl (by kernel_rfl) (by kernel_rfl) (by kernel_rfl) (fun _ _ _ h => h) (Or.inl ⟨by rfl, ?y11b⟩) (by assumption) ?r11b
        case y11b => (intro w hSw; (try dsimp only at hSw); (try go_split_ands); go_simp); (try with_reducible rfl)
        case r11b =>
        (try simp only [Act.put, List.setIfInBounds_toArray, List.set_cons_zero, List.set_cons_succ])
        refine wpAnyH_take (i := 12) (oi := ⟨some 29, _, _, _, _, _⟩) (v := ?v12b) rfl (by kernel_rfl) (by kernel_rfl) (by kernel_rfl) (fun _ _ _ h => h) (Or.inl ⟨by rfl, ?y12b⟩) (by assumption) ?r12b
        case y12b => (intro w hSw; (try dsimp only at hSw); (try go_split_ands); go_simp); (try with_reducible rfl)
        case r12b =>
        (try simp only [Act.put, List.setIfInBounds_toArray, List.set_cons_zero, List.set_cons_succ])
        refine wpAnyH_take (i := 13) (oi := ⟨some 30, _, _, _, _, _⟩) (v := ?v13b) rfl (by kernel_rfl) (by kernel_rfl) (by kernel_rfl) (fun _ _ _ h => h) (Or.inl ⟨by rfl, ?y13b⟩) (by assumption) ?r13b
        case y13b => (intro w hSw; (try dsimp only at hSw); (try go_split_ands); go_simp); (try with_reducible rfl)
        case r13b =>
        (try simp only [Act.put, List.setIfInBounds_toArray, List.set_cons_zero, List.set_cons_succ])
        refine wpAnyH_take (i := 14) (oi := ⟨some 31, _, _, _, _, _⟩) (v := ?v14b) rfl (by kernel_rfl) (by kernel_rfl) (by kernel_rfl) (fun _ _ _ h => h) (Or.inl ⟨by rfl, ?y14b⟩) (by assumption) ?r14b
        case y14b => (intro w hSw; (try dsimp only at hSw); (try go_split_ands); go_simp); (try with_reducible rfl)
        case r14b =>
        (try simp only [Act.put, List.setIfInBounds_toArray, List.set_cons_zero, List.set_cons_succ])
        refine wpAnyH_take (i := 15) (oi := ⟨some 32, _, _, _, _, _⟩) (v := ?v15b) rfl (by kernel_rfl) (by kernel_rfl) (by kernel_rfl) (fun _ _ _ h => h) (Or.inl ⟨by rfl, ?y15b⟩) (by assumption) ?r15b
        case y15b => (intro w hSw; (try dsimp only at hSw); (try go_split_ands); go_simp); (try with_reducible rfl)
        case r15b =>
        (try simp only [Act.put, List.setIfInBounds_toArray, List.set_cons_zero, List.set_cons_succ])
        refine wpAnyH_take (i := 16) (oi := ⟨some 33, _, _, _, _, _⟩) (v := .bool true) rfl (by kernel_rfl) (by kernel_rfl) (by kernel_rfl) (fun _ _ _ h => h) (Or.inl ⟨by rfl, ?y16b⟩) (by assumption) ?r16b
        case y16b => (intro w hSw; (try dsimp only at hSw); (try go_split_ands); go_simp)
        case r16b =>
        (try simp only [Act.put, List.setIfInBounds_toArray, List.set_cons_zero, List.set_cons_succ])
        refine wpAnyH_take (i := 17) (oi := ⟨some 34, _, _, _, _, _⟩) (v := .bool true) rfl (by kernel_rfl) (by kernel_rfl) (by kernel_rfl) (fun _ _ _ h => h) (Or.inl ⟨by rfl, ?y17b⟩) (by assumption) ?r17b
        case y17b => (intro w hSw; (try dsimp only at hSw); (try go_split_ands); go_simp)
        case r17b =>
        (try simp only [Act.put, List.setIfInBounds_toArray, List.set_cons_zero, List.set_cons_succ])
        refine wpAnyH_take (i := 18) (oi := ⟨some 35, _, _, _, _, _⟩) (v := .bool true) rfl (by kernel_rfl) (by kernel_rfl) (by kernel_rfl) (fun _ _ _ h => h) (Or.inl ⟨by rfl, ?y18b⟩) (by assumption) ?r18b
        case y18b => (intro w hSw; (try dsimp only at hSw); (try go_split_ands); go_simp)
        case r18b =>
        (try simp only [Act.put, List.setIfInBounds_toArray, List.set_cons_zero, List.set_cons_succ])
        refine wpAnyH_take (i := 19) (oi := ⟨some 36, _, _, _, _, _⟩) (v := undef) rfl (by kernel_rfl) (by kernel_rfl) (by kernel_rfl) (fun _ _ _ h => h) (Or.inr ⟨by rfl, rfl⟩) (by assumption) ?_
        (try simp only [Act.put, List.setIfInBounds_toArray, List.set_cons_zero, List.set_cons_succ])
        refine wpAnyH_take (i := 20) (oi := ⟨some 37, _, _, _, _, _⟩) (v := undef) rfl (by kernel_rfl) (by kernel_rfl) (by kernel_rfl) (fun _ _ _ h => h) (Or.inr ⟨by rfl, rfl⟩) (by assumption) ?_
        (try simp only [Act.put, List.setIfInBounds_toArray, List.set_cons_zero, List.set_cons_succ])
        refine wpAnyH_take (i := 21) (oi := ⟨some 38, _, _, _, _, _⟩) (v := undef) rfl (by kernel_rfl) (by kernel_rfl) (by kernel_rfl) (fun _ _ _ h => h) (Or.inr ⟨by rfl, rfl⟩) (by assumption) ?_
        (try simp only [Act.put, List.setIfInBounds_toArray, List.set_cons_zero, List.set_cons_succ])
        refine wpAnyH_take (i := 22) (oi := ⟨some 39, _, _, _, _, _⟩) (v := undef) rfl (by kernel_rfl) (by kernel_rfl) (by kernel_rfl) (fun _ _ _ h => h) (Or.inr ⟨by rfl, rfl⟩) (by assumption) ?_
        (try simp only [Act.put, List.setIfInBounds_toArray, List.set_cons_zero, List.set_cons_succ])
        refine wpAnyH_take (i := 23) (oi := ⟨some 40, _, _, _, _, _⟩) (v := undef) rfl (by kernel_rfl) (by kernel_rfl) (by kernel_rfl) (fun _ _ _ h => h) (Or.inr ⟨by rfl, rfl⟩) (by assumption) ?_
        (try simp only [Act.put, List.setIfInBounds_toArray, List.set_cons_zero, List.set_cons_succ])
        refine wpAnyH_take (i := 24) (oi := ⟨some 41, _, _, _, _, _⟩) (v := undef) rfl (by kernel_rfl) (by kernel_rfl) (by kernel_rfl) (fun _ _ _ h => h) (Or.inr ⟨by rfl, rfl⟩) (by assumption) ?_
        (try simp only [Act.put, List.setIfInBounds_toArray, List.set_cons_zero, List.set_cons_succ])
        refine wpAnyH_take (i := 25) (oi := ⟨some 42, _, _, _, _, _⟩) (v := undef) rfl (by kernel_rfl) (by kernel_rfl) (by kernel_rfl) (fun _ _ _ h => h) (Or.inr ⟨by rfl, rfl⟩) (by assumption) ?_
        (try simp only [Act.put, List.setIfInBounds_toArray, List.set_cons_zero, List.set_cons_succ])
        refine wpAnyH_take (i := 26) (oi := ⟨some 43, _, _, _, _, _⟩) (v := .bool true) rfl (by kernel_rfl) (by kernel_rfl) (by kernel_rfl) (fun _ _ _ h => h) (Or.inl ⟨by rfl, ?y26b⟩) (by assumption) ?r26b
        case y26b => (intro w hSw; (try dsimp only at hSw); (try go_split_ands); go_simp)
        case r26b =>
        (try simp only [Act.put, List.setIfInBounds_toArray, List.set_cons_zero, List.set_cons_succ])
        refine wpAnyH_done (by kernel_rfl) ?_ _

        go_wp2_with fail
        refine bodyPost_ret (v := .tuple #[.pointer none, .int .i64 1]) (by simp [results, Tryz.results56, go_sem]) rfl ⟨HW.out.trans (hHeld.1.mono hsw), .inr ⟨hno, rfl⟩⟩
      have hid2 : ¬ o.id ≤ lastOf (xs.take i) := by omega
      by_cases hnm : NoneMeets o (xs.take i)
      case neg =>
        have HNM := Lib.hid hnm
        have hno : ¬ OfK xs := not_of' hlt (by rw [← HOE.out]; exact fun h => hnm h.2.2)
        clear hnm
        go_wp2_with fail
        refine wp_region_held_drew (S := (fun W => Below wr.heap.size wr W ∧ W.cell? ⟨qb, qo + i * 6, none⟩ = some (.int .i64 o.id) ∧ W.cell? ⟨qb, qo + i * 6 + 1, none⟩ = some (.string o.who) ∧ W.cell? ⟨qb, qo + i * 6 + 2, none⟩ = some (.bool o.buy) ∧ W.cell? ⟨qb, qo + i * 6 + 3, none⟩ = some (.int .i64 o.item) ∧ W.cell? ⟨qb, qo + i * 6 + 4, none⟩ = some (.int .i64 o.ct) ∧ W.cell? ⟨qb, qo + i * 6 + 5, none⟩ = some (.int .i64 o.pr) ∧ W.cell? ⟨w.heap.size, 1, none⟩ = some (.int .i64 (lastOf (xs.take i))))) (by kernel_rfl) ⟨(Below.refl _ _).drew, a0, a1, a2, a3, a4, a5, l1⟩ (fun hHeld => ?_)
        refine wpAnyH_take (i := 0) (oi := ⟨some 17, _, _, _, _, _⟩) (v := ?v0c) rfl (by kernel_rfl) (by kernel_rfl) (by kernel_rfl) (fun _ _ _ h => h) (Or.inl ⟨by rfl, ?y0c⟩) (by assumption) ?r0c
        case y0c => (intro w hSw; (try dsimp only at hSw); (try go_split_ands); go_simp); (try with_reducible rfl)
        case r0c =>
        (try simp only [Act.put, List.setIfInBounds_toArray, List.set_cons_zero, List.set_cons_succ])
        refine wpAnyH_take (i := 1) (oi := ⟨some 18, _, _, _, _, _⟩) (v := ?v1c) rfl (by kernel_rfl) (by kernel_rfl) (by kernel_rfl) (fun _ _ _ h => h) (Or.inl ⟨by rfl, ?y1c⟩) (by assumption) ?r1c
        case y1c => (intro w hSw; (try dsimp only at hSw); (try go_split_ands); go_simp); (try with_reducible rfl)
        case r1c =>
        (try simp only [Act.put, List.setIfInBounds_toArray, List.set_cons_zero, List.set_cons_succ])
        refine wpAnyH_take (i := 2) (oi := ⟨some 19, _, _, _, _, _⟩) (v := ?v2c) rfl (by kernel_rfl) (by kernel_rfl) (by kernel_rfl) (fun _ _ _ h => h) (Or.inl ⟨by rfl, ?y2c⟩) (by assumption) ?r2c
        case y2c => (intro w hSw; (try dsimp only at hSw); (try go_split_ands); go_simp); (try with_reducible rfl)
        case r2c =>
        (try simp only [Act.put, List.setIfInBounds_toArray, List.set_cons_zero, List.set_cons_succ])
        refine wpAnyH_take (i := 3) (oi := ⟨some 20, _, _, _, _, _⟩) (v := ?v3c) rfl (by kernel_rfl) (by kernel_rfl) (by kernel_rfl) (fun _ _ _ h => h) (Or.inl ⟨by rfl, ?y3c⟩) (by assumption) ?r3c
        case y3c => (intro w hSw; (try dsimp only at hSw); (try go_split_ands); go_simp); (try with_reducible rfl)
        case r3c =>
        (try simp only [Act.put, List.setIfInBounds_toArray, List.set_cons_zero, List.set_cons_succ])
        refine wpAnyH_ready (rs := [4]) (by kernel_rfl) (by simp) ?_
        refine AllReadyH.cons (o := ⟨some 21, _, _, _, _, _⟩) rfl (fun K hK => ?_) AllReadyH.nil
        go_simp
        refine (refMay o _).mono ?_; rintro e w3 ⟨he, hb3⟩; rw [HMAY.out] at he; subst he
        go_wp2_with fail
        refine hK.out _ _ (by have hh := Below.trans hHeld.1 (Below.mono hb3 (Below.size hHeld.1)); exact ⟨hh, bkeep hh a0 hqw, bkeep hh a1 hqw, bkeep hh a2 hqw, bkeep hh a3 hqw, bkeep hh a4 hqw, bkeep hh a5 hqw, bkeep hh l1 hxw⟩) (fun hHeld => ?_)
        clear hK K
        (try simp only [Act.put, List.setIfInBounds_toArray, List.set_cons_zero, List.set_cons_succ])
        refine wpAnyH_take (i := 5) (oi := ⟨some 22, _, _, _, _, _⟩) (v := .bool false) rfl (by kernel_rfl) (by kernel_rfl) (by kernel_rfl) (fun _ _ _ h => h) (Or.inl ⟨by rfl, ?y5c⟩) (by assumption) ?r5c
        case y5c => (intro w hSw; (try dsimp only at hSw); (try go_split_ands); go_simp)
        case r5c =>
        (try simp only [Act.put, List.setIfInBounds_toArray, List.set_cons_zero, List.set_cons_succ])
        refine wpAnyH_take (i := 6) (oi := ⟨some 23, _, _, _, _, _⟩) (v := .bool false) rfl (by kernel_rfl) (by kernel_rfl) (by kernel_rfl) (fun _ _ _ h => h) (Or.inl ⟨by rfl, ?y6c⟩) (by assumption) ?r6c
        case y6c => (intro w hSw; (try dsimp only at hSw); (try go_split_ands); go_simp)
        case r6c =>
        (try simp only [Act.put, List.setIfInBounds_toArray, List.set_cons_zero, List.set_cons_succ])
        refine wpAnyH_take (i := 7) (oi := ⟨some 24, _, _, _, _, _⟩) (v := ?v7c) rfl (by kernel_rfl) (by kernel_rfl) (by kernel_rfl) (fun _ _ _ h => h) (Or.inl ⟨by rfl, ?y7c⟩) (by assumption) ?r7c
        case y7c => (intro w hSw; (try dsimp only at hSw); (try go_split_ands); go_simp); (try with_reducible rfl)
        case r7c =>
        (try simp only [Act.put, List.setIfInBounds_toArray, List.set_cons_zero, List.set_cons_succ])
        refine wpAnyH_take (i := 8) (oi := ⟨some 25, _, _, _, _, _⟩) (v := ?v8c) rfl (by kernel_rfl) (by kernel_rfl) (by kernel_rfl) (fun _ _ _ h => h) (Or.inl ⟨by rfl, ?y8c⟩) (by assumption) ?r8c
        case y8c => (intro w hSw; (try dsimp only at hSw); (try go_split_ands); go_simp); (try with_reducible rfl)
        case r8c =>
        (try simp only [Act.put, List.setIfInBounds_toArray, List.set_cons_zero, List.set_cons_succ])
        refine wpAnyH_take (i := 9) (oi := ⟨some 26, _, _, _, _, _⟩) (v := ?v9c) rfl (by kernel_rfl) (by kernel_rfl) (by kernel_rfl) (fun _ _ _ h => h) (Or.inl ⟨by rfl, ?y9c⟩) (by assumption) ?r9c
        case y9c => (intro w hSw; (try dsimp only at hSw); (try go_split_ands); go_simp); (try with_reducible rfl)
        case r9c =>
        (try simp only [Act.put, List.setIfInBounds_toArray, List.set_cons_zero, List.set_cons_succ])
        refine wpAnyH_take (i := 10) (oi := ⟨some 27, _, _, _, _, _⟩) (v := ?v10c) rfl (by kernel_rfl) (by kernel_rfl) (by kernel_rfl) (fun _ _ _ h => h) (Or.inl ⟨by rfl, ?y10c⟩) (by assumption) ?r10c
        case y10c => (intro w hSw; (try dsimp only at hSw); (try go_split_ands); go_simp); (try with_reducible rfl)
        case r10c =>
        (try simp only [Act.put, List.setIfInBounds_toArray, List.set_cons_zero, List.set_cons_succ])
        refine wpAnyH_take (i := 11) (oi := ⟨some 28, _, _, _, _, _⟩) (v := ?v11c) rfl (by kernel_rfl) (by kernel_rfl) (by kernel_rfl) (fun _ _ _ h => h) (Or.inl ⟨by rfl, ?y11c⟩) (by assumption) ?r11c
        case y11c => (intro w hSw; (try dsimp only at hSw); (try go_split_ands); go_simp); (try with_reducible rfl)
        case r11c =>
        (try simp only [Act.put, List.setIfInBounds_toArray, List.set_cons_zero, List.set_cons_succ])
        refine wpAnyH_take (i := 12) (oi := ⟨some 29, _, _, _, _, _⟩) (v := ?v12c) rfl (by kernel_rfl) (by kernel_rfl) (by kernel_rfl) (fun _ _ _ h => h) (Or.inl ⟨by rfl, ?y12c⟩) (by assumption) ?r12c
        case y12c => (intro w hSw; (try dsimp only at hSw); (try go_split_ands); go_simp); (try with_reducible rfl)
        case r12c =>
        (try simp only [Act.put, List.setIfInBounds_toArray, List.set_cons_zero, List.set_cons_succ])
        refine wpAnyH_take (i := 13) (oi := ⟨some 30, _, _, _, _, _⟩) (v := ?v13c) rfl (by kernel_rfl) (by kernel_rfl) (by kernel_rfl) (fun _ _ _ h => h) (Or.inl ⟨by rfl, ?y13c⟩) (by assumption) ?r13c
        case y13c => (intro w hSw; (try dsimp only at hSw); (try go_split_ands); go_simp); (try with_reducible rfl)
        case r13c =>
        (try simp only [Act.put, List.setIfInBounds_toArray, List.set_cons_zero, List.set_cons_succ])
        refine wpAnyH_take (i := 14) (oi := ⟨some 31, _, _, _, _, _⟩) (v := ?v14c) rfl (by kernel_rfl) (by kernel_rfl) (by kernel_rfl) (fun _ _ _ h => h) (Or.inl ⟨by rfl, ?y14c⟩) (by assumption) ?r14c
        case y14c => (intro w hSw; (try dsimp only at hSw); (try go_split_ands); go_simp); (try with_reducible rfl)
        case r14c =>
        (try simp only [Act.put, List.setIfInBounds_toArray, List.set_cons_zero, List.set_cons_succ])
        refine wpAnyH_take (i := 15) (oi := ⟨some 32, _, _, _, _, _⟩) (v := ?v15c) rfl (by kernel_rfl) (by kernel_rfl) (by kernel_rfl) (fun _ _ _ h => h) (Or.inl ⟨by rfl, ?y15c⟩) (by assumption) ?r15c
        case y15c => (intro w hSw; (try dsimp only at hSw); (try go_split_ands); go_simp); (try with_reducible rfl)
        case r15c =>
        (try simp only [Act.put, List.setIfInBounds_toArray, List.set_cons_zero, List.set_cons_succ])
        refine wpAnyH_take (i := 16) (oi := ⟨some 33, _, _, _, _, _⟩) (v := .bool false) rfl (by kernel_rfl) (by kernel_rfl) (by kernel_rfl) (fun _ _ _ h => h) (Or.inl ⟨by rfl, ?y16c⟩) (by assumption) ?r16c
        case y16c => (intro w hSw; (try dsimp only at hSw); (try go_split_ands); go_simp)
        case r16c =>
        (try simp only [Act.put, List.setIfInBounds_toArray, List.set_cons_zero, List.set_cons_succ])
        refine wpAnyH_take (i := 17) (oi := ⟨some 34, _, _, _, _, _⟩) (v := .bool false) rfl (by kernel_rfl) (by kernel_rfl) (by kernel_rfl) (fun _ _ _ h => h) (Or.inl ⟨by rfl, ?y17c⟩) (by assumption) ?r17c
        case y17c => (intro w hSw; (try dsimp only at hSw); (try go_split_ands); go_simp)
        case r17c =>
        (try simp only [Act.put, List.setIfInBounds_toArray, List.set_cons_zero, List.set_cons_succ])
        refine wpAnyH_take (i := 18) (oi := ⟨some 35, _, _, _, _, _⟩) (v := .bool false) rfl (by kernel_rfl) (by kernel_rfl) (by kernel_rfl) (fun _ _ _ h => h) (Or.inl ⟨by rfl, ?y18c⟩) (by assumption) ?r18c
        case y18c => (intro w hSw; (try dsimp only at hSw); (try go_split_ands); go_simp)
        case r18c =>
        (try simp only [Act.put, List.setIfInBounds_toArray, List.set_cons_zero, List.set_cons_succ])
        refine wpAnyH_take (i := 19) (oi := ⟨some 36, _, _, _, _, _⟩) (v := ?v19c) rfl (by kernel_rfl) (by kernel_rfl) (by kernel_rfl) (fun _ _ _ h => h) (Or.inl ⟨by rfl, ?y19c⟩) (by assumption) ?r19c
        case y19c => (intro w hSw; (try dsimp only at hSw); (try go_split_ands); go_simp); (try with_reducible rfl)
        case r19c =>
        (try simp only [Act.put, List.setIfInBounds_toArray, List.set_cons_zero, List.set_cons_succ])
        refine wpAnyH_take (i := 20) (oi := ⟨some 37, _, _, _, _, _⟩) (v := ?v20c) rfl (by kernel_rfl) (by kernel_rfl) (by kernel_rfl) (fun _ _ _ h => h) (Or.inl ⟨by rfl, ?y20c⟩) (by assumption) ?r20c
        case y20c => (intro w hSw; (try dsimp only at hSw); (try go_split_ands); go_simp); (try with_reducible rfl)
        case r20c =>
        (try simp only [Act.put, List.setIfInBounds_toArray, List.set_cons_zero, List.set_cons_succ])
        refine wpAnyH_take (i := 21) (oi := ⟨some 38, _, _, _, _, _⟩) (v := ?v21c) rfl (by kernel_rfl) (by kernel_rfl) (by kernel_rfl) (fun _ _ _ h => h) (Or.inl ⟨by rfl, ?y21c⟩) (by assumption) ?r21c
        case y21c => (intro w hSw; (try dsimp only at hSw); (try go_split_ands); go_simp); (try with_reducible rfl)
        case r21c =>
        (try simp only [Act.put, List.setIfInBounds_toArray, List.set_cons_zero, List.set_cons_succ])
        refine wpAnyH_take (i := 22) (oi := ⟨some 39, _, _, _, _, _⟩) (v := ?v22c) rfl (by kernel_rfl) (by kernel_rfl) (by kernel_rfl) (fun _ _ _ h => h) (Or.inl ⟨by rfl, ?y22c⟩) (by assumption) ?r22c
        case y22c => (intro w hSw; (try dsimp only at hSw); (try go_split_ands); go_simp); (try with_reducible rfl)
        case r22c =>
        (try simp only [Act.put, List.setIfInBounds_toArray, List.set_cons_zero, List.set_cons_succ])
        refine wpAnyH_take (i := 23) (oi := ⟨some 40, _, _, _, _, _⟩) (v := ?v23c) rfl (by kernel_rfl) (by kernel_rfl) (by kernel_rfl) (fun _ _ _ h => h) (Or.inl ⟨by rfl, ?y23c⟩) (by assumption) ?r23c
        case y23c => (intro w hSw; (try dsimp only at hSw); (try go_split_ands); go_simp); (try with_reducible rfl)
        case r23c =>
        (try simp only [Act.put, List.setIfInBounds_toArray, List.set_cons_zero, List.set_cons_succ])
        refine wpAnyH_ready (rs := [24]) (by kernel_rfl) (by simp) ?_
        refine AllReadyH.cons (o := ⟨some 41, _, _, _, _, _⟩) rfl (fun K hK => ?_) AllReadyH.nil
        go_simp
        refine (refBest w.heap.size w.heap.size u (xs.take i) (lastOf (xs.take i)) o _ (HR.out.below hHeld.1) HBK.out (by rw [List.length_take]; omega)).mono ?_; rintro e w5 ⟨k, rfl, hbe, hb3⟩; obtain ⟨kn, rfl, hkl, hbst⟩ := best_some hbe HNM.out
        go_wp2_with fail
        refine hK.out _ _ (by have hh := Below.trans hHeld.1 (Below.mono hb3 (Below.size hHeld.1)); exact ⟨hh, bkeep hh a0 hqw, bkeep hh a1 hqw, bkeep hh a2 hqw, bkeep hh a3 hqw, bkeep hh a4 hqw, bkeep hh a5 hqw, bkeep hh l1 hxw⟩) (fun hHeld => ?_)
        clear hK K
        (try simp only [Act.put, List.setIfInBounds_toArray, List.set_cons_zero, List.set_cons_succ])
        refine wpAnyH_take (i := 25) (oi := ⟨some 42, _, _, _, _, _⟩) (v := .bool true) rfl (by kernel_rfl) (by kernel_rfl) (by kernel_rfl) (fun _ _ _ h => h) (Or.inl ⟨by rfl, ?y25c⟩) (by assumption) ?r25c
        case y25c => (intro w hSw; (try dsimp only at hSw); (try go_split_ands); go_simp)
        case r25c =>
        (try simp only [Act.put, List.setIfInBounds_toArray, List.set_cons_zero, List.set_cons_succ])
        refine wpAnyH_take (i := 26) (oi := ⟨some 43, _, _, _, _, _⟩) (v := .bool true) rfl (by kernel_rfl) (by kernel_rfl) (by kernel_rfl) (fun _ _ _ h => h) (Or.inl ⟨by rfl, ?y26c⟩) (by assumption) ?r26c
        case y26c => (intro w hSw; (try dsimp only at hSw); (try go_split_ands); go_simp)
        case r26c =>
        (try simp only [Act.put, List.setIfInBounds_toArray, List.set_cons_zero, List.set_cons_succ])
        refine wpAnyH_done (by kernel_rfl) ?_ _

        go_wp2_with fail
        refine bodyPost_ret (v := .tuple #[.pointer none, .int .i64 1]) (by simp [results, Tryz.results56, go_sem]) rfl ⟨HW.out.trans (hHeld.1.mono hsw), .inr ⟨hno, rfl⟩⟩
      have HK : Hid (Fits (xs.take i) o) := Lib.hid ⟨hok, hid, hnm⟩
      have HNM := Lib.hid hnm
      clear hnm
      go_wp2_with fail
      refine wp_region_held_drew (S := (fun W => Below wr.heap.size wr W ∧ W.cell? ⟨qb, qo + i * 6, none⟩ = some (.int .i64 o.id) ∧ W.cell? ⟨qb, qo + i * 6 + 1, none⟩ = some (.string o.who) ∧ W.cell? ⟨qb, qo + i * 6 + 2, none⟩ = some (.bool o.buy) ∧ W.cell? ⟨qb, qo + i * 6 + 3, none⟩ = some (.int .i64 o.item) ∧ W.cell? ⟨qb, qo + i * 6 + 4, none⟩ = some (.int .i64 o.ct) ∧ W.cell? ⟨qb, qo + i * 6 + 5, none⟩ = some (.int .i64 o.pr) ∧ W.cell? ⟨w.heap.size, 1, none⟩ = some (.int .i64 (lastOf (xs.take i))))) (by kernel_rfl) ⟨(Below.refl _ _).drew, a0, a1, a2, a3, a4, a5, l1⟩ (fun hHeld => ?_)
      refine wpAnyH_take (i := 0) (oi := ⟨some 17, _, _, _, _, _⟩) (v := ?v0d) rfl (by kernel_rfl) (by kernel_rfl) (by kernel_rfl) (fun _ _ _ h => h) (Or.inl ⟨by rfl, ?y0d⟩) (by assumption) ?r0d
      case y0d => (intro w hSw; (try dsimp only at hSw); (try go_split_ands); go_simp); (try with_reducible rfl)
      case r0d =>
      (try simp only [Act.put, List.setIfInBounds_toArray, List.set_cons_zero, List.set_cons_succ])
      refine wpAnyH_take (i := 1) (oi := ⟨some 18, _, _, _, _, _⟩) (v := ?v1d) rfl (by kernel_rfl) (by kernel_rfl) (by kernel_rfl) (fun _ _ _ h => h) (Or.inl ⟨by rfl, ?y1d⟩) (by assumption) ?r1d
      case y1d => (intro w hSw; (try dsimp only at hSw); (try go_split_ands); go_simp); (try with_reducible rfl)
      case r1d =>
      (try simp only [Act.put, List.setIfInBounds_toArray, List.set_cons_zero, List.set_cons_succ])
      refine wpAnyH_take (i := 2) (oi := ⟨some 19, _, _, _, _, _⟩) (v := ?v2d) rfl (by kernel_rfl) (by kernel_rfl) (by kernel_rfl) (fun _ _ _ h => h) (Or.inl ⟨by rfl, ?y2d⟩) (by assumption) ?r2d
      case y2d => (intro w hSw; (try dsimp only at hSw); (try go_split_ands); go_simp); (try with_reducible rfl)
      case r2d =>
      (try simp only [Act.put, List.setIfInBounds_toArray, List.set_cons_zero, List.set_cons_succ])
      refine wpAnyH_take (i := 3) (oi := ⟨some 20, _, _, _, _, _⟩) (v := ?v3d) rfl (by kernel_rfl) (by kernel_rfl) (by kernel_rfl) (fun _ _ _ h => h) (Or.inl ⟨by rfl, ?y3d⟩) (by assumption) ?r3d
      case y3d => (intro w hSw; (try dsimp only at hSw); (try go_split_ands); go_simp); (try with_reducible rfl)
      case r3d =>
      (try simp only [Act.put, List.setIfInBounds_toArray, List.set_cons_zero, List.set_cons_succ])
      refine wpAnyH_ready (rs := [4]) (by kernel_rfl) (by simp) ?_
      refine AllReadyH.cons (o := ⟨some 21, _, _, _, _, _⟩) rfl (fun K hK => ?_) AllReadyH.nil
      go_simp
      refine (refMay o _).mono ?_; rintro e w3 ⟨he, hb3⟩; rw [HMAY.out] at he; subst he
      go_wp2_with fail
      refine hK.out _ _ (by have hh := Below.trans hHeld.1 (Below.mono hb3 (Below.size hHeld.1)); exact ⟨hh, bkeep hh a0 hqw, bkeep hh a1 hqw, bkeep hh a2 hqw, bkeep hh a3 hqw, bkeep hh a4 hqw, bkeep hh a5 hqw, bkeep hh l1 hxw⟩) (fun hHeld => ?_)
      clear hK K
      (try simp only [Act.put, List.setIfInBounds_toArray, List.set_cons_zero, List.set_cons_succ])
      refine wpAnyH_take (i := 5) (oi := ⟨some 22, _, _, _, _, _⟩) (v := .bool false) rfl (by kernel_rfl) (by kernel_rfl) (by kernel_rfl) (fun _ _ _ h => h) (Or.inl ⟨by rfl, ?y5d⟩) (by assumption) ?r5d
      case y5d => (intro w hSw; (try dsimp only at hSw); (try go_split_ands); go_simp)
      case r5d =>
      (try simp only [Act.put, List.setIfInBounds_toArray, List.set_cons_zero, List.set_cons_succ])
      refine wpAnyH_take (i := 6) (oi := ⟨some 23, _, _, _, _, _⟩) (v := .bool false) rfl (by kernel_rfl) (by kernel_rfl) (by kernel_rfl) (fun _ _ _ h => h) (Or.inl ⟨by rfl, ?y6d⟩) (by assumption) ?r6d
      case y6d => (intro w hSw; (try dsimp only at hSw); (try go_split_ands); go_simp)
      case r6d =>
      (try simp only [Act.put, List.setIfInBounds_toArray, List.set_cons_zero, List.set_cons_succ])
      refine wpAnyH_take (i := 7) (oi := ⟨some 24, _, _, _, _, _⟩) (v := ?v7d) rfl (by kernel_rfl) (by kernel_rfl) (by kernel_rfl) (fun _ _ _ h => h) (Or.inl ⟨by rfl, ?y7d⟩) (by assumption) ?r7d
      case y7d => (intro w hSw; (try dsimp only at hSw); (try go_split_ands); go_simp); (try with_reducible rfl)
      case r7d =>
      (try simp only [Act.put, List.setIfInBounds_toArray, List.set_cons_zero, List.set_cons_succ])
      refine wpAnyH_take (i := 8) (oi := ⟨some 25, _, _, _, _, _⟩) (v := ?v8d) rfl (by kernel_rfl) (by kernel_rfl) (by kernel_rfl) (fun _ _ _ h => h) (Or.inl ⟨by rfl, ?y8d⟩) (by assumption) ?r8d
      case y8d => (intro w hSw; (try dsimp only at hSw); (try go_split_ands); go_simp); (try with_reducible rfl)
      case r8d =>
      (try simp only [Act.put, List.setIfInBounds_toArray, List.set_cons_zero, List.set_cons_succ])
      refine wpAnyH_take (i := 9) (oi := ⟨some 26, _, _, _, _, _⟩) (v := ?v9d) rfl (by kernel_rfl) (by kernel_rfl) (by kernel_rfl) (fun _ _ _ h => h) (Or.inl ⟨by rfl, ?y9d⟩) (by assumption) ?r9d
      case y9d => (intro w hSw; (try dsimp only at hSw); (try go_split_ands); go_simp); (try with_reducible rfl)
      case r9d =>
      (try simp only [Act.put, List.setIfInBounds_toArray, List.set_cons_zero, List.set_cons_succ])
      refine wpAnyH_take (i := 10) (oi := ⟨some 27, _, _, _, _, _⟩) (v := ?v10d) rfl (by kernel_rfl) (by kernel_rfl) (by kernel_rfl) (fun _ _ _ h => h) (Or.inl ⟨by rfl, ?y10d⟩) (by assumption) ?r10d
      case y10d => (intro w hSw; (try dsimp only at hSw); (try go_split_ands); go_simp); (try with_reducible rfl)
      case r10d =>
      (try simp only [Act.put, List.setIfInBounds_toArray, List.set_cons_zero, List.set_cons_succ])
      refine wpAnyH_take (i := 11) (oi := ⟨some 28, _, _, _, _, _⟩) (v := ?v11d) rfl (by kernel_rfl) (by kernel_rfl) (by kernel_rfl) (fun _ _ _ h => h) (Or.inl ⟨by rfl, ?y11d⟩) (by assumption) ?r11d
      case y11d => (intro w hSw; (try dsimp only at hSw); (try go_split_ands); go_simp); (try with_reducible rfl)
      case r11d =>
      (try simp only [Act.put, List.setIfInBounds_toArray, List.set_cons_zero, List.set_cons_succ])
      refine wpAnyH_take (i := 12) (oi := ⟨some 29, _, _, _, _, _⟩) (v := ?v12d) rfl (by kernel_rfl) (by kernel_rfl) (by kernel_rfl) (fun _ _ _ h => h) (Or.inl ⟨by rfl, ?y12d⟩) (by assumption) ?r12d
      case y12d => (intro w hSw; (try dsimp only at hSw); (try go_split_ands); go_simp); (try with_reducible rfl)
      case r12d =>
      (try simp only [Act.put, List.setIfInBounds_toArray, List.set_cons_zero, List.set_cons_succ])
      refine wpAnyH_take (i := 13) (oi := ⟨some 30, _, _, _, _, _⟩) (v := ?v13d) rfl (by kernel_rfl) (by kernel_rfl) (by kernel_rfl) (fun _ _ _ h => h) (Or.inl ⟨by rfl, ?y13d⟩) (by assumption) ?r13d
      case y13d => (intro w hSw; (try dsimp only at hSw); (try go_split_ands); go_simp); (try with_reducible rfl)
      case r13d =>
      (try simp only [Act.put, List.setIfInBounds_toArray, List.set_cons_zero, List.set_cons_succ])
      refine wpAnyH_take (i := 14) (oi := ⟨some 31, _, _, _, _, _⟩) (v := ?v14d) rfl (by kernel_rfl) (by kernel_rfl) (by kernel_rfl) (fun _ _ _ h => h) (Or.inl ⟨by rfl, ?y14d⟩) (by assumption) ?r14d
      case y14d => (intro w hSw; (try dsimp only at hSw); (try go_split_ands); go_simp); (try with_reducible rfl)
      case r14d =>
      (try simp only [Act.put, List.setIfInBounds_toArray, List.set_cons_zero, List.set_cons_succ])
      refine wpAnyH_take (i := 15) (oi := ⟨some 32, _, _, _, _, _⟩) (v := ?v15d) rfl (by kernel_rfl) (by kernel_rfl) (by kernel_rfl) (fun _ _ _ h => h) (Or.inl ⟨by rfl, ?y15d⟩) (by assumption) ?r15d
      case y15d => (intro w hSw; (try dsimp only at hSw); (try go_split_ands); go_simp); (try with_reducible rfl)
      case r15d =>
      (try simp only [Act.put, List.setIfInBounds_toArray, List.set_cons_zero, List.set_cons_succ])
      refine wpAnyH_take (i := 16) (oi := ⟨some 33, _, _, _, _, _⟩) (v := .bool false) rfl (by kernel_rfl) (by kernel_rfl) (by kernel_rfl) (fun _ _ _ h => h) (Or.inl ⟨by rfl, ?y16d⟩) (by assumption) ?r16d
      case y16d => (intro w hSw; (try dsimp only at hSw); (try go_split_ands); go_simp)
      case r16d =>
      (try simp only [Act.put, List.setIfInBounds_toArray, List.set_cons_zero, List.set_cons_succ])
      refine wpAnyH_take (i := 17) (oi := ⟨some 34, _, _, _, _, _⟩) (v := .bool false) rfl (by kernel_rfl) (by kernel_rfl) (by kernel_rfl) (fun _ _ _ h => h) (Or.inl ⟨by rfl, ?y17d⟩) (by assumption) ?r17d
      case y17d => (intro w hSw; (try dsimp only at hSw); (try go_split_ands); go_simp)
      case r17d =>
      (try simp only [Act.put, List.setIfInBounds_toArray, List.set_cons_zero, List.set_cons_succ])
      refine wpAnyH_take (i := 18) (oi := ⟨some 35, _, _, _, _, _⟩) (v := .bool false) rfl (by kernel_rfl) (by kernel_rfl) (by kernel_rfl) (fun _ _ _ h => h) (Or.inl ⟨by rfl, ?y18d⟩) (by assumption) ?r18d
      case y18d => (intro w hSw; (try dsimp only at hSw); (try go_split_ands); go_simp)
      case r18d =>
      (try simp only [Act.put, List.setIfInBounds_toArray, List.set_cons_zero, List.set_cons_succ])
      refine wpAnyH_take (i := 19) (oi := ⟨some 36, _, _, _, _, _⟩) (v := ?v19d) rfl (by kernel_rfl) (by kernel_rfl) (by kernel_rfl) (fun _ _ _ h => h) (Or.inl ⟨by rfl, ?y19d⟩) (by assumption) ?r19d
      case y19d => (intro w hSw; (try dsimp only at hSw); (try go_split_ands); go_simp); (try with_reducible rfl)
      case r19d =>
      (try simp only [Act.put, List.setIfInBounds_toArray, List.set_cons_zero, List.set_cons_succ])
      refine wpAnyH_take (i := 20) (oi := ⟨some 37, _, _, _, _, _⟩) (v := ?v20d) rfl (by kernel_rfl) (by kernel_rfl) (by kernel_rfl) (fun _ _ _ h => h) (Or.inl ⟨by rfl, ?y20d⟩) (by assumption) ?r20d
      case y20d => (intro w hSw; (try dsimp only at hSw); (try go_split_ands); go_simp); (try with_reducible rfl)
      case r20d =>
      (try simp only [Act.put, List.setIfInBounds_toArray, List.set_cons_zero, List.set_cons_succ])
      refine wpAnyH_take (i := 21) (oi := ⟨some 38, _, _, _, _, _⟩) (v := ?v21d) rfl (by kernel_rfl) (by kernel_rfl) (by kernel_rfl) (fun _ _ _ h => h) (Or.inl ⟨by rfl, ?y21d⟩) (by assumption) ?r21d
      case y21d => (intro w hSw; (try dsimp only at hSw); (try go_split_ands); go_simp); (try with_reducible rfl)
      case r21d =>
      (try simp only [Act.put, List.setIfInBounds_toArray, List.set_cons_zero, List.set_cons_succ])
      refine wpAnyH_take (i := 22) (oi := ⟨some 39, _, _, _, _, _⟩) (v := ?v22d) rfl (by kernel_rfl) (by kernel_rfl) (by kernel_rfl) (fun _ _ _ h => h) (Or.inl ⟨by rfl, ?y22d⟩) (by assumption) ?r22d
      case y22d => (intro w hSw; (try dsimp only at hSw); (try go_split_ands); go_simp); (try with_reducible rfl)
      case r22d =>
      (try simp only [Act.put, List.setIfInBounds_toArray, List.set_cons_zero, List.set_cons_succ])
      refine wpAnyH_take (i := 23) (oi := ⟨some 40, _, _, _, _, _⟩) (v := ?v23d) rfl (by kernel_rfl) (by kernel_rfl) (by kernel_rfl) (fun _ _ _ h => h) (Or.inl ⟨by rfl, ?y23d⟩) (by assumption) ?r23d
      case y23d => (intro w hSw; (try dsimp only at hSw); (try go_split_ands); go_simp); (try with_reducible rfl)
      case r23d =>
      (try simp only [Act.put, List.setIfInBounds_toArray, List.set_cons_zero, List.set_cons_succ])
      refine wpAnyH_ready (rs := [24]) (by kernel_rfl) (by simp) ?_
      refine AllReadyH.cons (o := ⟨some 41, _, _, _, _, _⟩) rfl (fun K hK => ?_) AllReadyH.nil
      go_simp
      refine (refBest w.heap.size w.heap.size u (xs.take i) (lastOf (xs.take i)) o _ (HR.out.below hHeld.1) HBK.out (by rw [List.length_take]; omega)).mono ?_; rintro e w5 ⟨k, rfl, hbe, hb3⟩; obtain rfl := best_none hbe HNM.out
      go_wp2_with fail
      refine hK.out _ _ (by have hh := Below.trans hHeld.1 (Below.mono hb3 (Below.size hHeld.1)); exact ⟨hh, bkeep hh a0 hqw, bkeep hh a1 hqw, bkeep hh a2 hqw, bkeep hh a3 hqw, bkeep hh a4 hqw, bkeep hh a5 hqw, bkeep hh l1 hxw⟩) (fun hHeld => ?_)
      clear hK K
      (try simp only [Act.put, List.setIfInBounds_toArray, List.set_cons_zero, List.set_cons_succ])
      refine wpAnyH_take (i := 25) (oi := ⟨some 42, _, _, _, _, _⟩) (v := .bool false) rfl (by kernel_rfl) (by kernel_rfl) (by kernel_rfl) (fun _ _ _ h => h) (Or.inl ⟨by rfl, ?y25d⟩) (by assumption) ?r25d
      case y25d => (intro w hSw; (try dsimp only at hSw); (try go_split_ands); go_simp)
      case r25d =>
      (try simp only [Act.put, List.setIfInBounds_toArray, List.set_cons_zero, List.set_cons_succ])
      refine wpAnyH_take (i := 26) (oi := ⟨some 43, _, _, _, _, _⟩) (v := .bool false) rfl (by kernel_rfl) (by kernel_rfl) (by kernel_rfl) (fun _ _ _ h => h) (Or.inl ⟨by rfl, ?y26d⟩) (by assumption) ?r26d
      case y26d => (intro w hSw; (try dsimp only at hSw); (try go_split_ands); go_simp)
      case r26d =>
      (try simp only [Act.put, List.setIfInBounds_toArray, List.set_cons_zero, List.set_cons_succ])
      refine wpAnyH_done (by kernel_rfl) ?_ _

      obtain ⟨hB5, b0, b1, b2, b3, b4, b5, l5⟩ := hHeld
      have HR5' := Lib.hid (HR.out.below hB5)
      have HW5 := Lib.hid (HW.out.trans (hB5.mono hsw))
      have hs5 := hB5.size
      obtain ⟨A1, c1, hu1, hnc1, hcm1, hCL⟩ := row_cells HR5'.out.row
      rw [hti] at hu1
      subst hu1
      have HR5 := HR5'
      have l4 := HR5.out.blk.cell 0
      simp only [List.getElem?_toArray, List.getElem?_cons_succ, List.getElem?_cons_zero] at l4
      have hqu : ¬ (Value.slice A1 i c1).ownBlock = some qb := fun e => hqu0 qb e rfl
      obtain ⟨i0, hi0, hz0, hz1, hz2⟩ := info_parts Tryz.infoOrder
      clear a0 a1 a2 a3 a4 a5 l1 l5 hB5 hCL HR HR5' HW hb3
      have HBC : Hid (Touch (fun _ => False) w5 w5.drew) := Lib.hid (Touch.of_drew _ _)
      go_wp2_with fail
      refine wp_region_held_drew (S := (fun W => W.cell? ⟨qb, qo + i * 6, none⟩ = some (.int .i64 o.id) ∧ W.cell? ⟨qb, qo + i * 6 + 1, none⟩ = some (.string o.who) ∧ W.cell? ⟨qb, qo + i * 6 + 2, none⟩ = some (.bool o.buy) ∧ W.cell? ⟨qb, qo + i * 6 + 3, none⟩ = some (.int .i64 o.item) ∧ W.cell? ⟨qb, qo + i * 6 + 4, none⟩ = some (.int .i64 o.ct) ∧ W.cell? ⟨qb, qo + i * 6 + 5, none⟩ = some (.int .i64 o.pr))) (by kernel_rfl) ⟨b0, b1, b2, b3, b4, b5⟩ (fun hHeld => ?_)
      generalize w5.drew = wd at *
      refine wpAnyH_take (i := 0) (oi := ⟨some 44, _, _, _, _, _⟩) (v := ?v0n_1) rfl (by kernel_rfl) (by kernel_rfl) (by kernel_rfl) (fun _ _ _ h => h) (Or.inl ⟨by rfl, ?y0n_1⟩) (by assumption) ?r0n_1
      case y0n_1 => (intro w hSw; (try dsimp only at hSw); (try go_split_ands); go_simp); (try with_reducible rfl)
      case r0n_1 =>
      (try simp only [Act.put, List.setIfInBounds_toArray, List.set_cons_zero, List.set_cons_succ])
      refine wpAnyH_take (i := 1) (oi := ⟨some 45, _, _, _, _, _⟩) (v := ?v1n_4) rfl (by kernel_rfl) (by kernel_rfl) (by kernel_rfl) (fun _ _ _ h => h) (Or.inl ⟨by rfl, ?y1n_4⟩) (by assumption) ?r1n_4
      case y1n_4 => (intro w hSw; (try dsimp only at hSw); (try go_split_ands); go_simp); (try with_reducible rfl)
      case r1n_4 =>
      (try simp only [Act.put, List.setIfInBounds_toArray, List.set_cons_zero, List.set_cons_succ])
      refine wpAnyH_take (i := 2) (oi := ⟨some 46, _, _, _, _, _⟩) (v := ?v2n_7) rfl (by kernel_rfl) (by kernel_rfl) (by kernel_rfl) (fun _ _ _ h => h) (Or.inl ⟨by rfl, ?y2n_7⟩) (by assumption) ?r2n_7
      case y2n_7 => (intro w hSw; (try dsimp only at hSw); (try go_split_ands); go_simp); (try with_reducible rfl)
      case r2n_7 =>
      (try simp only [Act.put, List.setIfInBounds_toArray, List.set_cons_zero, List.set_cons_succ])
      refine wpAnyH_take (i := 3) (oi := ⟨some 47, _, _, _, _, _⟩) (v := ?v3n_10) rfl (by kernel_rfl) (by kernel_rfl) (by kernel_rfl) (fun _ _ _ h => h) (Or.inl ⟨by rfl, ?y3n_10⟩) (by assumption) ?r3n_10
      case y3n_10 => (intro w hSw; (try dsimp only at hSw); (try go_split_ands); go_simp); (try with_reducible rfl)
      case r3n_10 =>
      (try simp only [Act.put, List.setIfInBounds_toArray, List.set_cons_zero, List.set_cons_succ])
      refine wpAnyH_take (i := 5) (oi := ⟨some 49, _, _, _, _, _⟩) (v := ?v5n_13) rfl (by kernel_rfl) (by kernel_rfl) (by kernel_rfl) (fun _ _ _ h => h) (Or.inl ⟨by rfl, ?y5n_13⟩) (by assumption) ?r5n_13
      case y5n_13 => (intro w hSw; (try dsimp only at hSw); (try go_split_ands); go_simp); (try with_reducible rfl)
      case r5n_13 =>
      (try simp only [Act.put, List.setIfInBounds_toArray, List.set_cons_zero, List.set_cons_succ])
      refine wpAnyH_take (i := 6) (oi := ⟨some 50, _, _, _, _, _⟩) (v := ?v6n_16) rfl (by kernel_rfl) (by kernel_rfl) (by kernel_rfl) (fun _ _ _ h => h) (Or.inl ⟨by rfl, ?y6n_16⟩) (by assumption) ?r6n_16
      case y6n_16 => (intro w hSw; (try dsimp only at hSw); (try go_split_ands); go_simp); (try with_reducible rfl)
      case r6n_16 =>
      (try simp only [Act.put, List.setIfInBounds_toArray, List.set_cons_zero, List.set_cons_succ])
      refine wpAnyH_take (i := 7) (oi := ⟨some 51, _, _, _, _, _⟩) (v := ?v7n_19) rfl (by kernel_rfl) (by kernel_rfl) (by kernel_rfl) (fun _ _ _ h => h) (Or.inl ⟨by rfl, ?y7n_19⟩) (by assumption) ?r7n_19
      case y7n_19 => (intro w hSw; (try dsimp only at hSw); (try go_split_ands); go_simp); (try with_reducible rfl)
      case r7n_19 =>
      (try simp only [Act.put, List.setIfInBounds_toArray, List.set_cons_zero, List.set_cons_succ])
      refine wpAnyH_take (i := 8) (oi := ⟨some 52, _, _, _, _, _⟩) (v := ?v8n_22) rfl (by kernel_rfl) (by kernel_rfl) (by kernel_rfl) (fun _ _ _ h => h) (Or.inl ⟨by rfl, ?y8n_22⟩) (by assumption) ?r8n_22
      case y8n_22 => (intro w hSw; (try dsimp only at hSw); (try go_split_ands); go_simp); (try with_reducible rfl)
      case r8n_22 =>
      (try simp only [Act.put, List.setIfInBounds_toArray, List.set_cons_zero, List.set_cons_succ])
      refine wpAnyH_ready (rs := [4, 9]) (by kernel_rfl) (by simp) ?_
      refine AllReadyH.cons (o := ⟨some 48, _, _, _, _, _⟩) rfl (fun K hK => ?_) (AllReadyH.cons (o := ⟨some 53, _, _, _, _, _⟩) rfl (fun K hK => ?_) AllReadyH.nil)
      · have kx := HBC.out.cell l4 (fun e => e.elim)
        go_simp
        refine hK.out _ _ (by first | exact ⟨HBC.out.cell b0 (fun e => e.elim), HBC.out.cell b1 (fun e => e.elim), HBC.out.cell b2 (fun e => e.elim), HBC.out.cell b3 (fun e => e.elim), HBC.out.cell b4 (fun e => e.elim), HBC.out.cell b5 (fun e => e.elim)⟩ | exact ⟨HT6.out.cell b0 hqu, HT6.out.cell b1 hqu, HT6.out.cell b2 hqu, HT6.out.cell b3 hqu, HT6.out.cell b4 hqu, HT6.out.cell b5 hqu⟩ | exact ⟨c_set_other (by omega) (HT6.out.cell b0 hqu), c_set_other (by omega) (HT6.out.cell b1 hqu), c_set_other (by omega) (HT6.out.cell b2 hqu), c_set_other (by omega) (HT6.out.cell b3 hqu), c_set_other (by omega) (HT6.out.cell b4 hqu), c_set_other (by omega) (HT6.out.cell b5 hqu)⟩) (fun hHeld => ?_)
        clear hK K
        (try simp only [Act.put, List.setIfInBounds_toArray, List.set_cons_zero, List.set_cons_succ])
        refine wpAnyH_ready (rs := [9]) (by kernel_rfl) (by simp) ?_
        refine AllReadyH.cons (o := ⟨some 53, _, _, _, _, _⟩) rfl (fun K hK => ?_) AllReadyH.nil
        go_simp
        have hgb : w5.heap.size ≤ wd.heap.size := HBC.out.size
        have HCO : Hid (Cells (wd.alloc (.cells #[.int .i64 o.id, .string o.who, .bool o.buy, .int .i64 o.item, .int .i64 o.ct, .int .i64 o.pr] 38)) (wd.alloc (.cells #[.int .i64 o.id, .string o.who, .bool o.buy, .int .i64 o.item, .int .i64 o.ct, .int .i64 o.pr] 38)).heap.size (some ⟨wd.heap.size, 0, none⟩) 1 1 6 (odV o)) := Lib.hid (od_cells o)
        replace HBC : Hid (Touch (fun _ => False) w5 (wd.alloc (.cells #[.int .i64 o.id, .string o.who, .bool o.buy, .int .i64 o.item, .int .i64 o.ct, .int .i64 o.pr] 38))) := Lib.hid (HBC.out.alloc _)
        generalize (wd.alloc (.cells #[.int .i64 o.id, .string o.who, .bool o.buy, .int .i64 o.item, .int .i64 o.ct, .int .i64 o.pr] 38)) = wx1 at *
        generalize wd.heap.size = gb at *
        generalize wx1.heap.size = bb at HCO
        refine hK.out _ _ (by first | exact ⟨HBC.out.cell b0 (fun e => e.elim), HBC.out.cell b1 (fun e => e.elim), HBC.out.cell b2 (fun e => e.elim), HBC.out.cell b3 (fun e => e.elim), HBC.out.cell b4 (fun e => e.elim), HBC.out.cell b5 (fun e => e.elim)⟩ | exact ⟨HT6.out.cell b0 hqu, HT6.out.cell b1 hqu, HT6.out.cell b2 hqu, HT6.out.cell b3 hqu, HT6.out.cell b4 hqu, HT6.out.cell b5 hqu⟩ | exact ⟨c_set_other (by omega) (HT6.out.cell b0 hqu), c_set_other (by omega) (HT6.out.cell b1 hqu), c_set_other (by omega) (HT6.out.cell b2 hqu), c_set_other (by omega) (HT6.out.cell b3 hqu), c_set_other (by omega) (HT6.out.cell b4 hqu), c_set_other (by omega) (HT6.out.cell b5 hqu)⟩) (fun hHeld => ?_)
        clear hK K
        (try simp only [Act.put, List.setIfInBounds_toArray, List.set_cons_zero, List.set_cons_succ])
        refine wpAnyH_ready (rs := [10]) (by kernel_rfl) (by simp) ?_
        refine AllReadyH.cons (o := ⟨some 54, _, _, _, _, _⟩) rfl (fun K hK => ?_) AllReadyH.nil
        have hsc := HBC.out.size
        have hco := HCO.out
        have hrow := HBC.out.own HR5.out.row (fun _ _ e => e)
        refine step_append_cells rfl (.tmp 48) (.tmp 53) 57 rfl w.heap.size 38 i0 (.agg #[.int .i64 0, .string ⟨#[]⟩, .bool false, .int .i64 0, .int .i64 0, .int .i64 0]) 6 56 Tryz.underlying57 hi0 hz0 hz1 hz2 rfl (by decide) (.slice A1 i c1) (xs.take i).length (flatO (xs.take i)) rfl hrow bb (some ⟨gb, 0, none⟩) 1 1 (odV o) rfl hco (od_one _) (by unfold maxLen; omega) (by omega) (by omega) ?_
        intro v6 wx2 hown6 ht6 hb6
        have hfl : flatO (xs.take i) ++ odV o = flatO (xs.take i ++ [o]) := by rw [flatO_app]; simp [flatO]
        rw [hfl, hti] at hown6
        have HT6 := Lib.hid ((HBC.out.mono (D' := fun k => (Value.slice A1 i c1).ownBlock = some k) (fun _ h => h.elim)).trans ht6 (fun n hn h => h))
        have HO6 := Lib.hid hown6
        have HN6 := Lib.hid (hb6.imp id (fun h => (⟨_, h, hsc⟩ : ∃ g, v6.ownBlock = some g ∧ w5.heap.size ≤ g)))
        clear hown6 ht6 hb6 hco hfl hrow
        refine hK.out _ _ (by first | exact ⟨HBC.out.cell b0 (fun e => e.elim), HBC.out.cell b1 (fun e => e.elim), HBC.out.cell b2 (fun e => e.elim), HBC.out.cell b3 (fun e => e.elim), HBC.out.cell b4 (fun e => e.elim), HBC.out.cell b5 (fun e => e.elim)⟩ | exact ⟨HT6.out.cell b0 hqu, HT6.out.cell b1 hqu, HT6.out.cell b2 hqu, HT6.out.cell b3 hqu, HT6.out.cell b4 hqu, HT6.out.cell b5 hqu⟩ | exact ⟨c_set_other (by omega) (HT6.out.cell b0 hqu), c_set_other (by omega) (HT6.out.cell b1 hqu), c_set_other (by omega) (HT6.out.cell b2 hqu), c_set_other (by omega) (HT6.out.cell b3 hqu), c_set_other (by omega) (HT6.out.cell b4 hqu), c_set_other (by omega) (HT6.out.cell b5 hqu)⟩) (fun hHeld => ?_)
        clear hK K
        (try simp only [Act.put, List.setIfInBounds_toArray, List.set_cons_zero, List.set_cons_succ])
        refine wpAnyH_take (i := 11) (oi := ⟨some 55, _, _, _, _, _⟩) (v := ?v11n_60) rfl (by kernel_rfl) (by kernel_rfl) (by kernel_rfl) (fun _ _ _ h => h) (Or.inl ⟨by rfl, ?y11n_60⟩) (by assumption) ?r11n_60
        case y11n_60 => (intro w hSw; (try dsimp only at hSw); (try go_split_ands); go_simp); (try with_reducible rfl)
        case r11n_60 =>
        (try simp only [Act.put, List.setIfInBounds_toArray, List.set_cons_zero, List.set_cons_succ])
        refine wpAnyH_take (i := 12) (oi := ⟨some 56, _, _, _, _, _⟩) (v := ?v12n_63) rfl (by kernel_rfl) (by kernel_rfl) (by kernel_rfl) (fun _ _ _ h => h) (Or.inl ⟨by rfl, ?y12n_63⟩) (by assumption) ?r12n_63
        case y12n_63 => (intro w hSw; (try dsimp only at hSw); (try go_split_ands); go_simp); (try with_reducible rfl)
        case r12n_63 =>
        (try simp only [Act.put, List.setIfInBounds_toArray, List.set_cons_zero, List.set_cons_succ])
        refine wpAnyH_ready (rs := [13]) (by kernel_rfl) (by simp) ?_
        refine AllReadyH.cons (o := ⟨none, _, _, _, _, _⟩) rfl (fun K hK => ?_) AllReadyH.nil
        have kx := HT6.out.cell l4 (fun e => HR5.out.apart w.heap.size e rfl)
        have fx := HT6.out.frozen HR5.out.blk.low (HR5.out.blk.free 0) (fun e => HR5.out.apart w.heap.size e rfl)
        obtain ⟨A6, c6, hv6, _, _, _⟩ := own_slice HO6.out
        subst hv6
        go_simp
        refine hK.out _ _ (by first | exact ⟨HBC.out.cell b0 (fun e => e.elim), HBC.out.cell b1 (fun e => e.elim), HBC.out.cell b2 (fun e => e.elim), HBC.out.cell b3 (fun e => e.elim), HBC.out.cell b4 (fun e => e.elim), HBC.out.cell b5 (fun e => e.elim)⟩ | exact ⟨HT6.out.cell b0 hqu, HT6.out.cell b1 hqu, HT6.out.cell b2 hqu, HT6.out.cell b3 hqu, HT6.out.cell b4 hqu, HT6.out.cell b5 hqu⟩ | exact ⟨c_set_other (by omega) (HT6.out.cell b0 hqu), c_set_other (by omega) (HT6.out.cell b1 hqu), c_set_other (by omega) (HT6.out.cell b2 hqu), c_set_other (by omega) (HT6.out.cell b3 hqu), c_set_other (by omega) (HT6.out.cell b4 hqu), c_set_other (by omega) (HT6.out.cell b5 hqu)⟩) (fun hHeld => ?_)
        clear hK K
        (try simp only [Act.put, List.setIfInBounds_toArray, List.set_cons_zero, List.set_cons_succ])
        refine wpAnyH_done (by kernel_rfl) ?_ _
        have hRN := HR5.out.app HT6.out HO6.out (by rw [List.length_append, hti]; rfl) HN6.out
        have hT7 : Touch (fun k => k = w.heap.size ∨ (Value.slice A1 i c1).ownBlock = some k) w5 (wx2.setCell ⟨w.heap.size, 0, none⟩ (.slice A6 (i + 1) c6)) := (HT6.out.mono (fun k h => .inr h)).set (fun _ => .inl rfl)
        have hap6 : ∀ g, (Value.slice A6 (i + 1) c6).ownBlock = some g → w.heap.size ≤ g := fun g hg => (HO6.out.lt g hg).1
        have j0 := hT7.cell b0 (fun e => by rcases e with e | e; exact hqx e; exact hqu e)
        have j1 := hRN.blk.cell 1
        have jf := hRN.blk.free 1
        simp only [List.getElem?_toArray, List.getElem?_cons_succ, List.getElem?_cons_zero] at j1
        have HRN := Lib.hid hRN
        have HT7 := Lib.hid hT7
        clear hRN hT7 hap6
        generalize wx2.setCell ⟨w.heap.size, 0, none⟩ (.slice A6 (i + 1) c6) = W7 at *
        go_wp2_with fail
        have hR8 := HRN.out.setlast o.id
        have e := take_succ' hlt
        rw [← HOE.out] at e
        have el := lastOf_snoc (xs.take i) o
        have hT8 : Touch (fun k => k = w.heap.size ∨ (Value.slice A1 i c1).ownBlock = some k) w5 (W7.setCell ⟨w.heap.size, 1, none⟩ (.int .i64 o.id)) := HT7.out.set (fun _ => .inl rfl)
        refine ⟨⟨i + 1, _, hlt, by go_num, by rw [e, el]; exact hR8, HO.out.step hlt (by rw [← HOE.out]; exact HK.out), (HW5.out.trans (hT8.below (by omega) (fun k hk => ?_)))⟩, measI hlt⟩
        rcases hk with hk | hk
        · omega
        · have := (HR5.out.row.lt k hk).1; omega
      · go_simp
        have hgb : w5.heap.size ≤ wd.heap.size := HBC.out.size
        have HCO : Hid (Cells (wd.alloc (.cells #[.int .i64 o.id, .string o.who, .bool o.buy, .int .i64 o.item, .int .i64 o.ct, .int .i64 o.pr] 38)) (wd.alloc (.cells #[.int .i64 o.id, .string o.who, .bool o.buy, .int .i64 o.item, .int .i64 o.ct, .int .i64 o.pr] 38)).heap.size (some ⟨wd.heap.size, 0, none⟩) 1 1 6 (odV o)) := Lib.hid (od_cells o)
        replace HBC : Hid (Touch (fun _ => False) w5 (wd.alloc (.cells #[.int .i64 o.id, .string o.who, .bool o.buy, .int .i64 o.item, .int .i64 o.ct, .int .i64 o.pr] 38))) := Lib.hid (HBC.out.alloc _)
        generalize (wd.alloc (.cells #[.int .i64 o.id, .string o.who, .bool o.buy, .int .i64 o.item, .int .i64 o.ct, .int .i64 o.pr] 38)) = wx1 at *
        generalize wd.heap.size = gb at *
        generalize wx1.heap.size = bb at HCO
        refine hK.out _ _ (by first | exact ⟨HBC.out.cell b0 (fun e => e.elim), HBC.out.cell b1 (fun e => e.elim), HBC.out.cell b2 (fun e => e.elim), HBC.out.cell b3 (fun e => e.elim), HBC.out.cell b4 (fun e => e.elim), HBC.out.cell b5 (fun e => e.elim)⟩ | exact ⟨HT6.out.cell b0 hqu, HT6.out.cell b1 hqu, HT6.out.cell b2 hqu, HT6.out.cell b3 hqu, HT6.out.cell b4 hqu, HT6.out.cell b5 hqu⟩ | exact ⟨c_set_other (by omega) (HT6.out.cell b0 hqu), c_set_other (by omega) (HT6.out.cell b1 hqu), c_set_other (by omega) (HT6.out.cell b2 hqu), c_set_other (by omega) (HT6.out.cell b3 hqu), c_set_other (by omega) (HT6.out.cell b4 hqu), c_set_other (by omega) (HT6.out.cell b5 hqu)⟩) (fun hHeld => ?_)
        clear hK K
        (try simp only [Act.put, List.setIfInBounds_toArray, List.set_cons_zero, List.set_cons_succ])
        refine wpAnyH_ready (rs := [4]) (by kernel_rfl) (by simp) ?_
        refine AllReadyH.cons (o := ⟨some 48, _, _, _, _, _⟩) rfl (fun K hK => ?_) AllReadyH.nil
        have kx := HBC.out.cell l4 (fun e => e.elim)
        go_simp
        refine hK.out _ _ (by first | exact ⟨HBC.out.cell b0 (fun e => e.elim), HBC.out.cell b1 (fun e => e.elim), HBC.out.cell b2 (fun e => e.elim), HBC.out.cell b3 (fun e => e.elim), HBC.out.cell b4 (fun e => e.elim), HBC.out.cell b5 (fun e => e.elim)⟩ | exact ⟨HT6.out.cell b0 hqu, HT6.out.cell b1 hqu, HT6.out.cell b2 hqu, HT6.out.cell b3 hqu, HT6.out.cell b4 hqu, HT6.out.cell b5 hqu⟩ | exact ⟨c_set_other (by omega) (HT6.out.cell b0 hqu), c_set_other (by omega) (HT6.out.cell b1 hqu), c_set_other (by omega) (HT6.out.cell b2 hqu), c_set_other (by omega) (HT6.out.cell b3 hqu), c_set_other (by omega) (HT6.out.cell b4 hqu), c_set_other (by omega) (HT6.out.cell b5 hqu)⟩) (fun hHeld => ?_)
        clear hK K
        (try simp only [Act.put, List.setIfInBounds_toArray, List.set_cons_zero, List.set_cons_succ])
        refine wpAnyH_ready (rs := [10]) (by kernel_rfl) (by simp) ?_
        refine AllReadyH.cons (o := ⟨some 54, _, _, _, _, _⟩) rfl (fun K hK => ?_) AllReadyH.nil
        have hsc := HBC.out.size
        have hco := HCO.out
        have hrow := HBC.out.own HR5.out.row (fun _ _ e => e)
        refine step_append_cells rfl (.tmp 48) (.tmp 53) 57 rfl w.heap.size 38 i0 (.agg #[.int .i64 0, .string ⟨#[]⟩, .bool false, .int .i64 0, .int .i64 0, .int .i64 0]) 6 56 Tryz.underlying57 hi0 hz0 hz1 hz2 rfl (by decide) (.slice A1 i c1) (xs.take i).length (flatO (xs.take i)) rfl hrow bb (some ⟨gb, 0, none⟩) 1 1 (odV o) rfl hco (od_one _) (by unfold maxLen; omega) (by omega) (by omega) ?_
        intro v6 wx2 hown6 ht6 hb6
        have hfl : flatO (xs.take i) ++ odV o = flatO (xs.take i ++ [o]) := by rw [flatO_app]; simp [flatO]
        rw [hfl, hti] at hown6
        have HT6 := Lib.hid ((HBC.out.mono (D' := fun k => (Value.slice A1 i c1).ownBlock = some k) (fun _ h => h.elim)).trans ht6 (fun n hn h => h))
        have HO6 := Lib.hid hown6
        have HN6 := Lib.hid (hb6.imp id (fun h => (⟨_, h, hsc⟩ : ∃ g, v6.ownBlock = some g ∧ w5.heap.size ≤ g)))
        clear hown6 ht6 hb6 hco hfl hrow
        refine hK.out _ _ (by first | exact ⟨HBC.out.cell b0 (fun e => e.elim), HBC.out.cell b1 (fun e => e.elim), HBC.out.cell b2 (fun e => e.elim), HBC.out.cell b3 (fun e => e.elim), HBC.out.cell b4 (fun e => e.elim), HBC.out.cell b5 (fun e => e.elim)⟩ | exact ⟨HT6.out.cell b0 hqu, HT6.out.cell b1 hqu, HT6.out.cell b2 hqu, HT6.out.cell b3 hqu, HT6.out.cell b4 hqu, HT6.out.cell b5 hqu⟩ | exact ⟨c_set_other (by omega) (HT6.out.cell b0 hqu), c_set_other (by omega) (HT6.out.cell b1 hqu), c_set_other (by omega) (HT6.out.cell b2 hqu), c_set_other (by omega) (HT6.out.cell b3 hqu), c_set_other (by omega) (HT6.out.cell b4 hqu), c_set_other (by omega) (HT6.out.cell b5 hqu)⟩) (fun hHeld => ?_)
        clear hK K
        (try simp only [Act.put, List.setIfInBounds_toArray, List.set_cons_zero, List.set_cons_succ])
        refine wpAnyH_take (i := 11) (oi := ⟨some 55, _, _, _, _, _⟩) (v := ?v11n_131) rfl (by kernel_rfl) (by kernel_rfl) (by kernel_rfl) (fun _ _ _ h => h) (Or.inl ⟨by rfl, ?y11n_131⟩) (by assumption) ?r11n_131
        case y11n_131 => (intro w hSw; (try dsimp only at hSw); (try go_split_ands); go_simp); (try with_reducible rfl)
        case r11n_131 =>
        (try simp only [Act.put, List.setIfInBounds_toArray, List.set_cons_zero, List.set_cons_succ])
        refine wpAnyH_take (i := 12) (oi := ⟨some 56, _, _, _, _, _⟩) (v := ?v12n_134) rfl (by kernel_rfl) (by kernel_rfl) (by kernel_rfl) (fun _ _ _ h => h) (Or.inl ⟨by rfl, ?y12n_134⟩) (by assumption) ?r12n_134
        case y12n_134 => (intro w hSw; (try dsimp only at hSw); (try go_split_ands); go_simp); (try with_reducible rfl)
        case r12n_134 =>
        (try simp only [Act.put, List.setIfInBounds_toArray, List.set_cons_zero, List.set_cons_succ])
        refine wpAnyH_ready (rs := [13]) (by kernel_rfl) (by simp) ?_
        refine AllReadyH.cons (o := ⟨none, _, _, _, _, _⟩) rfl (fun K hK => ?_) AllReadyH.nil
        have kx := HT6.out.cell l4 (fun e => HR5.out.apart w.heap.size e rfl)
        have fx := HT6.out.frozen HR5.out.blk.low (HR5.out.blk.free 0) (fun e => HR5.out.apart w.heap.size e rfl)
        obtain ⟨A6, c6, hv6, _, _, _⟩ := own_slice HO6.out
        subst hv6
        go_simp
        refine hK.out _ _ (by first | exact ⟨HBC.out.cell b0 (fun e => e.elim), HBC.out.cell b1 (fun e => e.elim), HBC.out.cell b2 (fun e => e.elim), HBC.out.cell b3 (fun e => e.elim), HBC.out.cell b4 (fun e => e.elim), HBC.out.cell b5 (fun e => e.elim)⟩ | exact ⟨HT6.out.cell b0 hqu, HT6.out.cell b1 hqu, HT6.out.cell b2 hqu, HT6.out.cell b3 hqu, HT6.out.cell b4 hqu, HT6.out.cell b5 hqu⟩ | exact ⟨c_set_other (by omega) (HT6.out.cell b0 hqu), c_set_other (by omega) (HT6.out.cell b1 hqu), c_set_other (by omega) (HT6.out.cell b2 hqu), c_set_other (by omega) (HT6.out.cell b3 hqu), c_set_other (by omega) (HT6.out.cell b4 hqu), c_set_other (by omega) (HT6.out.cell b5 hqu)⟩) (fun hHeld => ?_)
        clear hK K
        (try simp only [Act.put, List.setIfInBounds_toArray, List.set_cons_zero, List.set_cons_succ])
        refine wpAnyH_done (by kernel_rfl) ?_ _
        have hRN := HR5.out.app HT6.out HO6.out (by rw [List.length_append, hti]; rfl) HN6.out
        have hT7 : Touch (fun k => k = w.heap.size ∨ (Value.slice A1 i c1).ownBlock = some k) w5 (wx2.setCell ⟨w.heap.size, 0, none⟩ (.slice A6 (i + 1) c6)) := (HT6.out.mono (fun k h => .inr h)).set (fun _ => .inl rfl)
        have hap6 : ∀ g, (Value.slice A6 (i + 1) c6).ownBlock = some g → w.heap.size ≤ g := fun g hg => (HO6.out.lt g hg).1
        have j0 := hT7.cell b0 (fun e => by rcases e with e | e; exact hqx e; exact hqu e)
        have j1 := hRN.blk.cell 1
        have jf := hRN.blk.free 1
        simp only [List.getElem?_toArray, List.getElem?_cons_succ, List.getElem?_cons_zero] at j1
        have HRN := Lib.hid hRN
        have HT7 := Lib.hid hT7
        clear hRN hT7 hap6
        generalize wx2.setCell ⟨w.heap.size, 0, none⟩ (.slice A6 (i + 1) c6) = W7 at *
        go_wp2_with fail
        have hR8 := HRN.out.setlast o.id
        have e := take_succ' hlt
        rw [← HOE.out] at e
        have el := lastOf_snoc (xs.take i) o
        have hT8 : Touch (fun k => k = w.heap.size ∨ (Value.slice A1 i c1).ownBlock = some k) w5 (W7.setCell ⟨w.heap.size, 1, none⟩ (.int .i64 o.id)) := HT7.out.set (fun _ => .inl rfl)
        refine ⟨⟨i + 1, _, hlt, by go_num, by rw [e, el]; exact hR8, HO.out.step hlt (by rw [← HOE.out]; exact HK.out), (HW5.out.trans (hT8.below (by omega) (fun k hk => ?_)))⟩, measI hlt⟩
        rcases hk with hk | hk
        · omega
        · have := (HR5.out.row.lt k hk).1; omega

    · obtain rfl : xs.length = i := by omega
      go_wp2_with fail
      have hb := HR.out
      rw [List.take_length] at hb
      refine bodyPost_ret (v := .tuple #[.pointer (some ⟨w.heap.size, 0, none⟩), .int .i64 0]) (by simp [results, Tryz.results56, go_sem]) rfl ⟨HW.out, .inl ⟨⟨h32, HO.out⟩, _, u, rfl, hb⟩⟩
end Go.Proofs.YtdlbiobjnohfbaaGreat
