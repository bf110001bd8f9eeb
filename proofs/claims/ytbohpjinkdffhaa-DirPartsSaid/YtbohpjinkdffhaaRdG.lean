/- The document's directory: New. -/
import Derived.Test.YtbohpjinkdffhaaRdF
namespace Go.Proofs.Ytbohpjinkdffhaa
open Go.RowKit
set_option linter.unusedVariables false
set_option linter.unusedSimpArgs false

theorem mkRd (b0 : Nat) (W : World) (d : Nat) (hv zv : Value) (l : List Int) (hd : d = W.heap.size) (h1 : W.ownsRow b0 3 1 hv l.length (intsV l)) (h2 : W.ownsRow b0 39 9 zv 1 (flatZ (mp1 l).zs)) (hne : ∀ g, hv.ownBlock = some g → zv.ownBlock ≠ some g) (hb : b0 ≤ W.heap.size) :
    RdH (W.alloc (.cells #[.int .i64 1, .int .i64 2, zv, hv] 44)) b0 d hv zv l (mp1 l) := by
  subst hd
  refine ⟨Whl.new rfl, h1.alloc _, h2.alloc _, fun g hg => ?_, fun g hg => ?_, hne, hb⟩
  · have := (h1.lt g hg).2; omega
  · have := (h2.lt g hg).2; omega
set_option maxHeartbeats 4000000 in
set_option maxRecDepth 10000 in
theorem rdNew0 (B : Nat) (hv : Value) (l : List Int) (w : World) (h : w.ownsRow B 3 1 hv l.length (intsV l)) (hl : l.length ≤ 100000) (hb : hostsB l = false) :
    Calls Try.prog 30 #[hv] w fun e w' => e = .returned (.tuple #[.pointer none, .int .i64 1]) ∧ Below w.heap.size w w' := by
  have HR := Lib.hid h
  have HHB := Lib.hid hb
  clear h hb
  go_enter Try.func30, Try.ntmps30
  go_wp2_with (first
    | (go_at_call 63; go_loud (refine (rdHosts B hv l _ HR.out hl).mono ?_; rintro e w2 ⟨rfl, hb2⟩; rw [HHB.out]; have HB2 := Lib.hid hb2; clear hb2))
    | fail)
  refine bodyPost_ret (v := .tuple #[.pointer none, .int .i64 1]) (by simp [results, Try.results30, go_sem]) rfl ⟨rfl, HB2.out⟩
set_option maxHeartbeats 4000000 in
set_option maxRecDepth 10000 in
theorem rdNew1 (B : Nat) (hv : Value) (l : List Int) (w : World) (h : w.ownsRow B 3 1 hv l.length (intsV l)) (hb : hostsB l = true) :
    Calls Try.prog 30 #[hv] w fun e w' => ∃ (d : Nat) (hv' zv : Value), e = .returned (.tuple #[.pointer (some ⟨d, 0, none⟩), .int .i64 0]) ∧ RdH w' w.heap.size d hv' zv l (mp1 l) ∧ Below w.heap.size w w' := by
  have HR := Lib.hid h
  have HHB := Lib.hid hb
  have h1 : 1 ≤ l.length ∧ l.length ≤ 6 := by
    unfold hostsB at hb
    simp only [Bool.and_eq_true, decide_eq_true_eq] at hb
    exact hb.1
  obtain ⟨i0, hi0, hz0, hz1, hz2⟩ := info_parts Try.infoI64
  obtain ⟨g, cc, rfl, _, hg, hnc, hcm⟩ := own_form h (by omega)
  have a0 := (h.cellAt 0 (by omega)).trans (intsV_at (show 0 < l.length by omega))
  have q1 : (1 : Int) ≤ (l.length : Int) := by omega
  have q0 : (0 : Int) < (l.length : Int) := by omega
  have q2 : 0 < l.length := by omega
  have hC : Cells w w.heap.size (some ⟨g, 0, none⟩) l.length cc 1 (intsV l) := by
    refine ⟨h.1, (fun h => nomatch h), fun j u hj => ⟨g, 0, rfl, hg, ?_⟩⟩
    rw [Nat.zero_add, h.cellAt j (by have := (List.getElem?_eq_some_iff.1 hj).1; have h1 := h.1; omega)]
    exact hj
  have HC := Lib.hid hC
  clear h hb hC
  go_enter Try.func30, Try.ntmps30
  go_upto_region 3 with (first
    | (go_at_call 63; go_loud (refine (rdHosts B _ l _ HR.out (by omega)).mono ?_; rintro e w2 ⟨rfl, hb2⟩; rw [HHB.out]; have HB2 := Lib.hid hb2; have a2 := bkeep hb2 a0 hg; clear hb2))
    | fail)
  have hs2 := HB2.out.size
  have hb : Below w.heap.size w w2.drew := HB2.out.drew
  have hA : w2.drew.cell? ⟨g, 0, none⟩ = some (.int .i64 l[0]) := a2
  refine wp_region_held_drew (S := (fun W => W.cell? ⟨g, 0, none⟩ = some (.int .i64 l[0]))) (by kernel_rfl) hA (fun hHeld => ?_)
  refine wpAnyH_take (i := 0) (oi := ⟨some 7, _, _, _, _, _⟩) (v := ?v0n_1) rfl (by kernel_rfl) (by kernel_rfl) (by kernel_rfl) (fun _ _ _ h => h) (Or.inl ⟨by rfl, ?y0n_1⟩) (by assumption) ?r0n_1
  case y0n_1 => (intro w hSw; (try dsimp only at hSw); (try go_split_ands); go_simp); (try with_reducible rfl)
  case r0n_1 =>
  (try simp only [Act.put, List.setIfInBounds_toArray, List.set_cons_zero, List.set_cons_succ])
  refine wpAnyH_take (i := 1) (oi := ⟨some 8, _, _, _, _, _⟩) (v := ?v1n_4) rfl (by kernel_rfl) (by kernel_rfl) (by kernel_rfl) (fun _ _ _ h => h) (Or.inl ⟨by rfl, ?y1n_4⟩) (by assumption) ?r1n_4
  case y1n_4 => (intro w hSw; (try dsimp only at hSw); (try go_split_ands); go_simp); (try with_reducible rfl)
  case r1n_4 =>
  (try simp only [Act.put, List.setIfInBounds_toArray, List.set_cons_zero, List.set_cons_succ])
  refine wpAnyH_take (i := 2) (oi := ⟨some 9, _, _, _, _, _⟩) (v := ?v2n_7) rfl (by kernel_rfl) (by kernel_rfl) (by kernel_rfl) (fun _ _ _ h => h) (Or.inl ⟨by rfl, ?y2n_7⟩) (by assumption) ?r2n_7
  case y2n_7 => (intro w hSw; (try dsimp only at hSw); (try go_split_ands); go_simp); (try with_reducible rfl)
  case r2n_7 =>
  (try simp only [Act.put, List.setIfInBounds_toArray, List.set_cons_zero, List.set_cons_succ])
  refine wpAnyH_take (i := 3) (oi := ⟨some 10, _, _, _, _, _⟩) (v := ?v3n_10) rfl (by kernel_rfl) (by kernel_rfl) (by kernel_rfl) (fun _ _ _ h => h) (Or.inl ⟨by rfl, ?y3n_10⟩) (by assumption) ?r3n_10
  case y3n_10 => (intro w hSw; (try dsimp only at hSw); (try go_split_ands); go_simp); (try with_reducible rfl)
  case r3n_10 =>
  (try simp only [Act.put, List.setIfInBounds_toArray, List.set_cons_zero, List.set_cons_succ])
  refine wpAnyH_take (i := 7) (oi := ⟨some 14, _, _, _, _, _⟩) (v := ?v7n_13) rfl (by kernel_rfl) (by kernel_rfl) (by kernel_rfl) (fun _ _ _ h => h) (Or.inl ⟨by rfl, ?y7n_13⟩) (by assumption) ?r7n_13
  case y7n_13 => (intro w hSw; (try dsimp only at hSw); (try go_split_ands); go_simp); (try with_reducible rfl)
  case r7n_13 =>
  (try simp only [Act.put, List.setIfInBounds_toArray, List.set_cons_zero, List.set_cons_succ])
  refine wpAnyH_ready (rs := [4, 6]) (by kernel_rfl) (by simp) ?_
  refine AllReadyH.cons (o := ⟨some 11, _, _, _, _, _⟩) rfl (fun K hK => ?_) (AllReadyH.cons (o := ⟨some 13, _, _, _, _, _⟩) rfl (fun K hK => ?_) AllReadyH.nil)
  · go_simp
    have hb4 : Below w.heap.size w (w2.drew.alloc (.cells #[.int .i64 1, .string ⟨#[]⟩, .string ⟨#[]⟩, .int .i64 l[0], .int .i64 1, .int .i64 0, .int .i64 0, .string ⟨#[]⟩, .int .i64 0] 39)) := hb.alloc (by (try simp) <;> omega) _
    have hA4 := bkeep hb4 a0 hg
    have hz4 : (w2.drew.alloc (.cells #[.int .i64 1, .string ⟨#[]⟩, .string ⟨#[]⟩, .int .i64 l[0], .int .i64 1, .int .i64 0, .int .i64 0, .string ⟨#[]⟩, .int .i64 0] 39)).ownsRow w.heap.size 39 9 (.slice (some ⟨w2.heap.size, 0, none⟩) 1 1) 1 (flatZ (mp1 l).zs) := by
      rw [mp1_flat h1.1]
      have h9 := World.ownsRow_lit (base := w.heap.size) (e := 39) (size := 9) w2.drew #[.int .i64 1, .string ⟨#[]⟩, .string ⟨#[]⟩, .int .i64 l[0], .int .i64 1, .int .i64 0, .int .i64 0, .string ⟨#[]⟩, .int .i64 0] 1 (by (try simp) <;> omega) (by unfold maxLen; omega) rfl
      simpa using h9
    refine hK.out _ _ (by assumption) (fun hHeld => ?_)
    clear hK K
    (try simp only [Act.put, List.setIfInBounds_toArray, List.set_cons_zero, List.set_cons_succ])
    refine wpAnyH_take (i := 5) (oi := ⟨some 12, _, _, _, _, _⟩) (v := ?v5n_28) rfl (by kernel_rfl) (by kernel_rfl) (by kernel_rfl) (fun _ _ _ h => h) (Or.inl ⟨by rfl, ?y5n_28⟩) (by assumption) ?r5n_28
    case y5n_28 => (intro w hSw; (try dsimp only at hSw); (try go_split_ands); go_simp); (try with_reducible rfl)
    case r5n_28 =>
    (try simp only [Act.put, List.setIfInBounds_toArray, List.set_cons_zero, List.set_cons_succ])
    refine wpAnyH_ready (rs := [6]) (by kernel_rfl) (by simp) ?_
    refine AllReadyH.cons (o := ⟨some 13, _, _, _, _, _⟩) rfl (fun K hK => ?_) AllReadyH.nil
    go_simp
    have hb46 : Below w.heap.size w ((w2.drew.alloc (.cells #[.int .i64 1, .string ⟨#[]⟩, .string ⟨#[]⟩, .int .i64 l[0], .int .i64 1, .int .i64 0, .int .i64 0, .string ⟨#[]⟩, .int .i64 0] 39)).alloc (.cells #[] 3)) := hb4.alloc (by (try simp) <;> omega) _
    have hA46 := bkeep hb46 a0 hg
    have hz4 := hz4.alloc (.cells #[] 3)
    have he6 : ((w2.drew.alloc (.cells #[.int .i64 1, .string ⟨#[]⟩, .string ⟨#[]⟩, .int .i64 l[0], .int .i64 1, .int .i64 0, .int .i64 0, .string ⟨#[]⟩, .int .i64 0] 39)).alloc (.cells #[] 3)).ownsRow w.heap.size 3 1 (.slice (some ⟨(w2.heap.size + 1), 0, none⟩) 0 0) 0 [] := owns_lit0 (by simp) (by (try simp) <;> omega)
    refine hK.out _ _ (by assumption) (fun hHeld => ?_)
    clear hK K
    (try simp only [Act.put, List.setIfInBounds_toArray, List.set_cons_zero, List.set_cons_succ])
    refine wpAnyH_ready (rs := [8]) (by kernel_rfl) (by simp) ?_
    refine AllReadyH.cons (o := ⟨some 15, _, _, _, _, _⟩) rfl (fun K hK => ?_) AllReadyH.nil
    refine step_append_cells rfl (.tmp 13) (.tmp 14) 22 rfl w.heap.size 3 i0 (.int .i64 0) 1 8 Try.underlying22 hi0 hz0 hz1 hz2 rfl (by decide) (.slice (some ⟨(w2.heap.size + 1), 0, none⟩) 0 0) 0 [] rfl he6 w.heap.size (some ⟨g, 0, none⟩) l.length cc (intsV l) rfl (cells_keep HC.out hb46 (Nat.le_refl _)) (intsV_one l) (by unfold maxLen; omega) (by omega) (by (try simp) <;> omega) ?_
    intro v5 w5 ho5 ht5 hv5
    rw [Nat.zero_add, List.nil_append] at ho5
    have hs5 := ht5.size
    simp at hs5
    obtain ⟨g5, c5, hv, _, hg5l, hn5, hc5⟩ := own_form ho5 (by omega)
    subst hv
    simp [Value.ownBlock] at hv5
    have hb468 : Below w.heap.size w w5 := hb46.trans ⟨ht5.os, ht5.tape, ht5.output, ht5.size, fun q hq => ht5.block q (by (try simp) <;> omega) (fun e => by simp [Value.ownBlock] at e; omega)⟩
    have hA468 := bkeep hb468 a0 hg
    have hz4 := ht5.own hz4 (fun q hq hd => by simp [Value.ownBlock] at hq hd; omega)
    refine hK.out _ _ (by assumption) (fun hHeld => ?_)
    clear hK K
    (try simp only [Act.put, List.setIfInBounds_toArray, List.set_cons_zero, List.set_cons_succ])
    refine wpAnyH_take (i := 9) (oi := ⟨some 16, _, _, _, _, _⟩) (v := ?v9n_57) rfl (by kernel_rfl) (by kernel_rfl) (by kernel_rfl) (fun _ _ _ h => h) (Or.inl ⟨by rfl, ?y9n_57⟩) (by assumption) ?r9n_57
    case y9n_57 => (intro w hSw; (try dsimp only at hSw); (try go_split_ands); go_simp); (try with_reducible rfl)
    case r9n_57 =>
    (try simp only [Act.put, List.setIfInBounds_toArray, List.set_cons_zero, List.set_cons_succ])
    refine wpAnyH_ready (rs := [10]) (by kernel_rfl) (by simp) ?_
    refine AllReadyH.cons (o := ⟨some 17, _, _, _, _, _⟩) rfl (fun K hK => ?_) AllReadyH.nil
    go_simp
    have hA10 := bkeep (hb468.alloc (by (try simp) <;> omega) (.cells #[.int .i64 1, .int .i64 2, .slice (some ⟨w2.heap.size, 0, none⟩) 1 1, .slice (some ⟨g5, 0, none⟩) l.length c5] 44)) a0 hg
    refine hK.out _ _ (by assumption) (fun hHeld => ?_)
    clear hK K
    (try simp only [Act.put, List.setIfInBounds_toArray, List.set_cons_zero, List.set_cons_succ])
    refine wpAnyH_take (i := 11) (oi := ⟨some 2, _, _, _, _, _⟩) (v := ?v11n_67) rfl (by kernel_rfl) (by kernel_rfl) (by kernel_rfl) (fun _ _ _ h => h) (Or.inl ⟨by rfl, ?y11n_67⟩) (by assumption) ?r11n_67
    case y11n_67 => (intro w hSw; (try dsimp only at hSw); (try go_split_ands); go_simp); (try with_reducible rfl)
    case r11n_67 =>
    (try simp only [Act.put, List.setIfInBounds_toArray, List.set_cons_zero, List.set_cons_succ])
    refine wpAnyH_take (i := 12) (oi := ⟨some 3, _, _, _, _, _⟩) (v := ?v12n_70) rfl (by kernel_rfl) (by kernel_rfl) (by kernel_rfl) (fun _ _ _ h => h) (Or.inl ⟨by rfl, ?y12n_70⟩) (by assumption) ?r12n_70
    case y12n_70 => (intro w hSw; (try dsimp only at hSw); (try go_split_ands); go_simp); (try with_reducible rfl)
    case r12n_70 =>
    (try simp only [Act.put, List.setIfInBounds_toArray, List.set_cons_zero, List.set_cons_succ])
    refine wpAnyH_done (by kernel_rfl) ?_ _
    go_wp2_with fail
    refine bodyPost_ret (v := .tuple #[.pointer (some ⟨w5.heap.size, 0, none⟩), .int .i64 0]) (by simp [results, Try.results30, go_sem]) rfl ⟨w5.heap.size, .slice (some ⟨g5, 0, none⟩) l.length c5, .slice (some ⟨w2.heap.size, 0, none⟩) 1 1, rfl, ?_, hb468.alloc (by (try simp) <;> omega) _⟩
    refine mkRd _ w5 _ _ _ l (by simp) ho5 hz4 (fun q hq e => ?_) (by (try simp) <;> omega)
    simp [Value.ownBlock] at e hq
    omega
  · go_simp
    have hb6 : Below w.heap.size w (w2.drew.alloc (.cells #[] 3)) := hb.alloc (by (try simp) <;> omega) _
    have hA6 := bkeep hb6 a0 hg
    have he6 : (w2.drew.alloc (.cells #[] 3)).ownsRow w.heap.size 3 1 (.slice (some ⟨w2.heap.size, 0, none⟩) 0 0) 0 [] := owns_lit0 (by simp) (by (try simp) <;> omega)
    refine hK.out _ _ (by assumption) (fun hHeld => ?_)
    clear hK K
    (try simp only [Act.put, List.setIfInBounds_toArray, List.set_cons_zero, List.set_cons_succ])
    refine wpAnyH_ready (rs := [4, 8]) (by kernel_rfl) (by simp) ?_
    refine AllReadyH.cons (o := ⟨some 11, _, _, _, _, _⟩) rfl (fun K hK => ?_) (AllReadyH.cons (o := ⟨some 15, _, _, _, _, _⟩) rfl (fun K hK => ?_) AllReadyH.nil)
    · go_simp
      have hb64 : Below w.heap.size w ((w2.drew.alloc (.cells #[] 3)).alloc (.cells #[.int .i64 1, .string ⟨#[]⟩, .string ⟨#[]⟩, .int .i64 l[0], .int .i64 1, .int .i64 0, .int .i64 0, .string ⟨#[]⟩, .int .i64 0] 39)) := hb6.alloc (by (try simp) <;> omega) _
      have hA64 := bkeep hb64 a0 hg
      have hz4 : ((w2.drew.alloc (.cells #[] 3)).alloc (.cells #[.int .i64 1, .string ⟨#[]⟩, .string ⟨#[]⟩, .int .i64 l[0], .int .i64 1, .int .i64 0, .int .i64 0, .string ⟨#[]⟩, .int .i64 0] 39)).ownsRow w.heap.size 39 9 (.slice (some ⟨(w2.heap.size + 1), 0, none⟩) 1 1) 1 (flatZ (mp1 l).zs) := by
        rw [mp1_flat h1.1]
        have h9 := World.ownsRow_lit (base := w.heap.size) (e := 39) (size := 9) (w2.drew.alloc (.cells #[] 3)) #[.int .i64 1, .string ⟨#[]⟩, .string ⟨#[]⟩, .int .i64 l[0], .int .i64 1, .int .i64 0, .int .i64 0, .string ⟨#[]⟩, .int .i64 0] 1 (by (try simp) <;> omega) (by unfold maxLen; omega) rfl
        simpa using h9
      have he6 := he6.alloc (.cells #[.int .i64 1, .string ⟨#[]⟩, .string ⟨#[]⟩, .int .i64 l[0], .int .i64 1, .int .i64 0, .int .i64 0, .string ⟨#[]⟩, .int .i64 0] 39)
      refine hK.out _ _ (by assumption) (fun hHeld => ?_)
      clear hK K
      (try simp only [Act.put, List.setIfInBounds_toArray, List.set_cons_zero, List.set_cons_succ])
      refine wpAnyH_take (i := 5) (oi := ⟨some 12, _, _, _, _, _⟩) (v := ?v5n_99) rfl (by kernel_rfl) (by kernel_rfl) (by kernel_rfl) (fun _ _ _ h => h) (Or.inl ⟨by rfl, ?y5n_99⟩) (by assumption) ?r5n_99
      case y5n_99 => (intro w hSw; (try dsimp only at hSw); (try go_split_ands); go_simp); (try with_reducible rfl)
      case r5n_99 =>
      (try simp only [Act.put, List.setIfInBounds_toArray, List.set_cons_zero, List.set_cons_succ])
      refine wpAnyH_ready (rs := [8]) (by kernel_rfl) (by simp) ?_
      refine AllReadyH.cons (o := ⟨some 15, _, _, _, _, _⟩) rfl (fun K hK => ?_) AllReadyH.nil
      refine step_append_cells rfl (.tmp 13) (.tmp 14) 22 rfl w.heap.size 3 i0 (.int .i64 0) 1 8 Try.underlying22 hi0 hz0 hz1 hz2 rfl (by decide) (.slice (some ⟨w2.heap.size, 0, none⟩) 0 0) 0 [] rfl he6 w.heap.size (some ⟨g, 0, none⟩) l.length cc (intsV l) rfl (cells_keep HC.out hb64 (Nat.le_refl _)) (intsV_one l) (by unfold maxLen; omega) (by omega) (by (try simp) <;> omega) ?_
      intro v5 w5 ho5 ht5 hv5
      rw [Nat.zero_add, List.nil_append] at ho5
      have hs5 := ht5.size
      simp at hs5
      obtain ⟨g5, c5, hv, _, hg5l, hn5, hc5⟩ := own_form ho5 (by omega)
      subst hv
      simp [Value.ownBlock] at hv5
      have hb648 : Below w.heap.size w w5 := hb64.trans ⟨ht5.os, ht5.tape, ht5.output, ht5.size, fun q hq => ht5.block q (by (try simp) <;> omega) (fun e => by simp [Value.ownBlock] at e; omega)⟩
      have hA648 := bkeep hb648 a0 hg
      have hz4 := ht5.own hz4 (fun q hq hd => by simp [Value.ownBlock] at hq hd; omega)
      refine hK.out _ _ (by assumption) (fun hHeld => ?_)
      clear hK K
      (try simp only [Act.put, List.setIfInBounds_toArray, List.set_cons_zero, List.set_cons_succ])
      refine wpAnyH_take (i := 9) (oi := ⟨some 16, _, _, _, _, _⟩) (v := ?v9n_118) rfl (by kernel_rfl) (by kernel_rfl) (by kernel_rfl) (fun _ _ _ h => h) (Or.inl ⟨by rfl, ?y9n_118⟩) (by assumption) ?r9n_118
      case y9n_118 => (intro w hSw; (try dsimp only at hSw); (try go_split_ands); go_simp); (try with_reducible rfl)
      case r9n_118 =>
      (try simp only [Act.put, List.setIfInBounds_toArray, List.set_cons_zero, List.set_cons_succ])
      refine wpAnyH_ready (rs := [10]) (by kernel_rfl) (by simp) ?_
      refine AllReadyH.cons (o := ⟨some 17, _, _, _, _, _⟩) rfl (fun K hK => ?_) AllReadyH.nil
      go_simp
      have hA10 := bkeep (hb648.alloc (by (try simp) <;> omega) (.cells #[.int .i64 1, .int .i64 2, .slice (some ⟨(w2.heap.size + 1), 0, none⟩) 1 1, .slice (some ⟨g5, 0, none⟩) l.length c5] 44)) a0 hg
      refine hK.out _ _ (by assumption) (fun hHeld => ?_)
      clear hK K
      (try simp only [Act.put, List.setIfInBounds_toArray, List.set_cons_zero, List.set_cons_succ])
      refine wpAnyH_take (i := 11) (oi := ⟨some 2, _, _, _, _, _⟩) (v := ?v11n_128) rfl (by kernel_rfl) (by kernel_rfl) (by kernel_rfl) (fun _ _ _ h => h) (Or.inl ⟨by rfl, ?y11n_128⟩) (by assumption) ?r11n_128
      case y11n_128 => (intro w hSw; (try dsimp only at hSw); (try go_split_ands); go_simp); (try with_reducible rfl)
      case r11n_128 =>
      (try simp only [Act.put, List.setIfInBounds_toArray, List.set_cons_zero, List.set_cons_succ])
      refine wpAnyH_take (i := 12) (oi := ⟨some 3, _, _, _, _, _⟩) (v := ?v12n_131) rfl (by kernel_rfl) (by kernel_rfl) (by kernel_rfl) (fun _ _ _ h => h) (Or.inl ⟨by rfl, ?y12n_131⟩) (by assumption) ?r12n_131
      case y12n_131 => (intro w hSw; (try dsimp only at hSw); (try go_split_ands); go_simp); (try with_reducible rfl)
      case r12n_131 =>
      (try simp only [Act.put, List.setIfInBounds_toArray, List.set_cons_zero, List.set_cons_succ])
      refine wpAnyH_done (by kernel_rfl) ?_ _
      go_wp2_with fail
      refine bodyPost_ret (v := .tuple #[.pointer (some ⟨w5.heap.size, 0, none⟩), .int .i64 0]) (by simp [results, Try.results30, go_sem]) rfl ⟨w5.heap.size, .slice (some ⟨g5, 0, none⟩) l.length c5, .slice (some ⟨(w2.heap.size + 1), 0, none⟩) 1 1, rfl, ?_, hb648.alloc (by (try simp) <;> omega) _⟩
      refine mkRd _ w5 _ _ _ l (by simp) ho5 hz4 (fun q hq e => ?_) (by (try simp) <;> omega)
      simp [Value.ownBlock] at e hq
      omega
    · refine step_append_cells rfl (.tmp 13) (.tmp 14) 22 rfl w.heap.size 3 i0 (.int .i64 0) 1 8 Try.underlying22 hi0 hz0 hz1 hz2 rfl (by decide) (.slice (some ⟨w2.heap.size, 0, none⟩) 0 0) 0 [] rfl he6 w.heap.size (some ⟨g, 0, none⟩) l.length cc (intsV l) rfl (cells_keep HC.out hb6 (Nat.le_refl _)) (intsV_one l) (by unfold maxLen; omega) (by omega) (by (try simp) <;> omega) ?_
      intro v5 w5 ho5 ht5 hv5
      rw [Nat.zero_add, List.nil_append] at ho5
      have hs5 := ht5.size
      simp at hs5
      obtain ⟨g5, c5, hv, _, hg5l, hn5, hc5⟩ := own_form ho5 (by omega)
      subst hv
      simp [Value.ownBlock] at hv5
      have hb68 : Below w.heap.size w w5 := hb6.trans ⟨ht5.os, ht5.tape, ht5.output, ht5.size, fun q hq => ht5.block q (by (try simp) <;> omega) (fun e => by simp [Value.ownBlock] at e; omega)⟩
      have hA68 := bkeep hb68 a0 hg
      refine hK.out _ _ (by assumption) (fun hHeld => ?_)
      clear hK K
      (try simp only [Act.put, List.setIfInBounds_toArray, List.set_cons_zero, List.set_cons_succ])
      refine wpAnyH_ready (rs := [4]) (by kernel_rfl) (by simp) ?_
      refine AllReadyH.cons (o := ⟨some 11, _, _, _, _, _⟩) rfl (fun K hK => ?_) AllReadyH.nil
      go_simp
      have hb684 : Below w.heap.size w (w5.alloc (.cells #[.int .i64 1, .string ⟨#[]⟩, .string ⟨#[]⟩, .int .i64 l[0], .int .i64 1, .int .i64 0, .int .i64 0, .string ⟨#[]⟩, .int .i64 0] 39)) := hb68.alloc (by (try simp) <;> omega) _
      have hA684 := bkeep hb684 a0 hg
      have hz4 : (w5.alloc (.cells #[.int .i64 1, .string ⟨#[]⟩, .string ⟨#[]⟩, .int .i64 l[0], .int .i64 1, .int .i64 0, .int .i64 0, .string ⟨#[]⟩, .int .i64 0] 39)).ownsRow w.heap.size 39 9 (.slice (some ⟨w5.heap.size, 0, none⟩) 1 1) 1 (flatZ (mp1 l).zs) := by
        rw [mp1_flat h1.1]
        have h9 := World.ownsRow_lit (base := w.heap.size) (e := 39) (size := 9) w5 #[.int .i64 1, .string ⟨#[]⟩, .string ⟨#[]⟩, .int .i64 l[0], .int .i64 1, .int .i64 0, .int .i64 0, .string ⟨#[]⟩, .int .i64 0] 1 (by (try simp) <;> omega) (by unfold maxLen; omega) rfl
        simpa using h9
      refine hK.out _ _ (by assumption) (fun hHeld => ?_)
      clear hK K
      (try simp only [Act.put, List.setIfInBounds_toArray, List.set_cons_zero, List.set_cons_succ])
      refine wpAnyH_take (i := 5) (oi := ⟨some 12, _, _, _, _, _⟩) (v := ?v5n_165) rfl (by kernel_rfl) (by kernel_rfl) (by kernel_rfl) (fun _ _ _ h => h) (Or.inl ⟨by rfl, ?y5n_165⟩) (by assumption) ?r5n_165
      case y5n_165 => (intro w hSw; (try dsimp only at hSw); (try go_split_ands); go_simp); (try with_reducible rfl)
      case r5n_165 =>
      (try simp only [Act.put, List.setIfInBounds_toArray, List.set_cons_zero, List.set_cons_succ])
      refine wpAnyH_take (i := 9) (oi := ⟨some 16, _, _, _, _, _⟩) (v := ?v9n_168) rfl (by kernel_rfl) (by kernel_rfl) (by kernel_rfl) (fun _ _ _ h => h) (Or.inl ⟨by rfl, ?y9n_168⟩) (by assumption) ?r9n_168
      case y9n_168 => (intro w hSw; (try dsimp only at hSw); (try go_split_ands); go_simp); (try with_reducible rfl)
      case r9n_168 =>
      (try simp only [Act.put, List.setIfInBounds_toArray, List.set_cons_zero, List.set_cons_succ])
      refine wpAnyH_ready (rs := [10]) (by kernel_rfl) (by simp) ?_
      refine AllReadyH.cons (o := ⟨some 17, _, _, _, _, _⟩) rfl (fun K hK => ?_) AllReadyH.nil
      go_simp
      have hA10 := bkeep (hb684.alloc (by (try simp) <;> omega) (.cells #[.int .i64 1, .int .i64 2, .slice (some ⟨w5.heap.size, 0, none⟩) 1 1, .slice (some ⟨g5, 0, none⟩) l.length c5] 44)) a0 hg
      refine hK.out _ _ (by assumption) (fun hHeld => ?_)
      clear hK K
      (try simp only [Act.put, List.setIfInBounds_toArray, List.set_cons_zero, List.set_cons_succ])
      refine wpAnyH_take (i := 11) (oi := ⟨some 2, _, _, _, _, _⟩) (v := ?v11n_178) rfl (by kernel_rfl) (by kernel_rfl) (by kernel_rfl) (fun _ _ _ h => h) (Or.inl ⟨by rfl, ?y11n_178⟩) (by assumption) ?r11n_178
      case y11n_178 => (intro w hSw; (try dsimp only at hSw); (try go_split_ands); go_simp); (try with_reducible rfl)
      case r11n_178 =>
      (try simp only [Act.put, List.setIfInBounds_toArray, List.set_cons_zero, List.set_cons_succ])
      refine wpAnyH_take (i := 12) (oi := ⟨some 3, _, _, _, _, _⟩) (v := ?v12n_181) rfl (by kernel_rfl) (by kernel_rfl) (by kernel_rfl) (fun _ _ _ h => h) (Or.inl ⟨by rfl, ?y12n_181⟩) (by assumption) ?r12n_181
      case y12n_181 => (intro w hSw; (try dsimp only at hSw); (try go_split_ands); go_simp); (try with_reducible rfl)
      case r12n_181 =>
      (try simp only [Act.put, List.setIfInBounds_toArray, List.set_cons_zero, List.set_cons_succ])
      refine wpAnyH_done (by kernel_rfl) ?_ _
      go_wp2_with fail
      refine bodyPost_ret (v := .tuple #[.pointer (some ⟨(w5.heap.size + 1), 0, none⟩), .int .i64 0]) (by simp [results, Try.results30, go_sem]) rfl ⟨(w5.heap.size + 1), .slice (some ⟨g5, 0, none⟩) l.length c5, .slice (some ⟨w5.heap.size, 0, none⟩) 1 1, rfl, ?_, hb684.alloc (by (try simp) <;> omega) _⟩
      refine mkRd _ (w5.alloc (.cells #[.int .i64 1, .string ⟨#[]⟩, .string ⟨#[]⟩, .int .i64 l[0], .int .i64 1, .int .i64 0, .int .i64 0, .string ⟨#[]⟩, .int .i64 0] 39)) _ _ _ l (by simp) (ho5.alloc _) hz4 (fun q hq e => ?_) (by (try simp) <;> omega)
      simp [Value.ownBlock] at e hq
      omega
end Go.Proofs.Ytbohpjinkdffhaa
