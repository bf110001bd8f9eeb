/- The document's directory: change: move. -/
import Derived.Test.YtepjehcmiofehaaPq19
namespace Go.Proofs.Ytepjehcmiofehaa
open Go.RowKit
set_option linter.unusedVariables false
set_option linter.unusedSimpArgs false
set_option maxHeartbeats 8000000 in
set_option maxRecDepth 10000 in
theorem rdChange3 (B d i : Nat) (hv zv : Value) (hosts : List Int) (m : Mp) (c : Ch) (hi : i < m.zs.length) (w : World) (h : RdH w B d hv zv hosts m) (hB : B ≤ w.heap.size) (hl : m.zs.length ≤ 1000) (hlh : hosts.length ≤ 100000) (hkd : c.kd = 3) :
    Calls Try.prog 24 #[.pointer (some ⟨d, 0, none⟩), .agg #[.int .i64 c.kd, .int .i64 c.zo, .int .i64 c.ep, .int .i64 c.mv, .string c.ky], .int .i64 i] w fun e w' => RdQ B d hv zv hosts m c i hi w e w' := by
  have HD := Lib.hid h
  have l2 := h.blk.cell 2
  have l3 := h.blk.cell 3
  simp only [List.getElem?_toArray, List.getElem?_cons_succ, List.getElem?_cons_zero] at l2 l3
  obtain ⟨gz, cc, hzv, _, hgz, hnc, hcm⟩ := own_form h.row (by omega)
  subst hzv
  have hdl := h.blk.low
  have q3 : (i : Int) < (m.zs.length : Int) := by omega
  obtain ⟨z, hz⟩ : ∃ z, z = m.zs[i] := ⟨_, rfl⟩
  obtain ⟨v0, v1, v2, v3, v4, v5, v6, v7, v8⟩ := rowZ_at h.row hi
  rw [← hz] at v0 v1 v2 v3 v4 v5 v6 v7 v8
  have HZ := Lib.hid hz
  have HKD := Lib.hid hkd
  rw [hkd]
  by_cases hp : m.zs[i].pd = 0
  case neg =>
    have HNO : Hid (∀ m1, ¬ Deed hosts m c i hi m1) := Lib.hid (fun m1 hd => by cases hd <;> first | omega | contradiction)
    rw [← hz] at hp
    have hp2 : (z.pd != 0) = true := by simpa using hp
    clear h hkd hz
    go_enter Try.func24, Try.ntmps24
    go_upto_region 20 with fail
    go_quiet (fail)
    go_wp2_with fail
    refine bodyPost_ret (v := .bool false) (by simp [results, Try.results24, go_sem]) rfl (.inr ⟨HNO.out, rfl, ?_⟩)
    ((repeat (first | (with_reducible exact Below.refl _ _) | (with_reducible assumption) | ((with_reducible refine b_set ?_ ?_); · (first | omega | (simp; done) | (simp; omega))) | ((with_reducible refine b_alloc ?_ ?_); · (first | omega | (simp; done) | (simp; omega))) | (with_reducible refine Below.drew ?_) | (with_reducible refine b_drewN ?_) | ((with_reducible refine b_call (by assumption) ?_ ?_); · (first | omega | (simp; done) | (simp; omega))))); done)
  have HP := Lib.hid hp
  rw [← hz] at hp
  rw [hp] at v5
  by_cases hin : c.mv ∈ hosts
  case neg =>
    have HNO : Hid (∀ m1, ¬ Deed hosts m c i hi m1) := Lib.hid (fun m1 hd => by cases hd <;> first | omega | contradiction)
    have HHAS : Hid (decide (c.mv ∈ hosts) = false) := Lib.hid (decide_eq_false hin)
    clear h hkd hz hp hin
    go_enter Try.func24, Try.ntmps24
    go_upto_region 20 with fail
    have hP : Whl ((w.alloc (.cells #[.int .i64 3, .int .i64 c.zo, .int .i64 c.ep, .int .i64 c.mv, .string c.ky] 42)).alloc (.cells #[.int .i64 z.id, .string z.fr, .string z.tt, .int .i64 z.ow, .int .i64 z.ep, .int .i64 0, .int .i64 z.mv, .string z.ky, .int .i64 z.nw] 37)) w.heap.size 42 #[.int .i64 3, .int .i64 c.zo, .int .i64 c.ep, .int .i64 c.mv, .string c.ky] := (Whl.new rfl).alloc _
    have hF : Whl ((w.alloc (.cells #[.int .i64 3, .int .i64 c.zo, .int .i64 c.ep, .int .i64 c.mv, .string c.ky] 42)).alloc (.cells #[.int .i64 z.id, .string z.fr, .string z.tt, .int .i64 z.ow, .int .i64 z.ep, .int .i64 0, .int .i64 z.mv, .string z.ky, .int .i64 z.nw] 37)) (w.heap.size + 1) 37 #[.int .i64 z.id, .string z.fr, .string z.tt, .int .i64 z.ow, .int .i64 z.ep, .int .i64 0, .int .i64 z.mv, .string z.ky, .int .i64 z.nw] := Whl.new (by simp)
    have HBV : Hid (Below w.heap.size w ((w.alloc (.cells #[.int .i64 3, .int .i64 c.zo, .int .i64 c.ep, .int .i64 c.mv, .string c.ky] 42)).alloc (.cells #[.int .i64 z.id, .string z.fr, .string z.tt, .int .i64 z.ow, .int .i64 z.ep, .int .i64 0, .int .i64 z.mv, .string z.ky, .int .i64 z.nw] 37))) := Lib.hid (((Below.refl _ _).alloc (Nat.le_refl _) _).alloc (by simp) _)
    have HDV := Lib.hid (HD.out.below HBV.out)
    have p3 := hP.cell 3
    have f3 := hF.cell 3
    have f5 := hF.cell 5
    have k3 := HDV.out.blk.cell 3
    simp only [List.getElem?_toArray, List.getElem?_cons_succ, List.getElem?_cons_zero] at p3 f3 f5 k3
    have hsv : w.heap.size ≤ ((w.alloc (.cells #[.int .i64 3, .int .i64 c.zo, .int .i64 c.ep, .int .i64 c.mv, .string c.ky] 42)).alloc (.cells #[.int .i64 z.id, .string z.fr, .string z.tt, .int .i64 z.ow, .int .i64 z.ep, .int .i64 0, .int .i64 z.mv, .string z.ky, .int .i64 z.nw] 37)).heap.size := by simp; omega
    have hsd : w.heap.size + 1 < ((w.alloc (.cells #[.int .i64 3, .int .i64 c.zo, .int .i64 c.ep, .int .i64 c.mv, .string c.ky] 42)).alloc (.cells #[.int .i64 z.id, .string z.fr, .string z.tt, .int .i64 z.ow, .int .i64 z.ep, .int .i64 0, .int .i64 z.mv, .string z.ky, .int .i64 z.nw] 37)).heap.size := by simp
    clear hP hF l2 l3 v0 v1 v2 v3 v4 v5 v6 v7 v8
    generalize ((w.alloc (.cells #[.int .i64 3, .int .i64 c.zo, .int .i64 c.ep, .int .i64 c.mv, .string c.ky] 42)).alloc (.cells #[.int .i64 z.id, .string z.fr, .string z.tt, .int .i64 z.ow, .int .i64 z.ep, .int .i64 0, .int .i64 z.mv, .string z.ky, .int .i64 z.nw] 37)) = V at *
    refine wp_region_held_drew (S := (fun W => Below V.heap.size V W ∧ W.cell? ⟨w.heap.size + 1, 5, none⟩ = some (.int .i64 0) ∧ W.cell? ⟨w.heap.size + 1, 3, none⟩ = some (.int .i64 z.ow) ∧ W.cell? ⟨d, 3, none⟩ = some hv ∧ W.cell? ⟨w.heap.size, 3, none⟩ = some (.int .i64 c.mv))) (by kernel_rfl) ⟨(Below.refl _ _).drew, f5, f3, k3, p3⟩ (fun hHeld => ?_)
    refine wpAnyH_take (i := 0) (oi := ⟨some 172, _, _, _, _, _⟩) (v := ?v0b) rfl (by kernel_rfl) (by kernel_rfl) (by kernel_rfl) (fun _ _ _ h => h) (Or.inl ⟨by rfl, ?y0b⟩) (by assumption) ?r0b
    case y0b => (intro w hSw; (try dsimp only at hSw); (try go_split_ands); go_simp); (try with_reducible rfl)
    case r0b =>
    (try simp only [Act.put, List.setIfInBounds_toArray, List.set_cons_zero, List.set_cons_succ])
    refine wpAnyH_take (i := 1) (oi := ⟨some 173, _, _, _, _, _⟩) (v := ?v1b) rfl (by kernel_rfl) (by kernel_rfl) (by kernel_rfl) (fun _ _ _ h => h) (Or.inl ⟨by rfl, ?y1b⟩) (by assumption) ?r1b
    case y1b => (intro w hSw; (try dsimp only at hSw); (try go_split_ands); go_simp); (try with_reducible rfl)
    case r1b =>
    (try simp only [Act.put, List.setIfInBounds_toArray, List.set_cons_zero, List.set_cons_succ])
    refine wpAnyH_take (i := 2) (oi := ⟨some 174, _, _, _, _, _⟩) (v := .bool false) rfl (by kernel_rfl) (by kernel_rfl) (by kernel_rfl) (fun _ _ _ h => h) (Or.inl ⟨by rfl, ?y2b⟩) (by assumption) ?r2b
    case y2b => (intro w hSw; (try dsimp only at hSw); (try go_split_ands); go_simp)
    case r2b =>
    (try simp only [Act.put, List.setIfInBounds_toArray, List.set_cons_zero, List.set_cons_succ])
    refine wpAnyH_take (i := 3) (oi := ⟨some 175, _, _, _, _, _⟩) (v := .bool false) rfl (by kernel_rfl) (by kernel_rfl) (by kernel_rfl) (fun _ _ _ h => h) (Or.inl ⟨by rfl, ?y3b⟩) (by assumption) ?r3b
    case y3b => (intro w hSw; (try dsimp only at hSw); (try go_split_ands); go_simp)
    case r3b =>
    (try simp only [Act.put, List.setIfInBounds_toArray, List.set_cons_zero, List.set_cons_succ])
    refine wpAnyH_take (i := 4) (oi := ⟨some 176, _, _, _, _, _⟩) (v := ?v4b) rfl (by kernel_rfl) (by kernel_rfl) (by kernel_rfl) (fun _ _ _ h => h) (Or.inl ⟨by rfl, ?y4b⟩) (by assumption) ?r4b
    case y4b => (intro w hSw; (try dsimp only at hSw); (try go_split_ands); go_simp); (try with_reducible rfl)
    case r4b =>
    (try simp only [Act.put, List.setIfInBounds_toArray, List.set_cons_zero, List.set_cons_succ])
    refine wpAnyH_take (i := 5) (oi := ⟨some 177, _, _, _, _, _⟩) (v := ?v5b) rfl (by kernel_rfl) (by kernel_rfl) (by kernel_rfl) (fun _ _ _ h => h) (Or.inl ⟨by rfl, ?y5b⟩) (by assumption) ?r5b
    case y5b => (intro w hSw; (try dsimp only at hSw); (try go_split_ands); go_simp); (try with_reducible rfl)
    case r5b =>
    (try simp only [Act.put, List.setIfInBounds_toArray, List.set_cons_zero, List.set_cons_succ])
    refine wpAnyH_take (i := 6) (oi := ⟨some 178, _, _, _, _, _⟩) (v := ?v6b) rfl (by kernel_rfl) (by kernel_rfl) (by kernel_rfl) (fun _ _ _ h => h) (Or.inl ⟨by rfl, ?y6b⟩) (by assumption) ?r6b
    case y6b => (intro w hSw; (try dsimp only at hSw); (try go_split_ands); go_simp); (try with_reducible rfl)
    case r6b =>
    (try simp only [Act.put, List.setIfInBounds_toArray, List.set_cons_zero, List.set_cons_succ])
    refine wpAnyH_take (i := 7) (oi := ⟨some 179, _, _, _, _, _⟩) (v := ?v7b) rfl (by kernel_rfl) (by kernel_rfl) (by kernel_rfl) (fun _ _ _ h => h) (Or.inl ⟨by rfl, ?y7b⟩) (by assumption) ?r7b
    case y7b => (intro w hSw; (try dsimp only at hSw); (try go_split_ands); go_simp); (try with_reducible rfl)
    case r7b =>
    (try simp only [Act.put, List.setIfInBounds_toArray, List.set_cons_zero, List.set_cons_succ])
    refine wpAnyH_take (i := 8) (oi := ⟨some 180, _, _, _, _, _⟩) (v := ?v8b) rfl (by kernel_rfl) (by kernel_rfl) (by kernel_rfl) (fun _ _ _ h => h) (Or.inl ⟨by rfl, ?y8b⟩) (by assumption) ?r8b
    case y8b => (intro w hSw; (try dsimp only at hSw); (try go_split_ands); go_simp); (try with_reducible rfl)
    case r8b =>
    (try simp only [Act.put, List.setIfInBounds_toArray, List.set_cons_zero, List.set_cons_succ])
    refine wpAnyH_take (i := 9) (oi := ⟨some 181, _, _, _, _, _⟩) (v := ?v9b) rfl (by kernel_rfl) (by kernel_rfl) (by kernel_rfl) (fun _ _ _ h => h) (Or.inl ⟨by rfl, ?y9b⟩) (by assumption) ?r9b
    case y9b => (intro w hSw; (try dsimp only at hSw); (try go_split_ands); go_simp); (try with_reducible rfl)
    case r9b =>
    (try simp only [Act.put, List.setIfInBounds_toArray, List.set_cons_zero, List.set_cons_succ])
    refine wpAnyH_ready (rs := [10]) (by kernel_rfl) (by simp) ?_
    refine AllReadyH.cons (o := ⟨some 182, _, _, _, _, _⟩) rfl (fun K hK => ?_) AllReadyH.nil
    go_simp
    refine (rdIn B hv hosts c.mv _ (HDV.out.below hHeld.1).hrow hlh).mono ?_; rintro e w3 ⟨he, hb3⟩; rw [HHAS.out] at he; subst he
    go_wp2_with fail
    refine hK.out _ _ (by have hh := Below.trans hHeld.1 (Below.mono hb3 (Below.size hHeld.1)); exact ⟨hh, bkeep hh f5 (by omega), bkeep hh f3 (by omega), bkeep hh k3 (by omega), bkeep hh p3 (by omega)⟩) (fun hHeld => ?_)
    clear hK K
    (try simp only [Act.put, List.setIfInBounds_toArray, List.set_cons_zero, List.set_cons_succ])
    refine wpAnyH_take (i := 11) (oi := ⟨some 183, _, _, _, _, _⟩) (v := .bool true) rfl (by kernel_rfl) (by kernel_rfl) (by kernel_rfl) (fun _ _ _ h => h) (Or.inl ⟨by rfl, ?y11b⟩) (by assumption) ?r11b
    case y11b => (intro w hSw; (try dsimp only at hSw); (try go_split_ands); go_simp)
    case r11b =>
    (try simp only [Act.put, List.setIfInBounds_toArray, List.set_cons_zero, List.set_cons_succ])
    refine wpAnyH_take (i := 12) (oi := ⟨some 184, _, _, _, _, _⟩) (v := .bool true) rfl (by kernel_rfl) (by kernel_rfl) (by kernel_rfl) (fun _ _ _ h => h) (Or.inl ⟨by rfl, ?y12b⟩) (by assumption) ?r12b
    case y12b => (intro w hSw; (try dsimp only at hSw); (try go_split_ands); go_simp)
    case r12b =>
    (try simp only [Act.put, List.setIfInBounds_toArray, List.set_cons_zero, List.set_cons_succ])
    refine wpAnyH_take (i := 13) (oi := ⟨some 185, _, _, _, _, _⟩) (v := .bool true) rfl (by kernel_rfl) (by kernel_rfl) (by kernel_rfl) (fun _ _ _ h => h) (Or.inl ⟨by rfl, ?y13b⟩) (by assumption) ?r13b
    case y13b => (intro w hSw; (try dsimp only at hSw); (try go_split_ands); go_simp)
    case r13b =>
    (try simp only [Act.put, List.setIfInBounds_toArray, List.set_cons_zero, List.set_cons_succ])
    refine wpAnyH_take (i := 14) (oi := ⟨some 186, _, _, _, _, _⟩) (v := undef) rfl (by kernel_rfl) (by kernel_rfl) (by kernel_rfl) (fun _ _ _ h => h) (Or.inr ⟨by rfl, rfl⟩) (by assumption) ?_
    (try simp only [Act.put, List.setIfInBounds_toArray, List.set_cons_zero, List.set_cons_succ])
    refine wpAnyH_take (i := 15) (oi := ⟨some 187, _, _, _, _, _⟩) (v := undef) rfl (by kernel_rfl) (by kernel_rfl) (by kernel_rfl) (fun _ _ _ h => h) (Or.inr ⟨by rfl, rfl⟩) (by assumption) ?_
    (try simp only [Act.put, List.setIfInBounds_toArray, List.set_cons_zero, List.set_cons_succ])
    refine wpAnyH_take (i := 16) (oi := ⟨some 188, _, _, _, _, _⟩) (v := undef) rfl (by kernel_rfl) (by kernel_rfl) (by kernel_rfl) (fun _ _ _ h => h) (Or.inr ⟨by rfl, rfl⟩) (by assumption) ?_
    (try simp only [Act.put, List.setIfInBounds_toArray, List.set_cons_zero, List.set_cons_succ])
    refine wpAnyH_take (i := 17) (oi := ⟨some 189, _, _, _, _, _⟩) (v := undef) rfl (by kernel_rfl) (by kernel_rfl) (by kernel_rfl) (fun _ _ _ h => h) (Or.inr ⟨by rfl, rfl⟩) (by assumption) ?_
    (try simp only [Act.put, List.setIfInBounds_toArray, List.set_cons_zero, List.set_cons_succ])
    refine wpAnyH_take (i := 18) (oi := ⟨some 190, _, _, _, _, _⟩) (v := undef) rfl (by kernel_rfl) (by kernel_rfl) (by kernel_rfl) (fun _ _ _ h => h) (Or.inr ⟨by rfl, rfl⟩) (by assumption) ?_
    (try simp only [Act.put, List.setIfInBounds_toArray, List.set_cons_zero, List.set_cons_succ])
    refine wpAnyH_take (i := 19) (oi := ⟨some 191, _, _, _, _, _⟩) (v := .bool true) rfl (by kernel_rfl) (by kernel_rfl) (by kernel_rfl) (fun _ _ _ h => h) (Or.inl ⟨by rfl, ?y19b⟩) (by assumption) ?r19b
    case y19b => (intro w hSw; (try dsimp only at hSw); (try go_split_ands); go_simp)
    case r19b =>
    (try simp only [Act.put, List.setIfInBounds_toArray, List.set_cons_zero, List.set_cons_succ])
    refine wpAnyH_take (i := 20) (oi := ⟨some 192, _, _, _, _, _⟩) (v := .bool true) rfl (by kernel_rfl) (by kernel_rfl) (by kernel_rfl) (fun _ _ _ h => h) (Or.inl ⟨by rfl, ?y20b⟩) (by assumption) ?r20b
    case y20b => (intro w hSw; (try dsimp only at hSw); (try go_split_ands); go_simp)
    case r20b =>
    (try simp only [Act.put, List.setIfInBounds_toArray, List.set_cons_zero, List.set_cons_succ])
    refine wpAnyH_take (i := 21) (oi := ⟨some 193, _, _, _, _, _⟩) (v := undef) rfl (by kernel_rfl) (by kernel_rfl) (by kernel_rfl) (fun _ _ _ h => h) (Or.inr ⟨by rfl, rfl⟩) (by assumption) ?_
    (try simp only [Act.put, List.setIfInBounds_toArray, List.set_cons_zero, List.set_cons_succ])
    refine wpAnyH_take (i := 22) (oi := ⟨some 194, _, _, _, _, _⟩) (v := undef) rfl (by kernel_rfl) (by kernel_rfl) (by kernel_rfl) (fun _ _ _ h => h) (Or.inr ⟨by rfl, rfl⟩) (by assumption) ?_
    (try simp only [Act.put, List.setIfInBounds_toArray, List.set_cons_zero, List.set_cons_succ])
    refine wpAnyH_take (i := 23) (oi := ⟨some 195, _, _, _, _, _⟩) (v := undef) rfl (by kernel_rfl) (by kernel_rfl) (by kernel_rfl) (fun _ _ _ h => h) (Or.inr ⟨by rfl, rfl⟩) (by assumption) ?_
    (try simp only [Act.put, List.setIfInBounds_toArray, List.set_cons_zero, List.set_cons_succ])
    refine wpAnyH_take (i := 24) (oi := ⟨some 196, _, _, _, _, _⟩) (v := .bool true) rfl (by kernel_rfl) (by kernel_rfl) (by kernel_rfl) (fun _ _ _ h => h) (Or.inl ⟨by rfl, ?y24b⟩) (by assumption) ?r24b
    case y24b => (intro w hSw; (try dsimp only at hSw); (try go_split_ands); go_simp)
    case r24b =>
    (try simp only [Act.put, List.setIfInBounds_toArray, List.set_cons_zero, List.set_cons_succ])
    refine wpAnyH_done (by kernel_rfl) ?_ _

    go_wp2_with fail
    refine bodyPost_ret (v := .bool false) (by simp [results, Try.results24, go_sem, *]) rfl (.inr ⟨HNO.out, rfl, HBV.out.trans (hHeld.1.mono hsv)⟩)

  have HHAS : Hid (decide (c.mv ∈ hosts) = true) := Lib.hid (decide_eq_true hin)
  by_cases how : c.mv = z.ow
  case pos =>
    have HNO : Hid (∀ m1, ¬ Deed hosts m c i hi m1) := Lib.hid (fun m1 hd => by
      rw [hz] at how
      cases hd <;> first | omega | contradiction)
    have HOW := Lib.hid how
    clear h hkd hz hp hin how
    go_enter Try.func24, Try.ntmps24
    go_upto_region 20 with fail
    have hP : Whl ((w.alloc (.cells #[.int .i64 3, .int .i64 c.zo, .int .i64 c.ep, .int .i64 c.mv, .string c.ky] 42)).alloc (.cells #[.int .i64 z.id, .string z.fr, .string z.tt, .int .i64 z.ow, .int .i64 z.ep, .int .i64 0, .int .i64 z.mv, .string z.ky, .int .i64 z.nw] 37)) w.heap.size 42 #[.int .i64 3, .int .i64 c.zo, .int .i64 c.ep, .int .i64 c.mv, .string c.ky] := (Whl.new rfl).alloc _
    have hF : Whl ((w.alloc (.cells #[.int .i64 3, .int .i64 c.zo, .int .i64 c.ep, .int .i64 c.mv, .string c.ky] 42)).alloc (.cells #[.int .i64 z.id, .string z.fr, .string z.tt, .int .i64 z.ow, .int .i64 z.ep, .int .i64 0, .int .i64 z.mv, .string z.ky, .int .i64 z.nw] 37)) (w.heap.size + 1) 37 #[.int .i64 z.id, .string z.fr, .string z.tt, .int .i64 z.ow, .int .i64 z.ep, .int .i64 0, .int .i64 z.mv, .string z.ky, .int .i64 z.nw] := Whl.new (by simp)
    have HBV : Hid (Below w.heap.size w ((w.alloc (.cells #[.int .i64 3, .int .i64 c.zo, .int .i64 c.ep, .int .i64 c.mv, .string c.ky] 42)).alloc (.cells #[.int .i64 z.id, .string z.fr, .string z.tt, .int .i64 z.ow, .int .i64 z.ep, .int .i64 0, .int .i64 z.mv, .string z.ky, .int .i64 z.nw] 37))) := Lib.hid (((Below.refl _ _).alloc (Nat.le_refl _) _).alloc (by simp) _)
    have HDV := Lib.hid (HD.out.below HBV.out)
    have p3 := hP.cell 3
    have f3 := hF.cell 3
    have f5 := hF.cell 5
    have k3 := HDV.out.blk.cell 3
    simp only [List.getElem?_toArray, List.getElem?_cons_succ, List.getElem?_cons_zero] at p3 f3 f5 k3
    have hsv : w.heap.size ≤ ((w.alloc (.cells #[.int .i64 3, .int .i64 c.zo, .int .i64 c.ep, .int .i64 c.mv, .string c.ky] 42)).alloc (.cells #[.int .i64 z.id, .string z.fr, .string z.tt, .int .i64 z.ow, .int .i64 z.ep, .int .i64 0, .int .i64 z.mv, .string z.ky, .int .i64 z.nw] 37)).heap.size := by simp; omega
    have hsd : w.heap.size + 1 < ((w.alloc (.cells #[.int .i64 3, .int .i64 c.zo, .int .i64 c.ep, .int .i64 c.mv, .string c.ky] 42)).alloc (.cells #[.int .i64 z.id, .string z.fr, .string z.tt, .int .i64 z.ow, .int .i64 z.ep, .int .i64 0, .int .i64 z.mv, .string z.ky, .int .i64 z.nw] 37)).heap.size := by simp
    clear hP hF l2 l3 v0 v1 v2 v3 v4 v5 v6 v7 v8
    generalize ((w.alloc (.cells #[.int .i64 3, .int .i64 c.zo, .int .i64 c.ep, .int .i64 c.mv, .string c.ky] 42)).alloc (.cells #[.int .i64 z.id, .string z.fr, .string z.tt, .int .i64 z.ow, .int .i64 z.ep, .int .i64 0, .int .i64 z.mv, .string z.ky, .int .i64 z.nw] 37)) = V at *
    have how2 : (c.mv == z.ow) = true := by simpa using HOW.out
    refine wp_region_held_drew (S := (fun W => Below V.heap.size V W ∧ W.cell? ⟨w.heap.size + 1, 5, none⟩ = some (.int .i64 0) ∧ W.cell? ⟨w.heap.size + 1, 3, none⟩ = some (.int .i64 z.ow) ∧ W.cell? ⟨d, 3, none⟩ = some hv ∧ W.cell? ⟨w.heap.size, 3, none⟩ = some (.int .i64 c.mv))) (by kernel_rfl) ⟨(Below.refl _ _).drew, f5, f3, k3, p3⟩ (fun hHeld => ?_)
    refine wpAnyH_take (i := 0) (oi := ⟨some 172, _, _, _, _, _⟩) (v := ?v0e) rfl (by kernel_rfl) (by kernel_rfl) (by kernel_rfl) (fun _ _ _ h => h) (Or.inl ⟨by rfl, ?y0e⟩) (by assumption) ?r0e
    case y0e => (intro w hSw; (try dsimp only at hSw); (try go_split_ands); go_simp); (try with_reducible rfl)
    case r0e =>
    (try simp only [Act.put, List.setIfInBounds_toArray, List.set_cons_zero, List.set_cons_succ])
    refine wpAnyH_take (i := 1) (oi := ⟨some 173, _, _, _, _, _⟩) (v := ?v1e) rfl (by kernel_rfl) (by kernel_rfl) (by kernel_rfl) (fun _ _ _ h => h) (Or.inl ⟨by rfl, ?y1e⟩) (by assumption) ?r1e
    case y1e => (intro w hSw; (try dsimp only at hSw); (try go_split_ands); go_simp); (try with_reducible rfl)
    case r1e =>
    (try simp only [Act.put, List.setIfInBounds_toArray, List.set_cons_zero, List.set_cons_succ])
    refine wpAnyH_take (i := 2) (oi := ⟨some 174, _, _, _, _, _⟩) (v := .bool false) rfl (by kernel_rfl) (by kernel_rfl) (by kernel_rfl) (fun _ _ _ h => h) (Or.inl ⟨by rfl, ?y2e⟩) (by assumption) ?r2e
    case y2e => (intro w hSw; (try dsimp only at hSw); (try go_split_ands); go_simp)
    case r2e =>
    (try simp only [Act.put, List.setIfInBounds_toArray, List.set_cons_zero, List.set_cons_succ])
    refine wpAnyH_take (i := 3) (oi := ⟨some 175, _, _, _, _, _⟩) (v := .bool false) rfl (by kernel_rfl) (by kernel_rfl) (by kernel_rfl) (fun _ _ _ h => h) (Or.inl ⟨by rfl, ?y3e⟩) (by assumption) ?r3e
    case y3e => (intro w hSw; (try dsimp only at hSw); (try go_split_ands); go_simp)
    case r3e =>
    (try simp only [Act.put, List.setIfInBounds_toArray, List.set_cons_zero, List.set_cons_succ])
    refine wpAnyH_take (i := 4) (oi := ⟨some 176, _, _, _, _, _⟩) (v := ?v4e) rfl (by kernel_rfl) (by kernel_rfl) (by kernel_rfl) (fun _ _ _ h => h) (Or.inl ⟨by rfl, ?y4e⟩) (by assumption) ?r4e
    case y4e => (intro w hSw; (try dsimp only at hSw); (try go_split_ands); go_simp); (try with_reducible rfl)
    case r4e =>
    (try simp only [Act.put, List.setIfInBounds_toArray, List.set_cons_zero, List.set_cons_succ])
    refine wpAnyH_take (i := 5) (oi := ⟨some 177, _, _, _, _, _⟩) (v := ?v5e) rfl (by kernel_rfl) (by kernel_rfl) (by kernel_rfl) (fun _ _ _ h => h) (Or.inl ⟨by rfl, ?y5e⟩) (by assumption) ?r5e
    case y5e => (intro w hSw; (try dsimp only at hSw); (try go_split_ands); go_simp); (try with_reducible rfl)
    case r5e =>
    (try simp only [Act.put, List.setIfInBounds_toArray, List.set_cons_zero, List.set_cons_succ])
    refine wpAnyH_take (i := 6) (oi := ⟨some 178, _, _, _, _, _⟩) (v := ?v6e) rfl (by kernel_rfl) (by kernel_rfl) (by kernel_rfl) (fun _ _ _ h => h) (Or.inl ⟨by rfl, ?y6e⟩) (by assumption) ?r6e
    case y6e => (intro w hSw; (try dsimp only at hSw); (try go_split_ands); go_simp); (try with_reducible rfl)
    case r6e =>
    (try simp only [Act.put, List.setIfInBounds_toArray, List.set_cons_zero, List.set_cons_succ])
    refine wpAnyH_take (i := 7) (oi := ⟨some 179, _, _, _, _, _⟩) (v := ?v7e) rfl (by kernel_rfl) (by kernel_rfl) (by kernel_rfl) (fun _ _ _ h => h) (Or.inl ⟨by rfl, ?y7e⟩) (by assumption) ?r7e
    case y7e => (intro w hSw; (try dsimp only at hSw); (try go_split_ands); go_simp); (try with_reducible rfl)
    case r7e =>
    (try simp only [Act.put, List.setIfInBounds_toArray, List.set_cons_zero, List.set_cons_succ])
    refine wpAnyH_take (i := 8) (oi := ⟨some 180, _, _, _, _, _⟩) (v := ?v8e) rfl (by kernel_rfl) (by kernel_rfl) (by kernel_rfl) (fun _ _ _ h => h) (Or.inl ⟨by rfl, ?y8e⟩) (by assumption) ?r8e
    case y8e => (intro w hSw; (try dsimp only at hSw); (try go_split_ands); go_simp); (try with_reducible rfl)
    case r8e =>
    (try simp only [Act.put, List.setIfInBounds_toArray, List.set_cons_zero, List.set_cons_succ])
    refine wpAnyH_take (i := 9) (oi := ⟨some 181, _, _, _, _, _⟩) (v := ?v9e) rfl (by kernel_rfl) (by kernel_rfl) (by kernel_rfl) (fun _ _ _ h => h) (Or.inl ⟨by rfl, ?y9e⟩) (by assumption) ?r9e
    case y9e => (intro w hSw; (try dsimp only at hSw); (try go_split_ands); go_simp); (try with_reducible rfl)
    case r9e =>
    (try simp only [Act.put, List.setIfInBounds_toArray, List.set_cons_zero, List.set_cons_succ])
    refine wpAnyH_ready (rs := [10]) (by kernel_rfl) (by simp) ?_
    refine AllReadyH.cons (o := ⟨some 182, _, _, _, _, _⟩) rfl (fun K hK => ?_) AllReadyH.nil
    go_simp
    refine (rdIn B hv hosts c.mv _ (HDV.out.below hHeld.1).hrow hlh).mono ?_; rintro e w3 ⟨he, hb3⟩; rw [HHAS.out] at he; subst he
    go_wp2_with fail
    refine hK.out _ _ (by have hh := Below.trans hHeld.1 (Below.mono hb3 (Below.size hHeld.1)); exact ⟨hh, bkeep hh f5 (by omega), bkeep hh f3 (by omega), bkeep hh k3 (by omega), bkeep hh p3 (by omega)⟩) (fun hHeld => ?_)
    clear hK K
    (try simp only [Act.put, List.setIfInBounds_toArray, List.set_cons_zero, List.set_cons_succ])
    refine wpAnyH_take (i := 11) (oi := ⟨some 183, _, _, _, _, _⟩) (v := .bool false) rfl (by kernel_rfl) (by kernel_rfl) (by kernel_rfl) (fun _ _ _ h => h) (Or.inl ⟨by rfl, ?y11e⟩) (by assumption) ?r11e
    case y11e => (intro w hSw; (try dsimp only at hSw); (try go_split_ands); go_simp)
    case r11e =>
    (try simp only [Act.put, List.setIfInBounds_toArray, List.set_cons_zero, List.set_cons_succ])
    refine wpAnyH_take (i := 12) (oi := ⟨some 184, _, _, _, _, _⟩) (v := .bool false) rfl (by kernel_rfl) (by kernel_rfl) (by kernel_rfl) (fun _ _ _ h => h) (Or.inl ⟨by rfl, ?y12e⟩) (by assumption) ?r12e
    case y12e => (intro w hSw; (try dsimp only at hSw); (try go_split_ands); go_simp)
    case r12e =>
    (try simp only [Act.put, List.setIfInBounds_toArray, List.set_cons_zero, List.set_cons_succ])
    refine wpAnyH_take (i := 13) (oi := ⟨some 185, _, _, _, _, _⟩) (v := .bool false) rfl (by kernel_rfl) (by kernel_rfl) (by kernel_rfl) (fun _ _ _ h => h) (Or.inl ⟨by rfl, ?y13e⟩) (by assumption) ?r13e
    case y13e => (intro w hSw; (try dsimp only at hSw); (try go_split_ands); go_simp)
    case r13e =>
    (try simp only [Act.put, List.setIfInBounds_toArray, List.set_cons_zero, List.set_cons_succ])
    refine wpAnyH_take (i := 14) (oi := ⟨some 186, _, _, _, _, _⟩) (v := ?v14e) rfl (by kernel_rfl) (by kernel_rfl) (by kernel_rfl) (fun _ _ _ h => h) (Or.inl ⟨by rfl, ?y14e⟩) (by assumption) ?r14e
    case y14e => (intro w hSw; (try dsimp only at hSw); (try go_split_ands); go_simp); (try with_reducible rfl)
    case r14e =>
    (try simp only [Act.put, List.setIfInBounds_toArray, List.set_cons_zero, List.set_cons_succ])
    refine wpAnyH_take (i := 15) (oi := ⟨some 187, _, _, _, _, _⟩) (v := ?v15e) rfl (by kernel_rfl) (by kernel_rfl) (by kernel_rfl) (fun _ _ _ h => h) (Or.inl ⟨by rfl, ?y15e⟩) (by assumption) ?r15e
    case y15e => (intro w hSw; (try dsimp only at hSw); (try go_split_ands); go_simp); (try with_reducible rfl)
    case r15e =>
    (try simp only [Act.put, List.setIfInBounds_toArray, List.set_cons_zero, List.set_cons_succ])
    refine wpAnyH_take (i := 16) (oi := ⟨some 188, _, _, _, _, _⟩) (v := ?v16e) rfl (by kernel_rfl) (by kernel_rfl) (by kernel_rfl) (fun _ _ _ h => h) (Or.inl ⟨by rfl, ?y16e⟩) (by assumption) ?r16e
    case y16e => (intro w hSw; (try dsimp only at hSw); (try go_split_ands); go_simp); (try with_reducible rfl)
    case r16e =>
    (try simp only [Act.put, List.setIfInBounds_toArray, List.set_cons_zero, List.set_cons_succ])
    refine wpAnyH_take (i := 17) (oi := ⟨some 189, _, _, _, _, _⟩) (v := ?v17e) rfl (by kernel_rfl) (by kernel_rfl) (by kernel_rfl) (fun _ _ _ h => h) (Or.inl ⟨by rfl, ?y17e⟩) (by assumption) ?r17e
    case y17e => (intro w hSw; (try dsimp only at hSw); (try go_split_ands); go_simp); (try with_reducible rfl)
    case r17e =>
    (try simp only [Act.put, List.setIfInBounds_toArray, List.set_cons_zero, List.set_cons_succ])
    refine wpAnyH_take (i := 18) (oi := ⟨some 190, _, _, _, _, _⟩) (v := .bool true) rfl (by kernel_rfl) (by kernel_rfl) (by kernel_rfl) (fun _ _ _ h => h) (Or.inl ⟨by rfl, ?y18e⟩) (by assumption) ?r18e
    case y18e => (intro w hSw; (try dsimp only at hSw); (try go_split_ands); go_simp)
    case r18e =>
    (try simp only [Act.put, List.setIfInBounds_toArray, List.set_cons_zero, List.set_cons_succ])
    refine wpAnyH_take (i := 19) (oi := ⟨some 191, _, _, _, _, _⟩) (v := .bool true) rfl (by kernel_rfl) (by kernel_rfl) (by kernel_rfl) (fun _ _ _ h => h) (Or.inl ⟨by rfl, ?y19e⟩) (by assumption) ?r19e
    case y19e => (intro w hSw; (try dsimp only at hSw); (try go_split_ands); go_simp)
    case r19e =>
    (try simp only [Act.put, List.setIfInBounds_toArray, List.set_cons_zero, List.set_cons_succ])
    refine wpAnyH_take (i := 20) (oi := ⟨some 192, _, _, _, _, _⟩) (v := .bool true) rfl (by kernel_rfl) (by kernel_rfl) (by kernel_rfl) (fun _ _ _ h => h) (Or.inl ⟨by rfl, ?y20e⟩) (by assumption) ?r20e
    case y20e => (intro w hSw; (try dsimp only at hSw); (try go_split_ands); go_simp)
    case r20e =>
    (try simp only [Act.put, List.setIfInBounds_toArray, List.set_cons_zero, List.set_cons_succ])
    refine wpAnyH_take (i := 21) (oi := ⟨some 193, _, _, _, _, _⟩) (v := undef) rfl (by kernel_rfl) (by kernel_rfl) (by kernel_rfl) (fun _ _ _ h => h) (Or.inr ⟨by rfl, rfl⟩) (by assumption) ?_
    (try simp only [Act.put, List.setIfInBounds_toArray, List.set_cons_zero, List.set_cons_succ])
    refine wpAnyH_take (i := 22) (oi := ⟨some 194, _, _, _, _, _⟩) (v := undef) rfl (by kernel_rfl) (by kernel_rfl) (by kernel_rfl) (fun _ _ _ h => h) (Or.inr ⟨by rfl, rfl⟩) (by assumption) ?_
    (try simp only [Act.put, List.setIfInBounds_toArray, List.set_cons_zero, List.set_cons_succ])
    refine wpAnyH_take (i := 23) (oi := ⟨some 195, _, _, _, _, _⟩) (v := undef) rfl (by kernel_rfl) (by kernel_rfl) (by kernel_rfl) (fun _ _ _ h => h) (Or.inr ⟨by rfl, rfl⟩) (by assumption) ?_
    (try simp only [Act.put, List.setIfInBounds_toArray, List.set_cons_zero, List.set_cons_succ])
    refine wpAnyH_take (i := 24) (oi := ⟨some 196, _, _, _, _, _⟩) (v := .bool true) rfl (by kernel_rfl) (by kernel_rfl) (by kernel_rfl) (fun _ _ _ h => h) (Or.inl ⟨by rfl, ?y24e⟩) (by assumption) ?r24e
    case y24e => (intro w hSw; (try dsimp only at hSw); (try go_split_ands); go_simp)
    case r24e =>
    (try simp only [Act.put, List.setIfInBounds_toArray, List.set_cons_zero, List.set_cons_succ])
    refine wpAnyH_done (by kernel_rfl) ?_ _

    go_wp2_with fail
    refine bodyPost_ret (v := .bool false) (by simp [results, Try.results24, go_sem, *]) rfl (.inr ⟨HNO.out, rfl, HBV.out.trans (hHeld.1.mono hsv)⟩)

  by_cases hpn : (2 : Int) ≤ (pendN 3 m.zs : Int)
  case pos =>
    have HNO : Hid (∀ m1, ¬ Deed hosts m c i hi m1) := Lib.hid (fun m1 hd => by cases hd <;> first | omega | contradiction)
    clear h hkd hz hp hin
    go_enter Try.func24, Try.ntmps24
    go_upto_region 20 with fail
    have hP : Whl ((w.alloc (.cells #[.int .i64 3, .int .i64 c.zo, .int .i64 c.ep, .int .i64 c.mv, .string c.ky] 42)).alloc (.cells #[.int .i64 z.id, .string z.fr, .string z.tt, .int .i64 z.ow, .int .i64 z.ep, .int .i64 0, .int .i64 z.mv, .string z.ky, .int .i64 z.nw] 37)) w.heap.size 42 #[.int .i64 3, .int .i64 c.zo, .int .i64 c.ep, .int .i64 c.mv, .string c.ky] := (Whl.new rfl).alloc _
    have hF : Whl ((w.alloc (.cells #[.int .i64 3, .int .i64 c.zo, .int .i64 c.ep, .int .i64 c.mv, .string c.ky] 42)).alloc (.cells #[.int .i64 z.id, .string z.fr, .string z.tt, .int .i64 z.ow, .int .i64 z.ep, .int .i64 0, .int .i64 z.mv, .string z.ky, .int .i64 z.nw] 37)) (w.heap.size + 1) 37 #[.int .i64 z.id, .string z.fr, .string z.tt, .int .i64 z.ow, .int .i64 z.ep, .int .i64 0, .int .i64 z.mv, .string z.ky, .int .i64 z.nw] := Whl.new (by simp)
    have HBV : Hid (Below w.heap.size w ((w.alloc (.cells #[.int .i64 3, .int .i64 c.zo, .int .i64 c.ep, .int .i64 c.mv, .string c.ky] 42)).alloc (.cells #[.int .i64 z.id, .string z.fr, .string z.tt, .int .i64 z.ow, .int .i64 z.ep, .int .i64 0, .int .i64 z.mv, .string z.ky, .int .i64 z.nw] 37))) := Lib.hid (((Below.refl _ _).alloc (Nat.le_refl _) _).alloc (by simp) _)
    have HDV := Lib.hid (HD.out.below HBV.out)
    have p3 := hP.cell 3
    have f3 := hF.cell 3
    have f5 := hF.cell 5
    have k3 := HDV.out.blk.cell 3
    simp only [List.getElem?_toArray, List.getElem?_cons_succ, List.getElem?_cons_zero] at p3 f3 f5 k3
    have hsv : w.heap.size ≤ ((w.alloc (.cells #[.int .i64 3, .int .i64 c.zo, .int .i64 c.ep, .int .i64 c.mv, .string c.ky] 42)).alloc (.cells #[.int .i64 z.id, .string z.fr, .string z.tt, .int .i64 z.ow, .int .i64 z.ep, .int .i64 0, .int .i64 z.mv, .string z.ky, .int .i64 z.nw] 37)).heap.size := by simp; omega
    have hsd : w.heap.size + 1 < ((w.alloc (.cells #[.int .i64 3, .int .i64 c.zo, .int .i64 c.ep, .int .i64 c.mv, .string c.ky] 42)).alloc (.cells #[.int .i64 z.id, .string z.fr, .string z.tt, .int .i64 z.ow, .int .i64 z.ep, .int .i64 0, .int .i64 z.mv, .string z.ky, .int .i64 z.nw] 37)).heap.size := by simp
    clear hP hF l2 l3 v0 v1 v2 v3 v4 v5 v6 v7 v8
    generalize ((w.alloc (.cells #[.int .i64 3, .int .i64 c.zo, .int .i64 c.ep, .int .i64 c.mv, .string c.ky] 42)).alloc (.cells #[.int .i64 z.id, .string z.fr, .string z.tt, .int .i64 z.ow, .int .i64 z.ep, .int .i64 0, .int .i64 z.mv, .string z.ky, .int .i64 z.nw] 37)) = V at *
    refine wp_region_held_drew (S := (fun W => Below V.heap.size V W ∧ W.cell? ⟨w.heap.size + 1, 5, none⟩ = some (.int .i64 0) ∧ W.cell? ⟨w.heap.size + 1, 3, none⟩ = some (.int .i64 z.ow) ∧ W.cell? ⟨d, 3, none⟩ = some hv ∧ W.cell? ⟨w.heap.size, 3, none⟩ = some (.int .i64 c.mv))) (by kernel_rfl) ⟨(Below.refl _ _).drew, f5, f3, k3, p3⟩ (fun hHeld => ?_)
    refine wpAnyH_take (i := 0) (oi := ⟨some 172, _, _, _, _, _⟩) (v := ?v0f) rfl (by kernel_rfl) (by kernel_rfl) (by kernel_rfl) (fun _ _ _ h => h) (Or.inl ⟨by rfl, ?y0f⟩) (by assumption) ?r0f
    case y0f => (intro w hSw; (try dsimp only at hSw); (try go_split_ands); go_simp); (try with_reducible rfl)
    case r0f =>
    (try simp only [Act.put, List.setIfInBounds_toArray, List.set_cons_zero, List.set_cons_succ])
    refine wpAnyH_take (i := 1) (oi := ⟨some 173, _, _, _, _, _⟩) (v := ?v1f) rfl (by kernel_rfl) (by kernel_rfl) (by kernel_rfl) (fun _ _ _ h => h) (Or.inl ⟨by rfl, ?y1f⟩) (by assumption) ?r1f
    case y1f => (intro w hSw; (try dsimp only at hSw); (try go_split_ands); go_simp); (try with_reducible rfl)
    case r1f =>
    (try simp only [Act.put, List.setIfInBounds_toArray, List.set_cons_zero, List.set_cons_succ])
    refine wpAnyH_take (i := 2) (oi := ⟨some 174, _, _, _, _, _⟩) (v := .bool false) rfl (by kernel_rfl) (by kernel_rfl) (by kernel_rfl) (fun _ _ _ h => h) (Or.inl ⟨by rfl, ?y2f⟩) (by assumption) ?r2f
    case y2f => (intro w hSw; (try dsimp only at hSw); (try go_split_ands); go_simp)
    case r2f =>
    (try simp only [Act.put, List.setIfInBounds_toArray, List.set_cons_zero, List.set_cons_succ])
    refine wpAnyH_take (i := 3) (oi := ⟨some 175, _, _, _, _, _⟩) (v := .bool false) rfl (by kernel_rfl) (by kernel_rfl) (by kernel_rfl) (fun _ _ _ h => h) (Or.inl ⟨by rfl, ?y3f⟩) (by assumption) ?r3f
    case y3f => (intro w hSw; (try dsimp only at hSw); (try go_split_ands); go_simp)
    case r3f =>
    (try simp only [Act.put, List.setIfInBounds_toArray, List.set_cons_zero, List.set_cons_succ])
    refine wpAnyH_take (i := 4) (oi := ⟨some 176, _, _, _, _, _⟩) (v := ?v4f) rfl (by kernel_rfl) (by kernel_rfl) (by kernel_rfl) (fun _ _ _ h => h) (Or.inl ⟨by rfl, ?y4f⟩) (by assumption) ?r4f
    case y4f => (intro w hSw; (try dsimp only at hSw); (try go_split_ands); go_simp); (try with_reducible rfl)
    case r4f =>
    (try simp only [Act.put, List.setIfInBounds_toArray, List.set_cons_zero, List.set_cons_succ])
    refine wpAnyH_take (i := 5) (oi := ⟨some 177, _, _, _, _, _⟩) (v := ?v5f) rfl (by kernel_rfl) (by kernel_rfl) (by kernel_rfl) (fun _ _ _ h => h) (Or.inl ⟨by rfl, ?y5f⟩) (by assumption) ?r5f
    case y5f => (intro w hSw; (try dsimp only at hSw); (try go_split_ands); go_simp); (try with_reducible rfl)
    case r5f =>
    (try simp only [Act.put, List.setIfInBounds_toArray, List.set_cons_zero, List.set_cons_succ])
    refine wpAnyH_take (i := 6) (oi := ⟨some 178, _, _, _, _, _⟩) (v := ?v6f) rfl (by kernel_rfl) (by kernel_rfl) (by kernel_rfl) (fun _ _ _ h => h) (Or.inl ⟨by rfl, ?y6f⟩) (by assumption) ?r6f
    case y6f => (intro w hSw; (try dsimp only at hSw); (try go_split_ands); go_simp); (try with_reducible rfl)
    case r6f =>
    (try simp only [Act.put, List.setIfInBounds_toArray, List.set_cons_zero, List.set_cons_succ])
    refine wpAnyH_take (i := 7) (oi := ⟨some 179, _, _, _, _, _⟩) (v := ?v7f) rfl (by kernel_rfl) (by kernel_rfl) (by kernel_rfl) (fun _ _ _ h => h) (Or.inl ⟨by rfl, ?y7f⟩) (by assumption) ?r7f
    case y7f => (intro w hSw; (try dsimp only at hSw); (try go_split_ands); go_simp); (try with_reducible rfl)
    case r7f =>
    (try simp only [Act.put, List.setIfInBounds_toArray, List.set_cons_zero, List.set_cons_succ])
    refine wpAnyH_take (i := 8) (oi := ⟨some 180, _, _, _, _, _⟩) (v := ?v8f) rfl (by kernel_rfl) (by kernel_rfl) (by kernel_rfl) (fun _ _ _ h => h) (Or.inl ⟨by rfl, ?y8f⟩) (by assumption) ?r8f
    case y8f => (intro w hSw; (try dsimp only at hSw); (try go_split_ands); go_simp); (try with_reducible rfl)
    case r8f =>
    (try simp only [Act.put, List.setIfInBounds_toArray, List.set_cons_zero, List.set_cons_succ])
    refine wpAnyH_take (i := 9) (oi := ⟨some 181, _, _, _, _, _⟩) (v := ?v9f) rfl (by kernel_rfl) (by kernel_rfl) (by kernel_rfl) (fun _ _ _ h => h) (Or.inl ⟨by rfl, ?y9f⟩) (by assumption) ?r9f
    case y9f => (intro w hSw; (try dsimp only at hSw); (try go_split_ands); go_simp); (try with_reducible rfl)
    case r9f =>
    (try simp only [Act.put, List.setIfInBounds_toArray, List.set_cons_zero, List.set_cons_succ])
    refine wpAnyH_ready (rs := [10]) (by kernel_rfl) (by simp) ?_
    refine AllReadyH.cons (o := ⟨some 182, _, _, _, _, _⟩) rfl (fun K hK => ?_) AllReadyH.nil
    go_simp
    refine (rdIn B hv hosts c.mv _ (HDV.out.below hHeld.1).hrow hlh).mono ?_; rintro e w3 ⟨he, hb3⟩; rw [HHAS.out] at he; subst he
    go_wp2_with fail
    refine hK.out _ _ (by have hh := Below.trans hHeld.1 (Below.mono hb3 (Below.size hHeld.1)); exact ⟨hh, bkeep hh f5 (by omega), bkeep hh f3 (by omega), bkeep hh k3 (by omega), bkeep hh p3 (by omega)⟩) (fun hHeld => ?_)
    clear hK K
    (try simp only [Act.put, List.setIfInBounds_toArray, List.set_cons_zero, List.set_cons_succ])
    refine wpAnyH_take (i := 11) (oi := ⟨some 183, _, _, _, _, _⟩) (v := .bool false) rfl (by kernel_rfl) (by kernel_rfl) (by kernel_rfl) (fun _ _ _ h => h) (Or.inl ⟨by rfl, ?y11f⟩) (by assumption) ?r11f
    case y11f => (intro w hSw; (try dsimp only at hSw); (try go_split_ands); go_simp)
    case r11f =>
    (try simp only [Act.put, List.setIfInBounds_toArray, List.set_cons_zero, List.set_cons_succ])
    refine wpAnyH_take (i := 12) (oi := ⟨some 184, _, _, _, _, _⟩) (v := .bool false) rfl (by kernel_rfl) (by kernel_rfl) (by kernel_rfl) (fun _ _ _ h => h) (Or.inl ⟨by rfl, ?y12f⟩) (by assumption) ?r12f
    case y12f => (intro w hSw; (try dsimp only at hSw); (try go_split_ands); go_simp)
    case r12f =>
    (try simp only [Act.put, List.setIfInBounds_toArray, List.set_cons_zero, List.set_cons_succ])
    refine wpAnyH_take (i := 13) (oi := ⟨some 185, _, _, _, _, _⟩) (v := .bool false) rfl (by kernel_rfl) (by kernel_rfl) (by kernel_rfl) (fun _ _ _ h => h) (Or.inl ⟨by rfl, ?y13f⟩) (by assumption) ?r13f
    case y13f => (intro w hSw; (try dsimp only at hSw); (try go_split_ands); go_simp)
    case r13f =>
    (try simp only [Act.put, List.setIfInBounds_toArray, List.set_cons_zero, List.set_cons_succ])
    refine wpAnyH_take (i := 14) (oi := ⟨some 186, _, _, _, _, _⟩) (v := ?v14f) rfl (by kernel_rfl) (by kernel_rfl) (by kernel_rfl) (fun _ _ _ h => h) (Or.inl ⟨by rfl, ?y14f⟩) (by assumption) ?r14f
    case y14f => (intro w hSw; (try dsimp only at hSw); (try go_split_ands); go_simp); (try with_reducible rfl)
    case r14f =>
    (try simp only [Act.put, List.setIfInBounds_toArray, List.set_cons_zero, List.set_cons_succ])
    refine wpAnyH_take (i := 15) (oi := ⟨some 187, _, _, _, _, _⟩) (v := ?v15f) rfl (by kernel_rfl) (by kernel_rfl) (by kernel_rfl) (fun _ _ _ h => h) (Or.inl ⟨by rfl, ?y15f⟩) (by assumption) ?r15f
    case y15f => (intro w hSw; (try dsimp only at hSw); (try go_split_ands); go_simp); (try with_reducible rfl)
    case r15f =>
    (try simp only [Act.put, List.setIfInBounds_toArray, List.set_cons_zero, List.set_cons_succ])
    refine wpAnyH_take (i := 16) (oi := ⟨some 188, _, _, _, _, _⟩) (v := ?v16f) rfl (by kernel_rfl) (by kernel_rfl) (by kernel_rfl) (fun _ _ _ h => h) (Or.inl ⟨by rfl, ?y16f⟩) (by assumption) ?r16f
    case y16f => (intro w hSw; (try dsimp only at hSw); (try go_split_ands); go_simp); (try with_reducible rfl)
    case r16f =>
    (try simp only [Act.put, List.setIfInBounds_toArray, List.set_cons_zero, List.set_cons_succ])
    refine wpAnyH_take (i := 17) (oi := ⟨some 189, _, _, _, _, _⟩) (v := ?v17f) rfl (by kernel_rfl) (by kernel_rfl) (by kernel_rfl) (fun _ _ _ h => h) (Or.inl ⟨by rfl, ?y17f⟩) (by assumption) ?r17f
    case y17f => (intro w hSw; (try dsimp only at hSw); (try go_split_ands); go_simp); (try with_reducible rfl)
    case r17f =>
    (try simp only [Act.put, List.setIfInBounds_toArray, List.set_cons_zero, List.set_cons_succ])
    refine wpAnyH_take (i := 18) (oi := ⟨some 190, _, _, _, _, _⟩) (v := .bool false) rfl (by kernel_rfl) (by kernel_rfl) (by kernel_rfl) (fun _ _ _ h => h) (Or.inl ⟨by rfl, ?y18f⟩) (by assumption) ?r18f
    case y18f => (intro w hSw; (try dsimp only at hSw); (try go_split_ands); go_simp)
    case r18f =>
    (try simp only [Act.put, List.setIfInBounds_toArray, List.set_cons_zero, List.set_cons_succ])
    refine wpAnyH_take (i := 19) (oi := ⟨some 191, _, _, _, _, _⟩) (v := .bool false) rfl (by kernel_rfl) (by kernel_rfl) (by kernel_rfl) (fun _ _ _ h => h) (Or.inl ⟨by rfl, ?y19f⟩) (by assumption) ?r19f
    case y19f => (intro w hSw; (try dsimp only at hSw); (try go_split_ands); go_simp)
    case r19f =>
    (try simp only [Act.put, List.setIfInBounds_toArray, List.set_cons_zero, List.set_cons_succ])
    refine wpAnyH_take (i := 20) (oi := ⟨some 192, _, _, _, _, _⟩) (v := .bool false) rfl (by kernel_rfl) (by kernel_rfl) (by kernel_rfl) (fun _ _ _ h => h) (Or.inl ⟨by rfl, ?y20f⟩) (by assumption) ?r20f
    case y20f => (intro w hSw; (try dsimp only at hSw); (try go_split_ands); go_simp)
    case r20f =>
    (try simp only [Act.put, List.setIfInBounds_toArray, List.set_cons_zero, List.set_cons_succ])
    refine wpAnyH_take (i := 21) (oi := ⟨some 193, _, _, _, _, _⟩) (v := ?v21f) rfl (by kernel_rfl) (by kernel_rfl) (by kernel_rfl) (fun _ _ _ h => h) (Or.inl ⟨by rfl, ?y21f⟩) (by assumption) ?r21f
    case y21f => (intro w hSw; (try dsimp only at hSw); (try go_split_ands); go_simp); (try with_reducible rfl)
    case r21f =>
    (try simp only [Act.put, List.setIfInBounds_toArray, List.set_cons_zero, List.set_cons_succ])
    refine wpAnyH_ready (rs := [22]) (by kernel_rfl) (by simp) ?_
    refine AllReadyH.cons (o := ⟨some 194, _, _, _, _, _⟩) rfl (fun K hK => ?_) AllReadyH.nil
    go_simp
    refine (rdPending B d hv _ hosts m 3 _ (HDV.out.below hHeld.1) hl).mono ?_; rintro e w5 ⟨rfl, hb3⟩
    go_wp2_with fail
    refine hK.out _ _ (by have hh := Below.trans hHeld.1 (Below.mono hb3 (Below.size hHeld.1)); exact ⟨hh, bkeep hh f5 (by omega), bkeep hh f3 (by omega), bkeep hh k3 (by omega), bkeep hh p3 (by omega)⟩) (fun hHeld => ?_)
    clear hK K
    (try simp only [Act.put, List.setIfInBounds_toArray, List.set_cons_zero, List.set_cons_succ])
    refine wpAnyH_take (i := 23) (oi := ⟨some 195, _, _, _, _, _⟩) (v := .bool true) rfl (by kernel_rfl) (by kernel_rfl) (by kernel_rfl) (fun _ _ _ h => h) (Or.inl ⟨by rfl, ?y23f⟩) (by assumption) ?r23f
    case y23f => (intro w hSw; (try dsimp only at hSw); (try go_split_ands); go_simp)
    case r23f =>
    (try simp only [Act.put, List.setIfInBounds_toArray, List.set_cons_zero, List.set_cons_succ])
    refine wpAnyH_take (i := 24) (oi := ⟨some 196, _, _, _, _, _⟩) (v := .bool true) rfl (by kernel_rfl) (by kernel_rfl) (by kernel_rfl) (fun _ _ _ h => h) (Or.inl ⟨by rfl, ?y24f⟩) (by assumption) ?r24f
    case y24f => (intro w hSw; (try dsimp only at hSw); (try go_split_ands); go_simp)
    case r24f =>
    (try simp only [Act.put, List.setIfInBounds_toArray, List.set_cons_zero, List.set_cons_succ])
    refine wpAnyH_done (by kernel_rfl) ?_ _

    go_wp2_with fail
    refine bodyPost_ret (v := .bool false) (by simp [results, Try.results24, go_sem, *]) rfl (.inr ⟨HNO.out, rfl, HBV.out.trans (hHeld.1.mono hsv)⟩)

  have HDEED : Hid (Deed hosts m c i hi ⟨m.ver, m.nxt, m.zs.set i { m.zs[i] with pd := 3, mv := c.mv }⟩) := Lib.hid (by
    rw [hz] at how
    exact Deed.move hkd HP.out hin how (by omega))
  clear h hkd hz hp hin
  go_enter Try.func24, Try.ntmps24
  go_upto_region 20 with fail
  have hP : Whl ((w.alloc (.cells #[.int .i64 3, .int .i64 c.zo, .int .i64 c.ep, .int .i64 c.mv, .string c.ky] 42)).alloc (.cells #[.int .i64 z.id, .string z.fr, .string z.tt, .int .i64 z.ow, .int .i64 z.ep, .int .i64 0, .int .i64 z.mv, .string z.ky, .int .i64 z.nw] 37)) w.heap.size 42 #[.int .i64 3, .int .i64 c.zo, .int .i64 c.ep, .int .i64 c.mv, .string c.ky] := (Whl.new rfl).alloc _
  have hF : Whl ((w.alloc (.cells #[.int .i64 3, .int .i64 c.zo, .int .i64 c.ep, .int .i64 c.mv, .string c.ky] 42)).alloc (.cells #[.int .i64 z.id, .string z.fr, .string z.tt, .int .i64 z.ow, .int .i64 z.ep, .int .i64 0, .int .i64 z.mv, .string z.ky, .int .i64 z.nw] 37)) (w.heap.size + 1) 37 #[.int .i64 z.id, .string z.fr, .string z.tt, .int .i64 z.ow, .int .i64 z.ep, .int .i64 0, .int .i64 z.mv, .string z.ky, .int .i64 z.nw] := Whl.new (by simp)
  have HBV : Hid (Below w.heap.size w ((w.alloc (.cells #[.int .i64 3, .int .i64 c.zo, .int .i64 c.ep, .int .i64 c.mv, .string c.ky] 42)).alloc (.cells #[.int .i64 z.id, .string z.fr, .string z.tt, .int .i64 z.ow, .int .i64 z.ep, .int .i64 0, .int .i64 z.mv, .string z.ky, .int .i64 z.nw] 37))) := Lib.hid (((Below.refl _ _).alloc (Nat.le_refl _) _).alloc (by simp) _)
  have HDV := Lib.hid (HD.out.below HBV.out)
  have p3 := hP.cell 3
  have f3 := hF.cell 3
  have f5 := hF.cell 5
  have k3 := HDV.out.blk.cell 3
  simp only [List.getElem?_toArray, List.getElem?_cons_succ, List.getElem?_cons_zero] at p3 f3 f5 k3
  have hsv : w.heap.size ≤ ((w.alloc (.cells #[.int .i64 3, .int .i64 c.zo, .int .i64 c.ep, .int .i64 c.mv, .string c.ky] 42)).alloc (.cells #[.int .i64 z.id, .string z.fr, .string z.tt, .int .i64 z.ow, .int .i64 z.ep, .int .i64 0, .int .i64 z.mv, .string z.ky, .int .i64 z.nw] 37)).heap.size := by simp; omega
  have hsd : w.heap.size + 1 < ((w.alloc (.cells #[.int .i64 3, .int .i64 c.zo, .int .i64 c.ep, .int .i64 c.mv, .string c.ky] 42)).alloc (.cells #[.int .i64 z.id, .string z.fr, .string z.tt, .int .i64 z.ow, .int .i64 z.ep, .int .i64 0, .int .i64 z.mv, .string z.ky, .int .i64 z.nw] 37)).heap.size := by simp
  clear hP hF l2 l3 v0 v1 v2 v3 v4 v5 v6 v7 v8
  generalize ((w.alloc (.cells #[.int .i64 3, .int .i64 c.zo, .int .i64 c.ep, .int .i64 c.mv, .string c.ky] 42)).alloc (.cells #[.int .i64 z.id, .string z.fr, .string z.tt, .int .i64 z.ow, .int .i64 z.ep, .int .i64 0, .int .i64 z.mv, .string z.ky, .int .i64 z.nw] 37)) = V at *
  refine wp_region_held_drew (S := (fun W => Below V.heap.size V W ∧ W.cell? ⟨w.heap.size + 1, 5, none⟩ = some (.int .i64 0) ∧ W.cell? ⟨w.heap.size + 1, 3, none⟩ = some (.int .i64 z.ow) ∧ W.cell? ⟨d, 3, none⟩ = some hv ∧ W.cell? ⟨w.heap.size, 3, none⟩ = some (.int .i64 c.mv))) (by kernel_rfl) ⟨(Below.refl _ _).drew, f5, f3, k3, p3⟩ (fun hHeld => ?_)
  refine wpAnyH_take (i := 0) (oi := ⟨some 172, _, _, _, _, _⟩) (v := ?v0h) rfl (by kernel_rfl) (by kernel_rfl) (by kernel_rfl) (fun _ _ _ h => h) (Or.inl ⟨by rfl, ?y0h⟩) (by assumption) ?r0h
  case y0h => (intro w hSw; (try dsimp only at hSw); (try go_split_ands); go_simp); (try with_reducible rfl)
  case r0h =>
  (try simp only [Act.put, List.setIfInBounds_toArray, List.set_cons_zero, List.set_cons_succ])
  refine wpAnyH_take (i := 1) (oi := ⟨some 173, _, _, _, _, _⟩) (v := ?v1h) rfl (by kernel_rfl) (by kernel_rfl) (by kernel_rfl) (fun _ _ _ h => h) (Or.inl ⟨by rfl, ?y1h⟩) (by assumption) ?r1h
  case y1h => (intro w hSw; (try dsimp only at hSw); (try go_split_ands); go_simp); (try with_reducible rfl)
  case r1h =>
  (try simp only [Act.put, List.setIfInBounds_toArray, List.set_cons_zero, List.set_cons_succ])
  refine wpAnyH_take (i := 2) (oi := ⟨some 174, _, _, _, _, _⟩) (v := .bool false) rfl (by kernel_rfl) (by kernel_rfl) (by kernel_rfl) (fun _ _ _ h => h) (Or.inl ⟨by rfl, ?y2h⟩) (by assumption) ?r2h
  case y2h => (intro w hSw; (try dsimp only at hSw); (try go_split_ands); go_simp)
  case r2h =>
  (try simp only [Act.put, List.setIfInBounds_toArray, List.set_cons_zero, List.set_cons_succ])
  refine wpAnyH_take (i := 3) (oi := ⟨some 175, _, _, _, _, _⟩) (v := .bool false) rfl (by kernel_rfl) (by kernel_rfl) (by kernel_rfl) (fun _ _ _ h => h) (Or.inl ⟨by rfl, ?y3h⟩) (by assumption) ?r3h
  case y3h => (intro w hSw; (try dsimp only at hSw); (try go_split_ands); go_simp)
  case r3h =>
  (try simp only [Act.put, List.setIfInBounds_toArray, List.set_cons_zero, List.set_cons_succ])
  refine wpAnyH_take (i := 4) (oi := ⟨some 176, _, _, _, _, _⟩) (v := ?v4h) rfl (by kernel_rfl) (by kernel_rfl) (by kernel_rfl) (fun _ _ _ h => h) (Or.inl ⟨by rfl, ?y4h⟩) (by assumption) ?r4h
  case y4h => (intro w hSw; (try dsimp only at hSw); (try go_split_ands); go_simp); (try with_reducible rfl)
  case r4h =>
  (try simp only [Act.put, List.setIfInBounds_toArray, List.set_cons_zero, List.set_cons_succ])
  refine wpAnyH_take (i := 5) (oi := ⟨some 177, _, _, _, _, _⟩) (v := ?v5h) rfl (by kernel_rfl) (by kernel_rfl) (by kernel_rfl) (fun _ _ _ h => h) (Or.inl ⟨by rfl, ?y5h⟩) (by assumption) ?r5h
  case y5h => (intro w hSw; (try dsimp only at hSw); (try go_split_ands); go_simp); (try with_reducible rfl)
  case r5h =>
  (try simp only [Act.put, List.setIfInBounds_toArray, List.set_cons_zero, List.set_cons_succ])
  refine wpAnyH_take (i := 6) (oi := ⟨some 178, _, _, _, _, _⟩) (v := ?v6h) rfl (by kernel_rfl) (by kernel_rfl) (by kernel_rfl) (fun _ _ _ h => h) (Or.inl ⟨by rfl, ?y6h⟩) (by assumption) ?r6h
  case y6h => (intro w hSw; (try dsimp only at hSw); (try go_split_ands); go_simp); (try with_reducible rfl)
  case r6h =>
  (try simp only [Act.put, List.setIfInBounds_toArray, List.set_cons_zero, List.set_cons_succ])
  refine wpAnyH_take (i := 7) (oi := ⟨some 179, _, _, _, _, _⟩) (v := ?v7h) rfl (by kernel_rfl) (by kernel_rfl) (by kernel_rfl) (fun _ _ _ h => h) (Or.inl ⟨by rfl, ?y7h⟩) (by assumption) ?r7h
  case y7h => (intro w hSw; (try dsimp only at hSw); (try go_split_ands); go_simp); (try with_reducible rfl)
  case r7h =>
  (try simp only [Act.put, List.setIfInBounds_toArray, List.set_cons_zero, List.set_cons_succ])
  refine wpAnyH_take (i := 8) (oi := ⟨some 180, _, _, _, _, _⟩) (v := ?v8h) rfl (by kernel_rfl) (by kernel_rfl) (by kernel_rfl) (fun _ _ _ h => h) (Or.inl ⟨by rfl, ?y8h⟩) (by assumption) ?r8h
  case y8h => (intro w hSw; (try dsimp only at hSw); (try go_split_ands); go_simp); (try with_reducible rfl)
  case r8h =>
  (try simp only [Act.put, List.setIfInBounds_toArray, List.set_cons_zero, List.set_cons_succ])
  refine wpAnyH_take (i := 9) (oi := ⟨some 181, _, _, _, _, _⟩) (v := ?v9h) rfl (by kernel_rfl) (by kernel_rfl) (by kernel_rfl) (fun _ _ _ h => h) (Or.inl ⟨by rfl, ?y9h⟩) (by assumption) ?r9h
  case y9h => (intro w hSw; (try dsimp only at hSw); (try go_split_ands); go_simp); (try with_reducible rfl)
  case r9h =>
  (try simp only [Act.put, List.setIfInBounds_toArray, List.set_cons_zero, List.set_cons_succ])
  refine wpAnyH_ready (rs := [10]) (by kernel_rfl) (by simp) ?_
  refine AllReadyH.cons (o := ⟨some 182, _, _, _, _, _⟩) rfl (fun K hK => ?_) AllReadyH.nil
  go_simp
  refine (rdIn B hv hosts c.mv _ (HDV.out.below hHeld.1).hrow hlh).mono ?_; rintro e w3 ⟨he, hb3⟩; rw [HHAS.out] at he; subst he
  go_wp2_with fail
  refine hK.out _ _ (by have hh := Below.trans hHeld.1 (Below.mono hb3 (Below.size hHeld.1)); exact ⟨hh, bkeep hh f5 (by omega), bkeep hh f3 (by omega), bkeep hh k3 (by omega), bkeep hh p3 (by omega)⟩) (fun hHeld => ?_)
  clear hK K
  (try simp only [Act.put, List.setIfInBounds_toArray, List.set_cons_zero, List.set_cons_succ])
  refine wpAnyH_take (i := 11) (oi := ⟨some 183, _, _, _, _, _⟩) (v := .bool false) rfl (by kernel_rfl) (by kernel_rfl) (by kernel_rfl) (fun _ _ _ h => h) (Or.inl ⟨by rfl, ?y11h⟩) (by assumption) ?r11h
  case y11h => (intro w hSw; (try dsimp only at hSw); (try go_split_ands); go_simp)
  case r11h =>
  (try simp only [Act.put, List.setIfInBounds_toArray, List.set_cons_zero, List.set_cons_succ])
  refine wpAnyH_take (i := 12) (oi := ⟨some 184, _, _, _, _, _⟩) (v := .bool false) rfl (by kernel_rfl) (by kernel_rfl) (by kernel_rfl) (fun _ _ _ h => h) (Or.inl ⟨by rfl, ?y12h⟩) (by assumption) ?r12h
  case y12h => (intro w hSw; (try dsimp only at hSw); (try go_split_ands); go_simp)
  case r12h =>
  (try simp only [Act.put, List.setIfInBounds_toArray, List.set_cons_zero, List.set_cons_succ])
  refine wpAnyH_take (i := 13) (oi := ⟨some 185, _, _, _, _, _⟩) (v := .bool false) rfl (by kernel_rfl) (by kernel_rfl) (by kernel_rfl) (fun _ _ _ h => h) (Or.inl ⟨by rfl, ?y13h⟩) (by assumption) ?r13h
  case y13h => (intro w hSw; (try dsimp only at hSw); (try go_split_ands); go_simp)
  case r13h =>
  (try simp only [Act.put, List.setIfInBounds_toArray, List.set_cons_zero, List.set_cons_succ])
  refine wpAnyH_take (i := 14) (oi := ⟨some 186, _, _, _, _, _⟩) (v := ?v14h) rfl (by kernel_rfl) (by kernel_rfl) (by kernel_rfl) (fun _ _ _ h => h) (Or.inl ⟨by rfl, ?y14h⟩) (by assumption) ?r14h
  case y14h => (intro w hSw; (try dsimp only at hSw); (try go_split_ands); go_simp); (try with_reducible rfl)
  case r14h =>
  (try simp only [Act.put, List.setIfInBounds_toArray, List.set_cons_zero, List.set_cons_succ])
  refine wpAnyH_take (i := 15) (oi := ⟨some 187, _, _, _, _, _⟩) (v := ?v15h) rfl (by kernel_rfl) (by kernel_rfl) (by kernel_rfl) (fun _ _ _ h => h) (Or.inl ⟨by rfl, ?y15h⟩) (by assumption) ?r15h
  case y15h => (intro w hSw; (try dsimp only at hSw); (try go_split_ands); go_simp); (try with_reducible rfl)
  case r15h =>
  (try simp only [Act.put, List.setIfInBounds_toArray, List.set_cons_zero, List.set_cons_succ])
  refine wpAnyH_take (i := 16) (oi := ⟨some 188, _, _, _, _, _⟩) (v := ?v16h) rfl (by kernel_rfl) (by kernel_rfl) (by kernel_rfl) (fun _ _ _ h => h) (Or.inl ⟨by rfl, ?y16h⟩) (by assumption) ?r16h
  case y16h => (intro w hSw; (try dsimp only at hSw); (try go_split_ands); go_simp); (try with_reducible rfl)
  case r16h =>
  (try simp only [Act.put, List.setIfInBounds_toArray, List.set_cons_zero, List.set_cons_succ])
  refine wpAnyH_take (i := 17) (oi := ⟨some 189, _, _, _, _, _⟩) (v := ?v17h) rfl (by kernel_rfl) (by kernel_rfl) (by kernel_rfl) (fun _ _ _ h => h) (Or.inl ⟨by rfl, ?y17h⟩) (by assumption) ?r17h
  case y17h => (intro w hSw; (try dsimp only at hSw); (try go_split_ands); go_simp); (try with_reducible rfl)
  case r17h =>
  (try simp only [Act.put, List.setIfInBounds_toArray, List.set_cons_zero, List.set_cons_succ])
  refine wpAnyH_take (i := 18) (oi := ⟨some 190, _, _, _, _, _⟩) (v := .bool false) rfl (by kernel_rfl) (by kernel_rfl) (by kernel_rfl) (fun _ _ _ h => h) (Or.inl ⟨by rfl, ?y18h⟩) (by assumption) ?r18h
  case y18h => (intro w hSw; (try dsimp only at hSw); (try go_split_ands); go_simp)
  case r18h =>
  (try simp only [Act.put, List.setIfInBounds_toArray, List.set_cons_zero, List.set_cons_succ])
  refine wpAnyH_take (i := 19) (oi := ⟨some 191, _, _, _, _, _⟩) (v := .bool false) rfl (by kernel_rfl) (by kernel_rfl) (by kernel_rfl) (fun _ _ _ h => h) (Or.inl ⟨by rfl, ?y19h⟩) (by assumption) ?r19h
  case y19h => (intro w hSw; (try dsimp only at hSw); (try go_split_ands); go_simp)
  case r19h =>
  (try simp only [Act.put, List.setIfInBounds_toArray, List.set_cons_zero, List.set_cons_succ])
  refine wpAnyH_take (i := 20) (oi := ⟨some 192, _, _, _, _, _⟩) (v := .bool false) rfl (by kernel_rfl) (by kernel_rfl) (by kernel_rfl) (fun _ _ _ h => h) (Or.inl ⟨by rfl, ?y20h⟩) (by assumption) ?r20h
  case y20h => (intro w hSw; (try dsimp only at hSw); (try go_split_ands); go_simp)
  case r20h =>
  (try simp only [Act.put, List.setIfInBounds_toArray, List.set_cons_zero, List.set_cons_succ])
  refine wpAnyH_take (i := 21) (oi := ⟨some 193, _, _, _, _, _⟩) (v := ?v21h) rfl (by kernel_rfl) (by kernel_rfl) (by kernel_rfl) (fun _ _ _ h => h) (Or.inl ⟨by rfl, ?y21h⟩) (by assumption) ?r21h
  case y21h => (intro w hSw; (try dsimp only at hSw); (try go_split_ands); go_simp); (try with_reducible rfl)
  case r21h =>
  (try simp only [Act.put, List.setIfInBounds_toArray, List.set_cons_zero, List.set_cons_succ])
  refine wpAnyH_ready (rs := [22]) (by kernel_rfl) (by simp) ?_
  refine AllReadyH.cons (o := ⟨some 194, _, _, _, _, _⟩) rfl (fun K hK => ?_) AllReadyH.nil
  go_simp
  refine (rdPending B d hv _ hosts m 3 _ (HDV.out.below hHeld.1) hl).mono ?_; rintro e w5 ⟨rfl, hb3⟩
  go_wp2_with fail
  refine hK.out _ _ (by have hh := Below.trans hHeld.1 (Below.mono hb3 (Below.size hHeld.1)); exact ⟨hh, bkeep hh f5 (by omega), bkeep hh f3 (by omega), bkeep hh k3 (by omega), bkeep hh p3 (by omega)⟩) (fun hHeld => ?_)
  clear hK K
  (try simp only [Act.put, List.setIfInBounds_toArray, List.set_cons_zero, List.set_cons_succ])
  refine wpAnyH_take (i := 23) (oi := ⟨some 195, _, _, _, _, _⟩) (v := .bool false) rfl (by kernel_rfl) (by kernel_rfl) (by kernel_rfl) (fun _ _ _ h => h) (Or.inl ⟨by rfl, ?y23h⟩) (by assumption) ?r23h
  case y23h => (intro w hSw; (try dsimp only at hSw); (try go_split_ands); go_simp)
  case r23h =>
  (try simp only [Act.put, List.setIfInBounds_toArray, List.set_cons_zero, List.set_cons_succ])
  refine wpAnyH_take (i := 24) (oi := ⟨some 196, _, _, _, _, _⟩) (v := .bool false) rfl (by kernel_rfl) (by kernel_rfl) (by kernel_rfl) (fun _ _ _ h => h) (Or.inl ⟨by rfl, ?y24h⟩) (by assumption) ?r24h
  case y24h => (intro w hSw; (try dsimp only at hSw); (try go_split_ands); go_simp)
  case r24h =>
  (try simp only [Act.put, List.setIfInBounds_toArray, List.set_cons_zero, List.set_cons_succ])
  refine wpAnyH_done (by kernel_rfl) ?_ _

  obtain ⟨hbw, u5, u3, m0, j3⟩ := hHeld
  have HD5 := Lib.hid (HDV.out.below hbw)
  obtain ⟨y0, y1, y2, y3, y4, y5, y6, y7, y8⟩ := rowZ_at HD5.out.row hi
  have uf := fun k => HD5.out.row.frozenAt k
  have HBW := Lib.hid (HBV.out.trans (hbw.mono hsv))
  have hs5 := hbw.size
  have hgz5 : w.heap.size ≠ gz := by omega
  clear hbw hb3 m0 f3 f5 k3 p3 u5 u3
  go_wp2_with fail
  go_region
  go_wp2_with fail
  have hS1 := HD5.out.setcell hi (k := 5) (by decide) (z := { m.zs[i] with pd := 3 }) (v := .int .i64 3) rfl
  have hS2 := hS1.setcell (j := i) (by simpa using hi) (k := 6) (by decide) (z := { m.zs[i] with pd := 3, mv := c.mv }) (v := .int .i64 c.mv) (by simp [znV])
  simp only [List.set_set] at hS2
  have t1 : Touch (fun k => k = gz) w5 (w5.setCell ⟨gz, i * 9 + 5, none⟩ (.int .i64 3)) := (Touch.refl _ _).set (fun _ => rfl)
  have t2 := t1.set (a := ⟨gz, i * 9 + 6, none⟩) (v := .int .i64 c.mv) (fun _ => rfl)
  have hdr : Touch (fun _ => False) ((w5.setCell ⟨gz, i * 9 + 5, none⟩ (.int .i64 3)).setCell ⟨gz, i * 9 + 6, none⟩ (.int .i64 c.mv)) ((w5.setCell ⟨gz, i * 9 + 5, none⟩ (.int .i64 3)).setCell ⟨gz, i * 9 + 6, none⟩ (.int .i64 c.mv)).drew := Touch.of_drew _ _
  refine bodyPost_ret (v := .bool true) (by simp [results, Try.results24, go_sem]) rfl (.inl ⟨_, _, HDEED.out, rfl, hS2.keep hdr (fun _ _ h => h), ((((Touch.of_below HBW.out).mono'' (fun k h1 h2 => by omega)).trans t2 (fun n _ h => .inr (by rw [h]; rfl))).trans hdr (fun _ _ h => h.elim)), fun k hk => .inl hk⟩)
end Go.Proofs.Ytepjehcmiofehaa
