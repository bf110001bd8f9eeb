/- BookPlays, BookApart: the walks. -/
import Derived.Test.YtekelnkjigaofaaBqY
namespace Go.Proofs.Ytekelnkjigaofaa
open Go.RowKit
set_option linter.unusedVariables false
set_option linter.unusedSimpArgs false

set_option maxHeartbeats 20000000 in
set_option maxRecDepth 10000 in
theorem walkBookPlays (A : Option Addr) (c : Nat) (xs : List Ba) (w : World) (hx : Cells w w.heap.size A xs.length c 8 (xs.flatMap baV)) :
    Calls Try.prog 3 #[.slice A xs.length c] w fun e w' => e = .returned (.bool true) ∧ Below w.heap.size w w' := by
  have HX := Lib.hid hx
  clear hx
  go_enter Try.func3, Try.ntmps3
  go_wp2_with (first
    | (go_at_call 10; go_loud (refine (lawPlayed A c xs _ HX.out).mono ?_; rintro e w1 ⟨b, x, v, L, last, u, rfl, hb, hr, ha, hw⟩; have HB := Lib.hid hb; have HR := Lib.hid hr; have HA := Lib.hid ha; have HW := Lib.hid hw; clear hb hr ha hw))
    | fail)
  obtain ⟨Ax, cx, hux, _, _, hCx⟩ := row_cells HR.out.row
  have l4 := HR.out.blk.cell 0
  simp only [List.getElem?_toArray, List.getElem?_cons_succ, List.getElem?_cons_zero] at l4
  rw [hux] at l4
  have hxF := HR.out.blk.low
  have HDW : Hid (Touch (fun _ => False) w1 w1.drew) := Lib.hid (Touch.of_drew _ _)
  clear hCx
  refine wp_region_held_drew (S := (fun W => W.cell? ⟨x, 0, none⟩ = some (.slice Ax L.length cx))) (by kernel_rfl) l4 (fun hHeld => ?_)
  refine wpAnyH_take (i := 0) (oi := ⟨some 12, _, _, _, _, _⟩) (v := ?v0z) rfl (by kernel_rfl) (by kernel_rfl) (by kernel_rfl) (fun _ _ _ h => h) (Or.inl ⟨by rfl, ?y0z⟩) (by assumption) ?r0z
  case y0z => (intro w hSw; (try dsimp only at hSw); (try go_split_ands); go_simp); (try with_reducible rfl)
  case r0z =>
  (try simp only [Act.put, List.setIfInBounds_toArray, List.set_cons_zero, List.set_cons_succ])
  refine wpAnyH_take (i := 1) (oi := ⟨some 13, _, _, _, _, _⟩) (v := .bool true) rfl (by kernel_rfl) (by kernel_rfl) (by kernel_rfl) (fun _ _ _ h => h) (Or.inl ⟨by rfl, ?y1z⟩) (by assumption) ?r1z
  case y1z => (intro w hSw; (try dsimp only at hSw); (try go_split_ands); go_simp)
  case r1z =>
  (try simp only [Act.put, List.setIfInBounds_toArray, List.set_cons_zero, List.set_cons_succ])
  refine wpAnyH_take (i := 2) (oi := ⟨some 14, _, _, _, _, _⟩) (v := ?v2z) rfl (by kernel_rfl) (by kernel_rfl) (by kernel_rfl) (fun _ _ _ h => h) (Or.inl ⟨by rfl, ?y2z⟩) (by assumption) ?r2z
  case y2z => (intro w hSw; (try dsimp only at hSw); (try go_split_ands); go_simp); (try with_reducible rfl)
  case r2z =>
  (try simp only [Act.put, List.setIfInBounds_toArray, List.set_cons_zero, List.set_cons_succ])
  refine wpAnyH_take (i := 4) (oi := ⟨some 16, _, _, _, _, _⟩) (v := ?v4z) rfl (by kernel_rfl) (by kernel_rfl) (by kernel_rfl) (fun _ _ _ h => h) (Or.inl ⟨by rfl, ?y4z⟩) (by assumption) ?r4z
  case y4z => (intro w hSw; (try dsimp only at hSw); (try go_split_ands); go_simp); (try with_reducible rfl)
  case r4z =>
  (try simp only [Act.put, List.setIfInBounds_toArray, List.set_cons_zero, List.set_cons_succ])
  refine wpAnyH_take (i := 5) (oi := ⟨some 17, _, _, _, _, _⟩) (v := ?v5z) rfl (by kernel_rfl) (by kernel_rfl) (by kernel_rfl) (fun _ _ _ h => h) (Or.inl ⟨by rfl, ?y5z⟩) (by assumption) ?r5z
  case y5z => (intro w hSw; (try dsimp only at hSw); (try go_split_ands); go_simp); (try with_reducible rfl)
  case r5z =>
  (try simp only [Act.put, List.setIfInBounds_toArray, List.set_cons_zero, List.set_cons_succ])
  refine wpAnyH_take (i := 6) (oi := ⟨some 18, _, _, _, _, _⟩) (v := ?v6z) rfl (by kernel_rfl) (by kernel_rfl) (by kernel_rfl) (fun _ _ _ h => h) (Or.inl ⟨by rfl, ?y6z⟩) (by assumption) ?r6z
  case y6z => (intro w hSw; (try dsimp only at hSw); (try go_split_ands); go_simp); (try with_reducible rfl)
  case r6z =>
  (try simp only [Act.put, List.setIfInBounds_toArray, List.set_cons_zero, List.set_cons_succ])
  refine wpAnyH_take (i := 7) (oi := ⟨some 19, _, _, _, _, _⟩) (v := ?v7z) rfl (by kernel_rfl) (by kernel_rfl) (by kernel_rfl) (fun _ _ _ h => h) (Or.inl ⟨by rfl, ?y7z⟩) (by assumption) ?r7z
  case y7z => (intro w hSw; (try dsimp only at hSw); (try go_split_ands); go_simp); (try with_reducible rfl)
  case r7z =>
  (try simp only [Act.put, List.setIfInBounds_toArray, List.set_cons_zero, List.set_cons_succ])
  refine wpAnyH_ready (rs := [3]) (by kernel_rfl) (by simp) ?_
  refine AllReadyH.cons (o := ⟨some 15, _, _, _, _, _⟩) rfl (fun K hK => ?_) AllReadyH.nil
  go_simp
  refine (list b v L last _ (HB.out.keep HDW.out (fun _ _ h => h))).mono ?_; rintro e wb ⟨ub, rfl, hub, hbb⟩
  go_wp2_with fail
  have HBB : Hid (Below w1.heap.size w1 wb) := Lib.hid ((Below.refl _ _).drew.trans hbb)
  obtain ⟨Ab, cb, hub2, _, _, hCb⟩ := row_cells hub
  subst hub2
  have HCB := Lib.hid hCb
  clear hub hCb hbb
  refine hK.out _ _ (by first | exact bkeep HBD.out l4 hxF | exact bkeep HBC.out l4 hxF | exact bkeep HBB.out l4 hxF) (fun hHeld => ?_)
  clear hK K
  (try simp only [Act.put, List.setIfInBounds_toArray, List.set_cons_zero, List.set_cons_succ])
  refine wpAnyH_ready (rs := [8]) (by kernel_rfl) (by simp) ?_
  refine AllReadyH.cons (o := ⟨some 20, _, _, _, _, _⟩) rfl (fun K hK => ?_) AllReadyH.nil
  go_simp
  obtain ⟨Ar, cr, hur, _, _, hCr⟩ := row_cells (HR.out.below HBB.out).row
  obtain ⟨hA, hc⟩ : Ar = Ax ∧ cr = cx := by rw [hux] at hur; injection hur with h1 h2 h3; exact ⟨h1.symm, h3.symm⟩
  subst hA hc
  refine (lawOrders 0 Ab Ar cb cr L _ HCB.out hCr (by have := HB.out.len; omega)).mono ?_; rintro e wc ⟨rfl, hbc⟩
  go_wp2_with fail
  have HBC : Hid (Below w1.heap.size w1 wc) := Lib.hid (HBB.out.trans (hbc.mono HBB.out.size))
  refine hK.out _ _ (by first | exact bkeep HBD.out l4 hxF | exact bkeep HBC.out l4 hxF | exact bkeep HBB.out l4 hxF) (fun hHeld => ?_)
  clear hK K
  (try simp only [Act.put, List.setIfInBounds_toArray, List.set_cons_zero, List.set_cons_succ])
  refine wpAnyH_take (i := 9) (oi := ⟨some 21, _, _, _, _, _⟩) (v := .bool true) rfl (by kernel_rfl) (by kernel_rfl) (by kernel_rfl) (fun _ _ _ h => h) (Or.inl ⟨by rfl, ?y9z⟩) (by assumption) ?r9z
  case y9z => (intro w hSw; (try dsimp only at hSw); (try go_split_ands); go_simp)
  case r9z =>
  (try simp only [Act.put, List.setIfInBounds_toArray, List.set_cons_zero, List.set_cons_succ])
  refine wpAnyH_take (i := 10) (oi := ⟨some 22, _, _, _, _, _⟩) (v := .bool true) rfl (by kernel_rfl) (by kernel_rfl) (by kernel_rfl) (fun _ _ _ h => h) (Or.inl ⟨by rfl, ?y10z⟩) (by assumption) ?r10z
  case y10z => (intro w hSw; (try dsimp only at hSw); (try go_split_ands); go_simp)
  case r10z =>
  (try simp only [Act.put, List.setIfInBounds_toArray, List.set_cons_zero, List.set_cons_succ])
  refine wpAnyH_ready (rs := [11]) (by kernel_rfl) (by simp) ?_
  refine AllReadyH.cons (o := ⟨some 23, _, _, _, _, _⟩) rfl (fun K hK => ?_) AllReadyH.nil
  go_simp
  refine (bkKnown _).mono ?_; rintro e wd ⟨rfl, hbd⟩
  go_wp2_with fail
  have HBD : Hid (Below w1.heap.size w1 wd) := Lib.hid (HBC.out.trans (hbd.mono HBC.out.size))
  refine hK.out _ _ (by first | exact bkeep HBD.out l4 hxF | exact bkeep HBC.out l4 hxF | exact bkeep HBB.out l4 hxF) (fun hHeld => ?_)
  clear hK K
  (try simp only [Act.put, List.setIfInBounds_toArray, List.set_cons_zero, List.set_cons_succ])
  refine wpAnyH_take (i := 12) (oi := ⟨some 24, _, _, _, _, _⟩) (v := .bool true) rfl (by kernel_rfl) (by kernel_rfl) (by kernel_rfl) (fun _ _ _ h => h) (Or.inl ⟨by rfl, ?y12z⟩) (by assumption) ?r12z
  case y12z => (intro w hSw; (try dsimp only at hSw); (try go_split_ands); go_simp)
  case r12z =>
  (try simp only [Act.put, List.setIfInBounds_toArray, List.set_cons_zero, List.set_cons_succ])
  refine wpAnyH_take (i := 13) (oi := ⟨some 2, _, _, _, _, _⟩) (v := ?v13z) rfl (by kernel_rfl) (by kernel_rfl) (by kernel_rfl) (fun _ _ _ h => h) (Or.inl ⟨by rfl, ?y13z⟩) (by assumption) ?r13z
  case y13z => (intro w hSw; (try dsimp only at hSw); (try go_split_ands); go_simp); (try with_reducible rfl)
  case r13z =>
  (try simp only [Act.put, List.setIfInBounds_toArray, List.set_cons_zero, List.set_cons_succ])
  refine wpAnyH_done (by kernel_rfl) ?_ _

  go_wp2_with fail
  go_ret
  exact ⟨rfl, HW.out.trans (HBD.out.mono HW.out.size)⟩
theorem ap_pr {L : List Od} (h : Ap L) {i k : Nat} (hi : i < L.length) (hk : k < L.length) (hb : L[i].buy = true) (hc : L[k].buy = false) (ht : L[i].item = L[k].item) : ¬ L[k].pr ≤ L[i].pr := by
  have := h _ (List.getElem_mem hi) _ (List.getElem_mem hk)
  unfold meets meetP at this
  rw [hb, hc, ht] at this
  simpa using this
set_option maxHeartbeats 20000000 in
set_option maxRecDepth 10000 in
theorem walkBookApart (A : Option Addr) (c : Nat) (xs : List Ba) (w : World) (hx : Cells w w.heap.size A xs.length c 8 (xs.flatMap baV)) :
    Calls Try.prog 5 #[.slice A xs.length c] w fun e w' => e = .returned (.bool true) ∧ Below w.heap.size w w' := by
  have HX := Lib.hid hx
  clear hx
  go_enter Try.func5, Try.ntmps5
  go_wp2_with (first
    | (go_at_call 12; go_loud (refine (list b v L last _ HB.out).mono ?_; rintro e w3 ⟨ub, rfl, hub, hb3⟩; have hs3 := hb3.size; have HB3 := Lib.hid hb3; obtain ⟨Au, cu, hub2, _, _, hCu⟩ := row_cells hub; subst hub2; have HCU := Lib.hid hCu; clear hub hCu hb3))
    | (go_at_call 10; go_loud (refine (lawPlayed A c xs _ HX.out).mono ?_; rintro e w1 ⟨b, x, v, L, last, u, rfl, hb, hr, ha, hw⟩; have HB := Lib.hid hb; have HR := Lib.hid hr; have HA := Lib.hid ha; have HW := Lib.hid hw; clear hb hr ha hw))
    | fail)
  have hL32 := HB.out.len
  go_loopw [7] (fun iv wr => ∃ i : Nat, i ≤ L.length ∧ iv = .int .i64 i ∧ Below w3.heap.size w3 wr) (fun iv _ => L.length - (intOf iv).toNat)
  case atStart => exact ⟨0, Nat.zero_le _, rfl, Below.refl _ _⟩
  case round =>
    obtain ⟨i, hil, rfl, hBi⟩ := hrel
    have HBI := Lib.hid hBi
    by_cases hlt : i < L.length
    · have q3 : (i : Int) < (L.length : Int) := by omega
      clear hBi
      go_wp2_with fail
      go_loopw [8] (fun kv wr => ∃ k : Nat, k ≤ L.length ∧ kv = .int .i64 k ∧ Below w3.heap.size w3 wr) (fun kv _ => L.length - (intOf kv).toNat)
      case atStart => exact ⟨0, Nat.zero_le _, rfl, HBI.out⟩
      case round =>
        obtain ⟨k, hkl, rfl, hBk⟩ := hrel
        have HBK := Lib.hid hBk
        by_cases hkt : k < L.length
        · have q4 : (k : Int) < (L.length : Int) := by omega
          obtain ⟨b1, o1, rfl, hb1, _, _, a2, a3, _, a5⟩ := cells_orderAt HCU.out hlt
          obtain ⟨b2, o2, e2, hb2, _, _, z2, z3, _, z5⟩ := cells_orderAt HCU.out hkt
          injection e2 with e2
          injection e2 with e3 e4
          subst e3 e4
          have a2 := bkeep hBk a2 hb1
          have a3 := bkeep hBk a3 hb1
          have a5 := bkeep hBk a5 hb1
          have z2 := bkeep hBk z2 hb1
          have z3 := bkeep hBk z3 hb1
          have z5 := bkeep hBk z5 hb1
          have hap := ap_pr HA.out hlt hkt
          obtain ⟨y, hy⟩ : ∃ y, y = L[i] := ⟨_, rfl⟩
          obtain ⟨z, hz⟩ : ∃ z, z = L[k] := ⟨_, rfl⟩
          rw [← hy] at a2 a3 a5 hap
          rw [← hz] at z2 z3 z5 hap
          clear hy hz hBk
          cases hyb : y.buy with
          | false =>
            rw [hyb] at a2
            clear hap
            go_wp2_with fail
            go_quiet (fail)
            go_wp2_with fail
            exact ⟨⟨k + 1, hkt, by go_num, b_drewN HBK.out⟩, measI hkt⟩
          | true =>
            rw [hyb] at a2
            cases hzb : z.buy with
            | true =>
              rw [hzb] at z2
              clear hap
              go_wp2_with fail
              go_quiet (fail)
              go_wp2_with fail
              exact ⟨⟨k + 1, hkt, by go_num, b_drewN HBK.out⟩, measI hkt⟩
            | false =>
              rw [hzb] at z2
              by_cases hit : y.item = z.item
              · have hnp := hap hyb hzb hit
                have hnp2 : decide (z.pr ≤ y.pr) = false := decide_eq_false hnp
                have hit2 : decide (y.item = z.item) = true := decide_eq_true hit
                clear hap
                go_wp2_with fail
                go_quiet (fail)
                go_wp2_with fail
                exact ⟨⟨k + 1, hkt, by go_num, b_drewN HBK.out⟩, measI hkt⟩
              · have hit2 : decide (y.item = z.item) = false := decide_eq_false hit
                clear hap
                go_wp2_with fail
                go_quiet (fail)
                go_wp2_with fail
                exact ⟨⟨k + 1, hkt, by go_num, b_drewN HBK.out⟩, measI hkt⟩
        · obtain rfl : L.length = k := by omega
          go_wp2_with fail
          exact ⟨⟨i + 1, hlt, by go_num, HBK.out⟩, measI hlt⟩
    · obtain rfl : L.length = i := by omega
      go_wp2_with (first
        | (go_at_call 13; refine (bkKnown _).mono ?_; rintro e w6 ⟨rfl, hb6⟩)
        | fail)
      go_ret
      exact ⟨rfl, ((HW.out.trans (HB3.out.mono HW.out.size)).trans (HBI.out.mono (Nat.le_trans HW.out.size hs3))).trans (hb6.mono (by have := HBI.out.size; have := HW.out.size; omega))⟩
end Go.Proofs.Ytekelnkjigaofaa
