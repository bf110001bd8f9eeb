/- book: a side's methods: Len, Less, Swap. -/
import Derived.Deep.RegionLaw
import Derived.Deep.Onto
import Derived.Test.YtdlbiobjnohfbaaGreatVd0
import Derived.Test.YtdlbiobjnohfbaaGreatVd1
namespace Go.Proofs.YtdlbiobjnohfbaaGreat
open Go.RowKit
set_option linter.unusedVariables false
set_option linter.unusedSimpArgs false
theorem Tryz.infoOrder : (Tryz.prog.info? 38).map (fun i => (i.zero, i.size, i.bytes)) = some (some (.agg #[.int .i64 0, .string ⟨#[]⟩, .bool false, .int .i64 0, .int .i64 0, .int .i64 0]), 6, 56) := by kernel_rfl
theorem Touch.drew' {D : Nat → Prop} {w w' : World} (h : Touch D w w') : Touch D w w'.drew := ⟨h.os, h.tape, h.output, h.size, h.block⟩
theorem ixO {i n : Nat} (h : i < n) (k : Nat) (hk : k < 6) : i * 6 + k < n * 6 := by omega
theorem ixO0 {i n : Nat} (h : i < n) : i * 6 < n * 6 := by omega
/-- order i of row g is this one -/
def putO (w : World) (g i : Nat) (o : Od) : World := (((((w.setCell ⟨g, i * 6, none⟩ (.int .i64 o.id)).setCell ⟨g, i * 6 + 1, none⟩ (.string o.who)).setCell ⟨g, i * 6 + 2, none⟩ (.bool o.buy)).setCell ⟨g, i * 6 + 3, none⟩ (.int .i64 o.item)).setCell ⟨g, i * 6 + 4, none⟩ (.int .i64 o.ct)).setCell ⟨g, i * 6 + 5, none⟩ (.int .i64 o.pr)
theorem putO_own {w : World} {B g n cp i : Nat} {l : List Od} {o : Od} (h : w.ownsRow B 38 6 (.slice (some ⟨g, 0, none⟩) n cp) n (flatO l)) (hi : i < l.length) : (putO w g i o).ownsRow B 38 6 (.slice (some ⟨g, 0, none⟩) n cp) n (flatO (l.set i o)) := by
  rw [flatO_set l i o hi]
  exact (((((((h.stored (i * 6) _).1).stored (i * 6 + 1) _).1.stored (i * 6 + 2) _).1.stored (i * 6 + 3) _).1.stored (i * 6 + 4) _).1.stored (i * 6 + 5) _).1
theorem putO_touch {D : Nat → Prop} {w w' : World} {g i : Nat} {o : Od} (h : Touch D w w') (hD : D g) : Touch D w (putO w' g i o) :=
  (((((h.set (fun _ => hD)).set (fun _ => hD)).set (fun _ => hD)).set (fun _ => hD)).set (fun _ => hD)).set (fun _ => hD)
set_option maxHeartbeats 2000000 in
set_option maxRecDepth 10000 in
theorem sideSwap (B : Nat) (l : List Od) (v : Value) (n i j : Nat) (hn : l.length = n) (hi : i < n) (hj : j < n) (w : World) (h : w.ownsRow B 38 6 v n (flatO l)) :
    Calls Tryz.prog 163 #[v, .int .i64 i, .int .i64 j] w fun e w' => e = .returned (.tuple #[]) ∧ w'.ownsRow B 38 6 v n (flatO (swapL l i j)) ∧ Touch (fun x => v.ownBlock = some x) w w' := by
  obtain ⟨g, cp, rfl, hg1, hg2, hg3, hg4⟩ := own_form h (Nat.lt_of_le_of_lt (Nat.zero_le _) hi)
  obtain ⟨x0, x1, x2, x3, x4, x5⟩ := flatO_at l i (by omega)
  obtain ⟨y0, y1, y2, y3, y4, y5⟩ := flatO_at l j (by omega)
  obtain ⟨a, ha⟩ : ∃ a, a = l[i]'(by omega) := ⟨_, rfl⟩
  obtain ⟨b, hb⟩ : ∃ b, b = l[j]'(by omega) := ⟨_, rfl⟩
  rw [← ha] at x0 x1 x2 x3 x4 x5
  rw [← hb] at y0 y1 y2 y3 y4 y5
  have a0 := (h.cellAt (i * 6) (ixO0 hi)).trans x0
  have a1 := (h.cellAt (i * 6 + 1) (ixO hi 1 (by decide))).trans x1
  have a2 := (h.cellAt (i * 6 + 2) (ixO hi 2 (by decide))).trans x2
  have a3 := (h.cellAt (i * 6 + 3) (ixO hi 3 (by decide))).trans x3
  have a4 := (h.cellAt (i * 6 + 4) (ixO hi 4 (by decide))).trans x4
  have a5 := (h.cellAt (i * 6 + 5) (ixO hi 5 (by decide))).trans x5
  have b0 := (h.cellAt (j * 6) (ixO0 hj)).trans y0
  have b1 := (h.cellAt (j * 6 + 1) (ixO hj 1 (by decide))).trans y1
  have b2 := (h.cellAt (j * 6 + 2) (ixO hj 2 (by decide))).trans y2
  have b3 := (h.cellAt (j * 6 + 3) (ixO hj 3 (by decide))).trans y3
  have b4 := (h.cellAt (j * 6 + 4) (ixO hj 4 (by decide))).trans y4
  have b5 := (h.cellAt (j * 6 + 5) (ixO hj 5 (by decide))).trans y5
  have HR := Lib.hid h
  have HA := Lib.hid ha
  have HB := Lib.hid hb
  have fz := fun k => h.frozenAt k
  clear h x0 x1 x2 x3 x4 x5 y0 y1 y2 y3 y4 y5 ha hb
  have q1 : (i : Int) < (n : Int) := by omega
  have q2 : (j : Int) < (n : Int) := by omega
  go_enter Tryz.func163, Tryz.ntmps163
  refine wp_region_held_drew (S := (fun _ => True)) (by kernel_rfl) trivial (fun hHeld => ?_)
  refine wpAnyH_take (i := 0) (oi := ⟨some 6, _, _, _, _, _⟩) (v := ?v0_1) rfl (by kernel_rfl) (by kernel_rfl) (by kernel_rfl) (fun _ _ _ h => h) (Or.inl ⟨by rfl, ?y0_1⟩) (by assumption) ?r0_1
  case y0_1 => (intro w hSw; (try dsimp only at hSw); (try go_split_ands); go_simp); (try with_reducible rfl)
  case r0_1 =>
  (try simp only [Act.put, List.setIfInBounds_toArray, List.set_cons_zero, List.set_cons_succ])
  refine wpAnyH_take (i := 1) (oi := ⟨some 7, _, _, _, _, _⟩) (v := ?v1_4) rfl (by kernel_rfl) (by kernel_rfl) (by kernel_rfl) (fun _ _ _ h => h) (Or.inl ⟨by rfl, ?y1_4⟩) (by assumption) ?r1_4
  case y1_4 => (intro w hSw; (try dsimp only at hSw); (try go_split_ands); go_simp); (try with_reducible rfl)
  case r1_4 =>
  (try simp only [Act.put, List.setIfInBounds_toArray, List.set_cons_zero, List.set_cons_succ])
  refine wpAnyH_take (i := 2) (oi := ⟨some 8, _, _, _, _, _⟩) (v := ?v2_7) rfl (by kernel_rfl) (by kernel_rfl) (by kernel_rfl) (fun _ _ _ h => h) (Or.inl ⟨by rfl, ?y2_7⟩) (by assumption) ?r2_7
  case y2_7 => (intro w hSw; (try dsimp only at hSw); (try go_split_ands); go_simp); (try with_reducible rfl)
  case r2_7 =>
  (try simp only [Act.put, List.setIfInBounds_toArray, List.set_cons_zero, List.set_cons_succ])
  refine wpAnyH_take (i := 3) (oi := ⟨some 9, _, _, _, _, _⟩) (v := ?v3_10) rfl (by kernel_rfl) (by kernel_rfl) (by kernel_rfl) (fun _ _ _ h => h) (Or.inl ⟨by rfl, ?y3_10⟩) (by assumption) ?r3_10
  case y3_10 => (intro w hSw; (try dsimp only at hSw); (try go_split_ands); go_simp); (try with_reducible rfl)
  case r3_10 =>
  (try simp only [Act.put, List.setIfInBounds_toArray, List.set_cons_zero, List.set_cons_succ])
  refine wpAnyH_take (i := 4) (oi := ⟨some 10, _, _, _, _, _⟩) (v := ?v4_13) rfl (by kernel_rfl) (by kernel_rfl) (by kernel_rfl) (fun _ _ _ h => h) (Or.inl ⟨by rfl, ?y4_13⟩) (by assumption) ?r4_13
  case y4_13 => (intro w hSw; (try dsimp only at hSw); (try go_split_ands); go_simp); (try with_reducible rfl)
  case r4_13 =>
  (try simp only [Act.put, List.setIfInBounds_toArray, List.set_cons_zero, List.set_cons_succ])
  refine wpAnyH_take (i := 5) (oi := ⟨some 11, _, _, _, _, _⟩) (v := ?v5_16) rfl (by kernel_rfl) (by kernel_rfl) (by kernel_rfl) (fun _ _ _ h => h) (Or.inl ⟨by rfl, ?y5_16⟩) (by assumption) ?r5_16
  case y5_16 => (intro w hSw; (try dsimp only at hSw); (try go_split_ands); go_simp); (try with_reducible rfl)
  case r5_16 =>
  (try simp only [Act.put, List.setIfInBounds_toArray, List.set_cons_zero, List.set_cons_succ])
  refine wpAnyH_take (i := 6) (oi := ⟨some 12, _, _, _, _, _⟩) (v := ?v6_19) rfl (by kernel_rfl) (by kernel_rfl) (by kernel_rfl) (fun _ _ _ h => h) (Or.inl ⟨by rfl, ?y6_19⟩) (by assumption) ?r6_19
  case y6_19 => (intro w hSw; (try dsimp only at hSw); (try go_split_ands); go_simp); (try with_reducible rfl)
  case r6_19 =>
  (try simp only [Act.put, List.setIfInBounds_toArray, List.set_cons_zero, List.set_cons_succ])
  refine wpAnyH_take (i := 8) (oi := ⟨some 14, _, _, _, _, _⟩) (v := ?v8_22) rfl (by kernel_rfl) (by kernel_rfl) (by kernel_rfl) (fun _ _ _ h => h) (Or.inl ⟨by rfl, ?y8_22⟩) (by assumption) ?r8_22
  case y8_22 => (intro w hSw; (try dsimp only at hSw); (try go_split_ands); go_simp); (try with_reducible rfl)
  case r8_22 =>
  (try simp only [Act.put, List.setIfInBounds_toArray, List.set_cons_zero, List.set_cons_succ])
  refine wpAnyH_take (i := 9) (oi := ⟨some 15, _, _, _, _, _⟩) (v := ?v9_25) rfl (by kernel_rfl) (by kernel_rfl) (by kernel_rfl) (fun _ _ _ h => h) (Or.inl ⟨by rfl, ?y9_25⟩) (by assumption) ?r9_25
  case y9_25 => (intro w hSw; (try dsimp only at hSw); (try go_split_ands); go_simp); (try with_reducible rfl)
  case r9_25 =>
  (try simp only [Act.put, List.setIfInBounds_toArray, List.set_cons_zero, List.set_cons_succ])
  refine wpAnyH_take (i := 10) (oi := ⟨some 16, _, _, _, _, _⟩) (v := ?v10_28) rfl (by kernel_rfl) (by kernel_rfl) (by kernel_rfl) (fun _ _ _ h => h) (Or.inl ⟨by rfl, ?y10_28⟩) (by assumption) ?r10_28
  case y10_28 => (intro w hSw; (try dsimp only at hSw); (try go_split_ands); go_simp); (try with_reducible rfl)
  case r10_28 =>
  (try simp only [Act.put, List.setIfInBounds_toArray, List.set_cons_zero, List.set_cons_succ])
  refine wpAnyH_ready (rs := [7, 11]) (by kernel_rfl) (by simp) ?_
  refine AllReadyH.cons (o := ⟨some 13, _, _, _, _, _⟩) rfl (fun K hK => ?_) (AllReadyH.cons (o := ⟨some 17, _, _, _, _, _⟩) rfl (fun K hK => ?_) AllReadyH.nil)
  · have b0' : w.drew.cell? ⟨g, j * 6, none⟩ = _ := b0
    have b1' : w.drew.cell? ⟨g, j * 6 + 1, none⟩ = _ := b1
    have b2' : w.drew.cell? ⟨g, j * 6 + 2, none⟩ = _ := b2
    have b3' : w.drew.cell? ⟨g, j * 6 + 3, none⟩ = _ := b3
    have b4' : w.drew.cell? ⟨g, j * 6 + 4, none⟩ = _ := b4
    have b5' : w.drew.cell? ⟨g, j * 6 + 5, none⟩ = _ := b5
    go_simp
    refine hK.out _ _ trivial (fun hHeld => ?_)
    clear hK K
    (try simp only [Act.put, List.setIfInBounds_toArray, List.set_cons_zero, List.set_cons_succ])
    refine wpAnyH_ready (rs := [11]) (by kernel_rfl) (by simp) ?_
    refine AllReadyH.cons (o := ⟨some 17, _, _, _, _, _⟩) rfl (fun K hK => ?_) AllReadyH.nil
    have a0' : w.drew.cell? ⟨g, i * 6, none⟩ = _ := a0
    have a1' : w.drew.cell? ⟨g, i * 6 + 1, none⟩ = _ := a1
    have a2' : w.drew.cell? ⟨g, i * 6 + 2, none⟩ = _ := a2
    have a3' : w.drew.cell? ⟨g, i * 6 + 3, none⟩ = _ := a3
    have a4' : w.drew.cell? ⟨g, i * 6 + 4, none⟩ = _ := a4
    have a5' : w.drew.cell? ⟨g, i * 6 + 5, none⟩ = _ := a5
    go_simp
    refine hK.out _ _ trivial (fun hHeld => ?_)
    clear hK K
    (try simp only [Act.put, List.setIfInBounds_toArray, List.set_cons_zero, List.set_cons_succ])
    refine wpAnyH_take (i := 12) (oi := ⟨some 18, _, _, _, _, _⟩) (v := ?v12_55) rfl (by kernel_rfl) (by kernel_rfl) (by kernel_rfl) (fun _ _ _ h => h) (Or.inl ⟨by rfl, ?y12_55⟩) (by assumption) ?r12_55
    case y12_55 => (intro w hSw; (try dsimp only at hSw); (try go_split_ands); go_simp); (try with_reducible rfl)
    case r12_55 =>
    (try simp only [Act.put, List.setIfInBounds_toArray, List.set_cons_zero, List.set_cons_succ])
    refine wpAnyH_ready (rs := [13]) (by kernel_rfl) (by simp) ?_
    refine AllReadyH.cons (o := ⟨none, _, _, _, _, _⟩) rfl (fun K hK => ?_) AllReadyH.nil
    go_simp
    have R1 : ((putO w g i b).drew).ownsRow B 38 6 (.slice (some ⟨g, 0, none⟩) n cp) n (flatO (l.set i b)) := (putO_own HR.out (by omega)).drew
    have T1 : Touch (fun x => (some g : Option Nat) = some x) w ((putO w g i b).drew) := (putO_touch (Touch.refl (fun x => (some g : Option Nat) = some x) w) rfl).drew'
    show K _ ((putO w g i b).drew)
    generalize (putO w g i b).drew = V at R1 T1 ⊢
    have HR1 := Lib.hid R1
    have fz1 := fun k => R1.frozenAt k
    obtain ⟨z0, z1, z2, z3, z4, z5⟩ := flatO_at (l.set i b) j (by simp; omega)
    have d0 := (R1.cellAt (j * 6) (ixO0 hj)).trans z0
    have d1 := (R1.cellAt (j * 6 + 1) (ixO hj 1 (by decide))).trans z1
    have d2 := (R1.cellAt (j * 6 + 2) (ixO hj 2 (by decide))).trans z2
    have d3 := (R1.cellAt (j * 6 + 3) (ixO hj 3 (by decide))).trans z3
    have d4 := (R1.cellAt (j * 6 + 4) (ixO hj 4 (by decide))).trans z4
    have d5 := (R1.cellAt (j * 6 + 5) (ixO hj 5 (by decide))).trans z5
    clear R1 z0 z1 z2 z3 z4 z5 a0 a1 a2 a3 a4 a5 b0 b1 b2 b3 b4 b5 fz
    refine hK.out _ _ trivial (fun hHeld => ?_)
    clear hK K
    (try simp only [Act.put, List.setIfInBounds_toArray, List.set_cons_zero, List.set_cons_succ])
    refine wpAnyH_take (i := 14) (oi := ⟨some 19, _, _, _, _, _⟩) (v := ?v14_78) rfl (by kernel_rfl) (by kernel_rfl) (by kernel_rfl) (fun _ _ _ h => h) (Or.inl ⟨by rfl, ?y14_78⟩) (by assumption) ?r14_78
    case y14_78 => (intro w hSw; (try dsimp only at hSw); (try go_split_ands); go_simp); (try with_reducible rfl)
    case r14_78 =>
    (try simp only [Act.put, List.setIfInBounds_toArray, List.set_cons_zero, List.set_cons_succ])
    refine wpAnyH_ready (rs := [15]) (by kernel_rfl) (by simp) ?_
    refine AllReadyH.cons (o := ⟨none, _, _, _, _, _⟩) rfl (fun K hK => ?_) AllReadyH.nil
    go_simp
    show K _ (putO V g j a)
    refine hK.out _ _ trivial (fun hHeld => ?_)
    clear hK K
    (try simp only [Act.put, List.setIfInBounds_toArray, List.set_cons_zero, List.set_cons_succ])
    refine wpAnyH_done (by kernel_rfl) ?_ _
    go_wp2_with fail
    refine bodyPost_end (v := .tuple #[]) (by simp [results, Tryz.results163, go_sem]) rfl ⟨rfl, ?_, putO_touch T1 rfl⟩
    have R2 := putO_own (o := a) (i := j) HR1.out (by simp; omega)
    rw [swapL_eq (by omega) (by omega), ← HA.out, ← HB.out]
    exact R2
  · have a0' : w.drew.cell? ⟨g, i * 6, none⟩ = _ := a0
    have a1' : w.drew.cell? ⟨g, i * 6 + 1, none⟩ = _ := a1
    have a2' : w.drew.cell? ⟨g, i * 6 + 2, none⟩ = _ := a2
    have a3' : w.drew.cell? ⟨g, i * 6 + 3, none⟩ = _ := a3
    have a4' : w.drew.cell? ⟨g, i * 6 + 4, none⟩ = _ := a4
    have a5' : w.drew.cell? ⟨g, i * 6 + 5, none⟩ = _ := a5
    go_simp
    refine hK.out _ _ trivial (fun hHeld => ?_)
    clear hK K
    (try simp only [Act.put, List.setIfInBounds_toArray, List.set_cons_zero, List.set_cons_succ])
    refine wpAnyH_ready (rs := [7]) (by kernel_rfl) (by simp) ?_
    refine AllReadyH.cons (o := ⟨some 13, _, _, _, _, _⟩) rfl (fun K hK => ?_) AllReadyH.nil
    have b0' : w.drew.cell? ⟨g, j * 6, none⟩ = _ := b0
    have b1' : w.drew.cell? ⟨g, j * 6 + 1, none⟩ = _ := b1
    have b2' : w.drew.cell? ⟨g, j * 6 + 2, none⟩ = _ := b2
    have b3' : w.drew.cell? ⟨g, j * 6 + 3, none⟩ = _ := b3
    have b4' : w.drew.cell? ⟨g, j * 6 + 4, none⟩ = _ := b4
    have b5' : w.drew.cell? ⟨g, j * 6 + 5, none⟩ = _ := b5
    go_simp
    refine hK.out _ _ trivial (fun hHeld => ?_)
    clear hK K
    (try simp only [Act.put, List.setIfInBounds_toArray, List.set_cons_zero, List.set_cons_succ])
    refine wpAnyH_take (i := 12) (oi := ⟨some 18, _, _, _, _, _⟩) (v := ?v12_116) rfl (by kernel_rfl) (by kernel_rfl) (by kernel_rfl) (fun _ _ _ h => h) (Or.inl ⟨by rfl, ?y12_116⟩) (by assumption) ?r12_116
    case y12_116 => (intro w hSw; (try dsimp only at hSw); (try go_split_ands); go_simp); (try with_reducible rfl)
    case r12_116 =>
    (try simp only [Act.put, List.setIfInBounds_toArray, List.set_cons_zero, List.set_cons_succ])
    refine wpAnyH_ready (rs := [13]) (by kernel_rfl) (by simp) ?_
    refine AllReadyH.cons (o := ⟨none, _, _, _, _, _⟩) rfl (fun K hK => ?_) AllReadyH.nil
    go_simp
    have R1 : ((putO w g i b).drew).ownsRow B 38 6 (.slice (some ⟨g, 0, none⟩) n cp) n (flatO (l.set i b)) := (putO_own HR.out (by omega)).drew
    have T1 : Touch (fun x => (some g : Option Nat) = some x) w ((putO w g i b).drew) := (putO_touch (Touch.refl (fun x => (some g : Option Nat) = some x) w) rfl).drew'
    show K _ ((putO w g i b).drew)
    generalize (putO w g i b).drew = V at R1 T1 ⊢
    have HR1 := Lib.hid R1
    have fz1 := fun k => R1.frozenAt k
    obtain ⟨z0, z1, z2, z3, z4, z5⟩ := flatO_at (l.set i b) j (by simp; omega)
    have d0 := (R1.cellAt (j * 6) (ixO0 hj)).trans z0
    have d1 := (R1.cellAt (j * 6 + 1) (ixO hj 1 (by decide))).trans z1
    have d2 := (R1.cellAt (j * 6 + 2) (ixO hj 2 (by decide))).trans z2
    have d3 := (R1.cellAt (j * 6 + 3) (ixO hj 3 (by decide))).trans z3
    have d4 := (R1.cellAt (j * 6 + 4) (ixO hj 4 (by decide))).trans z4
    have d5 := (R1.cellAt (j * 6 + 5) (ixO hj 5 (by decide))).trans z5
    clear R1 z0 z1 z2 z3 z4 z5 a0 a1 a2 a3 a4 a5 b0 b1 b2 b3 b4 b5 fz
    refine hK.out _ _ trivial (fun hHeld => ?_)
    clear hK K
    (try simp only [Act.put, List.setIfInBounds_toArray, List.set_cons_zero, List.set_cons_succ])
    refine wpAnyH_take (i := 14) (oi := ⟨some 19, _, _, _, _, _⟩) (v := ?v14_139) rfl (by kernel_rfl) (by kernel_rfl) (by kernel_rfl) (fun _ _ _ h => h) (Or.inl ⟨by rfl, ?y14_139⟩) (by assumption) ?r14_139
    case y14_139 => (intro w hSw; (try dsimp only at hSw); (try go_split_ands); go_simp); (try with_reducible rfl)
    case r14_139 =>
    (try simp only [Act.put, List.setIfInBounds_toArray, List.set_cons_zero, List.set_cons_succ])
    refine wpAnyH_ready (rs := [15]) (by kernel_rfl) (by simp) ?_
    refine AllReadyH.cons (o := ⟨none, _, _, _, _, _⟩) rfl (fun K hK => ?_) AllReadyH.nil
    go_simp
    show K _ (putO V g j a)
    refine hK.out _ _ trivial (fun hHeld => ?_)
    clear hK K
    (try simp only [Act.put, List.setIfInBounds_toArray, List.set_cons_zero, List.set_cons_succ])
    refine wpAnyH_done (by kernel_rfl) ?_ _
    go_wp2_with fail
    refine bodyPost_end (v := .tuple #[]) (by simp [results, Tryz.results163, go_sem]) rfl ⟨rfl, ?_, putO_touch T1 rfl⟩
    have R2 := putO_own (o := a) (i := j) HR1.out (by simp; omega)
    rw [swapL_eq (by omega) (by omega), ← HA.out, ← HB.out]
    exact R2
set_option maxHeartbeats 2000000 in
set_option maxRecDepth 10000 in
theorem sideLess (B : Nat) (l : List Od) (v : Value) (n i j : Nat) (hn : l.length = n) (hi : i < n) (hj : j < n) (w : World) (h : w.ownsRow B 38 6 v n (flatO l)) :
    Calls Tryz.prog 162 #[v, .int .i64 i, .int .i64 j] w fun e w' => e = .returned (.bool (lessO (l[i]'(by omega)) (l[j]'(by omega)))) ∧ Below w.heap.size w w' := by
  obtain ⟨g, cp, rfl, hg1, hg2, hg3, hg4⟩ := own_form h (Nat.lt_of_le_of_lt (Nat.zero_le _) hi)
  obtain ⟨x0, x1, x2, x3, x4, x5⟩ := flatO_at l i (by omega)
  obtain ⟨y0, y1, y2, y3, y4, y5⟩ := flatO_at l j (by omega)
  obtain ⟨a, ha⟩ : ∃ a, a = l[i]'(by omega) := ⟨_, rfl⟩
  obtain ⟨b, hb⟩ : ∃ b, b = l[j]'(by omega) := ⟨_, rfl⟩
  rw [← ha] at x0 x1 x2 x3 x4 x5
  rw [← hb] at y0 y1 y2 y3 y4 y5
  rw [← ha, ← hb]
  have a0 := (h.cellAt (i * 6) (ixO0 hi)).trans x0
  have a1 := (h.cellAt (i * 6 + 1) (ixO hi 1 (by decide))).trans x1
  have a2 := (h.cellAt (i * 6 + 2) (ixO hi 2 (by decide))).trans x2
  have a3 := (h.cellAt (i * 6 + 3) (ixO hi 3 (by decide))).trans x3
  have a4 := (h.cellAt (i * 6 + 4) (ixO hi 4 (by decide))).trans x4
  have a5 := (h.cellAt (i * 6 + 5) (ixO hi 5 (by decide))).trans x5
  have b0 := (h.cellAt (j * 6) (ixO0 hj)).trans y0
  have b1 := (h.cellAt (j * 6 + 1) (ixO hj 1 (by decide))).trans y1
  have b2 := (h.cellAt (j * 6 + 2) (ixO hj 2 (by decide))).trans y2
  have b3 := (h.cellAt (j * 6 + 3) (ixO hj 3 (by decide))).trans y3
  have b4 := (h.cellAt (j * 6 + 4) (ixO hj 4 (by decide))).trans y4
  have b5 := (h.cellAt (j * 6 + 5) (ixO hj 5 (by decide))).trans y5
  obtain ⟨a_id, a_who, a_buy, a_item, a_ct, a_pr⟩ := a
  obtain ⟨b_id, b_who, b_buy, b_item, b_ct, b_pr⟩ := b
  simp only at a0 a1 a2 a3 a4 a5 b0 b1 b2 b3 b4 b5
  clear h x0 x1 x2 x3 x4 x5 y0 y1 y2 y3 y4 y5 ha hb
  have q1 : (i : Int) < (n : Int) := by omega
  have q2 : (j : Int) < (n : Int) := by omega
  go_enter Tryz.func162, Tryz.ntmps162
  go_wp2_with fail
  by_cases hp : a_pr = b_pr
  · subst hp
    go_region
    all_goals go_wp2_with fail
    all_goals go_ret
    all_goals exact ⟨ret_bool (by simp [lessO]), by ((repeat (first | (with_reducible exact Below.refl _ _) | (with_reducible assumption) | ((with_reducible refine b_set ?_ ?_); · (first | omega | (simp; done) | (simp; omega))) | ((with_reducible refine b_alloc ?_ ?_); · (first | omega | (simp; done) | (simp; omega))) | (with_reducible refine Below.drew ?_) | (with_reducible refine b_drewN ?_) | ((with_reducible refine b_call (by assumption) ?_ ?_); · (first | omega | (simp; done) | (simp; omega))))); done)⟩
  · go_region
    all_goals go_wp2_with fail
    all_goals go_ret
    all_goals exact ⟨ret_bool (by simp [lessO, hp]; cases decide (b_pr < a_pr) <;> cases a_buy <;> rfl), by ((repeat (first | (with_reducible exact Below.refl _ _) | (with_reducible assumption) | ((with_reducible refine b_set ?_ ?_); · (first | omega | (simp; done) | (simp; omega))) | ((with_reducible refine b_alloc ?_ ?_); · (first | omega | (simp; done) | (simp; omega))) | (with_reducible refine Below.drew ?_) | (with_reducible refine b_drewN ?_) | ((with_reducible refine b_call (by assumption) ?_ ?_); · (first | omega | (simp; done) | (simp; omega))))); done)⟩
end Go.Proofs.YtdlbiobjnohfbaaGreat
