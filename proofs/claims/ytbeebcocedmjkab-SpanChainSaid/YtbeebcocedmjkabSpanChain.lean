/- The walk of the law SpanChain: it returns true. -/
import Derived.Test.YtbeebcocedmjkabSpanP
namespace Go.Proofs.Ytbeebcocedmjkab
open Go.RowKit
set_option linter.unusedVariables false
set_option linter.unusedSimpArgs false

set_option maxHeartbeats 1000000 in
theorem walkChain0 (f t g u i j x : ByteArray) (w : World) (hh : heavyB [(f, t), (g, u), (i, j)] = false) (g1 : ¬ (200 : Int) < (x.size : Int)) (h1 : withinB f t g u = false) (h2 : isB f t = false) :
    Calls Try.prog 3 #[.agg #[.string f, .string t], .agg #[.string g, .string u], .agg #[.string i, .string j], .string x] w fun e w' => e = .returned (.bool true) ∧ Below w.heap.size w w' := by
  go_enter Try.func3, Try.ntmps3
  go_wp2_with fail
  refine (spanHeavy (some ⟨w.heap.size + 3, 0, none⟩) 3 [(f, t), (g, u), (i, j)] _ (by simp) (spansThree (by simp) (by simp [go_sem]) (by simp [go_sem]) (by simp [go_sem]) (by simp [go_sem]) (by simp [go_sem]) (by simp [go_sem]))).mono ?_
  rintro e w1 ⟨rfl, rfl⟩
  go_wp2_with fail
  generalize hV : (((w.alloc _).alloc _).alloc _ |>.alloc _ : World) = V
  have k0 : V.cell? ⟨w.heap.size, 0, none⟩ = some (.string f) := by rw [← hV]; simp [go_sem, cell_alloc_ite, ↓IntWalk.iteOmega]
  have k1 : V.cell? ⟨w.heap.size, 1, none⟩ = some (.string t) := by rw [← hV]; simp [go_sem, cell_alloc_ite, ↓IntWalk.iteOmega]
  have k2 : V.cell? ⟨w.heap.size + 1, 0, none⟩ = some (.string g) := by rw [← hV]; simp [go_sem, cell_alloc_ite, ↓IntWalk.iteOmega]
  have k3 : V.cell? ⟨w.heap.size + 1, 1, none⟩ = some (.string u) := by rw [← hV]; simp [go_sem, cell_alloc_ite, ↓IntWalk.iteOmega]
  have k4 : V.cell? ⟨w.heap.size + 2, 0, none⟩ = some (.string i) := by rw [← hV]; simp [go_sem, cell_alloc_ite, ↓IntWalk.iteOmega]
  have k5 : V.cell? ⟨w.heap.size + 2, 1, none⟩ = some (.string j) := by rw [← hV]; simp [go_sem, cell_alloc_ite, ↓IntWalk.iteOmega]
  have hsV : w.heap.size + 2 < V.heap.size := by rw [← hV]; simp
  have hB : Below w.heap.size w V := by rw [← hV]; ((repeat (first | exact Below.refl _ _ | assumption | refine Below.setCell ?_ (by first | exact Nat.le_refl _ | (simp; done) | (simp; omega) | omega) _ | refine Below.alloc ?_ (by first | exact Nat.le_refl _ | (simp; done) | (simp; omega) | omega) _ | refine Below.drew ?_ | refine Below.trans ?_ (Below.mono (by assumption) (by first | exact Nat.le_refl _ | (simp; done) | (simp; omega) | omega)))); done)
  have HB : Below V.heap.size V V := Below.refl _ _
  have c0 := k0; have c1 := k1; have c2 := k2; have c3 := k3; have c4 := k4; have c5 := k5
  clear hV
  go_wp2_with (first
    | (go_at_call 5; refine (spanWithin _ _ _ _ _).mono ?_; rintro e w3 ⟨rfl, hb3⟩; replace HB := HB.trans (hb3.mono HB.size); replace c0 := bkeep HB k0 (by omega); replace c1 := bkeep HB k1 (by omega); replace c2 := bkeep HB k2 (by omega); replace c3 := bkeep HB k3 (by omega); replace c4 := bkeep HB k4 (by omega); replace c5 := bkeep HB k5 (by omega); clear hb3)
    | (go_at_call 6; refine (spanIn _ _ _ _).mono ?_; rintro e w3 ⟨rfl, hb3⟩; replace HB := HB.trans (hb3.mono HB.size); replace c0 := bkeep HB k0 (by omega); replace c1 := bkeep HB k1 (by omega); replace c2 := bkeep HB k2 (by omega); replace c3 := bkeep HB k3 (by omega); replace c4 := bkeep HB k4 (by omega); replace c5 := bkeep HB k5 (by omega); clear hb3)
    | (go_at_call 7; refine (spanIs _ _ _).mono ?_; rintro e w3 ⟨rfl, hb3⟩; replace HB := HB.trans (hb3.mono HB.size); replace c0 := bkeep HB k0 (by omega); replace c1 := bkeep HB k1 (by omega); replace c2 := bkeep HB k2 (by omega); replace c3 := bkeep HB k3 (by omega); replace c4 := bkeep HB k4 (by omega); replace c5 := bkeep HB k5 (by omega); clear hb3)
    | (go_at_call 8; refine (spanKnown _).mono ?_; rintro e w3 ⟨rfl, hb3⟩; replace HB := HB.trans (hb3.mono HB.size); replace c0 := bkeep HB k0 (by omega); replace c1 := bkeep HB k1 (by omega); replace c2 := bkeep HB k2 (by omega); replace c3 := bkeep HB k3 (by omega); replace c4 := bkeep HB k4 (by omega); replace c5 := bkeep HB k5 (by omega); clear hb3))
  go_ret
  exact ⟨rfl, hB.trans (Below.mono HB hB.size)⟩

set_option maxHeartbeats 1000000 in
theorem walkChain1 (f t g u i j x : ByteArray) (w : World) (hh : heavyB [(f, t), (g, u), (i, j)] = false) (g1 : ¬ (200 : Int) < (x.size : Int)) (h1 : withinB f t g u = false) (h2 : isB f t = true) (h3 : withinB f t f t = true) :
    Calls Try.prog 3 #[.agg #[.string f, .string t], .agg #[.string g, .string u], .agg #[.string i, .string j], .string x] w fun e w' => e = .returned (.bool true) ∧ Below w.heap.size w w' := by
  go_enter Try.func3, Try.ntmps3
  go_wp2_with fail
  refine (spanHeavy (some ⟨w.heap.size + 3, 0, none⟩) 3 [(f, t), (g, u), (i, j)] _ (by simp) (spansThree (by simp) (by simp [go_sem]) (by simp [go_sem]) (by simp [go_sem]) (by simp [go_sem]) (by simp [go_sem]) (by simp [go_sem]))).mono ?_
  rintro e w1 ⟨rfl, rfl⟩
  go_wp2_with fail
  generalize hV : (((w.alloc _).alloc _).alloc _ |>.alloc _ : World) = V
  have k0 : V.cell? ⟨w.heap.size, 0, none⟩ = some (.string f) := by rw [← hV]; simp [go_sem, cell_alloc_ite, ↓IntWalk.iteOmega]
  have k1 : V.cell? ⟨w.heap.size, 1, none⟩ = some (.string t) := by rw [← hV]; simp [go_sem, cell_alloc_ite, ↓IntWalk.iteOmega]
  have k2 : V.cell? ⟨w.heap.size + 1, 0, none⟩ = some (.string g) := by rw [← hV]; simp [go_sem, cell_alloc_ite, ↓IntWalk.iteOmega]
  have k3 : V.cell? ⟨w.heap.size + 1, 1, none⟩ = some (.string u) := by rw [← hV]; simp [go_sem, cell_alloc_ite, ↓IntWalk.iteOmega]
  have k4 : V.cell? ⟨w.heap.size + 2, 0, none⟩ = some (.string i) := by rw [← hV]; simp [go_sem, cell_alloc_ite, ↓IntWalk.iteOmega]
  have k5 : V.cell? ⟨w.heap.size + 2, 1, none⟩ = some (.string j) := by rw [← hV]; simp [go_sem, cell_alloc_ite, ↓IntWalk.iteOmega]
  have hsV : w.heap.size + 2 < V.heap.size := by rw [← hV]; simp
  have hB : Below w.heap.size w V := by rw [← hV]; ((repeat (first | exact Below.refl _ _ | assumption | refine Below.setCell ?_ (by first | exact Nat.le_refl _ | (simp; done) | (simp; omega) | omega) _ | refine Below.alloc ?_ (by first | exact Nat.le_refl _ | (simp; done) | (simp; omega) | omega) _ | refine Below.drew ?_ | refine Below.trans ?_ (Below.mono (by assumption) (by first | exact Nat.le_refl _ | (simp; done) | (simp; omega) | omega)))); done)
  have HB : Below V.heap.size V V := Below.refl _ _
  have c0 := k0; have c1 := k1; have c2 := k2; have c3 := k3; have c4 := k4; have c5 := k5
  clear hV
  go_wp2_with (first
    | (go_at_call 5; refine (spanWithin _ _ _ _ _).mono ?_; rintro e w3 ⟨rfl, hb3⟩; replace HB := HB.trans (hb3.mono HB.size); replace c0 := bkeep HB k0 (by omega); replace c1 := bkeep HB k1 (by omega); replace c2 := bkeep HB k2 (by omega); replace c3 := bkeep HB k3 (by omega); replace c4 := bkeep HB k4 (by omega); replace c5 := bkeep HB k5 (by omega); clear hb3)
    | (go_at_call 6; refine (spanIn _ _ _ _).mono ?_; rintro e w3 ⟨rfl, hb3⟩; replace HB := HB.trans (hb3.mono HB.size); replace c0 := bkeep HB k0 (by omega); replace c1 := bkeep HB k1 (by omega); replace c2 := bkeep HB k2 (by omega); replace c3 := bkeep HB k3 (by omega); replace c4 := bkeep HB k4 (by omega); replace c5 := bkeep HB k5 (by omega); clear hb3)
    | (go_at_call 7; refine (spanIs _ _ _).mono ?_; rintro e w3 ⟨rfl, hb3⟩; replace HB := HB.trans (hb3.mono HB.size); replace c0 := bkeep HB k0 (by omega); replace c1 := bkeep HB k1 (by omega); replace c2 := bkeep HB k2 (by omega); replace c3 := bkeep HB k3 (by omega); replace c4 := bkeep HB k4 (by omega); replace c5 := bkeep HB k5 (by omega); clear hb3)
    | (go_at_call 8; refine (spanKnown _).mono ?_; rintro e w3 ⟨rfl, hb3⟩; replace HB := HB.trans (hb3.mono HB.size); replace c0 := bkeep HB k0 (by omega); replace c1 := bkeep HB k1 (by omega); replace c2 := bkeep HB k2 (by omega); replace c3 := bkeep HB k3 (by omega); replace c4 := bkeep HB k4 (by omega); replace c5 := bkeep HB k5 (by omega); clear hb3))
  go_ret
  exact ⟨rfl, hB.trans (Below.mono HB hB.size)⟩

set_option maxHeartbeats 1000000 in
theorem walkChain2 (f t g u i j x : ByteArray) (w : World) (hh : heavyB [(f, t), (g, u), (i, j)] = false) (g1 : ¬ (200 : Int) < (x.size : Int)) (h1 : withinB f t g u = true) (h2 : isB f t = true) (h3 : withinB f t f t = true) (h4 : withinB g u i j = true) (h5 : withinB f t i j = true) (h6 : inB f t x = true) (h7 : inB g u x = true) :
    Calls Try.prog 3 #[.agg #[.string f, .string t], .agg #[.string g, .string u], .agg #[.string i, .string j], .string x] w fun e w' => e = .returned (.bool true) ∧ Below w.heap.size w w' := by
  go_enter Try.func3, Try.ntmps3
  go_wp2_with fail
  refine (spanHeavy (some ⟨w.heap.size + 3, 0, none⟩) 3 [(f, t), (g, u), (i, j)] _ (by simp) (spansThree (by simp) (by simp [go_sem]) (by simp [go_sem]) (by simp [go_sem]) (by simp [go_sem]) (by simp [go_sem]) (by simp [go_sem]))).mono ?_
  rintro e w1 ⟨rfl, rfl⟩
  go_wp2_with fail
  generalize hV : (((w.alloc _).alloc _).alloc _ |>.alloc _ : World) = V
  have k0 : V.cell? ⟨w.heap.size, 0, none⟩ = some (.string f) := by rw [← hV]; simp [go_sem, cell_alloc_ite, ↓IntWalk.iteOmega]
  have k1 : V.cell? ⟨w.heap.size, 1, none⟩ = some (.string t) := by rw [← hV]; simp [go_sem, cell_alloc_ite, ↓IntWalk.iteOmega]
  have k2 : V.cell? ⟨w.heap.size + 1, 0, none⟩ = some (.string g) := by rw [← hV]; simp [go_sem, cell_alloc_ite, ↓IntWalk.iteOmega]
  have k3 : V.cell? ⟨w.heap.size + 1, 1, none⟩ = some (.string u) := by rw [← hV]; simp [go_sem, cell_alloc_ite, ↓IntWalk.iteOmega]
  have k4 : V.cell? ⟨w.heap.size + 2, 0, none⟩ = some (.string i) := by rw [← hV]; simp [go_sem, cell_alloc_ite, ↓IntWalk.iteOmega]
  have k5 : V.cell? ⟨w.heap.size + 2, 1, none⟩ = some (.string j) := by rw [← hV]; simp [go_sem, cell_alloc_ite, ↓IntWalk.iteOmega]
  have hsV : w.heap.size + 2 < V.heap.size := by rw [← hV]; simp
  have hB : Below w.heap.size w V := by rw [← hV]; ((repeat (first | exact Below.refl _ _ | assumption | refine Below.setCell ?_ (by first | exact Nat.le_refl _ | (simp; done) | (simp; omega) | omega) _ | refine Below.alloc ?_ (by first | exact Nat.le_refl _ | (simp; done) | (simp; omega) | omega) _ | refine Below.drew ?_ | refine Below.trans ?_ (Below.mono (by assumption) (by first | exact Nat.le_refl _ | (simp; done) | (simp; omega) | omega)))); done)
  have HB : Below V.heap.size V V := Below.refl _ _
  have c0 := k0; have c1 := k1; have c2 := k2; have c3 := k3; have c4 := k4; have c5 := k5
  clear hV
  go_wp2_with (first
    | (go_at_call 5; refine (spanWithin _ _ _ _ _).mono ?_; rintro e w3 ⟨rfl, hb3⟩; replace HB := HB.trans (hb3.mono HB.size); replace c0 := bkeep HB k0 (by omega); replace c1 := bkeep HB k1 (by omega); replace c2 := bkeep HB k2 (by omega); replace c3 := bkeep HB k3 (by omega); replace c4 := bkeep HB k4 (by omega); replace c5 := bkeep HB k5 (by omega); clear hb3)
    | (go_at_call 6; refine (spanIn _ _ _ _).mono ?_; rintro e w3 ⟨rfl, hb3⟩; replace HB := HB.trans (hb3.mono HB.size); replace c0 := bkeep HB k0 (by omega); replace c1 := bkeep HB k1 (by omega); replace c2 := bkeep HB k2 (by omega); replace c3 := bkeep HB k3 (by omega); replace c4 := bkeep HB k4 (by omega); replace c5 := bkeep HB k5 (by omega); clear hb3)
    | (go_at_call 7; refine (spanIs _ _ _).mono ?_; rintro e w3 ⟨rfl, hb3⟩; replace HB := HB.trans (hb3.mono HB.size); replace c0 := bkeep HB k0 (by omega); replace c1 := bkeep HB k1 (by omega); replace c2 := bkeep HB k2 (by omega); replace c3 := bkeep HB k3 (by omega); replace c4 := bkeep HB k4 (by omega); replace c5 := bkeep HB k5 (by omega); clear hb3)
    | (go_at_call 8; refine (spanKnown _).mono ?_; rintro e w3 ⟨rfl, hb3⟩; replace HB := HB.trans (hb3.mono HB.size); replace c0 := bkeep HB k0 (by omega); replace c1 := bkeep HB k1 (by omega); replace c2 := bkeep HB k2 (by omega); replace c3 := bkeep HB k3 (by omega); replace c4 := bkeep HB k4 (by omega); replace c5 := bkeep HB k5 (by omega); clear hb3))
  go_ret
  exact ⟨rfl, hB.trans (Below.mono HB hB.size)⟩

set_option maxHeartbeats 1000000 in
theorem walkChain3 (f t g u i j x : ByteArray) (w : World) (hh : heavyB [(f, t), (g, u), (i, j)] = false) (g1 : ¬ (200 : Int) < (x.size : Int)) (h1 : withinB f t g u = true) (h2 : isB f t = true) (h3 : withinB f t f t = true) (h4 : withinB g u i j = true) (h5 : withinB f t i j = true) (h6 : inB f t x = false) :
    Calls Try.prog 3 #[.agg #[.string f, .string t], .agg #[.string g, .string u], .agg #[.string i, .string j], .string x] w fun e w' => e = .returned (.bool true) ∧ Below w.heap.size w w' := by
  go_enter Try.func3, Try.ntmps3
  go_wp2_with fail
  refine (spanHeavy (some ⟨w.heap.size + 3, 0, none⟩) 3 [(f, t), (g, u), (i, j)] _ (by simp) (spansThree (by simp) (by simp [go_sem]) (by simp [go_sem]) (by simp [go_sem]) (by simp [go_sem]) (by simp [go_sem]) (by simp [go_sem]))).mono ?_
  rintro e w1 ⟨rfl, rfl⟩
  go_wp2_with fail
  generalize hV : (((w.alloc _).alloc _).alloc _ |>.alloc _ : World) = V
  have k0 : V.cell? ⟨w.heap.size, 0, none⟩ = some (.string f) := by rw [← hV]; simp [go_sem, cell_alloc_ite, ↓IntWalk.iteOmega]
  have k1 : V.cell? ⟨w.heap.size, 1, none⟩ = some (.string t) := by rw [← hV]; simp [go_sem, cell_alloc_ite, ↓IntWalk.iteOmega]
  have k2 : V.cell? ⟨w.heap.size + 1, 0, none⟩ = some (.string g) := by rw [← hV]; simp [go_sem, cell_alloc_ite, ↓IntWalk.iteOmega]
  have k3 : V.cell? ⟨w.heap.size + 1, 1, none⟩ = some (.string u) := by rw [← hV]; simp [go_sem, cell_alloc_ite, ↓IntWalk.iteOmega]
  have k4 : V.cell? ⟨w.heap.size + 2, 0, none⟩ = some (.string i) := by rw [← hV]; simp [go_sem, cell_alloc_ite, ↓IntWalk.iteOmega]
  have k5 : V.cell? ⟨w.heap.size + 2, 1, none⟩ = some (.string j) := by rw [← hV]; simp [go_sem, cell_alloc_ite, ↓IntWalk.iteOmega]
  have hsV : w.heap.size + 2 < V.heap.size := by rw [← hV]; simp
  have hB : Below w.heap.size w V := by rw [← hV]; ((repeat (first | exact Below.refl _ _ | assumption | refine Below.setCell ?_ (by first | exact Nat.le_refl _ | (simp; done) | (simp; omega) | omega) _ | refine Below.alloc ?_ (by first | exact Nat.le_refl _ | (simp; done) | (simp; omega) | omega) _ | refine Below.drew ?_ | refine Below.trans ?_ (Below.mono (by assumption) (by first | exact Nat.le_refl _ | (simp; done) | (simp; omega) | omega)))); done)
  have HB : Below V.heap.size V V := Below.refl _ _
  have c0 := k0; have c1 := k1; have c2 := k2; have c3 := k3; have c4 := k4; have c5 := k5
  clear hV
  go_wp2_with (first
    | (go_at_call 5; refine (spanWithin _ _ _ _ _).mono ?_; rintro e w3 ⟨rfl, hb3⟩; replace HB := HB.trans (hb3.mono HB.size); replace c0 := bkeep HB k0 (by omega); replace c1 := bkeep HB k1 (by omega); replace c2 := bkeep HB k2 (by omega); replace c3 := bkeep HB k3 (by omega); replace c4 := bkeep HB k4 (by omega); replace c5 := bkeep HB k5 (by omega); clear hb3)
    | (go_at_call 6; refine (spanIn _ _ _ _).mono ?_; rintro e w3 ⟨rfl, hb3⟩; replace HB := HB.trans (hb3.mono HB.size); replace c0 := bkeep HB k0 (by omega); replace c1 := bkeep HB k1 (by omega); replace c2 := bkeep HB k2 (by omega); replace c3 := bkeep HB k3 (by omega); replace c4 := bkeep HB k4 (by omega); replace c5 := bkeep HB k5 (by omega); clear hb3)
    | (go_at_call 7; refine (spanIs _ _ _).mono ?_; rintro e w3 ⟨rfl, hb3⟩; replace HB := HB.trans (hb3.mono HB.size); replace c0 := bkeep HB k0 (by omega); replace c1 := bkeep HB k1 (by omega); replace c2 := bkeep HB k2 (by omega); replace c3 := bkeep HB k3 (by omega); replace c4 := bkeep HB k4 (by omega); replace c5 := bkeep HB k5 (by omega); clear hb3)
    | (go_at_call 8; refine (spanKnown _).mono ?_; rintro e w3 ⟨rfl, hb3⟩; replace HB := HB.trans (hb3.mono HB.size); replace c0 := bkeep HB k0 (by omega); replace c1 := bkeep HB k1 (by omega); replace c2 := bkeep HB k2 (by omega); replace c3 := bkeep HB k3 (by omega); replace c4 := bkeep HB k4 (by omega); replace c5 := bkeep HB k5 (by omega); clear hb3))
  go_ret
  exact ⟨rfl, hB.trans (Below.mono HB hB.size)⟩

set_option maxHeartbeats 1000000 in
theorem walkChain4 (f t g u i j x : ByteArray) (w : World) (hh : heavyB [(f, t), (g, u), (i, j)] = false) (g1 : ¬ (200 : Int) < (x.size : Int)) (h1 : withinB f t g u = true) (h2 : isB f t = true) (h3 : withinB f t f t = true) (h4 : withinB g u i j = false) (h6 : inB f t x = true) (h7 : inB g u x = true) :
    Calls Try.prog 3 #[.agg #[.string f, .string t], .agg #[.string g, .string u], .agg #[.string i, .string j], .string x] w fun e w' => e = .returned (.bool true) ∧ Below w.heap.size w w' := by
  go_enter Try.func3, Try.ntmps3
  go_wp2_with fail
  refine (spanHeavy (some ⟨w.heap.size + 3, 0, none⟩) 3 [(f, t), (g, u), (i, j)] _ (by simp) (spansThree (by simp) (by simp [go_sem]) (by simp [go_sem]) (by simp [go_sem]) (by simp [go_sem]) (by simp [go_sem]) (by simp [go_sem]))).mono ?_
  rintro e w1 ⟨rfl, rfl⟩
  go_wp2_with fail
  generalize hV : (((w.alloc _).alloc _).alloc _ |>.alloc _ : World) = V
  have k0 : V.cell? ⟨w.heap.size, 0, none⟩ = some (.string f) := by rw [← hV]; simp [go_sem, cell_alloc_ite, ↓IntWalk.iteOmega]
  have k1 : V.cell? ⟨w.heap.size, 1, none⟩ = some (.string t) := by rw [← hV]; simp [go_sem, cell_alloc_ite, ↓IntWalk.iteOmega]
  have k2 : V.cell? ⟨w.heap.size + 1, 0, none⟩ = some (.string g) := by rw [← hV]; simp [go_sem, cell_alloc_ite, ↓IntWalk.iteOmega]
  have k3 : V.cell? ⟨w.heap.size + 1, 1, none⟩ = some (.string u) := by rw [← hV]; simp [go_sem, cell_alloc_ite, ↓IntWalk.iteOmega]
  have k4 : V.cell? ⟨w.heap.size + 2, 0, none⟩ = some (.string i) := by rw [← hV]; simp [go_sem, cell_alloc_ite, ↓IntWalk.iteOmega]
  have k5 : V.cell? ⟨w.heap.size + 2, 1, none⟩ = some (.string j) := by rw [← hV]; simp [go_sem, cell_alloc_ite, ↓IntWalk.iteOmega]
  have hsV : w.heap.size + 2 < V.heap.size := by rw [← hV]; simp
  have hB : Below w.heap.size w V := by rw [← hV]; ((repeat (first | exact Below.refl _ _ | assumption | refine Below.setCell ?_ (by first | exact Nat.le_refl _ | (simp; done) | (simp; omega) | omega) _ | refine Below.alloc ?_ (by first | exact Nat.le_refl _ | (simp; done) | (simp; omega) | omega) _ | refine Below.drew ?_ | refine Below.trans ?_ (Below.mono (by assumption) (by first | exact Nat.le_refl _ | (simp; done) | (simp; omega) | omega)))); done)
  have HB : Below V.heap.size V V := Below.refl _ _
  have c0 := k0; have c1 := k1; have c2 := k2; have c3 := k3; have c4 := k4; have c5 := k5
  clear hV
  go_wp2_with (first
    | (go_at_call 5; refine (spanWithin _ _ _ _ _).mono ?_; rintro e w3 ⟨rfl, hb3⟩; replace HB := HB.trans (hb3.mono HB.size); replace c0 := bkeep HB k0 (by omega); replace c1 := bkeep HB k1 (by omega); replace c2 := bkeep HB k2 (by omega); replace c3 := bkeep HB k3 (by omega); replace c4 := bkeep HB k4 (by omega); replace c5 := bkeep HB k5 (by omega); clear hb3)
    | (go_at_call 6; refine (spanIn _ _ _ _).mono ?_; rintro e w3 ⟨rfl, hb3⟩; replace HB := HB.trans (hb3.mono HB.size); replace c0 := bkeep HB k0 (by omega); replace c1 := bkeep HB k1 (by omega); replace c2 := bkeep HB k2 (by omega); replace c3 := bkeep HB k3 (by omega); replace c4 := bkeep HB k4 (by omega); replace c5 := bkeep HB k5 (by omega); clear hb3)
    | (go_at_call 7; refine (spanIs _ _ _).mono ?_; rintro e w3 ⟨rfl, hb3⟩; replace HB := HB.trans (hb3.mono HB.size); replace c0 := bkeep HB k0 (by omega); replace c1 := bkeep HB k1 (by omega); replace c2 := bkeep HB k2 (by omega); replace c3 := bkeep HB k3 (by omega); replace c4 := bkeep HB k4 (by omega); replace c5 := bkeep HB k5 (by omega); clear hb3)
    | (go_at_call 8; refine (spanKnown _).mono ?_; rintro e w3 ⟨rfl, hb3⟩; replace HB := HB.trans (hb3.mono HB.size); replace c0 := bkeep HB k0 (by omega); replace c1 := bkeep HB k1 (by omega); replace c2 := bkeep HB k2 (by omega); replace c3 := bkeep HB k3 (by omega); replace c4 := bkeep HB k4 (by omega); replace c5 := bkeep HB k5 (by omega); clear hb3))
  go_ret
  exact ⟨rfl, hB.trans (Below.mono HB hB.size)⟩

set_option maxHeartbeats 1000000 in
theorem walkChain5 (f t g u i j x : ByteArray) (w : World) (hh : heavyB [(f, t), (g, u), (i, j)] = false) (g1 : ¬ (200 : Int) < (x.size : Int)) (h1 : withinB f t g u = true) (h2 : isB f t = true) (h3 : withinB f t f t = true) (h4 : withinB g u i j = false) (h6 : inB f t x = false) :
    Calls Try.prog 3 #[.agg #[.string f, .string t], .agg #[.string g, .string u], .agg #[.string i, .string j], .string x] w fun e w' => e = .returned (.bool true) ∧ Below w.heap.size w w' := by
  go_enter Try.func3, Try.ntmps3
  go_wp2_with fail
  refine (spanHeavy (some ⟨w.heap.size + 3, 0, none⟩) 3 [(f, t), (g, u), (i, j)] _ (by simp) (spansThree (by simp) (by simp [go_sem]) (by simp [go_sem]) (by simp [go_sem]) (by simp [go_sem]) (by simp [go_sem]) (by simp [go_sem]))).mono ?_
  rintro e w1 ⟨rfl, rfl⟩
  go_wp2_with fail
  generalize hV : (((w.alloc _).alloc _).alloc _ |>.alloc _ : World) = V
  have k0 : V.cell? ⟨w.heap.size, 0, none⟩ = some (.string f) := by rw [← hV]; simp [go_sem, cell_alloc_ite, ↓IntWalk.iteOmega]
  have k1 : V.cell? ⟨w.heap.size, 1, none⟩ = some (.string t) := by rw [← hV]; simp [go_sem, cell_alloc_ite, ↓IntWalk.iteOmega]
  have k2 : V.cell? ⟨w.heap.size + 1, 0, none⟩ = some (.string g) := by rw [← hV]; simp [go_sem, cell_alloc_ite, ↓IntWalk.iteOmega]
  have k3 : V.cell? ⟨w.heap.size + 1, 1, none⟩ = some (.string u) := by rw [← hV]; simp [go_sem, cell_alloc_ite, ↓IntWalk.iteOmega]
  have k4 : V.cell? ⟨w.heap.size + 2, 0, none⟩ = some (.string i) := by rw [← hV]; simp [go_sem, cell_alloc_ite, ↓IntWalk.iteOmega]
  have k5 : V.cell? ⟨w.heap.size + 2, 1, none⟩ = some (.string j) := by rw [← hV]; simp [go_sem, cell_alloc_ite, ↓IntWalk.iteOmega]
  have hsV : w.heap.size + 2 < V.heap.size := by rw [← hV]; simp
  have hB : Below w.heap.size w V := by rw [← hV]; ((repeat (first | exact Below.refl _ _ | assumption | refine Below.setCell ?_ (by first | exact Nat.le_refl _ | (simp; done) | (simp; omega) | omega) _ | refine Below.alloc ?_ (by first | exact Nat.le_refl _ | (simp; done) | (simp; omega) | omega) _ | refine Below.drew ?_ | refine Below.trans ?_ (Below.mono (by assumption) (by first | exact Nat.le_refl _ | (simp; done) | (simp; omega) | omega)))); done)
  have HB : Below V.heap.size V V := Below.refl _ _
  have c0 := k0; have c1 := k1; have c2 := k2; have c3 := k3; have c4 := k4; have c5 := k5
  clear hV
  go_wp2_with (first
    | (go_at_call 5; refine (spanWithin _ _ _ _ _).mono ?_; rintro e w3 ⟨rfl, hb3⟩; replace HB := HB.trans (hb3.mono HB.size); replace c0 := bkeep HB k0 (by omega); replace c1 := bkeep HB k1 (by omega); replace c2 := bkeep HB k2 (by omega); replace c3 := bkeep HB k3 (by omega); replace c4 := bkeep HB k4 (by omega); replace c5 := bkeep HB k5 (by omega); clear hb3)
    | (go_at_call 6; refine (spanIn _ _ _ _).mono ?_; rintro e w3 ⟨rfl, hb3⟩; replace HB := HB.trans (hb3.mono HB.size); replace c0 := bkeep HB k0 (by omega); replace c1 := bkeep HB k1 (by omega); replace c2 := bkeep HB k2 (by omega); replace c3 := bkeep HB k3 (by omega); replace c4 := bkeep HB k4 (by omega); replace c5 := bkeep HB k5 (by omega); clear hb3)
    | (go_at_call 7; refine (spanIs _ _ _).mono ?_; rintro e w3 ⟨rfl, hb3⟩; replace HB := HB.trans (hb3.mono HB.size); replace c0 := bkeep HB k0 (by omega); replace c1 := bkeep HB k1 (by omega); replace c2 := bkeep HB k2 (by omega); replace c3 := bkeep HB k3 (by omega); replace c4 := bkeep HB k4 (by omega); replace c5 := bkeep HB k5 (by omega); clear hb3)
    | (go_at_call 8; refine (spanKnown _).mono ?_; rintro e w3 ⟨rfl, hb3⟩; replace HB := HB.trans (hb3.mono HB.size); replace c0 := bkeep HB k0 (by omega); replace c1 := bkeep HB k1 (by omega); replace c2 := bkeep HB k2 (by omega); replace c3 := bkeep HB k3 (by omega); replace c4 := bkeep HB k4 (by omega); replace c5 := bkeep HB k5 (by omega); clear hb3))
  go_ret
  exact ⟨rfl, hB.trans (Below.mono HB hB.size)⟩

theorem walkChain (f t g u i j x : ByteArray) (w : World) :
    Calls Try.prog 3 #[.agg #[.string f, .string t], .agg #[.string g, .string u], .agg #[.string i, .string j], .string x] w fun e w' => e = .returned (.bool true) ∧ Below w.heap.size w w' := by
  cases hh : heavyB [(f, t), (g, u), (i, j)]
  · by_cases g1 : (200 : Int) < (x.size : Int)
    · go_enter Try.func3, Try.ntmps3
      go_wp2_with fail
      refine (spanHeavy (some ⟨w.heap.size + 3, 0, none⟩) 3 [(f, t), (g, u), (i, j)] _ (by simp) (spansThree (by simp) (by simp [go_sem]) (by simp [go_sem]) (by simp [go_sem]) (by simp [go_sem]) (by simp [go_sem]) (by simp [go_sem]))).mono ?_
      rintro e w1 ⟨rfl, rfl⟩
      go_wp2_with fail
      go_ret
      exact ⟨rfl, by ((repeat (first | exact Below.refl _ _ | assumption | refine Below.setCell ?_ (by first | exact Nat.le_refl _ | (simp; done) | (simp; omega) | omega) _ | refine Below.alloc ?_ (by first | exact Nat.le_refl _ | (simp; done) | (simp; omega) | omega) _ | refine Below.drew ?_ | refine Below.trans ?_ (Below.mono (by assumption) (by first | exact Nat.le_refl _ | (simp; done) | (simp; omega) | omega)))); done)⟩
    · cases h1 : withinB f t g u
      · cases h2 : isB f t
        · exact walkChain0 f t g u i j x w hh g1 h1 h2
        · exact walkChain1 f t g u i j x w hh g1 h1 h2 (within_refl h2)
      · have h2 : isB f t = true := (withinB_iff.1 h1).1
        cases h4 : withinB g u i j <;> cases h6 : inB f t x
        · exact walkChain5 f t g u i j x w hh g1 h1 h2 (within_refl h2) h4 h6
        · exact walkChain4 f t g u i j x w hh g1 h1 h2 (within_refl h2) h4 h6 (within_key h1 h6)
        · exact walkChain3 f t g u i j x w hh g1 h1 h2 (within_refl h2) h4 (within_trans h1 h4) h6
        · exact walkChain2 f t g u i j x w hh g1 h1 h2 (within_refl h2) h4 (within_trans h1 h4) h6 (within_key h1 h6)
  · go_enter Try.func3, Try.ntmps3
    go_wp2_with fail
    refine (spanHeavy (some ⟨w.heap.size + 3, 0, none⟩) 3 [(f, t), (g, u), (i, j)] _ (by simp) (spansThree (by simp) (by simp [go_sem]) (by simp [go_sem]) (by simp [go_sem]) (by simp [go_sem]) (by simp [go_sem]) (by simp [go_sem]))).mono ?_
    rintro e w1 ⟨rfl, rfl⟩
    go_wp2_with fail
    go_ret
    exact ⟨rfl, by ((repeat (first | exact Below.refl _ _ | assumption | refine Below.setCell ?_ (by first | exact Nat.le_refl _ | (simp; done) | (simp; omega) | omega) _ | refine Below.alloc ?_ (by first | exact Nat.le_refl _ | (simp; done) | (simp; omega) | omega) _ | refine Below.drew ?_ | refine Below.trans ?_ (Below.mono (by assumption) (by first | exact Nat.le_refl _ | (simp; done) | (simp; omega) | omega)))); done)⟩

end Go.Proofs.Ytbeebcocedmjkab
