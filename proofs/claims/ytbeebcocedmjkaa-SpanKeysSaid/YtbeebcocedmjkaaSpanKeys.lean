/- The walk of the law SpanKeys: it returns true. -/
import Derived.Test.YtbeebcocedmjkaaSpanR
namespace Go.Proofs.Ytbeebcocedmjkaa
open Go.RowKit
set_option linter.unusedVariables false
set_option linter.unusedSimpArgs false

set_option maxHeartbeats 1000000 in
theorem walkKeys0 (f t k : ByteArray) (w : World) (hh : heavyB [(f, t)] = false) (g1 : ¬ (200 : Int) < (k.size : Int)) (hcut : cutB f t k = false) :
    Calls Try.prog 10 #[.agg #[.string f, .string t], .string k] w fun e w' => e = .returned (.bool true) ∧ Below w.heap.size w w' := by
  go_enter Try.func10, Try.ntmps10
  go_wp2_with fail
  refine (spanHeavy (some ⟨w.heap.size + 1, 0, none⟩) 1 [(f, t)] _ (by simp) (spansOne (by simp) (by simp) (by simp))).mono ?_
  rintro e w1 ⟨rfl, rfl⟩
  go_wp2_with fail
  refine (spanCut0 _ _ _ _ hcut).mono ?_
  rintro e w1 ⟨rfl, hb⟩
  obtain ⟨hc, hf⟩ := bcell hb
  have hs := hb.size; (try simp at hs)
  go_wp2_with fail
  refine (refCut0 _ _ _ _ hcut).mono ?_
  rintro e w2 ⟨rfl, hb2⟩
  obtain ⟨hc2, hf2⟩ := bcell hb2
  have hs2 := hb2.size; (try simp at hs2)
  go_wp2_with fail
  generalize hV : ((w2.alloc _).alloc _ : World) = V
  have k0 : V.cell? ⟨w.heap.size, 0, none⟩ = some (.string f) := by rw [← hV]; simp [go_sem, hc2, hc, cell_alloc_ite, ↓IntWalk.iteOmega]
  have k1 : V.cell? ⟨w.heap.size, 1, none⟩ = some (.string t) := by rw [← hV]; simp [go_sem, hc2, hc, cell_alloc_ite, ↓IntWalk.iteOmega]
  have k2 : V.cell? ⟨w1.heap.size, 0, none⟩ = some (.string ⟨#[]⟩) := by rw [← hV]; simp [go_sem, hc2, hc, cell_alloc_ite, ↓IntWalk.iteOmega]
  have k3 : V.cell? ⟨w1.heap.size, 1, none⟩ = some (.string ⟨#[]⟩) := by rw [← hV]; simp [go_sem, hc2, hc, cell_alloc_ite, ↓IntWalk.iteOmega]
  have k4 : V.cell? ⟨w1.heap.size + 1, 0, none⟩ = some (.string ⟨#[]⟩) := by rw [← hV]; simp [go_sem, hc2, hc, cell_alloc_ite, ↓IntWalk.iteOmega]
  have k5 : V.cell? ⟨w1.heap.size + 1, 1, none⟩ = some (.string ⟨#[]⟩) := by rw [← hV]; simp [go_sem, hc2, hc, cell_alloc_ite, ↓IntWalk.iteOmega]
  have k6 : V.cell? ⟨w2.heap.size, 0, none⟩ = some (.string ⟨#[]⟩) := by rw [← hV]; simp [go_sem, hc2, hc, cell_alloc_ite, ↓IntWalk.iteOmega]
  have k7 : V.cell? ⟨w2.heap.size, 1, none⟩ = some (.string ⟨#[]⟩) := by rw [← hV]; simp [go_sem, hc2, hc, cell_alloc_ite, ↓IntWalk.iteOmega]
  have k8 : V.cell? ⟨w2.heap.size + 1, 0, none⟩ = some (.string ⟨#[]⟩) := by rw [← hV]; simp [go_sem, hc2, hc, cell_alloc_ite, ↓IntWalk.iteOmega]
  have k9 : V.cell? ⟨w2.heap.size + 1, 1, none⟩ = some (.string ⟨#[]⟩) := by rw [← hV]; simp [go_sem, hc2, hc, cell_alloc_ite, ↓IntWalk.iteOmega]
  have hsV : w2.heap.size + 1 < V.heap.size := by rw [← hV]; simp
  have hB : Below w.heap.size w V := by rw [← hV]; clear hc hf hc2 hf2; ((repeat (first | exact Below.refl _ _ | assumption | refine Below.setCell ?_ (by first | exact Nat.le_refl _ | (simp; done) | (simp; omega) | omega) _ | refine Below.alloc ?_ (by first | exact Nat.le_refl _ | (simp; done) | (simp; omega) | omega) _ | refine Below.drew ?_ | refine Below.trans ?_ (Below.mono (by assumption) (by first | exact Nat.le_refl _ | (simp; done) | (simp; omega) | omega)))); done)
  clear hV hc hf hc2 hf2 hb hb2
  go_region_held3 (fun W => Below V.heap.size V W ∧ W.cell? ⟨w.heap.size, 0, none⟩ = some (.string f) ∧ W.cell? ⟨w.heap.size, 1, none⟩ = some (.string t) ∧ W.cell? ⟨w1.heap.size, 0, none⟩ = some (.string ⟨#[]⟩) ∧ W.cell? ⟨w1.heap.size, 1, none⟩ = some (.string ⟨#[]⟩) ∧ W.cell? ⟨w1.heap.size + 1, 0, none⟩ = some (.string ⟨#[]⟩) ∧ W.cell? ⟨w1.heap.size + 1, 1, none⟩ = some (.string ⟨#[]⟩) ∧ W.cell? ⟨w2.heap.size, 0, none⟩ = some (.string ⟨#[]⟩) ∧ W.cell? ⟨w2.heap.size, 1, none⟩ = some (.string ⟨#[]⟩) ∧ W.cell? ⟨w2.heap.size + 1, 0, none⟩ = some (.string ⟨#[]⟩) ∧ W.cell? ⟨w2.heap.size + 1, 1, none⟩ = some (.string ⟨#[]⟩))
    (first
      | exact ⟨(Below.refl _ _).drew, k0, k1, k2, k3, k4, k5, k6, k7, k8, k9⟩
      | (have hh := Below.trans (And.left (by assumption)) (Below.mono (by assumption) (Below.size (And.left (by assumption)))); exact ⟨hh, bkeep hh k0 (by omega), bkeep hh k1 (by omega), bkeep hh k2 (by omega), bkeep hh k3 (by omega), bkeep hh k4 (by omega), bkeep hh k5 (by omega), bkeep hh k6 (by omega), bkeep hh k7 (by omega), bkeep hh k8 (by omega), bkeep hh k9 (by omega)⟩))
    (first
      | (go_at_call 34; refine (spanIs _ _ _).mono ?_; rintro e w3 ⟨rfl, hb3⟩)
      | (go_at_call 35; refine (refIs _ _ _).mono ?_; rintro e w3 ⟨rfl, hb3⟩)
      | (go_at_call 36; refine (spanIn _ _ _ _).mono ?_; rintro e w3 ⟨rfl, hb3⟩)
      | (go_at_call 37; refine (refIn _ _ _ _).mono ?_; rintro e w3 ⟨rfl, hb3⟩)
      | (go_at_call 38; refine (spanKnown _).mono ?_; rintro e w3 ⟨rfl, hb3⟩))
  go_wp2_with fail
  go_ret
  exact ⟨rfl, hB.trans (Below.mono (And.left (by assumption)) hB.size)⟩

set_option maxHeartbeats 1000000 in
theorem walkKeys1 (f t k : ByteArray) (w : World) (hh : heavyB [(f, t)] = false) (g1 : ¬ (200 : Int) < (k.size : Int)) (hcut : cutB f t k = true) :
    Calls Try.prog 10 #[.agg #[.string f, .string t], .string k] w fun e w' => e = .returned (.bool true) ∧ Below w.heap.size w w' := by
  go_enter Try.func10, Try.ntmps10
  go_wp2_with fail
  refine (spanHeavy (some ⟨w.heap.size + 1, 0, none⟩) 1 [(f, t)] _ (by simp) (spansOne (by simp) (by simp) (by simp))).mono ?_
  rintro e w1 ⟨rfl, rfl⟩
  go_wp2_with fail
  refine (spanCut1 _ _ _ _ hcut).mono ?_
  rintro e w1 ⟨rfl, hb⟩
  obtain ⟨hc, hf⟩ := bcell hb
  have hs := hb.size; (try simp at hs)
  go_wp2_with fail
  refine (refCut1 _ _ _ _ hcut).mono ?_
  rintro e w2 ⟨rfl, hb2⟩
  obtain ⟨hc2, hf2⟩ := bcell hb2
  have hs2 := hb2.size; (try simp at hs2)
  go_wp2_with fail
  generalize hV : ((w2.alloc _).alloc _ : World) = V
  have k0 : V.cell? ⟨w.heap.size, 0, none⟩ = some (.string f) := by rw [← hV]; simp [go_sem, hc2, hc, cell_alloc_ite, ↓IntWalk.iteOmega]
  have k1 : V.cell? ⟨w.heap.size, 1, none⟩ = some (.string t) := by rw [← hV]; simp [go_sem, hc2, hc, cell_alloc_ite, ↓IntWalk.iteOmega]
  have k2 : V.cell? ⟨w1.heap.size, 0, none⟩ = some (.string f) := by rw [← hV]; simp [go_sem, hc2, hc, cell_alloc_ite, ↓IntWalk.iteOmega]
  have k3 : V.cell? ⟨w1.heap.size, 1, none⟩ = some (.string k) := by rw [← hV]; simp [go_sem, hc2, hc, cell_alloc_ite, ↓IntWalk.iteOmega]
  have k4 : V.cell? ⟨w1.heap.size + 1, 0, none⟩ = some (.string k) := by rw [← hV]; simp [go_sem, hc2, hc, cell_alloc_ite, ↓IntWalk.iteOmega]
  have k5 : V.cell? ⟨w1.heap.size + 1, 1, none⟩ = some (.string t) := by rw [← hV]; simp [go_sem, hc2, hc, cell_alloc_ite, ↓IntWalk.iteOmega]
  have k6 : V.cell? ⟨w2.heap.size, 0, none⟩ = some (.string f) := by rw [← hV]; simp [go_sem, hc2, hc, cell_alloc_ite, ↓IntWalk.iteOmega]
  have k7 : V.cell? ⟨w2.heap.size, 1, none⟩ = some (.string k) := by rw [← hV]; simp [go_sem, hc2, hc, cell_alloc_ite, ↓IntWalk.iteOmega]
  have k8 : V.cell? ⟨w2.heap.size + 1, 0, none⟩ = some (.string k) := by rw [← hV]; simp [go_sem, hc2, hc, cell_alloc_ite, ↓IntWalk.iteOmega]
  have k9 : V.cell? ⟨w2.heap.size + 1, 1, none⟩ = some (.string t) := by rw [← hV]; simp [go_sem, hc2, hc, cell_alloc_ite, ↓IntWalk.iteOmega]
  have hsV : w2.heap.size + 1 < V.heap.size := by rw [← hV]; simp
  have hB : Below w.heap.size w V := by rw [← hV]; clear hc hf hc2 hf2; ((repeat (first | exact Below.refl _ _ | assumption | refine Below.setCell ?_ (by first | exact Nat.le_refl _ | (simp; done) | (simp; omega) | omega) _ | refine Below.alloc ?_ (by first | exact Nat.le_refl _ | (simp; done) | (simp; omega) | omega) _ | refine Below.drew ?_ | refine Below.trans ?_ (Below.mono (by assumption) (by first | exact Nat.le_refl _ | (simp; done) | (simp; omega) | omega)))); done)
  clear hV hc hf hc2 hf2 hb hb2
  go_region_held3 (fun W => Below V.heap.size V W ∧ W.cell? ⟨w.heap.size, 0, none⟩ = some (.string f) ∧ W.cell? ⟨w.heap.size, 1, none⟩ = some (.string t) ∧ W.cell? ⟨w1.heap.size, 0, none⟩ = some (.string f) ∧ W.cell? ⟨w1.heap.size, 1, none⟩ = some (.string k) ∧ W.cell? ⟨w1.heap.size + 1, 0, none⟩ = some (.string k) ∧ W.cell? ⟨w1.heap.size + 1, 1, none⟩ = some (.string t) ∧ W.cell? ⟨w2.heap.size, 0, none⟩ = some (.string f) ∧ W.cell? ⟨w2.heap.size, 1, none⟩ = some (.string k) ∧ W.cell? ⟨w2.heap.size + 1, 0, none⟩ = some (.string k) ∧ W.cell? ⟨w2.heap.size + 1, 1, none⟩ = some (.string t))
    (first
      | exact ⟨(Below.refl _ _).drew, k0, k1, k2, k3, k4, k5, k6, k7, k8, k9⟩
      | (have hh := Below.trans (And.left (by assumption)) (Below.mono (by assumption) (Below.size (And.left (by assumption)))); exact ⟨hh, bkeep hh k0 (by omega), bkeep hh k1 (by omega), bkeep hh k2 (by omega), bkeep hh k3 (by omega), bkeep hh k4 (by omega), bkeep hh k5 (by omega), bkeep hh k6 (by omega), bkeep hh k7 (by omega), bkeep hh k8 (by omega), bkeep hh k9 (by omega)⟩))
    (first
      | (go_at_call 34; refine (spanIs _ _ _).mono ?_; rintro e w3 ⟨rfl, hb3⟩)
      | (go_at_call 35; refine (refIs _ _ _).mono ?_; rintro e w3 ⟨rfl, hb3⟩)
      | (go_at_call 36; refine (spanIn _ _ _ _).mono ?_; rintro e w3 ⟨rfl, hb3⟩)
      | (go_at_call 37; refine (refIn _ _ _ _).mono ?_; rintro e w3 ⟨rfl, hb3⟩)
      | (go_at_call 38; refine (spanKnown _).mono ?_; rintro e w3 ⟨rfl, hb3⟩))
  go_wp2_with fail
  go_ret
  exact ⟨rfl, hB.trans (Below.mono (And.left (by assumption)) hB.size)⟩

theorem walkKeys (f t k : ByteArray) (w : World) :
    Calls Try.prog 10 #[.agg #[.string f, .string t], .string k] w fun e w' => e = .returned (.bool true) ∧ Below w.heap.size w w' := by
  cases hh : heavyB [(f, t)]
  · by_cases g1 : (200 : Int) < (k.size : Int)
    · go_enter Try.func10, Try.ntmps10
      go_wp2_with fail
      refine (spanHeavy (some ⟨w.heap.size + 1, 0, none⟩) 1 [(f, t)] _ (by simp) (spansOne (by simp) (by simp) (by simp))).mono ?_
      rintro e w1 ⟨rfl, rfl⟩
      go_wp2_with fail
      go_ret
      exact ⟨rfl, by ((repeat (first | exact Below.refl _ _ | assumption | refine Below.setCell ?_ (by first | exact Nat.le_refl _ | (simp; done) | (simp; omega) | omega) _ | refine Below.alloc ?_ (by first | exact Nat.le_refl _ | (simp; done) | (simp; omega) | omega) _ | refine Below.drew ?_ | refine Below.trans ?_ (Below.mono (by assumption) (by first | exact Nat.le_refl _ | (simp; done) | (simp; omega) | omega)))); done)⟩
    · cases hcut : cutB f t k
      · exact walkKeys0 f t k w hh g1 hcut
      · exact walkKeys1 f t k w hh g1 hcut
  · go_enter Try.func10, Try.ntmps10
    go_wp2_with fail
    refine (spanHeavy (some ⟨w.heap.size + 1, 0, none⟩) 1 [(f, t)] _ (by simp) (spansOne (by simp) (by simp) (by simp))).mono ?_
    rintro e w1 ⟨rfl, rfl⟩
    go_wp2_with fail
    go_ret
    exact ⟨rfl, by ((repeat (first | exact Below.refl _ _ | assumption | refine Below.setCell ?_ (by first | exact Nat.le_refl _ | (simp; done) | (simp; omega) | omega) _ | refine Below.alloc ?_ (by first | exact Nat.le_refl _ | (simp; done) | (simp; omega) | omega) _ | refine Below.drew ?_ | refine Below.trans ?_ (Below.mono (by assumption) (by first | exact Nat.le_refl _ | (simp; done) | (simp; omega) | omega)))); done)⟩

end Go.Proofs.Ytbeebcocedmjkaa
