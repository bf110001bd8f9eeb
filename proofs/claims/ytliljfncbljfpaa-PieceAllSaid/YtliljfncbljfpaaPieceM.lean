/- PieceComes returns true. -/
import Derived.Test.YtliljfncbljfpaaPieceV
import Derived.Test.YtliljfncbljfpaaOpenBits
import Derived.Test.YtliljfncbljfpaaPieceG
namespace Go.Proofs.Ytliljfncbljfpaa
open Go.RowKit
set_option linter.unusedVariables false
set_option linter.unusedSimpArgs false

/-- the bytes of the first k pieces, ten more for each -/
def bulk (l : List (Int × List Nat)) : Nat := (l.map fun x => 10 + x.2.length).sum
theorem bulk_take {l : List (Int × List Nat)} {k : Nat} (h : k < l.length) : bulk (l.take (k + 1)) = bulk (l.take k) + (10 + l[k].2.length) := by
  unfold bulk
  rw [List.take_succ_eq_append_getElem h]
  simp only [List.map_append, List.sum_append, List.map_cons, List.map_nil, List.sum_cons, List.sum_nil]
  omega
theorem bulk_mono (l : List (Int × List Nat)) (j k : Nat) (h : j ≤ k) : bulk (l.take j) ≤ bulk (l.take k) := by
  induction k with
  | zero => have : j = 0 := by omega
            subst this; exact Nat.le_refl _
  | succ k ih =>
    by_cases hj : j = k + 1
    · subst hj; exact Nat.le_refl _
    · have := ih (by omega)
      by_cases hk : k < l.length
      · rw [bulk_take hk]; omega
      · have e : l.take (k + 1) = l.take k := by rw [List.take_of_length_le (by omega), List.take_of_length_le (by omega)]
        rw [e]; exact this

theorem piWholeB (b L : Nat) (row : List Nat) (s : Int) (bb : Bool) (w : World) (h : Pi w b L row s) (hb : decide ((row.length : Int) = s) = bb) :
    Calls Try.prog 43 #[.pointer (some ⟨b, 0, none⟩)] w fun e w' => e = .returned (.bool bb) ∧ Below w.heap.size w w' :=
  (piWhole b L row s w h).mono fun e w' ⟨he, n, hw⟩ => ⟨by rw [he, hb], by rw [hw]; exact b_drewN (Below.refl _ _)⟩
theorem riWholeB (b L : Nat) (row : List Nat) (s : Int) (bb : Bool) (w : World) (h : Ri w b L row s) (hb : decide ((row.length : Int) = s) = bb) :
    Calls Try.prog 44 #[.pointer (some ⟨b, 0, none⟩)] w fun e w' => e = .returned (.bool bb) ∧ Below w.heap.size w w' :=
  (riWhole b L row s w h).mono fun e w' ⟨he, n, hw⟩ => ⟨by rw [he, hb], by rw [hw]; exact b_drewN (Below.refl _ _)⟩

/-- both Ins, which do not meet -/
structure PM (w0 w : World) (b L r M : Nat) (row : List Nat) (s : Int) : Prop where
  pi : Pi w b L row s
  ri : Ri w r M row s
  be : Below w0.heap.size w0 w
  ne : b ≠ r
  hl : w0.heap.size ≤ L
  hm : w0.heap.size ≤ M
  x1 : ∀ g, rowBlk w b = some g → g ≠ r
  x2 : ∀ g, rowBlk2 w r = some g → g ≠ b ∧ rowBlk w b ≠ some g
theorem PM.below {w0 w w' : World} {b L r M : Nat} {row : List Nat} {s : Int} (h : PM w0 w b L r M row s) (hb : Below w.heap.size w w') : PM w0 w' b L r M row s := by
  have t := Touch.of_below hb
  have e1 : rowBlk w' b = rowBlk w b := rowBlk_touch t h.pi.low (by have := h.pi.low; omega)
  have e2 : rowBlk2 w' r = rowBlk2 w r := rowBlk2_touch t h.ri.low (by have := h.ri.low; omega)
  exact ⟨h.pi.touch t (by have := h.pi.low; omega) (fun g hg => by have := (h.pi.blk_lt hg).2; omega), h.ri.touch t (by have := h.ri.low; omega) (fun g hg => by have := (h.ri.blk_lt hg).2; omega), h.be.trans (hb.mono h.be.size), h.ne, h.hl, h.hm, by rw [e1]; exact h.x1, by rw [e1, e2]; exact h.x2⟩
/-- a block that was made later is written -/
theorem PM.late {w0 w w1 w' : World} {b L r M g : Nat} {row : List Nat} {s : Int} (h : PM w0 w b L r M row s) (ht : Touch (fun k => k = g) w w') (hb : b ≠ g) (hr : r ≠ g) (h1 : rowBlk w b ≠ some g) (h2 : rowBlk2 w r ≠ some g) (hg : w0.heap.size ≤ g) : PM w0 w' b L r M row s := by
  have e1 : rowBlk w' b = rowBlk w b := rowBlk_touch ht h.pi.low hb
  have e2 : rowBlk2 w' r = rowBlk2 w r := rowBlk2_touch ht h.ri.low hr
  exact ⟨h.pi.touch ht hb (fun k hk => by rintro rfl; exact h1 hk), h.ri.touch ht hr (fun k hk => by rintro rfl; exact h2 hk), h.be.trans (ht.below h.be.size (by rintro k rfl; exact hg)), h.ne, h.hl, h.hm, by rw [e1]; exact h.x1, by rw [e1, e2]; exact h.x2⟩
theorem PM.take {w0 w w1 w2 : World} {b L r M : Nat} {row p : List Nat} {s : Int} (h : PM w0 w b L r M row s) (hpi : Pi w1 b L (row ++ p) s) (ht1 : Touch (fun k => k = b ∨ rowBlk w b = some k) w w1) (hk : rowBlk w1 b = rowBlk w b ∨ rowBlk w1 b = some w.heap.size)
    (hri : Ri w2 r M (row ++ p) s) (ht2 : Touch (fun k => k = r) w1 w2) (hk2 : ∀ g, rowBlk2 w2 r = some g → w1.heap.size ≤ g) : PM w0 w2 b L r M (row ++ p) s := by
  have hs := ht1.size
  have hl1 := hpi.low
  have hbw := h.pi.low
  have hrw := h.ri.low
  have hx : ∀ g, rowBlk w1 b = some g → g ≠ r ∧ g < w1.heap.size := by
    intro g hg
    refine ⟨?_, (hpi.blk_lt hg).2⟩
    rcases hk with e | e
    · exact h.x1 g (e ▸ hg)
    · rw [e] at hg; injection hg; omega
  have e1 : rowBlk w2 b = rowBlk w1 b := rowBlk_touch ht2 hl1 h.ne
  have hbe : w0.heap.size ≤ w.heap.size := h.be.size
  refine ⟨hpi.touch ht2 h.ne (fun g hg => (hx g hg).1), hri, (h.be.trans (ht1.below hbe ?_)).trans (ht2.below (by omega) ?_), h.ne, h.hl, h.hm, fun g hg => (hx g (e1 ▸ hg)).1, ?_⟩
  · rintro k (rfl | hk)
    · have := h.pi.high; have := h.hl; omega
    · have := (h.pi.blk_lt hk).1; have := h.hl; omega
  · rintro k rfl; have := h.ri.high; have := h.hm; omega
  · intro g hg
    have := hk2 g hg
    refine ⟨by omega, fun hh => ?_⟩
    have := (hx g (e1 ▸ hh)).2
    omega

set_option maxHeartbeats 4000000 in
set_option maxRecDepth 100000 in
theorem walkPieceComesS (n : Int) (hn0 : 1 ≤ n) (hn1 : n ≤ 524288) (A : Option Addr) (c : Nat) (l : List (Int × List Nat)) (w : World) (hc : l.length ≤ c) (hcm : c ≤ 9223372036854775807) (hL : l.length ≤ 100) (HX : Hid (Bits w w.heap.size A l)) :
    Calls Try.prog 9 #[.int .i64 n, .slice A l.length c] w fun e w' => e = .returned (.bool true) ∧ Below w.heap.size w w' := by
  go_enter Try.func9, Try.ntmps9
  go_wp2_with fail
  go_loop [5, 6] (fun m i => ∃ k : Nat, k ≤ l.length ∧ i = .int .i64 k ∧ m = .int .i64 (bulk (l.take k) : Nat) ∧ bulk (l.take k) ≤ 3000) (fun _ i => l.length - (intOf i).toNat)
  case atStart => exact ⟨0, by omega, rfl, rfl, by simp [bulk]⟩
  case round =>
    obtain ⟨k, hk, rfl, rfl, hbk⟩ := hrel
    by_cases hkl : k < l.length
    · have h1 : k < l.length := by omega
      obtain ⟨ab, ao, A1, c1, rfl, hab, y0, y1, hl1, hl2, _⟩ := HX.out k h1
      have HQ := Lib.hid (bulk_take h1)
      have i1 : (k : Int) < (l.length : Int) := by omega
      have i2 : (k : Int) < 100 := by omega
      unfold maxLen at hl2
      by_cases hpl : l[k].2.length ≤ 3000
      · by_cases hbig : bulk (l.take k) + 10 + l[k].2.length ≤ 3000
        · have i3 : ¬ (3000 : Int) < (bulk (l.take k) : Int) + 10 + (l[k].2.length : Int) := by omega
          have i4 : ¬ (3000 : Int) < (l[k].2.length : Int) := by omega
          go_wp2_with fail
          go_round
          case rel => exact ⟨k + 1, by omega, by go_num, by have := HQ.out; congr 1; omega, by have := HQ.out; omega⟩
          case measure => simp [intOf]; omega
        · have i3 : (3000 : Int) < (bulk (l.take k) : Int) + 10 + (l[k].2.length : Int) := by omega
          go_wp2_with fail
          go_ret
          exact ⟨rfl, Below.refl _ _⟩
      · have i4 : (3000 : Int) < (l[k].2.length : Int) := by omega
        obtain ⟨z, hz⟩ : ∃ z, wrap64 ((bulk (l.take k) : Int) + 10 + (l[k].2.length : Int)) = z := ⟨_, rfl⟩
        by_cases hz3 : 3000 < z
        · go_wp2_with fail
          go_ret
          exact ⟨rfl, Below.refl _ _⟩
        · go_wp2_with fail
          go_ret
          exact ⟨rfl, Below.refl _ _⟩
    · have hke : k = l.length := by omega
      have HBK : Hid (bulk (l.take l.length) ≤ 3000) := Lib.hid (hke ▸ hbk)
      have i1 : ¬ (k : Int) < (l.length : Int) := by omega
      clear hk hbk hkl hke
      go_wp2_with fail
      refine (piBegin n _ hn0 hn1).mono ?_
      rintro e w1 ⟨b, rfl, hbs, hpi, hrb, hb1⟩
      have hs1 := hb1.size
      have HPI := Lib.hid hpi
      have HRB := Lib.hid hrb
      have hbl := hpi.low
      clear hpi hrb
      go_wp2_with fail
      refine (riBegin n _ hn0 hn1).mono ?_
      rintro e w2 ⟨r, rfl, hrs, hri, hrb2, hb2⟩
      have hs2 := hb2.size
      have HM : Hid (PM w w2 b w.heap.size r w1.heap.size [] n) := Lib.hid (by
        have t := Touch.of_below hb2
        have e1 : rowBlk w2 b = none := (rowBlk_touch t hbl (by omega)).trans HRB.out
        exact ⟨HPI.out.touch t (by omega) (fun g hg => by rw [HRB.out] at hg; cases hg), hri, hb1.trans (hb2.mono hs1), by omega, Nat.le_refl _, hs1, (fun g hg => by rw [e1] at hg; cases hg), (fun g hg => by rw [hrb2] at hg; cases hg)⟩)
      clear hri hrb2 HPI HRB hb1 hb2
      go_wp2_with fail
      go_loopw [11] (fun i wr => ∃ (k : Nat) (row : List Nat), k ≤ l.length ∧ i = .int .i64 k ∧ row.length ≤ bulk (l.take k) ∧ Hid (PM w wr b w.heap.size r w1.heap.size row n)) (fun i _ => l.length - (intOf i).toNat)
      case atStart => exact ⟨0, [], by omega, rfl, by simp, HM⟩
      case round =>
        obtain ⟨k, row, hk, rfl, hrow, HM2⟩ := hrel
        have hbw := HM2.out.pi.low
        have hrw := HM2.out.ri.low
        have hws := HM2.out.be.size
        have hbr : b ≠ r := HM2.out.ne
        by_cases hkl : k < l.length
        · have h1 : k < l.length := by omega
          obtain ⟨ab, ao, A1, c1, rfl, hab, y0, y1, hl1, hl2, hcel⟩ := HX.out k h1
          replace y0 := bkeep HM2.out.be y0 hab
          replace y1 := bkeep HM2.out.be y1 hab
          have HQ := Lib.hid (bulk_take h1)
          have hbd := Nat.le_trans (bulk_mono l (k + 1) (l.length) hkl) HBK.out
          have hpl : l[k].2.length ≤ 3000 := by have := HQ.out; omega
          have i1 : (k : Int) < (l.length : Int) := by omega
          have i2 : (k : Int) < 100 := by omega
          unfold maxLen at hl2
          generalize hp : l[k].2 = p at *
          generalize hz : l[k].1 = off at *
          have HP0 := Lib.hid hp
          have HCE0 := Lib.hid (cells_keep hcel HM2.out.be (Nat.le_refl _))
          clear hcel hp hz
          have hpl2 : p.length ≤ 3000 := by first | exact hpl | (rw [← HP0.out]; exact hpl)
          have hrow3 : row.length ≤ 3000 := by have := HQ.out; omega
          go_wp2_with fail
          refine (lawRoomy A1 c1 p _ (by omega) (cells_keep HCE0.out (Below.refl _ _) hws)).mono ?_
          rintro e V ⟨gw, cw, rfl, hown1, hb1⟩
          have hsV := hb1.size
          obtain ⟨q4, q5⟩ : wr.heap.size ≤ gw ∧ gw < V.heap.size := hown1.lt gw rfl
          have hpre := own_prefix hown1 (k := p.length) (by omega)
          rw [flat_take] at hpre
          obtain ⟨A0, cap0, hA0, q6, _, hx1⟩ := row_cells hpre
          injection hA0 with hA1 hA2 hA3
          subst hA1 hA3
          have HXW : Hid (Cells V.drew V.heap.size (some ⟨gw, 0, none⟩) p.length cw 1 (flatU p)) := Lib.hid hx1
          have HOW := Lib.hid hown1
          have HVP := Lib.hid (HM2.out.below hb1)
          have q7 : (p.length : Int) ≤ (cw : Int) := by omega
          replace y0 := bkeep hb1 y0 (by omega)
          replace y1 := bkeep hb1 y1 (by omega)
          have HCE := Lib.hid (cells_keep HCE0.out (hb1.mono (by omega)) (Nat.le_refl _))
          have HRV : Hid (rowBlk V b ≠ some gw ∧ rowBlk2 V r ≠ some gw) := Lib.hid (by
            have t := Touch.of_below hb1
            have e1 : rowBlk V b = rowBlk wr b := rowBlk_touch t hbw (by omega)
            have e2 : rowBlk2 V r = rowBlk2 wr r := rowBlk2_touch t hrw (by omega)
            refine ⟨fun h => ?_, fun h => ?_⟩
            · rw [e1] at h; have := (HM2.out.pi.blk_lt h).2; omega
            · rw [e2] at h; have := (HM2.out.ri.blk_lt h).2; omega)
          have hwV : w.heap.size ≤ V.heap.size := by omega
          clear hx1 hpre hown1 hb1 HM2 HCE0
          by_cases hok : off = (row.length : Int) ∧ (row.length : Int) + (p.length : Int) ≤ n
          · obtain ⟨rfl, hok2⟩ := hok
            have hkeep : ∀ W, Below w.heap.size V W → (Below w.heap.size V W ∧ W.cell? ⟨ab, ao + k * 2, none⟩ = some (.int .i64 row.length) ∧ W.cell? ⟨ab, ao + k * 2 + 1, none⟩ = some (.slice A1 p.length c1)) := fun W hh => ⟨hh, bkeep hh y0 hab, bkeep hh y1 hab⟩
            have HQ2 : Hid (bulk (l.take (k + 1)) = bulk (l.take k) + (10 + p.length)) := by have := HP0.out; subst this; exact HQ
            have HQ := HQ2
            go_wp2_with fail
            refine wp_region_held_drew (S := (fun W => Below w.heap.size V W ∧ W.cell? ⟨ab, ao + k * 2, none⟩ = some (.int .i64 row.length) ∧ W.cell? ⟨ab, ao + k * 2 + 1, none⟩ = some (.slice A1 p.length c1))) (by kernel_rfl) (hkeep _ (Below.refl _ _).drew) (fun hHeld => ?_)
            refine wpAnyH_take (i := 0) (oi := ⟨some 83, _, _, _, _, _⟩) (v := ?v0a) rfl (by kernel_rfl) (by kernel_rfl) (by kernel_rfl) (fun _ _ _ h => h) (Or.inl ⟨by rfl, ?y0a⟩) (by assumption) ?r0a
            case y0a => (intro w hSw; (try dsimp only at hSw); (try go_split_ands); go_simp); (try with_reducible rfl)
            case r0a =>
            (try simp only [Act.put, List.setIfInBounds_toArray, List.set_cons_zero, List.set_cons_succ])
            refine wpAnyH_take (i := 1) (oi := ⟨some 84, _, _, _, _, _⟩) (v := ?v1a) rfl (by kernel_rfl) (by kernel_rfl) (by kernel_rfl) (fun _ _ _ h => h) (Or.inl ⟨by rfl, ?y1a⟩) (by assumption) ?r1a
            case y1a => (intro w hSw; (try dsimp only at hSw); (try go_split_ands); go_simp); (try with_reducible rfl)
            case r1a =>
            (try simp only [Act.put, List.setIfInBounds_toArray, List.set_cons_zero, List.set_cons_succ])
            refine wpAnyH_take (i := 2) (oi := ⟨some 85, _, _, _, _, _⟩) (v := ?v2a) rfl (by kernel_rfl) (by kernel_rfl) (by kernel_rfl) (fun _ _ _ h => h) (Or.inl ⟨by rfl, ?y2a⟩) (by assumption) ?r2a
            case y2a => (intro w hSw; (try dsimp only at hSw); (try go_split_ands); go_simp); (try with_reducible rfl)
            case r2a =>
            (try simp only [Act.put, List.setIfInBounds_toArray, List.set_cons_zero, List.set_cons_succ])
            refine wpAnyH_take (i := 3) (oi := ⟨some 86, _, _, _, _, _⟩) (v := ?v3a) rfl (by kernel_rfl) (by kernel_rfl) (by kernel_rfl) (fun _ _ _ h => h) (Or.inl ⟨by rfl, ?y3a⟩) (by assumption) ?r3a
            case y3a => (intro w hSw; (try dsimp only at hSw); (try go_split_ands); go_simp); (try with_reducible rfl)
            case r3a =>
            (try simp only [Act.put, List.setIfInBounds_toArray, List.set_cons_zero, List.set_cons_succ])
            refine wpAnyH_take (i := 4) (oi := ⟨some 87, _, _, _, _, _⟩) (v := ?v4a) rfl (by kernel_rfl) (by kernel_rfl) (by kernel_rfl) (fun _ _ _ h => h) (Or.inl ⟨by rfl, ?y4a⟩) (by assumption) ?r4a
            case y4a => (intro w hSw; (try dsimp only at hSw); (try go_split_ands); go_simp); (try with_reducible rfl)
            case r4a =>
            (try simp only [Act.put, List.setIfInBounds_toArray, List.set_cons_zero, List.set_cons_succ])
            refine wpAnyH_take (i := 5) (oi := ⟨some 88, _, _, _, _, _⟩) (v := ?v5a) rfl (by kernel_rfl) (by kernel_rfl) (by kernel_rfl) (fun _ _ _ h => h) (Or.inl ⟨by rfl, ?y5a⟩) (by assumption) ?r5a
            case y5a => (intro w hSw; (try dsimp only at hSw); (try go_split_ands); go_simp); (try with_reducible rfl)
            case r5a =>
            (try simp only [Act.put, List.setIfInBounds_toArray, List.set_cons_zero, List.set_cons_succ])
            refine wpAnyH_take (i := 6) (oi := ⟨some 89, _, _, _, _, _⟩) (v := ?v6a) rfl (by kernel_rfl) (by kernel_rfl) (by kernel_rfl) (fun _ _ _ h => h) (Or.inl ⟨by rfl, ?y6a⟩) (by assumption) ?r6a
            case y6a => (intro w hSw; (try dsimp only at hSw); (try go_split_ands); go_simp); (try with_reducible rfl)
            case r6a =>
            (try simp only [Act.put, List.setIfInBounds_toArray, List.set_cons_zero, List.set_cons_succ])
            refine wpAnyH_take (i := 7) (oi := ⟨some 90, _, _, _, _, _⟩) (v := ?v7a) rfl (by kernel_rfl) (by kernel_rfl) (by kernel_rfl) (fun _ _ _ h => h) (Or.inl ⟨by rfl, ?y7a⟩) (by assumption) ?r7a
            case y7a => (intro w hSw; (try dsimp only at hSw); (try go_split_ands); go_simp); (try with_reducible rfl)
            case r7a =>
            (try simp only [Act.put, List.setIfInBounds_toArray, List.set_cons_zero, List.set_cons_succ])
            refine wpAnyH_take (i := 8) (oi := ⟨some 91, _, _, _, _, _⟩) (v := ?v8a) rfl (by kernel_rfl) (by kernel_rfl) (by kernel_rfl) (fun _ _ _ h => h) (Or.inl ⟨by rfl, ?y8a⟩) (by assumption) ?r8a
            case y8a => (intro w hSw; (try dsimp only at hSw); (try go_split_ands); go_simp); (try with_reducible rfl)
            case r8a =>
            (try simp only [Act.put, List.setIfInBounds_toArray, List.set_cons_zero, List.set_cons_succ])
            refine wpAnyH_take (i := 9) (oi := ⟨some 92, _, _, _, _, _⟩) (v := ?v9a) rfl (by kernel_rfl) (by kernel_rfl) (by kernel_rfl) (fun _ _ _ h => h) (Or.inl ⟨by rfl, ?y9a⟩) (by assumption) ?r9a
            case y9a => (intro w hSw; (try dsimp only at hSw); (try go_split_ands); go_simp); (try with_reducible rfl)
            case r9a =>
            (try simp only [Act.put, List.setIfInBounds_toArray, List.set_cons_zero, List.set_cons_succ])
            refine wpAnyH_take (i := 10) (oi := ⟨some 93, _, _, _, _, _⟩) (v := ?v10a) rfl (by kernel_rfl) (by kernel_rfl) (by kernel_rfl) (fun _ _ _ h => h) (Or.inl ⟨by rfl, ?y10a⟩) (by assumption) ?r10a
            case y10a => (intro w hSw; (try dsimp only at hSw); (try go_split_ands); go_simp); (try with_reducible rfl)
            case r10a =>
            (try simp only [Act.put, List.setIfInBounds_toArray, List.set_cons_zero, List.set_cons_succ])
            refine wpAnyH_take (i := 11) (oi := ⟨some 94, _, _, _, _, _⟩) (v := ?v11a) rfl (by kernel_rfl) (by kernel_rfl) (by kernel_rfl) (fun _ _ _ h => h) (Or.inl ⟨by rfl, ?y11a⟩) (by assumption) ?r11a
            case y11a => (intro w hSw; (try dsimp only at hSw); (try go_split_ands); go_simp); (try with_reducible rfl)
            case r11a =>
            (try simp only [Act.put, List.setIfInBounds_toArray, List.set_cons_zero, List.set_cons_succ])
            refine wpAnyH_take (i := 12) (oi := ⟨some 95, _, _, _, _, _⟩) (v := ?v12a) rfl (by kernel_rfl) (by kernel_rfl) (by kernel_rfl) (fun _ _ _ h => h) (Or.inl ⟨by rfl, ?y12a⟩) (by assumption) ?r12a
            case y12a => (intro w hSw; (try dsimp only at hSw); (try go_split_ands); go_simp); (try with_reducible rfl)
            case r12a =>
            (try simp only [Act.put, List.setIfInBounds_toArray, List.set_cons_zero, List.set_cons_succ])
            refine wpAnyH_take (i := 13) (oi := ⟨some 96, _, _, _, _, _⟩) (v := .slice (some ⟨gw, 0, none⟩) p.length cw) rfl (by kernel_rfl) (by kernel_rfl) (by kernel_rfl) (fun _ _ _ h => h) (Or.inl ⟨by rfl, ?y13a⟩) (by assumption) ?r13a
            case y13a => (intro w hSw; (try dsimp only at hSw); (try go_split_ands); go_simp)
            case r13a =>
            (try simp only [Act.put, List.setIfInBounds_toArray, List.set_cons_zero, List.set_cons_succ])
            refine wpAnyH_take (i := 15) (oi := ⟨some 98, _, _, _, _, _⟩) (v := ?v15a) rfl (by kernel_rfl) (by kernel_rfl) (by kernel_rfl) (fun _ _ _ h => h) (Or.inl ⟨by rfl, ?y15a⟩) (by assumption) ?r15a
            case y15a => (intro w hSw; (try dsimp only at hSw); (try go_split_ands); go_simp); (try with_reducible rfl)
            case r15a =>
            (try simp only [Act.put, List.setIfInBounds_toArray, List.set_cons_zero, List.set_cons_succ])
            refine wpAnyH_take (i := 16) (oi := ⟨some 99, _, _, _, _, _⟩) (v := ?v16a) rfl (by kernel_rfl) (by kernel_rfl) (by kernel_rfl) (fun _ _ _ h => h) (Or.inl ⟨by rfl, ?y16a⟩) (by assumption) ?r16a
            case y16a => (intro w hSw; (try dsimp only at hSw); (try go_split_ands); go_simp); (try with_reducible rfl)
            case r16a =>
            (try simp only [Act.put, List.setIfInBounds_toArray, List.set_cons_zero, List.set_cons_succ])
            refine wpAnyH_take (i := 17) (oi := ⟨some 100, _, _, _, _, _⟩) (v := ?v17a) rfl (by kernel_rfl) (by kernel_rfl) (by kernel_rfl) (fun _ _ _ h => h) (Or.inl ⟨by rfl, ?y17a⟩) (by assumption) ?r17a
            case y17a => (intro w hSw; (try dsimp only at hSw); (try go_split_ands); go_simp); (try with_reducible rfl)
            case r17a =>
            (try simp only [Act.put, List.setIfInBounds_toArray, List.set_cons_zero, List.set_cons_succ])
            refine wpAnyH_take (i := 18) (oi := ⟨some 101, _, _, _, _, _⟩) (v := ?v18a) rfl (by kernel_rfl) (by kernel_rfl) (by kernel_rfl) (fun _ _ _ h => h) (Or.inl ⟨by rfl, ?y18a⟩) (by assumption) ?r18a
            case y18a => (intro w hSw; (try dsimp only at hSw); (try go_split_ands); go_simp); (try with_reducible rfl)
            case r18a =>
            (try simp only [Act.put, List.setIfInBounds_toArray, List.set_cons_zero, List.set_cons_succ])
            refine wpAnyH_take (i := 19) (oi := ⟨some 102, _, _, _, _, _⟩) (v := ?v19a) rfl (by kernel_rfl) (by kernel_rfl) (by kernel_rfl) (fun _ _ _ h => h) (Or.inl ⟨by rfl, ?y19a⟩) (by assumption) ?r19a
            case y19a => (intro w hSw; (try dsimp only at hSw); (try go_split_ands); go_simp); (try with_reducible rfl)
            case r19a =>
            (try simp only [Act.put, List.setIfInBounds_toArray, List.set_cons_zero, List.set_cons_succ])
            refine wpAnyH_take (i := 20) (oi := ⟨some 103, _, _, _, _, _⟩) (v := ?v20a) rfl (by kernel_rfl) (by kernel_rfl) (by kernel_rfl) (fun _ _ _ h => h) (Or.inl ⟨by rfl, ?y20a⟩) (by assumption) ?r20a
            case y20a => (intro w hSw; (try dsimp only at hSw); (try go_split_ands); go_simp); (try with_reducible rfl)
            case r20a =>
            (try simp only [Act.put, List.setIfInBounds_toArray, List.set_cons_zero, List.set_cons_succ])
            refine wpAnyH_take (i := 21) (oi := ⟨some 104, _, _, _, _, _⟩) (v := ?v21a) rfl (by kernel_rfl) (by kernel_rfl) (by kernel_rfl) (fun _ _ _ h => h) (Or.inl ⟨by rfl, ?y21a⟩) (by assumption) ?r21a
            case y21a => (intro w hSw; (try dsimp only at hSw); (try go_split_ands); go_simp); (try with_reducible rfl)
            case r21a =>
            (try simp only [Act.put, List.setIfInBounds_toArray, List.set_cons_zero, List.set_cons_succ])
            refine wpAnyH_take (i := 22) (oi := ⟨some 105, _, _, _, _, _⟩) (v := ?v22a) rfl (by kernel_rfl) (by kernel_rfl) (by kernel_rfl) (fun _ _ _ h => h) (Or.inl ⟨by rfl, ?y22a⟩) (by assumption) ?r22a
            case y22a => (intro w hSw; (try dsimp only at hSw); (try go_split_ands); go_simp); (try with_reducible rfl)
            case r22a =>
            (try simp only [Act.put, List.setIfInBounds_toArray, List.set_cons_zero, List.set_cons_succ])
            refine wpAnyH_take (i := 23) (oi := ⟨some 106, _, _, _, _, _⟩) (v := ?v23a) rfl (by kernel_rfl) (by kernel_rfl) (by kernel_rfl) (fun _ _ _ h => h) (Or.inl ⟨by rfl, ?y23a⟩) (by assumption) ?r23a
            case y23a => (intro w hSw; (try dsimp only at hSw); (try go_split_ands); go_simp); (try with_reducible rfl)
            case r23a =>
            (try simp only [Act.put, List.setIfInBounds_toArray, List.set_cons_zero, List.set_cons_succ])
            refine wpAnyH_take (i := 24) (oi := ⟨some 107, _, _, _, _, _⟩) (v := ?v24a) rfl (by kernel_rfl) (by kernel_rfl) (by kernel_rfl) (fun _ _ _ h => h) (Or.inl ⟨by rfl, ?y24a⟩) (by assumption) ?r24a
            case y24a => (intro w hSw; (try dsimp only at hSw); (try go_split_ands); go_simp); (try with_reducible rfl)
            case r24a =>
            (try simp only [Act.put, List.setIfInBounds_toArray, List.set_cons_zero, List.set_cons_succ])
            refine wpAnyH_take (i := 25) (oi := ⟨some 108, _, _, _, _, _⟩) (v := ?v25a) rfl (by kernel_rfl) (by kernel_rfl) (by kernel_rfl) (fun _ _ _ h => h) (Or.inl ⟨by rfl, ?y25a⟩) (by assumption) ?r25a
            case y25a => (intro w hSw; (try dsimp only at hSw); (try go_split_ands); go_simp); (try with_reducible rfl)
            case r25a =>
            (try simp only [Act.put, List.setIfInBounds_toArray, List.set_cons_zero, List.set_cons_succ])
            refine wpAnyH_ready (rs := [14]) (by kernel_rfl) (by simp) ?_
            refine AllReadyH.cons (o := ⟨some 97, _, _, _, _, _⟩) rfl (fun K hK => ?_) AllReadyH.nil
            go_simp
            refine (piTake b _ row p n _ (some ⟨gw, 0, none⟩) cw V.drew (HVP.out.pi.drewN 1) (by omega) (by omega) (by omega) (by omega) HXW.out (by omega)).mono ?_
            rintro e w5 ⟨rfl, hpi5, ht5d, hrb5⟩
            have ht5 : Touch (fun k => k = b ∨ rowBlk V b = some k) V w5 := (Touch.of_drew _ V).trans ht5d (fun _ _ h => h)
            have HPI5 := Lib.hid hpi5
            have HT5 := Lib.hid ht5
            have HR5 : Hid (rowBlk w5 b = rowBlk V b ∨ rowBlk w5 b = some V.heap.size) := Lib.hid hrb5
            have hb3 : Below w.heap.size V w5 := ht5.below hwV (by
              rintro j (rfl | hj)
              · omega
              · exact Nat.le_trans HVP.out.hl (HVP.out.pi.blk_lt hj).1)
            clear hpi5 ht5 ht5d hrb5
            go_wp2_with fail
            refine hK.out _ _ (hkeep _ hb3) (fun hHeld => ?_)
            clear hK K
            (try simp only [Act.put, List.setIfInBounds_toArray, List.set_cons_zero, List.set_cons_succ])
            refine wpAnyH_ready (rs := [26]) (by kernel_rfl) (by simp) ?_
            refine AllReadyH.cons (o := ⟨some 109, _, _, _, _, _⟩) rfl (fun K hK => ?_) AllReadyH.nil
            go_simp
            have hs5 := HT5.out.size
            refine (riTake r _ row p n w.heap.size A1 c1 w5 (HVP.out.ri.touch HT5.out (by
              rintro (h | h)
              · exact hbr h.symm
              · exact HVP.out.x1 _ h rfl) (fun g hg => by
              rintro (h | h)
              · exact (HVP.out.x2 g hg).1 h
              · exact (HVP.out.x2 g hg).2 h)) (by omega) (by omega) (by omega) (by omega) (by omega) (cells_keep HCE.out hb3 (Nat.le_refl _)) (by omega)).mono ?_
            rintro e w6 ⟨rfl, hri6, ht6, hrb6⟩
            have hs6 := ht6.size
            have HPM6 := Lib.hid (PM.take HVP.out HPI5.out HT5.out HR5.out hri6 ht6 hrb6)
            have HOW6 : Hid (w6.ownsRow wr.heap.size 5 1 (.slice (some ⟨gw, 0, none⟩) (p.length + 1) cw) (p.length + 1) (flatU (p ++ [171]))) := Lib.hid (ht6.own (HT5.out.own HOW.out (fun g hg => by
              simp [Value.ownBlock] at hg
              subst hg
              rintro (h | h)
              · omega
              · exact HRV.out.1 h)) (fun g hg => by simp [Value.ownBlock] at hg; omega))
            have HG6 : Hid (rowBlk w6 b ≠ some gw ∧ rowBlk2 w6 r ≠ some gw) := Lib.hid (by
              refine ⟨fun h => ?_, fun h => by have := hrb6 _ h; omega⟩
              rw [rowBlk_touch ht6 HPI5.out.low hbr] at h
              rcases HR5.out with e | e
              · exact HRV.out.1 (e ▸ h)
              · rw [e] at h; injection h; omega)
            replace hb3 := hb3.trans (ht6.below (B := w.heap.size) (by omega) (by rintro k rfl; omega))
            clear ht6 hri6 hrb6
            go_wp2_with fail
            refine hK.out _ _ (hkeep _ hb3) (fun hHeld => ?_)
            clear hK K
            (try simp only [Act.put, List.setIfInBounds_toArray, List.set_cons_zero, List.set_cons_succ])
            refine wpAnyH_take (i := 27) (oi := ⟨some 110, _, _, _, _, _⟩) (v := ?v27a) rfl (by kernel_rfl) (by kernel_rfl) (by kernel_rfl) (fun _ _ _ h => h) (Or.inl ⟨by rfl, ?y27a⟩) (by assumption) ?r27a
            case y27a => (intro w hSw; (try dsimp only at hSw); (try go_split_ands); go_simp); (try with_reducible rfl)
            case r27a =>
            (try simp only [Act.put, List.setIfInBounds_toArray, List.set_cons_zero, List.set_cons_succ])
            refine wpAnyH_take (i := 28) (oi := ⟨some 111, _, _, _, _, _⟩) (v := ?v28a) rfl (by kernel_rfl) (by kernel_rfl) (by kernel_rfl) (fun _ _ _ h => h) (Or.inl ⟨by rfl, ?y28a⟩) (by assumption) ?r28a
            case y28a => (intro w hSw; (try dsimp only at hSw); (try go_split_ands); go_simp); (try with_reducible rfl)
            case r28a =>
            (try simp only [Act.put, List.setIfInBounds_toArray, List.set_cons_zero, List.set_cons_succ])
            refine wpAnyH_take (i := 29) (oi := ⟨some 112, _, _, _, _, _⟩) (v := ?v29a) rfl (by kernel_rfl) (by kernel_rfl) (by kernel_rfl) (fun _ _ _ h => h) (Or.inl ⟨by rfl, ?y29a⟩) (by assumption) ?r29a
            case y29a => (intro w hSw; (try dsimp only at hSw); (try go_split_ands); go_simp); (try with_reducible rfl)
            case r29a =>
            (try simp only [Act.put, List.setIfInBounds_toArray, List.set_cons_zero, List.set_cons_succ])
            refine wpAnyH_take (i := 30) (oi := ⟨some 113, _, _, _, _, _⟩) (v := ?v30a) rfl (by kernel_rfl) (by kernel_rfl) (by kernel_rfl) (fun _ _ _ h => h) (Or.inl ⟨by rfl, ?y30a⟩) (by assumption) ?r30a
            case y30a => (intro w hSw; (try dsimp only at hSw); (try go_split_ands); go_simp); (try with_reducible rfl)
            case r30a =>
            (try simp only [Act.put, List.setIfInBounds_toArray, List.set_cons_zero, List.set_cons_succ])
            refine wpAnyH_take (i := 31) (oi := ⟨some 114, _, _, _, _, _⟩) (v := ?v31a) rfl (by kernel_rfl) (by kernel_rfl) (by kernel_rfl) (fun _ _ _ h => h) (Or.inl ⟨by rfl, ?y31a⟩) (by assumption) ?r31a
            case y31a => (intro w hSw; (try dsimp only at hSw); (try go_split_ands); go_simp); (try with_reducible rfl)
            case r31a =>
            (try simp only [Act.put, List.setIfInBounds_toArray, List.set_cons_zero, List.set_cons_succ])
            refine wpAnyH_take (i := 32) (oi := ⟨some 115, _, _, _, _, _⟩) (v := ?v32a) rfl (by kernel_rfl) (by kernel_rfl) (by kernel_rfl) (fun _ _ _ h => h) (Or.inl ⟨by rfl, ?y32a⟩) (by assumption) ?r32a
            case y32a => (intro w hSw; (try dsimp only at hSw); (try go_split_ands); go_simp); (try with_reducible rfl)
            case r32a =>
            (try simp only [Act.put, List.setIfInBounds_toArray, List.set_cons_zero, List.set_cons_succ])
            refine wpAnyH_take (i := 33) (oi := ⟨some 116, _, _, _, _, _⟩) (v := ?v33a) rfl (by kernel_rfl) (by kernel_rfl) (by kernel_rfl) (fun _ _ _ h => h) (Or.inl ⟨by rfl, ?y33a⟩) (by assumption) ?r33a
            case y33a => (intro w hSw; (try dsimp only at hSw); (try go_split_ands); go_simp); (try with_reducible rfl)
            case r33a =>
            (try simp only [Act.put, List.setIfInBounds_toArray, List.set_cons_zero, List.set_cons_succ])
            refine wpAnyH_take (i := 34) (oi := ⟨some 117, _, _, _, _, _⟩) (v := ?v34a) rfl (by kernel_rfl) (by kernel_rfl) (by kernel_rfl) (fun _ _ _ h => h) (Or.inl ⟨by rfl, ?y34a⟩) (by assumption) ?r34a
            case y34a => (intro w hSw; (try dsimp only at hSw); (try go_split_ands); go_simp); (try with_reducible rfl)
            case r34a =>
            (try simp only [Act.put, List.setIfInBounds_toArray, List.set_cons_zero, List.set_cons_succ])
            refine wpAnyH_ready (rs := [35]) (by kernel_rfl) (by simp) ?_
            refine AllReadyH.cons (o := ⟨some 118, _, _, _, _, _⟩) rfl (fun K hK => ?_) AllReadyH.nil
            go_simp
            refine (lawStands A1 c1 w.heap.size gw cw _ p _ (by omega) (cells_keep HCE.out hb3 (Nat.le_refl _)) HOW6.out).mono ?_
            rintro e w7 ⟨rfl, ht7⟩
            have HT7 := Lib.hid ht7
            have hb7 : Below w6.heap.size w6 w7 := ht7.none_below (Nat.le_refl _)
            replace hb3 := hb3.trans (hb7.mono (by have := hb3.size; omega))
            have hs7 := hb7.size
            clear ht7
            go_wp2_with fail
            refine hK.out _ _ (hkeep _ hb3) (fun hHeld => ?_)
            clear hK K
            (try simp only [Act.put, List.setIfInBounds_toArray, List.set_cons_zero, List.set_cons_succ])
            refine wpAnyH_take (i := 36) (oi := ⟨some 119, _, _, _, _, _⟩) (v := ?v36a) rfl (by kernel_rfl) (by kernel_rfl) (by kernel_rfl) (fun _ _ _ h => h) (Or.inl ⟨by rfl, ?y36a⟩) (by assumption) ?r36a
            case y36a => (intro w hSw; (try dsimp only at hSw); (try go_split_ands); go_simp); (try with_reducible rfl)
            case r36a =>
            (try simp only [Act.put, List.setIfInBounds_toArray, List.set_cons_zero, List.set_cons_succ])
            refine wpAnyH_take (i := 37) (oi := ⟨some 120, _, _, _, _, _⟩) (v := ?v37a) rfl (by kernel_rfl) (by kernel_rfl) (by kernel_rfl) (fun _ _ _ h => h) (Or.inl ⟨by rfl, ?y37a⟩) (by assumption) ?r37a
            case y37a => (intro w hSw; (try dsimp only at hSw); (try go_split_ands); go_simp); (try with_reducible rfl)
            case r37a =>
            (try simp only [Act.put, List.setIfInBounds_toArray, List.set_cons_zero, List.set_cons_succ])
            refine wpAnyH_done (by kernel_rfl) ?_ _
            go_wp2_with fail
            refine (lawSpoil wr.heap.size (p.length + 1) _ _ _ (by omega) (HT7.out.own HOW6.out (fun _ _ h => h)) (by omega)).mono ?_
            rintro e w8 ⟨rfl, ht8⟩
            have e7 : rowBlk w7 b = rowBlk w6 b := rowBlk_touch HT7.out HPM6.out.pi.low (fun h => h)
            have e8 : rowBlk2 w7 r = rowBlk2 w6 r := rowBlk2_touch HT7.out HPM6.out.ri.low (fun h => h)
            have HPM8 := Lib.hid (PM.late (w1 := w7) (HPM6.out.below (HT7.out.none_below (Nat.le_refl _))) (ht8.mono (fun k hk => by simp [Value.ownBlock] at hk; exact hk.symm)) (by omega) (by omega) (by rw [e7]; exact HG6.out.1) (by rw [e8]; exact HG6.out.2) (by omega))
            obtain ⟨rw2, hrw2⟩ : ∃ z, z = row ++ p := ⟨_, rfl⟩
            rw [← hrw2] at HPM8
            have hlen2 : rw2.length ≤ bulk (l.take (k + 1)) := by rw [hrw2]; have := HQ.out; first | (rw [List.length_append]; omega) | omega
            have hs8 := ht8.size
            obtain ⟨v9, hv9, hown9, _⟩ := HPM8.out.ri.slot
            obtain ⟨A9, c9, rfl, _, _, hx9⟩ := row_cells hown9
            have HC9 := Lib.hid hx9
            have hkeep2 : ∀ W, Below w8.heap.size w8 W → (Below w8.heap.size w8 W ∧ W.cell? ⟨r, 1, none⟩ = some (.slice A9 rw2.length c9)) := fun W hh => ⟨hh, bkeep hh hv9 HPM8.out.ri.low⟩
            obtain ⟨bb, hbb⟩ : ∃ bb, decide ((rw2.length : Int) = n) = bb := ⟨_, rfl⟩
            have HBB := Lib.hid hbb
            clear hbb hrw2 hown9 hx9 ht8 e7 e8 hkeep y0 y1
            go_wp2_with fail
            refine wp_region_held_drew (S := (fun W => Below w8.heap.size w8 W ∧ W.cell? ⟨r, 1, none⟩ = some (.slice A9 rw2.length c9))) (by kernel_rfl) (hkeep2 _ (Below.refl _ _).drew) (fun hHeld => ?_)
            refine wpAnyH_take (i := 0) (oi := ⟨some 123, _, _, _, _, _⟩) (v := ?v0b) rfl (by kernel_rfl) (by kernel_rfl) (by kernel_rfl) (fun _ _ _ h => h) (Or.inl ⟨by rfl, ?y0b⟩) (by assumption) ?r0b
            case y0b => (intro w hSw; (try dsimp only at hSw); (try go_split_ands); go_simp); (try with_reducible rfl)
            case r0b =>
            (try simp only [Act.put, List.setIfInBounds_toArray, List.set_cons_zero, List.set_cons_succ])
            refine wpAnyH_take (i := 2) (oi := ⟨some 125, _, _, _, _, _⟩) (v := ?v2b) rfl (by kernel_rfl) (by kernel_rfl) (by kernel_rfl) (fun _ _ _ h => h) (Or.inl ⟨by rfl, ?y2b⟩) (by assumption) ?r2b
            case y2b => (intro w hSw; (try dsimp only at hSw); (try go_split_ands); go_simp); (try with_reducible rfl)
            case r2b =>
            (try simp only [Act.put, List.setIfInBounds_toArray, List.set_cons_zero, List.set_cons_succ])
            refine wpAnyH_take (i := 3) (oi := ⟨some 126, _, _, _, _, _⟩) (v := ?v3b) rfl (by kernel_rfl) (by kernel_rfl) (by kernel_rfl) (fun _ _ _ h => h) (Or.inl ⟨by rfl, ?y3b⟩) (by assumption) ?r3b
            case y3b => (intro w hSw; (try dsimp only at hSw); (try go_split_ands); go_simp); (try with_reducible rfl)
            case r3b =>
            (try simp only [Act.put, List.setIfInBounds_toArray, List.set_cons_zero, List.set_cons_succ])
            refine wpAnyH_take (i := 4) (oi := ⟨some 127, _, _, _, _, _⟩) (v := ?v4b) rfl (by kernel_rfl) (by kernel_rfl) (by kernel_rfl) (fun _ _ _ h => h) (Or.inl ⟨by rfl, ?y4b⟩) (by assumption) ?r4b
            case y4b => (intro w hSw; (try dsimp only at hSw); (try go_split_ands); go_simp); (try with_reducible rfl)
            case r4b =>
            (try simp only [Act.put, List.setIfInBounds_toArray, List.set_cons_zero, List.set_cons_succ])
            refine wpAnyH_take (i := 5) (oi := ⟨some 128, _, _, _, _, _⟩) (v := ?v5b) rfl (by kernel_rfl) (by kernel_rfl) (by kernel_rfl) (fun _ _ _ h => h) (Or.inl ⟨by rfl, ?y5b⟩) (by assumption) ?r5b
            case y5b => (intro w hSw; (try dsimp only at hSw); (try go_split_ands); go_simp); (try with_reducible rfl)
            case r5b =>
            (try simp only [Act.put, List.setIfInBounds_toArray, List.set_cons_zero, List.set_cons_succ])
            refine wpAnyH_ready (rs := [1]) (by kernel_rfl) (by simp) ?_
            refine AllReadyH.cons (o := ⟨some 124, _, _, _, _, _⟩) rfl (fun K hK => ?_) AllReadyH.nil
            go_simp
            refine (piBytes b _ rw2 n w8.drew (HPM8.out.pi.drewN 1) (by omega)).mono ?_
            rintro e w9 ⟨v9, rfl, hown9, hb9⟩
            have hb3 : Below w8.heap.size w8 w9 := ((Below.refl _ _).drew).trans hb9
            obtain ⟨A10, c10, rfl, _, _, hx10⟩ := row_cells hown9
            have HX10 := Lib.hid hx10
            clear hown9 hx10
            go_wp2_with fail
            refine hK.out _ _ (hkeep2 _ hb3) (fun hHeld => ?_)
            clear hK K
            (try simp only [Act.put, List.setIfInBounds_toArray, List.set_cons_zero, List.set_cons_succ])
            refine wpAnyH_ready (rs := [6]) (by kernel_rfl) (by simp) ?_
            refine AllReadyH.cons (o := ⟨some 129, _, _, _, _, _⟩) rfl (fun K hK => ?_) AllReadyH.nil
            go_simp
            refine (lawSame A10 A9 c10 c9 _ w8.heap.size rw2 _ (by omega) HX10.out (cells_keep HC9.out hb3 (Nat.le_refl _))).mono ?_
            rintro e w10 ⟨rfl, ht10⟩
            replace hb3 := hb3.trans (ht10.none_below (B := w8.heap.size) (by have := hb3.size; omega))
            clear ht10
            go_wp2_with fail
            refine hK.out _ _ (hkeep2 _ hb3) (fun hHeld => ?_)
            clear hK K
            (try simp only [Act.put, List.setIfInBounds_toArray, List.set_cons_zero, List.set_cons_succ])
            refine wpAnyH_take (i := 7) (oi := ⟨some 130, _, _, _, _, _⟩) (v := ?v7b) rfl (by kernel_rfl) (by kernel_rfl) (by kernel_rfl) (fun _ _ _ h => h) (Or.inl ⟨by rfl, ?y7b⟩) (by assumption) ?r7b
            case y7b => (intro w hSw; (try dsimp only at hSw); (try go_split_ands); go_simp); (try with_reducible rfl)
            case r7b =>
            (try simp only [Act.put, List.setIfInBounds_toArray, List.set_cons_zero, List.set_cons_succ])
            refine wpAnyH_take (i := 8) (oi := ⟨some 131, _, _, _, _, _⟩) (v := ?v8b) rfl (by kernel_rfl) (by kernel_rfl) (by kernel_rfl) (fun _ _ _ h => h) (Or.inl ⟨by rfl, ?y8b⟩) (by assumption) ?r8b
            case y8b => (intro w hSw; (try dsimp only at hSw); (try go_split_ands); go_simp); (try with_reducible rfl)
            case r8b =>
            (try simp only [Act.put, List.setIfInBounds_toArray, List.set_cons_zero, List.set_cons_succ])
            refine wpAnyH_take (i := 9) (oi := ⟨some 132, _, _, _, _, _⟩) (v := ?v9b) rfl (by kernel_rfl) (by kernel_rfl) (by kernel_rfl) (fun _ _ _ h => h) (Or.inl ⟨by rfl, ?y9b⟩) (by assumption) ?r9b
            case y9b => (intro w hSw; (try dsimp only at hSw); (try go_split_ands); go_simp); (try with_reducible rfl)
            case r9b =>
            (try simp only [Act.put, List.setIfInBounds_toArray, List.set_cons_zero, List.set_cons_succ])
            refine wpAnyH_take (i := 11) (oi := ⟨some 134, _, _, _, _, _⟩) (v := ?v11b) rfl (by kernel_rfl) (by kernel_rfl) (by kernel_rfl) (fun _ _ _ h => h) (Or.inl ⟨by rfl, ?y11b⟩) (by assumption) ?r11b
            case y11b => (intro w hSw; (try dsimp only at hSw); (try go_split_ands); go_simp); (try with_reducible rfl)
            case r11b =>
            (try simp only [Act.put, List.setIfInBounds_toArray, List.set_cons_zero, List.set_cons_succ])
            refine wpAnyH_ready (rs := [10]) (by kernel_rfl) (by simp) ?_
            refine AllReadyH.cons (o := ⟨some 133, _, _, _, _, _⟩) rfl (fun K hK => ?_) AllReadyH.nil
            go_simp
            refine (piWholeB b _ rw2 n bb _ (HPM8.out.below hb3).pi HBB.out).mono ?_
            rintro e w11 ⟨rfl, hb11⟩
            replace hb3 := hb3.trans (hb11.mono (by have := hb3.size; omega))
            clear hb11
            go_wp2_with fail
            refine hK.out _ _ (hkeep2 _ hb3) (fun hHeld => ?_)
            clear hK K
            (try simp only [Act.put, List.setIfInBounds_toArray, List.set_cons_zero, List.set_cons_succ])
            refine wpAnyH_ready (rs := [12]) (by kernel_rfl) (by simp) ?_
            refine AllReadyH.cons (o := ⟨some 135, _, _, _, _, _⟩) rfl (fun K hK => ?_) AllReadyH.nil
            go_simp
            refine (riWholeB r _ rw2 n bb _ (HPM8.out.below hb3).ri HBB.out).mono ?_
            rintro e w12 ⟨rfl, hb12⟩
            replace hb3 := hb3.trans (hb12.mono (by have := hb3.size; omega))
            clear hb12
            go_wp2_with fail
            refine hK.out _ _ (hkeep2 _ hb3) (fun hHeld => ?_)
            clear hK K
            (try simp only [Act.put, List.setIfInBounds_toArray, List.set_cons_zero, List.set_cons_succ])
            refine wpAnyH_take (i := 13) (oi := ⟨some 136, _, _, _, _, _⟩) (v := ?v13b) rfl (by kernel_rfl) (by kernel_rfl) (by kernel_rfl) (fun _ _ _ h => h) (Or.inl ⟨by rfl, ?y13b⟩) (by assumption) ?r13b
            case y13b => (intro w hSw; (try dsimp only at hSw); (try go_split_ands); go_simp); (try with_reducible rfl)
            case r13b =>
            (try simp only [Act.put, List.setIfInBounds_toArray, List.set_cons_zero, List.set_cons_succ])
            refine wpAnyH_take (i := 14) (oi := ⟨some 137, _, _, _, _, _⟩) (v := ?v14b) rfl (by kernel_rfl) (by kernel_rfl) (by kernel_rfl) (fun _ _ _ h => h) (Or.inl ⟨by rfl, ?y14b⟩) (by assumption) ?r14b
            case y14b => (intro w hSw; (try dsimp only at hSw); (try go_split_ands); go_simp); (try with_reducible rfl)
            case r14b =>
            (try simp only [Act.put, List.setIfInBounds_toArray, List.set_cons_zero, List.set_cons_succ])
            refine wpAnyH_done (by kernel_rfl) ?_ _
            go_wp2_with fail
            go_roundw
            case rel => exact ⟨k + 1, rw2, by omega, by go_num, hlen2, Lib.hid (HPM8.out.below hHeld.1)⟩
            case measure => simp [intOf]; omega
          · have hno : off ≠ (row.length : Int) ∨ n < (row.length : Int) + (p.length : Int) := by omega
            have HNO := Lib.hid hno
            clear hok hno
            have hkeep : ∀ W, Below w.heap.size V W → (Below w.heap.size V W ∧ W.cell? ⟨ab, ao + k * 2, none⟩ = some (.int .i64 off) ∧ W.cell? ⟨ab, ao + k * 2 + 1, none⟩ = some (.slice A1 p.length c1)) := fun W hh => ⟨hh, bkeep hh y0 hab, bkeep hh y1 hab⟩
            have HQ2 : Hid (bulk (l.take (k + 1)) = bulk (l.take k) + (10 + p.length)) := by have := HP0.out; subst this; exact HQ
            have HQ := HQ2
            go_wp2_with fail
            refine wp_region_held_drew (S := (fun W => Below w.heap.size V W ∧ W.cell? ⟨ab, ao + k * 2, none⟩ = some (.int .i64 off) ∧ W.cell? ⟨ab, ao + k * 2 + 1, none⟩ = some (.slice A1 p.length c1))) (by kernel_rfl) (hkeep _ (Below.refl _ _).drew) (fun hHeld => ?_)
            refine wpAnyH_take (i := 0) (oi := ⟨some 83, _, _, _, _, _⟩) (v := ?v0c) rfl (by kernel_rfl) (by kernel_rfl) (by kernel_rfl) (fun _ _ _ h => h) (Or.inl ⟨by rfl, ?y0c⟩) (by assumption) ?r0c
            case y0c => (intro w hSw; (try dsimp only at hSw); (try go_split_ands); go_simp); (try with_reducible rfl)
            case r0c =>
            (try simp only [Act.put, List.setIfInBounds_toArray, List.set_cons_zero, List.set_cons_succ])
            refine wpAnyH_take (i := 1) (oi := ⟨some 84, _, _, _, _, _⟩) (v := ?v1c) rfl (by kernel_rfl) (by kernel_rfl) (by kernel_rfl) (fun _ _ _ h => h) (Or.inl ⟨by rfl, ?y1c⟩) (by assumption) ?r1c
            case y1c => (intro w hSw; (try dsimp only at hSw); (try go_split_ands); go_simp); (try with_reducible rfl)
            case r1c =>
            (try simp only [Act.put, List.setIfInBounds_toArray, List.set_cons_zero, List.set_cons_succ])
            refine wpAnyH_take (i := 2) (oi := ⟨some 85, _, _, _, _, _⟩) (v := ?v2c) rfl (by kernel_rfl) (by kernel_rfl) (by kernel_rfl) (fun _ _ _ h => h) (Or.inl ⟨by rfl, ?y2c⟩) (by assumption) ?r2c
            case y2c => (intro w hSw; (try dsimp only at hSw); (try go_split_ands); go_simp); (try with_reducible rfl)
            case r2c =>
            (try simp only [Act.put, List.setIfInBounds_toArray, List.set_cons_zero, List.set_cons_succ])
            refine wpAnyH_take (i := 3) (oi := ⟨some 86, _, _, _, _, _⟩) (v := ?v3c) rfl (by kernel_rfl) (by kernel_rfl) (by kernel_rfl) (fun _ _ _ h => h) (Or.inl ⟨by rfl, ?y3c⟩) (by assumption) ?r3c
            case y3c => (intro w hSw; (try dsimp only at hSw); (try go_split_ands); go_simp); (try with_reducible rfl)
            case r3c =>
            (try simp only [Act.put, List.setIfInBounds_toArray, List.set_cons_zero, List.set_cons_succ])
            refine wpAnyH_take (i := 4) (oi := ⟨some 87, _, _, _, _, _⟩) (v := ?v4c) rfl (by kernel_rfl) (by kernel_rfl) (by kernel_rfl) (fun _ _ _ h => h) (Or.inl ⟨by rfl, ?y4c⟩) (by assumption) ?r4c
            case y4c => (intro w hSw; (try dsimp only at hSw); (try go_split_ands); go_simp); (try with_reducible rfl)
            case r4c =>
            (try simp only [Act.put, List.setIfInBounds_toArray, List.set_cons_zero, List.set_cons_succ])
            refine wpAnyH_take (i := 5) (oi := ⟨some 88, _, _, _, _, _⟩) (v := ?v5c) rfl (by kernel_rfl) (by kernel_rfl) (by kernel_rfl) (fun _ _ _ h => h) (Or.inl ⟨by rfl, ?y5c⟩) (by assumption) ?r5c
            case y5c => (intro w hSw; (try dsimp only at hSw); (try go_split_ands); go_simp); (try with_reducible rfl)
            case r5c =>
            (try simp only [Act.put, List.setIfInBounds_toArray, List.set_cons_zero, List.set_cons_succ])
            refine wpAnyH_take (i := 6) (oi := ⟨some 89, _, _, _, _, _⟩) (v := ?v6c) rfl (by kernel_rfl) (by kernel_rfl) (by kernel_rfl) (fun _ _ _ h => h) (Or.inl ⟨by rfl, ?y6c⟩) (by assumption) ?r6c
            case y6c => (intro w hSw; (try dsimp only at hSw); (try go_split_ands); go_simp); (try with_reducible rfl)
            case r6c =>
            (try simp only [Act.put, List.setIfInBounds_toArray, List.set_cons_zero, List.set_cons_succ])
            refine wpAnyH_take (i := 7) (oi := ⟨some 90, _, _, _, _, _⟩) (v := ?v7c) rfl (by kernel_rfl) (by kernel_rfl) (by kernel_rfl) (fun _ _ _ h => h) (Or.inl ⟨by rfl, ?y7c⟩) (by assumption) ?r7c
            case y7c => (intro w hSw; (try dsimp only at hSw); (try go_split_ands); go_simp); (try with_reducible rfl)
            case r7c =>
            (try simp only [Act.put, List.setIfInBounds_toArray, List.set_cons_zero, List.set_cons_succ])
            refine wpAnyH_take (i := 8) (oi := ⟨some 91, _, _, _, _, _⟩) (v := ?v8c) rfl (by kernel_rfl) (by kernel_rfl) (by kernel_rfl) (fun _ _ _ h => h) (Or.inl ⟨by rfl, ?y8c⟩) (by assumption) ?r8c
            case y8c => (intro w hSw; (try dsimp only at hSw); (try go_split_ands); go_simp); (try with_reducible rfl)
            case r8c =>
            (try simp only [Act.put, List.setIfInBounds_toArray, List.set_cons_zero, List.set_cons_succ])
            refine wpAnyH_take (i := 9) (oi := ⟨some 92, _, _, _, _, _⟩) (v := ?v9c) rfl (by kernel_rfl) (by kernel_rfl) (by kernel_rfl) (fun _ _ _ h => h) (Or.inl ⟨by rfl, ?y9c⟩) (by assumption) ?r9c
            case y9c => (intro w hSw; (try dsimp only at hSw); (try go_split_ands); go_simp); (try with_reducible rfl)
            case r9c =>
            (try simp only [Act.put, List.setIfInBounds_toArray, List.set_cons_zero, List.set_cons_succ])
            refine wpAnyH_take (i := 10) (oi := ⟨some 93, _, _, _, _, _⟩) (v := ?v10c) rfl (by kernel_rfl) (by kernel_rfl) (by kernel_rfl) (fun _ _ _ h => h) (Or.inl ⟨by rfl, ?y10c⟩) (by assumption) ?r10c
            case y10c => (intro w hSw; (try dsimp only at hSw); (try go_split_ands); go_simp); (try with_reducible rfl)
            case r10c =>
            (try simp only [Act.put, List.setIfInBounds_toArray, List.set_cons_zero, List.set_cons_succ])
            refine wpAnyH_take (i := 11) (oi := ⟨some 94, _, _, _, _, _⟩) (v := ?v11c) rfl (by kernel_rfl) (by kernel_rfl) (by kernel_rfl) (fun _ _ _ h => h) (Or.inl ⟨by rfl, ?y11c⟩) (by assumption) ?r11c
            case y11c => (intro w hSw; (try dsimp only at hSw); (try go_split_ands); go_simp); (try with_reducible rfl)
            case r11c =>
            (try simp only [Act.put, List.setIfInBounds_toArray, List.set_cons_zero, List.set_cons_succ])
            refine wpAnyH_take (i := 12) (oi := ⟨some 95, _, _, _, _, _⟩) (v := ?v12c) rfl (by kernel_rfl) (by kernel_rfl) (by kernel_rfl) (fun _ _ _ h => h) (Or.inl ⟨by rfl, ?y12c⟩) (by assumption) ?r12c
            case y12c => (intro w hSw; (try dsimp only at hSw); (try go_split_ands); go_simp); (try with_reducible rfl)
            case r12c =>
            (try simp only [Act.put, List.setIfInBounds_toArray, List.set_cons_zero, List.set_cons_succ])
            refine wpAnyH_take (i := 13) (oi := ⟨some 96, _, _, _, _, _⟩) (v := .slice (some ⟨gw, 0, none⟩) p.length cw) rfl (by kernel_rfl) (by kernel_rfl) (by kernel_rfl) (fun _ _ _ h => h) (Or.inl ⟨by rfl, ?y13c⟩) (by assumption) ?r13c
            case y13c => (intro w hSw; (try dsimp only at hSw); (try go_split_ands); go_simp)
            case r13c =>
            (try simp only [Act.put, List.setIfInBounds_toArray, List.set_cons_zero, List.set_cons_succ])
            refine wpAnyH_take (i := 15) (oi := ⟨some 98, _, _, _, _, _⟩) (v := ?v15c) rfl (by kernel_rfl) (by kernel_rfl) (by kernel_rfl) (fun _ _ _ h => h) (Or.inl ⟨by rfl, ?y15c⟩) (by assumption) ?r15c
            case y15c => (intro w hSw; (try dsimp only at hSw); (try go_split_ands); go_simp); (try with_reducible rfl)
            case r15c =>
            (try simp only [Act.put, List.setIfInBounds_toArray, List.set_cons_zero, List.set_cons_succ])
            refine wpAnyH_take (i := 16) (oi := ⟨some 99, _, _, _, _, _⟩) (v := ?v16c) rfl (by kernel_rfl) (by kernel_rfl) (by kernel_rfl) (fun _ _ _ h => h) (Or.inl ⟨by rfl, ?y16c⟩) (by assumption) ?r16c
            case y16c => (intro w hSw; (try dsimp only at hSw); (try go_split_ands); go_simp); (try with_reducible rfl)
            case r16c =>
            (try simp only [Act.put, List.setIfInBounds_toArray, List.set_cons_zero, List.set_cons_succ])
            refine wpAnyH_take (i := 17) (oi := ⟨some 100, _, _, _, _, _⟩) (v := ?v17c) rfl (by kernel_rfl) (by kernel_rfl) (by kernel_rfl) (fun _ _ _ h => h) (Or.inl ⟨by rfl, ?y17c⟩) (by assumption) ?r17c
            case y17c => (intro w hSw; (try dsimp only at hSw); (try go_split_ands); go_simp); (try with_reducible rfl)
            case r17c =>
            (try simp only [Act.put, List.setIfInBounds_toArray, List.set_cons_zero, List.set_cons_succ])
            refine wpAnyH_take (i := 18) (oi := ⟨some 101, _, _, _, _, _⟩) (v := ?v18c) rfl (by kernel_rfl) (by kernel_rfl) (by kernel_rfl) (fun _ _ _ h => h) (Or.inl ⟨by rfl, ?y18c⟩) (by assumption) ?r18c
            case y18c => (intro w hSw; (try dsimp only at hSw); (try go_split_ands); go_simp); (try with_reducible rfl)
            case r18c =>
            (try simp only [Act.put, List.setIfInBounds_toArray, List.set_cons_zero, List.set_cons_succ])
            refine wpAnyH_take (i := 19) (oi := ⟨some 102, _, _, _, _, _⟩) (v := ?v19c) rfl (by kernel_rfl) (by kernel_rfl) (by kernel_rfl) (fun _ _ _ h => h) (Or.inl ⟨by rfl, ?y19c⟩) (by assumption) ?r19c
            case y19c => (intro w hSw; (try dsimp only at hSw); (try go_split_ands); go_simp); (try with_reducible rfl)
            case r19c =>
            (try simp only [Act.put, List.setIfInBounds_toArray, List.set_cons_zero, List.set_cons_succ])
            refine wpAnyH_take (i := 20) (oi := ⟨some 103, _, _, _, _, _⟩) (v := ?v20c) rfl (by kernel_rfl) (by kernel_rfl) (by kernel_rfl) (fun _ _ _ h => h) (Or.inl ⟨by rfl, ?y20c⟩) (by assumption) ?r20c
            case y20c => (intro w hSw; (try dsimp only at hSw); (try go_split_ands); go_simp); (try with_reducible rfl)
            case r20c =>
            (try simp only [Act.put, List.setIfInBounds_toArray, List.set_cons_zero, List.set_cons_succ])
            refine wpAnyH_take (i := 21) (oi := ⟨some 104, _, _, _, _, _⟩) (v := ?v21c) rfl (by kernel_rfl) (by kernel_rfl) (by kernel_rfl) (fun _ _ _ h => h) (Or.inl ⟨by rfl, ?y21c⟩) (by assumption) ?r21c
            case y21c => (intro w hSw; (try dsimp only at hSw); (try go_split_ands); go_simp); (try with_reducible rfl)
            case r21c =>
            (try simp only [Act.put, List.setIfInBounds_toArray, List.set_cons_zero, List.set_cons_succ])
            refine wpAnyH_take (i := 22) (oi := ⟨some 105, _, _, _, _, _⟩) (v := ?v22c) rfl (by kernel_rfl) (by kernel_rfl) (by kernel_rfl) (fun _ _ _ h => h) (Or.inl ⟨by rfl, ?y22c⟩) (by assumption) ?r22c
            case y22c => (intro w hSw; (try dsimp only at hSw); (try go_split_ands); go_simp); (try with_reducible rfl)
            case r22c =>
            (try simp only [Act.put, List.setIfInBounds_toArray, List.set_cons_zero, List.set_cons_succ])
            refine wpAnyH_take (i := 23) (oi := ⟨some 106, _, _, _, _, _⟩) (v := ?v23c) rfl (by kernel_rfl) (by kernel_rfl) (by kernel_rfl) (fun _ _ _ h => h) (Or.inl ⟨by rfl, ?y23c⟩) (by assumption) ?r23c
            case y23c => (intro w hSw; (try dsimp only at hSw); (try go_split_ands); go_simp); (try with_reducible rfl)
            case r23c =>
            (try simp only [Act.put, List.setIfInBounds_toArray, List.set_cons_zero, List.set_cons_succ])
            refine wpAnyH_take (i := 24) (oi := ⟨some 107, _, _, _, _, _⟩) (v := ?v24c) rfl (by kernel_rfl) (by kernel_rfl) (by kernel_rfl) (fun _ _ _ h => h) (Or.inl ⟨by rfl, ?y24c⟩) (by assumption) ?r24c
            case y24c => (intro w hSw; (try dsimp only at hSw); (try go_split_ands); go_simp); (try with_reducible rfl)
            case r24c =>
            (try simp only [Act.put, List.setIfInBounds_toArray, List.set_cons_zero, List.set_cons_succ])
            refine wpAnyH_take (i := 25) (oi := ⟨some 108, _, _, _, _, _⟩) (v := ?v25c) rfl (by kernel_rfl) (by kernel_rfl) (by kernel_rfl) (fun _ _ _ h => h) (Or.inl ⟨by rfl, ?y25c⟩) (by assumption) ?r25c
            case y25c => (intro w hSw; (try dsimp only at hSw); (try go_split_ands); go_simp); (try with_reducible rfl)
            case r25c =>
            (try simp only [Act.put, List.setIfInBounds_toArray, List.set_cons_zero, List.set_cons_succ])
            refine wpAnyH_ready (rs := [14]) (by kernel_rfl) (by simp) ?_
            refine AllReadyH.cons (o := ⟨some 97, _, _, _, _, _⟩) rfl (fun K hK => ?_) AllReadyH.nil
            go_simp
            refine (piTakeNo b _ row n off (some ⟨gw, 0, none⟩) p.length cw V.drew (HVP.out.pi.drewN 1) (by omega) (by omega) (by omega) (by omega) HNO.out).mono ?_
            rintro e w5 ⟨rfl, n5, hw5⟩
            have HT5 : Hid (Touch (fun _ => False) V w5) := Lib.hid (by rw [hw5]; exact ((Touch.refl _ V).drewN 1).drewN n5)
            have hb3 : Below w.heap.size V w5 := HT5.out.none_below hwV
            clear hw5
            go_wp2_with fail
            refine hK.out _ _ (hkeep _ hb3) (fun hHeld => ?_)
            clear hK K
            (try simp only [Act.put, List.setIfInBounds_toArray, List.set_cons_zero, List.set_cons_succ])
            refine wpAnyH_ready (rs := [26]) (by kernel_rfl) (by simp) ?_
            refine AllReadyH.cons (o := ⟨some 109, _, _, _, _, _⟩) rfl (fun K hK => ?_) AllReadyH.nil
            go_simp
            have hs5 := HT5.out.size
            refine (riTakeNo r _ row n off A1 p.length c1 w5 (HVP.out.below (HT5.out.none_below (Nat.le_refl _))).ri (by omega) (by omega) (by omega) (by omega) HNO.out).mono ?_
            rintro e w6 ⟨rfl, n6, hw6⟩
            have HT6 : Hid (Touch (fun _ => False) V w6) := Lib.hid (by rw [hw6]; exact HT5.out.drewN n6)
            clear hw6
            have hs6 := HT6.out.size
            have HPM6 := Lib.hid (HVP.out.below (HT6.out.none_below (Nat.le_refl _)))
            have HOW6 := Lib.hid (HT6.out.own HOW.out (fun _ _ h => h))
            have HG6 : Hid (rowBlk w6 b ≠ some gw ∧ rowBlk2 w6 r ≠ some gw) := Lib.hid (by
              rw [rowBlk_touch HT6.out HVP.out.pi.low (fun h => h), rowBlk2_touch HT6.out HVP.out.ri.low (fun h => h)]
              exact HRV.out)
            replace hb3 : Below w.heap.size V w6 := HT6.out.none_below hwV
            go_wp2_with fail
            refine hK.out _ _ (hkeep _ hb3) (fun hHeld => ?_)
            clear hK K
            (try simp only [Act.put, List.setIfInBounds_toArray, List.set_cons_zero, List.set_cons_succ])
            refine wpAnyH_take (i := 27) (oi := ⟨some 110, _, _, _, _, _⟩) (v := ?v27c) rfl (by kernel_rfl) (by kernel_rfl) (by kernel_rfl) (fun _ _ _ h => h) (Or.inl ⟨by rfl, ?y27c⟩) (by assumption) ?r27c
            case y27c => (intro w hSw; (try dsimp only at hSw); (try go_split_ands); go_simp); (try with_reducible rfl)
            case r27c =>
            (try simp only [Act.put, List.setIfInBounds_toArray, List.set_cons_zero, List.set_cons_succ])
            refine wpAnyH_take (i := 28) (oi := ⟨some 111, _, _, _, _, _⟩) (v := ?v28c) rfl (by kernel_rfl) (by kernel_rfl) (by kernel_rfl) (fun _ _ _ h => h) (Or.inl ⟨by rfl, ?y28c⟩) (by assumption) ?r28c
            case y28c => (intro w hSw; (try dsimp only at hSw); (try go_split_ands); go_simp); (try with_reducible rfl)
            case r28c =>
            (try simp only [Act.put, List.setIfInBounds_toArray, List.set_cons_zero, List.set_cons_succ])
            refine wpAnyH_take (i := 29) (oi := ⟨some 112, _, _, _, _, _⟩) (v := ?v29c) rfl (by kernel_rfl) (by kernel_rfl) (by kernel_rfl) (fun _ _ _ h => h) (Or.inl ⟨by rfl, ?y29c⟩) (by assumption) ?r29c
            case y29c => (intro w hSw; (try dsimp only at hSw); (try go_split_ands); go_simp); (try with_reducible rfl)
            case r29c =>
            (try simp only [Act.put, List.setIfInBounds_toArray, List.set_cons_zero, List.set_cons_succ])
            refine wpAnyH_take (i := 30) (oi := ⟨some 113, _, _, _, _, _⟩) (v := ?v30c) rfl (by kernel_rfl) (by kernel_rfl) (by kernel_rfl) (fun _ _ _ h => h) (Or.inl ⟨by rfl, ?y30c⟩) (by assumption) ?r30c
            case y30c => (intro w hSw; (try dsimp only at hSw); (try go_split_ands); go_simp); (try with_reducible rfl)
            case r30c =>
            (try simp only [Act.put, List.setIfInBounds_toArray, List.set_cons_zero, List.set_cons_succ])
            refine wpAnyH_take (i := 31) (oi := ⟨some 114, _, _, _, _, _⟩) (v := ?v31c) rfl (by kernel_rfl) (by kernel_rfl) (by kernel_rfl) (fun _ _ _ h => h) (Or.inl ⟨by rfl, ?y31c⟩) (by assumption) ?r31c
            case y31c => (intro w hSw; (try dsimp only at hSw); (try go_split_ands); go_simp); (try with_reducible rfl)
            case r31c =>
            (try simp only [Act.put, List.setIfInBounds_toArray, List.set_cons_zero, List.set_cons_succ])
            refine wpAnyH_take (i := 32) (oi := ⟨some 115, _, _, _, _, _⟩) (v := ?v32c) rfl (by kernel_rfl) (by kernel_rfl) (by kernel_rfl) (fun _ _ _ h => h) (Or.inl ⟨by rfl, ?y32c⟩) (by assumption) ?r32c
            case y32c => (intro w hSw; (try dsimp only at hSw); (try go_split_ands); go_simp); (try with_reducible rfl)
            case r32c =>
            (try simp only [Act.put, List.setIfInBounds_toArray, List.set_cons_zero, List.set_cons_succ])
            refine wpAnyH_take (i := 33) (oi := ⟨some 116, _, _, _, _, _⟩) (v := ?v33c) rfl (by kernel_rfl) (by kernel_rfl) (by kernel_rfl) (fun _ _ _ h => h) (Or.inl ⟨by rfl, ?y33c⟩) (by assumption) ?r33c
            case y33c => (intro w hSw; (try dsimp only at hSw); (try go_split_ands); go_simp); (try with_reducible rfl)
            case r33c =>
            (try simp only [Act.put, List.setIfInBounds_toArray, List.set_cons_zero, List.set_cons_succ])
            refine wpAnyH_take (i := 34) (oi := ⟨some 117, _, _, _, _, _⟩) (v := ?v34c) rfl (by kernel_rfl) (by kernel_rfl) (by kernel_rfl) (fun _ _ _ h => h) (Or.inl ⟨by rfl, ?y34c⟩) (by assumption) ?r34c
            case y34c => (intro w hSw; (try dsimp only at hSw); (try go_split_ands); go_simp); (try with_reducible rfl)
            case r34c =>
            (try simp only [Act.put, List.setIfInBounds_toArray, List.set_cons_zero, List.set_cons_succ])
            refine wpAnyH_ready (rs := [35]) (by kernel_rfl) (by simp) ?_
            refine AllReadyH.cons (o := ⟨some 118, _, _, _, _, _⟩) rfl (fun K hK => ?_) AllReadyH.nil
            go_simp
            refine (lawStands A1 c1 w.heap.size gw cw _ p _ (by omega) (cells_keep HCE.out hb3 (Nat.le_refl _)) HOW6.out).mono ?_
            rintro e w7 ⟨rfl, ht7⟩
            have HT7 := Lib.hid ht7
            have hb7 : Below w6.heap.size w6 w7 := ht7.none_below (Nat.le_refl _)
            replace hb3 := hb3.trans (hb7.mono (by have := hb3.size; omega))
            have hs7 := hb7.size
            clear ht7
            go_wp2_with fail
            refine hK.out _ _ (hkeep _ hb3) (fun hHeld => ?_)
            clear hK K
            (try simp only [Act.put, List.setIfInBounds_toArray, List.set_cons_zero, List.set_cons_succ])
            refine wpAnyH_take (i := 36) (oi := ⟨some 119, _, _, _, _, _⟩) (v := ?v36c) rfl (by kernel_rfl) (by kernel_rfl) (by kernel_rfl) (fun _ _ _ h => h) (Or.inl ⟨by rfl, ?y36c⟩) (by assumption) ?r36c
            case y36c => (intro w hSw; (try dsimp only at hSw); (try go_split_ands); go_simp); (try with_reducible rfl)
            case r36c =>
            (try simp only [Act.put, List.setIfInBounds_toArray, List.set_cons_zero, List.set_cons_succ])
            refine wpAnyH_take (i := 37) (oi := ⟨some 120, _, _, _, _, _⟩) (v := ?v37c) rfl (by kernel_rfl) (by kernel_rfl) (by kernel_rfl) (fun _ _ _ h => h) (Or.inl ⟨by rfl, ?y37c⟩) (by assumption) ?r37c
            case y37c => (intro w hSw; (try dsimp only at hSw); (try go_split_ands); go_simp); (try with_reducible rfl)
            case r37c =>
            (try simp only [Act.put, List.setIfInBounds_toArray, List.set_cons_zero, List.set_cons_succ])
            refine wpAnyH_done (by kernel_rfl) ?_ _
            go_wp2_with fail
            refine (lawSpoil wr.heap.size (p.length + 1) _ _ _ (by omega) (HT7.out.own HOW6.out (fun _ _ h => h)) (by omega)).mono ?_
            rintro e w8 ⟨rfl, ht8⟩
            have e7 : rowBlk w7 b = rowBlk w6 b := rowBlk_touch HT7.out HPM6.out.pi.low (fun h => h)
            have e8 : rowBlk2 w7 r = rowBlk2 w6 r := rowBlk2_touch HT7.out HPM6.out.ri.low (fun h => h)
            have HPM8 := Lib.hid (PM.late (w1 := w7) (HPM6.out.below (HT7.out.none_below (Nat.le_refl _))) (ht8.mono (fun k hk => by simp [Value.ownBlock] at hk; exact hk.symm)) (by omega) (by omega) (by rw [e7]; exact HG6.out.1) (by rw [e8]; exact HG6.out.2) (by omega))
            obtain ⟨rw2, hrw2⟩ : ∃ z, z = row := ⟨_, rfl⟩
            rw [← hrw2] at HPM8
            have hlen2 : rw2.length ≤ bulk (l.take (k + 1)) := by rw [hrw2]; have := HQ.out; first | (rw [List.length_append]; omega) | omega
            have hs8 := ht8.size
            obtain ⟨v9, hv9, hown9, _⟩ := HPM8.out.ri.slot
            obtain ⟨A9, c9, rfl, _, _, hx9⟩ := row_cells hown9
            have HC9 := Lib.hid hx9
            have hkeep2 : ∀ W, Below w8.heap.size w8 W → (Below w8.heap.size w8 W ∧ W.cell? ⟨r, 1, none⟩ = some (.slice A9 rw2.length c9)) := fun W hh => ⟨hh, bkeep hh hv9 HPM8.out.ri.low⟩
            obtain ⟨bb, hbb⟩ : ∃ bb, decide ((rw2.length : Int) = n) = bb := ⟨_, rfl⟩
            have HBB := Lib.hid hbb
            clear hbb hrw2 hown9 hx9 ht8 e7 e8 hkeep y0 y1
            go_wp2_with fail
            refine wp_region_held_drew (S := (fun W => Below w8.heap.size w8 W ∧ W.cell? ⟨r, 1, none⟩ = some (.slice A9 rw2.length c9))) (by kernel_rfl) (hkeep2 _ (Below.refl _ _).drew) (fun hHeld => ?_)
            refine wpAnyH_take (i := 0) (oi := ⟨some 123, _, _, _, _, _⟩) (v := ?v0d) rfl (by kernel_rfl) (by kernel_rfl) (by kernel_rfl) (fun _ _ _ h => h) (Or.inl ⟨by rfl, ?y0d⟩) (by assumption) ?r0d
            case y0d => (intro w hSw; (try dsimp only at hSw); (try go_split_ands); go_simp); (try with_reducible rfl)
            case r0d =>
            (try simp only [Act.put, List.setIfInBounds_toArray, List.set_cons_zero, List.set_cons_succ])
            refine wpAnyH_take (i := 2) (oi := ⟨some 125, _, _, _, _, _⟩) (v := ?v2d) rfl (by kernel_rfl) (by kernel_rfl) (by kernel_rfl) (fun _ _ _ h => h) (Or.inl ⟨by rfl, ?y2d⟩) (by assumption) ?r2d
            case y2d => (intro w hSw; (try dsimp only at hSw); (try go_split_ands); go_simp); (try with_reducible rfl)
            case r2d =>
            (try simp only [Act.put, List.setIfInBounds_toArray, List.set_cons_zero, List.set_cons_succ])
            refine wpAnyH_take (i := 3) (oi := ⟨some 126, _, _, _, _, _⟩) (v := ?v3d) rfl (by kernel_rfl) (by kernel_rfl) (by kernel_rfl) (fun _ _ _ h => h) (Or.inl ⟨by rfl, ?y3d⟩) (by assumption) ?r3d
            case y3d => (intro w hSw; (try dsimp only at hSw); (try go_split_ands); go_simp); (try with_reducible rfl)
            case r3d =>
            (try simp only [Act.put, List.setIfInBounds_toArray, List.set_cons_zero, List.set_cons_succ])
            refine wpAnyH_take (i := 4) (oi := ⟨some 127, _, _, _, _, _⟩) (v := ?v4d) rfl (by kernel_rfl) (by kernel_rfl) (by kernel_rfl) (fun _ _ _ h => h) (Or.inl ⟨by rfl, ?y4d⟩) (by assumption) ?r4d
            case y4d => (intro w hSw; (try dsimp only at hSw); (try go_split_ands); go_simp); (try with_reducible rfl)
            case r4d =>
            (try simp only [Act.put, List.setIfInBounds_toArray, List.set_cons_zero, List.set_cons_succ])
            refine wpAnyH_take (i := 5) (oi := ⟨some 128, _, _, _, _, _⟩) (v := ?v5d) rfl (by kernel_rfl) (by kernel_rfl) (by kernel_rfl) (fun _ _ _ h => h) (Or.inl ⟨by rfl, ?y5d⟩) (by assumption) ?r5d
            case y5d => (intro w hSw; (try dsimp only at hSw); (try go_split_ands); go_simp); (try with_reducible rfl)
            case r5d =>
            (try simp only [Act.put, List.setIfInBounds_toArray, List.set_cons_zero, List.set_cons_succ])
            refine wpAnyH_ready (rs := [1]) (by kernel_rfl) (by simp) ?_
            refine AllReadyH.cons (o := ⟨some 124, _, _, _, _, _⟩) rfl (fun K hK => ?_) AllReadyH.nil
            go_simp
            refine (piBytes b _ rw2 n w8.drew (HPM8.out.pi.drewN 1) (by omega)).mono ?_
            rintro e w9 ⟨v9, rfl, hown9, hb9⟩
            have hb3 : Below w8.heap.size w8 w9 := ((Below.refl _ _).drew).trans hb9
            obtain ⟨A10, c10, rfl, _, _, hx10⟩ := row_cells hown9
            have HX10 := Lib.hid hx10
            clear hown9 hx10
            go_wp2_with fail
            refine hK.out _ _ (hkeep2 _ hb3) (fun hHeld => ?_)
            clear hK K
            (try simp only [Act.put, List.setIfInBounds_toArray, List.set_cons_zero, List.set_cons_succ])
            refine wpAnyH_ready (rs := [6]) (by kernel_rfl) (by simp) ?_
            refine AllReadyH.cons (o := ⟨some 129, _, _, _, _, _⟩) rfl (fun K hK => ?_) AllReadyH.nil
            go_simp
            refine (lawSame A10 A9 c10 c9 _ w8.heap.size rw2 _ (by omega) HX10.out (cells_keep HC9.out hb3 (Nat.le_refl _))).mono ?_
            rintro e w10 ⟨rfl, ht10⟩
            replace hb3 := hb3.trans (ht10.none_below (B := w8.heap.size) (by have := hb3.size; omega))
            clear ht10
            go_wp2_with fail
            refine hK.out _ _ (hkeep2 _ hb3) (fun hHeld => ?_)
            clear hK K
            (try simp only [Act.put, List.setIfInBounds_toArray, List.set_cons_zero, List.set_cons_succ])
            refine wpAnyH_take (i := 7) (oi := ⟨some 130, _, _, _, _, _⟩) (v := ?v7d) rfl (by kernel_rfl) (by kernel_rfl) (by kernel_rfl) (fun _ _ _ h => h) (Or.inl ⟨by rfl, ?y7d⟩) (by assumption) ?r7d
            case y7d => (intro w hSw; (try dsimp only at hSw); (try go_split_ands); go_simp); (try with_reducible rfl)
            case r7d =>
            (try simp only [Act.put, List.setIfInBounds_toArray, List.set_cons_zero, List.set_cons_succ])
            refine wpAnyH_take (i := 8) (oi := ⟨some 131, _, _, _, _, _⟩) (v := ?v8d) rfl (by kernel_rfl) (by kernel_rfl) (by kernel_rfl) (fun _ _ _ h => h) (Or.inl ⟨by rfl, ?y8d⟩) (by assumption) ?r8d
            case y8d => (intro w hSw; (try dsimp only at hSw); (try go_split_ands); go_simp); (try with_reducible rfl)
            case r8d =>
            (try simp only [Act.put, List.setIfInBounds_toArray, List.set_cons_zero, List.set_cons_succ])
            refine wpAnyH_take (i := 9) (oi := ⟨some 132, _, _, _, _, _⟩) (v := ?v9d) rfl (by kernel_rfl) (by kernel_rfl) (by kernel_rfl) (fun _ _ _ h => h) (Or.inl ⟨by rfl, ?y9d⟩) (by assumption) ?r9d
            case y9d => (intro w hSw; (try dsimp only at hSw); (try go_split_ands); go_simp); (try with_reducible rfl)
            case r9d =>
            (try simp only [Act.put, List.setIfInBounds_toArray, List.set_cons_zero, List.set_cons_succ])
            refine wpAnyH_take (i := 11) (oi := ⟨some 134, _, _, _, _, _⟩) (v := ?v11d) rfl (by kernel_rfl) (by kernel_rfl) (by kernel_rfl) (fun _ _ _ h => h) (Or.inl ⟨by rfl, ?y11d⟩) (by assumption) ?r11d
            case y11d => (intro w hSw; (try dsimp only at hSw); (try go_split_ands); go_simp); (try with_reducible rfl)
            case r11d =>
            (try simp only [Act.put, List.setIfInBounds_toArray, List.set_cons_zero, List.set_cons_succ])
            refine wpAnyH_ready (rs := [10]) (by kernel_rfl) (by simp) ?_
            refine AllReadyH.cons (o := ⟨some 133, _, _, _, _, _⟩) rfl (fun K hK => ?_) AllReadyH.nil
            go_simp
            refine (piWholeB b _ rw2 n bb _ (HPM8.out.below hb3).pi HBB.out).mono ?_
            rintro e w11 ⟨rfl, hb11⟩
            replace hb3 := hb3.trans (hb11.mono (by have := hb3.size; omega))
            clear hb11
            go_wp2_with fail
            refine hK.out _ _ (hkeep2 _ hb3) (fun hHeld => ?_)
            clear hK K
            (try simp only [Act.put, List.setIfInBounds_toArray, List.set_cons_zero, List.set_cons_succ])
            refine wpAnyH_ready (rs := [12]) (by kernel_rfl) (by simp) ?_
            refine AllReadyH.cons (o := ⟨some 135, _, _, _, _, _⟩) rfl (fun K hK => ?_) AllReadyH.nil
            go_simp
            refine (riWholeB r _ rw2 n bb _ (HPM8.out.below hb3).ri HBB.out).mono ?_
            rintro e w12 ⟨rfl, hb12⟩
            replace hb3 := hb3.trans (hb12.mono (by have := hb3.size; omega))
            clear hb12
            go_wp2_with fail
            refine hK.out _ _ (hkeep2 _ hb3) (fun hHeld => ?_)
            clear hK K
            (try simp only [Act.put, List.setIfInBounds_toArray, List.set_cons_zero, List.set_cons_succ])
            refine wpAnyH_take (i := 13) (oi := ⟨some 136, _, _, _, _, _⟩) (v := ?v13d) rfl (by kernel_rfl) (by kernel_rfl) (by kernel_rfl) (fun _ _ _ h => h) (Or.inl ⟨by rfl, ?y13d⟩) (by assumption) ?r13d
            case y13d => (intro w hSw; (try dsimp only at hSw); (try go_split_ands); go_simp); (try with_reducible rfl)
            case r13d =>
            (try simp only [Act.put, List.setIfInBounds_toArray, List.set_cons_zero, List.set_cons_succ])
            refine wpAnyH_take (i := 14) (oi := ⟨some 137, _, _, _, _, _⟩) (v := ?v14d) rfl (by kernel_rfl) (by kernel_rfl) (by kernel_rfl) (fun _ _ _ h => h) (Or.inl ⟨by rfl, ?y14d⟩) (by assumption) ?r14d
            case y14d => (intro w hSw; (try dsimp only at hSw); (try go_split_ands); go_simp); (try with_reducible rfl)
            case r14d =>
            (try simp only [Act.put, List.setIfInBounds_toArray, List.set_cons_zero, List.set_cons_succ])
            refine wpAnyH_done (by kernel_rfl) ?_ _
            go_wp2_with fail
            go_roundw
            case rel => exact ⟨k + 1, rw2, by omega, by go_num, hlen2, Lib.hid (HPM8.out.below hHeld.1)⟩
            case measure => simp [intOf]; omega
        · have hke : k = l.length := by omega
          clear hrow
          have i1 : ¬ (k : Int) < (l.length : Int) := by omega
          have HBE := Lib.hid HM2.out.be
          clear hkl hke hk
          go_wp2_with (go_at_call 36; refine (knownPiece _).mono ?_; rintro e wc ⟨rfl, hbc⟩)
          go_ret
          exact ⟨rfl, HBE.out.trans (hbc.mono hws)⟩

set_option maxHeartbeats 4000000 in
set_option maxRecDepth 100000 in
theorem walkPieceComesL (n : Int) (hn0 : 1 ≤ n) (hn1 : n ≤ 524288) (A : Option Addr) (c : Nat) (l : List (Int × List Nat)) (w : World) (hc : l.length ≤ c) (hcm : c ≤ 9223372036854775807) (hL : 100 < l.length) (HX : Hid (Bits w w.heap.size A l)) :
    Calls Try.prog 9 #[.int .i64 n, .slice A l.length c] w fun e w' => e = .returned (.bool true) ∧ Below w.heap.size w w' := by
  go_enter Try.func9, Try.ntmps9
  go_wp2_with fail
  go_loop [5, 6] (fun m i => ∃ k : Nat, k ≤ 100 ∧ i = .int .i64 k ∧ m = .int .i64 (bulk (l.take k) : Nat) ∧ bulk (l.take k) ≤ 3000) (fun _ i => 100 - (intOf i).toNat)
  case atStart => exact ⟨0, by omega, rfl, rfl, by simp [bulk]⟩
  case round =>
    obtain ⟨k, hk, rfl, rfl, hbk⟩ := hrel
    by_cases hkl : k < 100
    · have h1 : k < l.length := by omega
      obtain ⟨ab, ao, A1, c1, rfl, hab, y0, y1, hl1, hl2, _⟩ := HX.out k h1
      have HQ := Lib.hid (bulk_take h1)
      have i1 : (k : Int) < (l.length : Int) := by omega
      have i2 : (k : Int) < 100 := by omega
      unfold maxLen at hl2
      by_cases hpl : l[k].2.length ≤ 3000
      · by_cases hbig : bulk (l.take k) + 10 + l[k].2.length ≤ 3000
        · have i3 : ¬ (3000 : Int) < (bulk (l.take k) : Int) + 10 + (l[k].2.length : Int) := by omega
          have i4 : ¬ (3000 : Int) < (l[k].2.length : Int) := by omega
          go_wp2_with fail
          go_round
          case rel => exact ⟨k + 1, by omega, by go_num, by have := HQ.out; congr 1; omega, by have := HQ.out; omega⟩
          case measure => simp [intOf]; omega
        · have i3 : (3000 : Int) < (bulk (l.take k) : Int) + 10 + (l[k].2.length : Int) := by omega
          go_wp2_with fail
          go_ret
          exact ⟨rfl, Below.refl _ _⟩
      · have i4 : (3000 : Int) < (l[k].2.length : Int) := by omega
        obtain ⟨z, hz⟩ : ∃ z, wrap64 ((bulk (l.take k) : Int) + 10 + (l[k].2.length : Int)) = z := ⟨_, rfl⟩
        by_cases hz3 : 3000 < z
        · go_wp2_with fail
          go_ret
          exact ⟨rfl, Below.refl _ _⟩
        · go_wp2_with fail
          go_ret
          exact ⟨rfl, Below.refl _ _⟩
    · have hke : k = 100 := by omega
      have HBK : Hid (bulk (l.take 100) ≤ 3000) := Lib.hid (hke ▸ hbk)
      have i1 : (k : Int) < (l.length : Int) := by omega
      have i2 : ¬ (k : Int) < 100 := by omega
      clear hk hbk hkl hke
      go_wp2_with fail
      refine (piBegin n _ hn0 hn1).mono ?_
      rintro e w1 ⟨b, rfl, hbs, hpi, hrb, hb1⟩
      have hs1 := hb1.size
      have HPI := Lib.hid hpi
      have HRB := Lib.hid hrb
      have hbl := hpi.low
      clear hpi hrb
      go_wp2_with fail
      refine (riBegin n _ hn0 hn1).mono ?_
      rintro e w2 ⟨r, rfl, hrs, hri, hrb2, hb2⟩
      have hs2 := hb2.size
      have HM : Hid (PM w w2 b w.heap.size r w1.heap.size [] n) := Lib.hid (by
        have t := Touch.of_below hb2
        have e1 : rowBlk w2 b = none := (rowBlk_touch t hbl (by omega)).trans HRB.out
        exact ⟨HPI.out.touch t (by omega) (fun g hg => by rw [HRB.out] at hg; cases hg), hri, hb1.trans (hb2.mono hs1), by omega, Nat.le_refl _, hs1, (fun g hg => by rw [e1] at hg; cases hg), (fun g hg => by rw [hrb2] at hg; cases hg)⟩)
      clear hri hrb2 HPI HRB hb1 hb2
      go_wp2_with fail
      go_loopw [11] (fun i wr => ∃ (k : Nat) (row : List Nat), k ≤ 100 ∧ i = .int .i64 k ∧ row.length ≤ bulk (l.take k) ∧ Hid (PM w wr b w.heap.size r w1.heap.size row n)) (fun i _ => 100 - (intOf i).toNat)
      case atStart => exact ⟨0, [], by omega, rfl, by simp, HM⟩
      case round =>
        obtain ⟨k, row, hk, rfl, hrow, HM2⟩ := hrel
        have hbw := HM2.out.pi.low
        have hrw := HM2.out.ri.low
        have hws := HM2.out.be.size
        have hbr : b ≠ r := HM2.out.ne
        by_cases hkl : k < 100
        · have h1 : k < l.length := by omega
          obtain ⟨ab, ao, A1, c1, rfl, hab, y0, y1, hl1, hl2, hcel⟩ := HX.out k h1
          replace y0 := bkeep HM2.out.be y0 hab
          replace y1 := bkeep HM2.out.be y1 hab
          have HQ := Lib.hid (bulk_take h1)
          have hbd := Nat.le_trans (bulk_mono l (k + 1) (100) hkl) HBK.out
          have hpl : l[k].2.length ≤ 3000 := by have := HQ.out; omega
          have i1 : (k : Int) < (l.length : Int) := by omega
          have i2 : (k : Int) < 100 := by omega
          unfold maxLen at hl2
          generalize hp : l[k].2 = p at *
          generalize hz : l[k].1 = off at *
          have HP0 := Lib.hid hp
          have HCE0 := Lib.hid (cells_keep hcel HM2.out.be (Nat.le_refl _))
          clear hcel hp hz
          have hpl2 : p.length ≤ 3000 := by first | exact hpl | (rw [← HP0.out]; exact hpl)
          have hrow3 : row.length ≤ 3000 := by have := HQ.out; omega
          go_wp2_with fail
          refine (lawRoomy A1 c1 p _ (by omega) (cells_keep HCE0.out (Below.refl _ _) hws)).mono ?_
          rintro e V ⟨gw, cw, rfl, hown1, hb1⟩
          have hsV := hb1.size
          obtain ⟨q4, q5⟩ : wr.heap.size ≤ gw ∧ gw < V.heap.size := hown1.lt gw rfl
          have hpre := own_prefix hown1 (k := p.length) (by omega)
          rw [flat_take] at hpre
          obtain ⟨A0, cap0, hA0, q6, _, hx1⟩ := row_cells hpre
          injection hA0 with hA1 hA2 hA3
          subst hA1 hA3
          have HXW : Hid (Cells V.drew V.heap.size (some ⟨gw, 0, none⟩) p.length cw 1 (flatU p)) := Lib.hid hx1
          have HOW := Lib.hid hown1
          have HVP := Lib.hid (HM2.out.below hb1)
          have q7 : (p.length : Int) ≤ (cw : Int) := by omega
          replace y0 := bkeep hb1 y0 (by omega)
          replace y1 := bkeep hb1 y1 (by omega)
          have HCE := Lib.hid (cells_keep HCE0.out (hb1.mono (by omega)) (Nat.le_refl _))
          have HRV : Hid (rowBlk V b ≠ some gw ∧ rowBlk2 V r ≠ some gw) := Lib.hid (by
            have t := Touch.of_below hb1
            have e1 : rowBlk V b = rowBlk wr b := rowBlk_touch t hbw (by omega)
            have e2 : rowBlk2 V r = rowBlk2 wr r := rowBlk2_touch t hrw (by omega)
            refine ⟨fun h => ?_, fun h => ?_⟩
            · rw [e1] at h; have := (HM2.out.pi.blk_lt h).2; omega
            · rw [e2] at h; have := (HM2.out.ri.blk_lt h).2; omega)
          have hwV : w.heap.size ≤ V.heap.size := by omega
          clear hx1 hpre hown1 hb1 HM2 HCE0
          by_cases hok : off = (row.length : Int) ∧ (row.length : Int) + (p.length : Int) ≤ n
          · obtain ⟨rfl, hok2⟩ := hok
            have hkeep : ∀ W, Below w.heap.size V W → (Below w.heap.size V W ∧ W.cell? ⟨ab, ao + k * 2, none⟩ = some (.int .i64 row.length) ∧ W.cell? ⟨ab, ao + k * 2 + 1, none⟩ = some (.slice A1 p.length c1)) := fun W hh => ⟨hh, bkeep hh y0 hab, bkeep hh y1 hab⟩
            have HQ2 : Hid (bulk (l.take (k + 1)) = bulk (l.take k) + (10 + p.length)) := by have := HP0.out; subst this; exact HQ
            have HQ := HQ2
            go_wp2_with fail
            refine wp_region_held_drew (S := (fun W => Below w.heap.size V W ∧ W.cell? ⟨ab, ao + k * 2, none⟩ = some (.int .i64 row.length) ∧ W.cell? ⟨ab, ao + k * 2 + 1, none⟩ = some (.slice A1 p.length c1))) (by kernel_rfl) (hkeep _ (Below.refl _ _).drew) (fun hHeld => ?_)
            refine wpAnyH_take (i := 0) (oi := ⟨some 83, _, _, _, _, _⟩) (v := ?v0a) rfl (by kernel_rfl) (by kernel_rfl) (by kernel_rfl) (fun _ _ _ h => h) (Or.inl ⟨by rfl, ?y0a⟩) (by assumption) ?r0a
            case y0a => (intro w hSw; (try dsimp only at hSw); (try go_split_ands); go_simp); (try with_reducible rfl)
            case r0a =>
            (try simp only [Act.put, List.setIfInBounds_toArray, List.set_cons_zero, List.set_cons_succ])
            refine wpAnyH_take (i := 1) (oi := ⟨some 84, _, _, _, _, _⟩) (v := ?v1a) rfl (by kernel_rfl) (by kernel_rfl) (by kernel_rfl) (fun _ _ _ h => h) (Or.inl ⟨by rfl, ?y1a⟩) (by assumption) ?r1a
            case y1a => (intro w hSw; (try dsimp only at hSw); (try go_split_ands); go_simp); (try with_reducible rfl)
            case r1a =>
            (try simp only [Act.put, List.setIfInBounds_toArray, List.set_cons_zero, List.set_cons_succ])
            refine wpAnyH_take (i := 2) (oi := ⟨some 85, _, _, _, _, _⟩) (v := ?v2a) rfl (by kernel_rfl) (by kernel_rfl) (by kernel_rfl) (fun _ _ _ h => h) (Or.inl ⟨by rfl, ?y2a⟩) (by assumption) ?r2a
            case y2a => (intro w hSw; (try dsimp only at hSw); (try go_split_ands); go_simp); (try with_reducible rfl)
            case r2a =>
            (try simp only [Act.put, List.setIfInBounds_toArray, List.set_cons_zero, List.set_cons_succ])
            refine wpAnyH_take (i := 3) (oi := ⟨some 86, _, _, _, _, _⟩) (v := ?v3a) rfl (by kernel_rfl) (by kernel_rfl) (by kernel_rfl) (fun _ _ _ h => h) (Or.inl ⟨by rfl, ?y3a⟩) (by assumption) ?r3a
            case y3a => (intro w hSw; (try dsimp only at hSw); (try go_split_ands); go_simp); (try with_reducible rfl)
            case r3a =>
            (try simp only [Act.put, List.setIfInBounds_toArray, List.set_cons_zero, List.set_cons_succ])
            refine wpAnyH_take (i := 4) (oi := ⟨some 87, _, _, _, _, _⟩) (v := ?v4a) rfl (by kernel_rfl) (by kernel_rfl) (by kernel_rfl) (fun _ _ _ h => h) (Or.inl ⟨by rfl, ?y4a⟩) (by assumption) ?r4a
            case y4a => (intro w hSw; (try dsimp only at hSw); (try go_split_ands); go_simp); (try with_reducible rfl)
            case r4a =>
            (try simp only [Act.put, List.setIfInBounds_toArray, List.set_cons_zero, List.set_cons_succ])
            refine wpAnyH_take (i := 5) (oi := ⟨some 88, _, _, _, _, _⟩) (v := ?v5a) rfl (by kernel_rfl) (by kernel_rfl) (by kernel_rfl) (fun _ _ _ h => h) (Or.inl ⟨by rfl, ?y5a⟩) (by assumption) ?r5a
            case y5a => (intro w hSw; (try dsimp only at hSw); (try go_split_ands); go_simp); (try with_reducible rfl)
            case r5a =>
            (try simp only [Act.put, List.setIfInBounds_toArray, List.set_cons_zero, List.set_cons_succ])
            refine wpAnyH_take (i := 6) (oi := ⟨some 89, _, _, _, _, _⟩) (v := ?v6a) rfl (by kernel_rfl) (by kernel_rfl) (by kernel_rfl) (fun _ _ _ h => h) (Or.inl ⟨by rfl, ?y6a⟩) (by assumption) ?r6a
            case y6a => (intro w hSw; (try dsimp only at hSw); (try go_split_ands); go_simp); (try with_reducible rfl)
            case r6a =>
            (try simp only [Act.put, List.setIfInBounds_toArray, List.set_cons_zero, List.set_cons_succ])
            refine wpAnyH_take (i := 7) (oi := ⟨some 90, _, _, _, _, _⟩) (v := ?v7a) rfl (by kernel_rfl) (by kernel_rfl) (by kernel_rfl) (fun _ _ _ h => h) (Or.inl ⟨by rfl, ?y7a⟩) (by assumption) ?r7a
            case y7a => (intro w hSw; (try dsimp only at hSw); (try go_split_ands); go_simp); (try with_reducible rfl)
            case r7a =>
            (try simp only [Act.put, List.setIfInBounds_toArray, List.set_cons_zero, List.set_cons_succ])
            refine wpAnyH_take (i := 8) (oi := ⟨some 91, _, _, _, _, _⟩) (v := ?v8a) rfl (by kernel_rfl) (by kernel_rfl) (by kernel_rfl) (fun _ _ _ h => h) (Or.inl ⟨by rfl, ?y8a⟩) (by assumption) ?r8a
            case y8a => (intro w hSw; (try dsimp only at hSw); (try go_split_ands); go_simp); (try with_reducible rfl)
            case r8a =>
            (try simp only [Act.put, List.setIfInBounds_toArray, List.set_cons_zero, List.set_cons_succ])
            refine wpAnyH_take (i := 9) (oi := ⟨some 92, _, _, _, _, _⟩) (v := ?v9a) rfl (by kernel_rfl) (by kernel_rfl) (by kernel_rfl) (fun _ _ _ h => h) (Or.inl ⟨by rfl, ?y9a⟩) (by assumption) ?r9a
            case y9a => (intro w hSw; (try dsimp only at hSw); (try go_split_ands); go_simp); (try with_reducible rfl)
            case r9a =>
            (try simp only [Act.put, List.setIfInBounds_toArray, List.set_cons_zero, List.set_cons_succ])
            refine wpAnyH_take (i := 10) (oi := ⟨some 93, _, _, _, _, _⟩) (v := ?v10a) rfl (by kernel_rfl) (by kernel_rfl) (by kernel_rfl) (fun _ _ _ h => h) (Or.inl ⟨by rfl, ?y10a⟩) (by assumption) ?r10a
            case y10a => (intro w hSw; (try dsimp only at hSw); (try go_split_ands); go_simp); (try with_reducible rfl)
            case r10a =>
            (try simp only [Act.put, List.setIfInBounds_toArray, List.set_cons_zero, List.set_cons_succ])
            refine wpAnyH_take (i := 11) (oi := ⟨some 94, _, _, _, _, _⟩) (v := ?v11a) rfl (by kernel_rfl) (by kernel_rfl) (by kernel_rfl) (fun _ _ _ h => h) (Or.inl ⟨by rfl, ?y11a⟩) (by assumption) ?r11a
            case y11a => (intro w hSw; (try dsimp only at hSw); (try go_split_ands); go_simp); (try with_reducible rfl)
            case r11a =>
            (try simp only [Act.put, List.setIfInBounds_toArray, List.set_cons_zero, List.set_cons_succ])
            refine wpAnyH_take (i := 12) (oi := ⟨some 95, _, _, _, _, _⟩) (v := ?v12a) rfl (by kernel_rfl) (by kernel_rfl) (by kernel_rfl) (fun _ _ _ h => h) (Or.inl ⟨by rfl, ?y12a⟩) (by assumption) ?r12a
            case y12a => (intro w hSw; (try dsimp only at hSw); (try go_split_ands); go_simp); (try with_reducible rfl)
            case r12a =>
            (try simp only [Act.put, List.setIfInBounds_toArray, List.set_cons_zero, List.set_cons_succ])
            refine wpAnyH_take (i := 13) (oi := ⟨some 96, _, _, _, _, _⟩) (v := .slice (some ⟨gw, 0, none⟩) p.length cw) rfl (by kernel_rfl) (by kernel_rfl) (by kernel_rfl) (fun _ _ _ h => h) (Or.inl ⟨by rfl, ?y13a⟩) (by assumption) ?r13a
            case y13a => (intro w hSw; (try dsimp only at hSw); (try go_split_ands); go_simp)
            case r13a =>
            (try simp only [Act.put, List.setIfInBounds_toArray, List.set_cons_zero, List.set_cons_succ])
            refine wpAnyH_take (i := 15) (oi := ⟨some 98, _, _, _, _, _⟩) (v := ?v15a) rfl (by kernel_rfl) (by kernel_rfl) (by kernel_rfl) (fun _ _ _ h => h) (Or.inl ⟨by rfl, ?y15a⟩) (by assumption) ?r15a
            case y15a => (intro w hSw; (try dsimp only at hSw); (try go_split_ands); go_simp); (try with_reducible rfl)
            case r15a =>
            (try simp only [Act.put, List.setIfInBounds_toArray, List.set_cons_zero, List.set_cons_succ])
            refine wpAnyH_take (i := 16) (oi := ⟨some 99, _, _, _, _, _⟩) (v := ?v16a) rfl (by kernel_rfl) (by kernel_rfl) (by kernel_rfl) (fun _ _ _ h => h) (Or.inl ⟨by rfl, ?y16a⟩) (by assumption) ?r16a
            case y16a => (intro w hSw; (try dsimp only at hSw); (try go_split_ands); go_simp); (try with_reducible rfl)
            case r16a =>
            (try simp only [Act.put, List.setIfInBounds_toArray, List.set_cons_zero, List.set_cons_succ])
            refine wpAnyH_take (i := 17) (oi := ⟨some 100, _, _, _, _, _⟩) (v := ?v17a) rfl (by kernel_rfl) (by kernel_rfl) (by kernel_rfl) (fun _ _ _ h => h) (Or.inl ⟨by rfl, ?y17a⟩) (by assumption) ?r17a
            case y17a => (intro w hSw; (try dsimp only at hSw); (try go_split_ands); go_simp); (try with_reducible rfl)
            case r17a =>
            (try simp only [Act.put, List.setIfInBounds_toArray, List.set_cons_zero, List.set_cons_succ])
            refine wpAnyH_take (i := 18) (oi := ⟨some 101, _, _, _, _, _⟩) (v := ?v18a) rfl (by kernel_rfl) (by kernel_rfl) (by kernel_rfl) (fun _ _ _ h => h) (Or.inl ⟨by rfl, ?y18a⟩) (by assumption) ?r18a
            case y18a => (intro w hSw; (try dsimp only at hSw); (try go_split_ands); go_simp); (try with_reducible rfl)
            case r18a =>
            (try simp only [Act.put, List.setIfInBounds_toArray, List.set_cons_zero, List.set_cons_succ])
            refine wpAnyH_take (i := 19) (oi := ⟨some 102, _, _, _, _, _⟩) (v := ?v19a) rfl (by kernel_rfl) (by kernel_rfl) (by kernel_rfl) (fun _ _ _ h => h) (Or.inl ⟨by rfl, ?y19a⟩) (by assumption) ?r19a
            case y19a => (intro w hSw; (try dsimp only at hSw); (try go_split_ands); go_simp); (try with_reducible rfl)
            case r19a =>
            (try simp only [Act.put, List.setIfInBounds_toArray, List.set_cons_zero, List.set_cons_succ])
            refine wpAnyH_take (i := 20) (oi := ⟨some 103, _, _, _, _, _⟩) (v := ?v20a) rfl (by kernel_rfl) (by kernel_rfl) (by kernel_rfl) (fun _ _ _ h => h) (Or.inl ⟨by rfl, ?y20a⟩) (by assumption) ?r20a
            case y20a => (intro w hSw; (try dsimp only at hSw); (try go_split_ands); go_simp); (try with_reducible rfl)
            case r20a =>
            (try simp only [Act.put, List.setIfInBounds_toArray, List.set_cons_zero, List.set_cons_succ])
            refine wpAnyH_take (i := 21) (oi := ⟨some 104, _, _, _, _, _⟩) (v := ?v21a) rfl (by kernel_rfl) (by kernel_rfl) (by kernel_rfl) (fun _ _ _ h => h) (Or.inl ⟨by rfl, ?y21a⟩) (by assumption) ?r21a
            case y21a => (intro w hSw; (try dsimp only at hSw); (try go_split_ands); go_simp); (try with_reducible rfl)
            case r21a =>
            (try simp only [Act.put, List.setIfInBounds_toArray, List.set_cons_zero, List.set_cons_succ])
            refine wpAnyH_take (i := 22) (oi := ⟨some 105, _, _, _, _, _⟩) (v := ?v22a) rfl (by kernel_rfl) (by kernel_rfl) (by kernel_rfl) (fun _ _ _ h => h) (Or.inl ⟨by rfl, ?y22a⟩) (by assumption) ?r22a
            case y22a => (intro w hSw; (try dsimp only at hSw); (try go_split_ands); go_simp); (try with_reducible rfl)
            case r22a =>
            (try simp only [Act.put, List.setIfInBounds_toArray, List.set_cons_zero, List.set_cons_succ])
            refine wpAnyH_take (i := 23) (oi := ⟨some 106, _, _, _, _, _⟩) (v := ?v23a) rfl (by kernel_rfl) (by kernel_rfl) (by kernel_rfl) (fun _ _ _ h => h) (Or.inl ⟨by rfl, ?y23a⟩) (by assumption) ?r23a
            case y23a => (intro w hSw; (try dsimp only at hSw); (try go_split_ands); go_simp); (try with_reducible rfl)
            case r23a =>
            (try simp only [Act.put, List.setIfInBounds_toArray, List.set_cons_zero, List.set_cons_succ])
            refine wpAnyH_take (i := 24) (oi := ⟨some 107, _, _, _, _, _⟩) (v := ?v24a) rfl (by kernel_rfl) (by kernel_rfl) (by kernel_rfl) (fun _ _ _ h => h) (Or.inl ⟨by rfl, ?y24a⟩) (by assumption) ?r24a
            case y24a => (intro w hSw; (try dsimp only at hSw); (try go_split_ands); go_simp); (try with_reducible rfl)
            case r24a =>
            (try simp only [Act.put, List.setIfInBounds_toArray, List.set_cons_zero, List.set_cons_succ])
            refine wpAnyH_take (i := 25) (oi := ⟨some 108, _, _, _, _, _⟩) (v := ?v25a) rfl (by kernel_rfl) (by kernel_rfl) (by kernel_rfl) (fun _ _ _ h => h) (Or.inl ⟨by rfl, ?y25a⟩) (by assumption) ?r25a
            case y25a => (intro w hSw; (try dsimp only at hSw); (try go_split_ands); go_simp); (try with_reducible rfl)
            case r25a =>
            (try simp only [Act.put, List.setIfInBounds_toArray, List.set_cons_zero, List.set_cons_succ])
            refine wpAnyH_ready (rs := [14]) (by kernel_rfl) (by simp) ?_
            refine AllReadyH.cons (o := ⟨some 97, _, _, _, _, _⟩) rfl (fun K hK => ?_) AllReadyH.nil
            go_simp
            refine (piTake b _ row p n _ (some ⟨gw, 0, none⟩) cw V.drew (HVP.out.pi.drewN 1) (by omega) (by omega) (by omega) (by omega) HXW.out (by omega)).mono ?_
            rintro e w5 ⟨rfl, hpi5, ht5d, hrb5⟩
            have ht5 : Touch (fun k => k = b ∨ rowBlk V b = some k) V w5 := (Touch.of_drew _ V).trans ht5d (fun _ _ h => h)
            have HPI5 := Lib.hid hpi5
            have HT5 := Lib.hid ht5
            have HR5 : Hid (rowBlk w5 b = rowBlk V b ∨ rowBlk w5 b = some V.heap.size) := Lib.hid hrb5
            have hb3 : Below w.heap.size V w5 := ht5.below hwV (by
              rintro j (rfl | hj)
              · omega
              · exact Nat.le_trans HVP.out.hl (HVP.out.pi.blk_lt hj).1)
            clear hpi5 ht5 ht5d hrb5
            go_wp2_with fail
            refine hK.out _ _ (hkeep _ hb3) (fun hHeld => ?_)
            clear hK K
            (try simp only [Act.put, List.setIfInBounds_toArray, List.set_cons_zero, List.set_cons_succ])
            refine wpAnyH_ready (rs := [26]) (by kernel_rfl) (by simp) ?_
            refine AllReadyH.cons (o := ⟨some 109, _, _, _, _, _⟩) rfl (fun K hK => ?_) AllReadyH.nil
            go_simp
            have hs5 := HT5.out.size
            refine (riTake r _ row p n w.heap.size A1 c1 w5 (HVP.out.ri.touch HT5.out (by
              rintro (h | h)
              · exact hbr h.symm
              · exact HVP.out.x1 _ h rfl) (fun g hg => by
              rintro (h | h)
              · exact (HVP.out.x2 g hg).1 h
              · exact (HVP.out.x2 g hg).2 h)) (by omega) (by omega) (by omega) (by omega) (by omega) (cells_keep HCE.out hb3 (Nat.le_refl _)) (by omega)).mono ?_
            rintro e w6 ⟨rfl, hri6, ht6, hrb6⟩
            have hs6 := ht6.size
            have HPM6 := Lib.hid (PM.take HVP.out HPI5.out HT5.out HR5.out hri6 ht6 hrb6)
            have HOW6 : Hid (w6.ownsRow wr.heap.size 5 1 (.slice (some ⟨gw, 0, none⟩) (p.length + 1) cw) (p.length + 1) (flatU (p ++ [171]))) := Lib.hid (ht6.own (HT5.out.own HOW.out (fun g hg => by
              simp [Value.ownBlock] at hg
              subst hg
              rintro (h | h)
              · omega
              · exact HRV.out.1 h)) (fun g hg => by simp [Value.ownBlock] at hg; omega))
            have HG6 : Hid (rowBlk w6 b ≠ some gw ∧ rowBlk2 w6 r ≠ some gw) := Lib.hid (by
              refine ⟨fun h => ?_, fun h => by have := hrb6 _ h; omega⟩
              rw [rowBlk_touch ht6 HPI5.out.low hbr] at h
              rcases HR5.out with e | e
              · exact HRV.out.1 (e ▸ h)
              · rw [e] at h; injection h; omega)
            replace hb3 := hb3.trans (ht6.below (B := w.heap.size) (by omega) (by rintro k rfl; omega))
            clear ht6 hri6 hrb6
            go_wp2_with fail
            refine hK.out _ _ (hkeep _ hb3) (fun hHeld => ?_)
            clear hK K
            (try simp only [Act.put, List.setIfInBounds_toArray, List.set_cons_zero, List.set_cons_succ])
            refine wpAnyH_take (i := 27) (oi := ⟨some 110, _, _, _, _, _⟩) (v := ?v27a) rfl (by kernel_rfl) (by kernel_rfl) (by kernel_rfl) (fun _ _ _ h => h) (Or.inl ⟨by rfl, ?y27a⟩) (by assumption) ?r27a
            case y27a => (intro w hSw; (try dsimp only at hSw); (try go_split_ands); go_simp); (try with_reducible rfl)
            case r27a =>
            (try simp only [Act.put, List.setIfInBounds_toArray, List.set_cons_zero, List.set_cons_succ])
            refine wpAnyH_take (i := 28) (oi := ⟨some 111, _, _, _, _, _⟩) (v := ?v28a) rfl (by kernel_rfl) (by kernel_rfl) (by kernel_rfl) (fun _ _ _ h => h) (Or.inl ⟨by rfl, ?y28a⟩) (by assumption) ?r28a
            case y28a => (intro w hSw; (try dsimp only at hSw); (try go_split_ands); go_simp); (try with_reducible rfl)
            case r28a =>
            (try simp only [Act.put, List.setIfInBounds_toArray, List.set_cons_zero, List.set_cons_succ])
            refine wpAnyH_take (i := 29) (oi := ⟨some 112, _, _, _, _, _⟩) (v := ?v29a) rfl (by kernel_rfl) (by kernel_rfl) (by kernel_rfl) (fun _ _ _ h => h) (Or.inl ⟨by rfl, ?y29a⟩) (by assumption) ?r29a
            case y29a => (intro w hSw; (try dsimp only at hSw); (try go_split_ands); go_simp); (try with_reducible rfl)
            case r29a =>
            (try simp only [Act.put, List.setIfInBounds_toArray, List.set_cons_zero, List.set_cons_succ])
            refine wpAnyH_take (i := 30) (oi := ⟨some 113, _, _, _, _, _⟩) (v := ?v30a) rfl (by kernel_rfl) (by kernel_rfl) (by kernel_rfl) (fun _ _ _ h => h) (Or.inl ⟨by rfl, ?y30a⟩) (by assumption) ?r30a
            case y30a => (intro w hSw; (try dsimp only at hSw); (try go_split_ands); go_simp); (try with_reducible rfl)
            case r30a =>
            (try simp only [Act.put, List.setIfInBounds_toArray, List.set_cons_zero, List.set_cons_succ])
            refine wpAnyH_take (i := 31) (oi := ⟨some 114, _, _, _, _, _⟩) (v := ?v31a) rfl (by kernel_rfl) (by kernel_rfl) (by kernel_rfl) (fun _ _ _ h => h) (Or.inl ⟨by rfl, ?y31a⟩) (by assumption) ?r31a
            case y31a => (intro w hSw; (try dsimp only at hSw); (try go_split_ands); go_simp); (try with_reducible rfl)
            case r31a =>
            (try simp only [Act.put, List.setIfInBounds_toArray, List.set_cons_zero, List.set_cons_succ])
            refine wpAnyH_take (i := 32) (oi := ⟨some 115, _, _, _, _, _⟩) (v := ?v32a) rfl (by kernel_rfl) (by kernel_rfl) (by kernel_rfl) (fun _ _ _ h => h) (Or.inl ⟨by rfl, ?y32a⟩) (by assumption) ?r32a
            case y32a => (intro w hSw; (try dsimp only at hSw); (try go_split_ands); go_simp); (try with_reducible rfl)
            case r32a =>
            (try simp only [Act.put, List.setIfInBounds_toArray, List.set_cons_zero, List.set_cons_succ])
            refine wpAnyH_take (i := 33) (oi := ⟨some 116, _, _, _, _, _⟩) (v := ?v33a) rfl (by kernel_rfl) (by kernel_rfl) (by kernel_rfl) (fun _ _ _ h => h) (Or.inl ⟨by rfl, ?y33a⟩) (by assumption) ?r33a
            case y33a => (intro w hSw; (try dsimp only at hSw); (try go_split_ands); go_simp); (try with_reducible rfl)
            case r33a =>
            (try simp only [Act.put, List.setIfInBounds_toArray, List.set_cons_zero, List.set_cons_succ])
            refine wpAnyH_take (i := 34) (oi := ⟨some 117, _, _, _, _, _⟩) (v := ?v34a) rfl (by kernel_rfl) (by kernel_rfl) (by kernel_rfl) (fun _ _ _ h => h) (Or.inl ⟨by rfl, ?y34a⟩) (by assumption) ?r34a
            case y34a => (intro w hSw; (try dsimp only at hSw); (try go_split_ands); go_simp); (try with_reducible rfl)
            case r34a =>
            (try simp only [Act.put, List.setIfInBounds_toArray, List.set_cons_zero, List.set_cons_succ])
            refine wpAnyH_ready (rs := [35]) (by kernel_rfl) (by simp) ?_
            refine AllReadyH.cons (o := ⟨some 118, _, _, _, _, _⟩) rfl (fun K hK => ?_) AllReadyH.nil
            go_simp
            refine (lawStands A1 c1 w.heap.size gw cw _ p _ (by omega) (cells_keep HCE.out hb3 (Nat.le_refl _)) HOW6.out).mono ?_
            rintro e w7 ⟨rfl, ht7⟩
            have HT7 := Lib.hid ht7
            have hb7 : Below w6.heap.size w6 w7 := ht7.none_below (Nat.le_refl _)
            replace hb3 := hb3.trans (hb7.mono (by have := hb3.size; omega))
            have hs7 := hb7.size
            clear ht7
            go_wp2_with fail
            refine hK.out _ _ (hkeep _ hb3) (fun hHeld => ?_)
            clear hK K
            (try simp only [Act.put, List.setIfInBounds_toArray, List.set_cons_zero, List.set_cons_succ])
            refine wpAnyH_take (i := 36) (oi := ⟨some 119, _, _, _, _, _⟩) (v := ?v36a) rfl (by kernel_rfl) (by kernel_rfl) (by kernel_rfl) (fun _ _ _ h => h) (Or.inl ⟨by rfl, ?y36a⟩) (by assumption) ?r36a
            case y36a => (intro w hSw; (try dsimp only at hSw); (try go_split_ands); go_simp); (try with_reducible rfl)
            case r36a =>
            (try simp only [Act.put, List.setIfInBounds_toArray, List.set_cons_zero, List.set_cons_succ])
            refine wpAnyH_take (i := 37) (oi := ⟨some 120, _, _, _, _, _⟩) (v := ?v37a) rfl (by kernel_rfl) (by kernel_rfl) (by kernel_rfl) (fun _ _ _ h => h) (Or.inl ⟨by rfl, ?y37a⟩) (by assumption) ?r37a
            case y37a => (intro w hSw; (try dsimp only at hSw); (try go_split_ands); go_simp); (try with_reducible rfl)
            case r37a =>
            (try simp only [Act.put, List.setIfInBounds_toArray, List.set_cons_zero, List.set_cons_succ])
            refine wpAnyH_done (by kernel_rfl) ?_ _
            go_wp2_with fail
            refine (lawSpoil wr.heap.size (p.length + 1) _ _ _ (by omega) (HT7.out.own HOW6.out (fun _ _ h => h)) (by omega)).mono ?_
            rintro e w8 ⟨rfl, ht8⟩
            have e7 : rowBlk w7 b = rowBlk w6 b := rowBlk_touch HT7.out HPM6.out.pi.low (fun h => h)
            have e8 : rowBlk2 w7 r = rowBlk2 w6 r := rowBlk2_touch HT7.out HPM6.out.ri.low (fun h => h)
            have HPM8 := Lib.hid (PM.late (w1 := w7) (HPM6.out.below (HT7.out.none_below (Nat.le_refl _))) (ht8.mono (fun k hk => by simp [Value.ownBlock] at hk; exact hk.symm)) (by omega) (by omega) (by rw [e7]; exact HG6.out.1) (by rw [e8]; exact HG6.out.2) (by omega))
            obtain ⟨rw2, hrw2⟩ : ∃ z, z = row ++ p := ⟨_, rfl⟩
            rw [← hrw2] at HPM8
            have hlen2 : rw2.length ≤ bulk (l.take (k + 1)) := by rw [hrw2]; have := HQ.out; first | (rw [List.length_append]; omega) | omega
            have hs8 := ht8.size
            obtain ⟨v9, hv9, hown9, _⟩ := HPM8.out.ri.slot
            obtain ⟨A9, c9, rfl, _, _, hx9⟩ := row_cells hown9
            have HC9 := Lib.hid hx9
            have hkeep2 : ∀ W, Below w8.heap.size w8 W → (Below w8.heap.size w8 W ∧ W.cell? ⟨r, 1, none⟩ = some (.slice A9 rw2.length c9)) := fun W hh => ⟨hh, bkeep hh hv9 HPM8.out.ri.low⟩
            obtain ⟨bb, hbb⟩ : ∃ bb, decide ((rw2.length : Int) = n) = bb := ⟨_, rfl⟩
            have HBB := Lib.hid hbb
            clear hbb hrw2 hown9 hx9 ht8 e7 e8 hkeep y0 y1
            go_wp2_with fail
            refine wp_region_held_drew (S := (fun W => Below w8.heap.size w8 W ∧ W.cell? ⟨r, 1, none⟩ = some (.slice A9 rw2.length c9))) (by kernel_rfl) (hkeep2 _ (Below.refl _ _).drew) (fun hHeld => ?_)
            refine wpAnyH_take (i := 0) (oi := ⟨some 123, _, _, _, _, _⟩) (v := ?v0b) rfl (by kernel_rfl) (by kernel_rfl) (by kernel_rfl) (fun _ _ _ h => h) (Or.inl ⟨by rfl, ?y0b⟩) (by assumption) ?r0b
            case y0b => (intro w hSw; (try dsimp only at hSw); (try go_split_ands); go_simp); (try with_reducible rfl)
            case r0b =>
            (try simp only [Act.put, List.setIfInBounds_toArray, List.set_cons_zero, List.set_cons_succ])
            refine wpAnyH_take (i := 2) (oi := ⟨some 125, _, _, _, _, _⟩) (v := ?v2b) rfl (by kernel_rfl) (by kernel_rfl) (by kernel_rfl) (fun _ _ _ h => h) (Or.inl ⟨by rfl, ?y2b⟩) (by assumption) ?r2b
            case y2b => (intro w hSw; (try dsimp only at hSw); (try go_split_ands); go_simp); (try with_reducible rfl)
            case r2b =>
            (try simp only [Act.put, List.setIfInBounds_toArray, List.set_cons_zero, List.set_cons_succ])
            refine wpAnyH_take (i := 3) (oi := ⟨some 126, _, _, _, _, _⟩) (v := ?v3b) rfl (by kernel_rfl) (by kernel_rfl) (by kernel_rfl) (fun _ _ _ h => h) (Or.inl ⟨by rfl, ?y3b⟩) (by assumption) ?r3b
            case y3b => (intro w hSw; (try dsimp only at hSw); (try go_split_ands); go_simp); (try with_reducible rfl)
            case r3b =>
            (try simp only [Act.put, List.setIfInBounds_toArray, List.set_cons_zero, List.set_cons_succ])
            refine wpAnyH_take (i := 4) (oi := ⟨some 127, _, _, _, _, _⟩) (v := ?v4b) rfl (by kernel_rfl) (by kernel_rfl) (by kernel_rfl) (fun _ _ _ h => h) (Or.inl ⟨by rfl, ?y4b⟩) (by assumption) ?r4b
            case y4b => (intro w hSw; (try dsimp only at hSw); (try go_split_ands); go_simp); (try with_reducible rfl)
            case r4b =>
            (try simp only [Act.put, List.setIfInBounds_toArray, List.set_cons_zero, List.set_cons_succ])
            refine wpAnyH_take (i := 5) (oi := ⟨some 128, _, _, _, _, _⟩) (v := ?v5b) rfl (by kernel_rfl) (by kernel_rfl) (by kernel_rfl) (fun _ _ _ h => h) (Or.inl ⟨by rfl, ?y5b⟩) (by assumption) ?r5b
            case y5b => (intro w hSw; (try dsimp only at hSw); (try go_split_ands); go_simp); (try with_reducible rfl)
            case r5b =>
            (try simp only [Act.put, List.setIfInBounds_toArray, List.set_cons_zero, List.set_cons_succ])
            refine wpAnyH_ready (rs := [1]) (by kernel_rfl) (by simp) ?_
            refine AllReadyH.cons (o := ⟨some 124, _, _, _, _, _⟩) rfl (fun K hK => ?_) AllReadyH.nil
            go_simp
            refine (piBytes b _ rw2 n w8.drew (HPM8.out.pi.drewN 1) (by omega)).mono ?_
            rintro e w9 ⟨v9, rfl, hown9, hb9⟩
            have hb3 : Below w8.heap.size w8 w9 := ((Below.refl _ _).drew).trans hb9
            obtain ⟨A10, c10, rfl, _, _, hx10⟩ := row_cells hown9
            have HX10 := Lib.hid hx10
            clear hown9 hx10
            go_wp2_with fail
            refine hK.out _ _ (hkeep2 _ hb3) (fun hHeld => ?_)
            clear hK K
            (try simp only [Act.put, List.setIfInBounds_toArray, List.set_cons_zero, List.set_cons_succ])
            refine wpAnyH_ready (rs := [6]) (by kernel_rfl) (by simp) ?_
            refine AllReadyH.cons (o := ⟨some 129, _, _, _, _, _⟩) rfl (fun K hK => ?_) AllReadyH.nil
            go_simp
            refine (lawSame A10 A9 c10 c9 _ w8.heap.size rw2 _ (by omega) HX10.out (cells_keep HC9.out hb3 (Nat.le_refl _))).mono ?_
            rintro e w10 ⟨rfl, ht10⟩
            replace hb3 := hb3.trans (ht10.none_below (B := w8.heap.size) (by have := hb3.size; omega))
            clear ht10
            go_wp2_with fail
            refine hK.out _ _ (hkeep2 _ hb3) (fun hHeld => ?_)
            clear hK K
            (try simp only [Act.put, List.setIfInBounds_toArray, List.set_cons_zero, List.set_cons_succ])
            refine wpAnyH_take (i := 7) (oi := ⟨some 130, _, _, _, _, _⟩) (v := ?v7b) rfl (by kernel_rfl) (by kernel_rfl) (by kernel_rfl) (fun _ _ _ h => h) (Or.inl ⟨by rfl, ?y7b⟩) (by assumption) ?r7b
            case y7b => (intro w hSw; (try dsimp only at hSw); (try go_split_ands); go_simp); (try with_reducible rfl)
            case r7b =>
            (try simp only [Act.put, List.setIfInBounds_toArray, List.set_cons_zero, List.set_cons_succ])
            refine wpAnyH_take (i := 8) (oi := ⟨some 131, _, _, _, _, _⟩) (v := ?v8b) rfl (by kernel_rfl) (by kernel_rfl) (by kernel_rfl) (fun _ _ _ h => h) (Or.inl ⟨by rfl, ?y8b⟩) (by assumption) ?r8b
            case y8b => (intro w hSw; (try dsimp only at hSw); (try go_split_ands); go_simp); (try with_reducible rfl)
            case r8b =>
            (try simp only [Act.put, List.setIfInBounds_toArray, List.set_cons_zero, List.set_cons_succ])
            refine wpAnyH_take (i := 9) (oi := ⟨some 132, _, _, _, _, _⟩) (v := ?v9b) rfl (by kernel_rfl) (by kernel_rfl) (by kernel_rfl) (fun _ _ _ h => h) (Or.inl ⟨by rfl, ?y9b⟩) (by assumption) ?r9b
            case y9b => (intro w hSw; (try dsimp only at hSw); (try go_split_ands); go_simp); (try with_reducible rfl)
            case r9b =>
            (try simp only [Act.put, List.setIfInBounds_toArray, List.set_cons_zero, List.set_cons_succ])
            refine wpAnyH_take (i := 11) (oi := ⟨some 134, _, _, _, _, _⟩) (v := ?v11b) rfl (by kernel_rfl) (by kernel_rfl) (by kernel_rfl) (fun _ _ _ h => h) (Or.inl ⟨by rfl, ?y11b⟩) (by assumption) ?r11b
            case y11b => (intro w hSw; (try dsimp only at hSw); (try go_split_ands); go_simp); (try with_reducible rfl)
            case r11b =>
            (try simp only [Act.put, List.setIfInBounds_toArray, List.set_cons_zero, List.set_cons_succ])
            refine wpAnyH_ready (rs := [10]) (by kernel_rfl) (by simp) ?_
            refine AllReadyH.cons (o := ⟨some 133, _, _, _, _, _⟩) rfl (fun K hK => ?_) AllReadyH.nil
            go_simp
            refine (piWholeB b _ rw2 n bb _ (HPM8.out.below hb3).pi HBB.out).mono ?_
            rintro e w11 ⟨rfl, hb11⟩
            replace hb3 := hb3.trans (hb11.mono (by have := hb3.size; omega))
            clear hb11
            go_wp2_with fail
            refine hK.out _ _ (hkeep2 _ hb3) (fun hHeld => ?_)
            clear hK K
            (try simp only [Act.put, List.setIfInBounds_toArray, List.set_cons_zero, List.set_cons_succ])
            refine wpAnyH_ready (rs := [12]) (by kernel_rfl) (by simp) ?_
            refine AllReadyH.cons (o := ⟨some 135, _, _, _, _, _⟩) rfl (fun K hK => ?_) AllReadyH.nil
            go_simp
            refine (riWholeB r _ rw2 n bb _ (HPM8.out.below hb3).ri HBB.out).mono ?_
            rintro e w12 ⟨rfl, hb12⟩
            replace hb3 := hb3.trans (hb12.mono (by have := hb3.size; omega))
            clear hb12
            go_wp2_with fail
            refine hK.out _ _ (hkeep2 _ hb3) (fun hHeld => ?_)
            clear hK K
            (try simp only [Act.put, List.setIfInBounds_toArray, List.set_cons_zero, List.set_cons_succ])
            refine wpAnyH_take (i := 13) (oi := ⟨some 136, _, _, _, _, _⟩) (v := ?v13b) rfl (by kernel_rfl) (by kernel_rfl) (by kernel_rfl) (fun _ _ _ h => h) (Or.inl ⟨by rfl, ?y13b⟩) (by assumption) ?r13b
            case y13b => (intro w hSw; (try dsimp only at hSw); (try go_split_ands); go_simp); (try with_reducible rfl)
            case r13b =>
            (try simp only [Act.put, List.setIfInBounds_toArray, List.set_cons_zero, List.set_cons_succ])
            refine wpAnyH_take (i := 14) (oi := ⟨some 137, _, _, _, _, _⟩) (v := ?v14b) rfl (by kernel_rfl) (by kernel_rfl) (by kernel_rfl) (fun _ _ _ h => h) (Or.inl ⟨by rfl, ?y14b⟩) (by assumption) ?r14b
            case y14b => (intro w hSw; (try dsimp only at hSw); (try go_split_ands); go_simp); (try with_reducible rfl)
            case r14b =>
            (try simp only [Act.put, List.setIfInBounds_toArray, List.set_cons_zero, List.set_cons_succ])
            refine wpAnyH_done (by kernel_rfl) ?_ _
            go_wp2_with fail
            go_roundw
            case rel => exact ⟨k + 1, rw2, by omega, by go_num, hlen2, Lib.hid (HPM8.out.below hHeld.1)⟩
            case measure => simp [intOf]; omega
          · have hno : off ≠ (row.length : Int) ∨ n < (row.length : Int) + (p.length : Int) := by omega
            have HNO := Lib.hid hno
            clear hok hno
            have hkeep : ∀ W, Below w.heap.size V W → (Below w.heap.size V W ∧ W.cell? ⟨ab, ao + k * 2, none⟩ = some (.int .i64 off) ∧ W.cell? ⟨ab, ao + k * 2 + 1, none⟩ = some (.slice A1 p.length c1)) := fun W hh => ⟨hh, bkeep hh y0 hab, bkeep hh y1 hab⟩
            have HQ2 : Hid (bulk (l.take (k + 1)) = bulk (l.take k) + (10 + p.length)) := by have := HP0.out; subst this; exact HQ
            have HQ := HQ2
            go_wp2_with fail
            refine wp_region_held_drew (S := (fun W => Below w.heap.size V W ∧ W.cell? ⟨ab, ao + k * 2, none⟩ = some (.int .i64 off) ∧ W.cell? ⟨ab, ao + k * 2 + 1, none⟩ = some (.slice A1 p.length c1))) (by kernel_rfl) (hkeep _ (Below.refl _ _).drew) (fun hHeld => ?_)
            refine wpAnyH_take (i := 0) (oi := ⟨some 83, _, _, _, _, _⟩) (v := ?v0c) rfl (by kernel_rfl) (by kernel_rfl) (by kernel_rfl) (fun _ _ _ h => h) (Or.inl ⟨by rfl, ?y0c⟩) (by assumption) ?r0c
            case y0c => (intro w hSw; (try dsimp only at hSw); (try go_split_ands); go_simp); (try with_reducible rfl)
            case r0c =>
            (try simp only [Act.put, List.setIfInBounds_toArray, List.set_cons_zero, List.set_cons_succ])
            refine wpAnyH_take (i := 1) (oi := ⟨some 84, _, _, _, _, _⟩) (v := ?v1c) rfl (by kernel_rfl) (by kernel_rfl) (by kernel_rfl) (fun _ _ _ h => h) (Or.inl ⟨by rfl, ?y1c⟩) (by assumption) ?r1c
            case y1c => (intro w hSw; (try dsimp only at hSw); (try go_split_ands); go_simp); (try with_reducible rfl)
            case r1c =>
            (try simp only [Act.put, List.setIfInBounds_toArray, List.set_cons_zero, List.set_cons_succ])
            refine wpAnyH_take (i := 2) (oi := ⟨some 85, _, _, _, _, _⟩) (v := ?v2c) rfl (by kernel_rfl) (by kernel_rfl) (by kernel_rfl) (fun _ _ _ h => h) (Or.inl ⟨by rfl, ?y2c⟩) (by assumption) ?r2c
            case y2c => (intro w hSw; (try dsimp only at hSw); (try go_split_ands); go_simp); (try with_reducible rfl)
            case r2c =>
            (try simp only [Act.put, List.setIfInBounds_toArray, List.set_cons_zero, List.set_cons_succ])
            refine wpAnyH_take (i := 3) (oi := ⟨some 86, _, _, _, _, _⟩) (v := ?v3c) rfl (by kernel_rfl) (by kernel_rfl) (by kernel_rfl) (fun _ _ _ h => h) (Or.inl ⟨by rfl, ?y3c⟩) (by assumption) ?r3c
            case y3c => (intro w hSw; (try dsimp only at hSw); (try go_split_ands); go_simp); (try with_reducible rfl)
            case r3c =>
            (try simp only [Act.put, List.setIfInBounds_toArray, List.set_cons_zero, List.set_cons_succ])
            refine wpAnyH_take (i := 4) (oi := ⟨some 87, _, _, _, _, _⟩) (v := ?v4c) rfl (by kernel_rfl) (by kernel_rfl) (by kernel_rfl) (fun _ _ _ h => h) (Or.inl ⟨by rfl, ?y4c⟩) (by assumption) ?r4c
            case y4c => (intro w hSw; (try dsimp only at hSw); (try go_split_ands); go_simp); (try with_reducible rfl)
            case r4c =>
            (try simp only [Act.put, List.setIfInBounds_toArray, List.set_cons_zero, List.set_cons_succ])
            refine wpAnyH_take (i := 5) (oi := ⟨some 88, _, _, _, _, _⟩) (v := ?v5c) rfl (by kernel_rfl) (by kernel_rfl) (by kernel_rfl) (fun _ _ _ h => h) (Or.inl ⟨by rfl, ?y5c⟩) (by assumption) ?r5c
            case y5c => (intro w hSw; (try dsimp only at hSw); (try go_split_ands); go_simp); (try with_reducible rfl)
            case r5c =>
            (try simp only [Act.put, List.setIfInBounds_toArray, List.set_cons_zero, List.set_cons_succ])
            refine wpAnyH_take (i := 6) (oi := ⟨some 89, _, _, _, _, _⟩) (v := ?v6c) rfl (by kernel_rfl) (by kernel_rfl) (by kernel_rfl) (fun _ _ _ h => h) (Or.inl ⟨by rfl, ?y6c⟩) (by assumption) ?r6c
            case y6c => (intro w hSw; (try dsimp only at hSw); (try go_split_ands); go_simp); (try with_reducible rfl)
            case r6c =>
            (try simp only [Act.put, List.setIfInBounds_toArray, List.set_cons_zero, List.set_cons_succ])
            refine wpAnyH_take (i := 7) (oi := ⟨some 90, _, _, _, _, _⟩) (v := ?v7c) rfl (by kernel_rfl) (by kernel_rfl) (by kernel_rfl) (fun _ _ _ h => h) (Or.inl ⟨by rfl, ?y7c⟩) (by assumption) ?r7c
            case y7c => (intro w hSw; (try dsimp only at hSw); (try go_split_ands); go_simp); (try with_reducible rfl)
            case r7c =>
            (try simp only [Act.put, List.setIfInBounds_toArray, List.set_cons_zero, List.set_cons_succ])
            refine wpAnyH_take (i := 8) (oi := ⟨some 91, _, _, _, _, _⟩) (v := ?v8c) rfl (by kernel_rfl) (by kernel_rfl) (by kernel_rfl) (fun _ _ _ h => h) (Or.inl ⟨by rfl, ?y8c⟩) (by assumption) ?r8c
            case y8c => (intro w hSw; (try dsimp only at hSw); (try go_split_ands); go_simp); (try with_reducible rfl)
            case r8c =>
            (try simp only [Act.put, List.setIfInBounds_toArray, List.set_cons_zero, List.set_cons_succ])
            refine wpAnyH_take (i := 9) (oi := ⟨some 92, _, _, _, _, _⟩) (v := ?v9c) rfl (by kernel_rfl) (by kernel_rfl) (by kernel_rfl) (fun _ _ _ h => h) (Or.inl ⟨by rfl, ?y9c⟩) (by assumption) ?r9c
            case y9c => (intro w hSw; (try dsimp only at hSw); (try go_split_ands); go_simp); (try with_reducible rfl)
            case r9c =>
            (try simp only [Act.put, List.setIfInBounds_toArray, List.set_cons_zero, List.set_cons_succ])
            refine wpAnyH_take (i := 10) (oi := ⟨some 93, _, _, _, _, _⟩) (v := ?v10c) rfl (by kernel_rfl) (by kernel_rfl) (by kernel_rfl) (fun _ _ _ h => h) (Or.inl ⟨by rfl, ?y10c⟩) (by assumption) ?r10c
            case y10c => (intro w hSw; (try dsimp only at hSw); (try go_split_ands); go_simp); (try with_reducible rfl)
            case r10c =>
            (try simp only [Act.put, List.setIfInBounds_toArray, List.set_cons_zero, List.set_cons_succ])
            refine wpAnyH_take (i := 11) (oi := ⟨some 94, _, _, _, _, _⟩) (v := ?v11c) rfl (by kernel_rfl) (by kernel_rfl) (by kernel_rfl) (fun _ _ _ h => h) (Or.inl ⟨by rfl, ?y11c⟩) (by assumption) ?r11c
            case y11c => (intro w hSw; (try dsimp only at hSw); (try go_split_ands); go_simp); (try with_reducible rfl)
            case r11c =>
            (try simp only [Act.put, List.setIfInBounds_toArray, List.set_cons_zero, List.set_cons_succ])
            refine wpAnyH_take (i := 12) (oi := ⟨some 95, _, _, _, _, _⟩) (v := ?v12c) rfl (by kernel_rfl) (by kernel_rfl) (by kernel_rfl) (fun _ _ _ h => h) (Or.inl ⟨by rfl, ?y12c⟩) (by assumption) ?r12c
            case y12c => (intro w hSw; (try dsimp only at hSw); (try go_split_ands); go_simp); (try with_reducible rfl)
            case r12c =>
            (try simp only [Act.put, List.setIfInBounds_toArray, List.set_cons_zero, List.set_cons_succ])
            refine wpAnyH_take (i := 13) (oi := ⟨some 96, _, _, _, _, _⟩) (v := .slice (some ⟨gw, 0, none⟩) p.length cw) rfl (by kernel_rfl) (by kernel_rfl) (by kernel_rfl) (fun _ _ _ h => h) (Or.inl ⟨by rfl, ?y13c⟩) (by assumption) ?r13c
            case y13c => (intro w hSw; (try dsimp only at hSw); (try go_split_ands); go_simp)
            case r13c =>
            (try simp only [Act.put, List.setIfInBounds_toArray, List.set_cons_zero, List.set_cons_succ])
            refine wpAnyH_take (i := 15) (oi := ⟨some 98, _, _, _, _, _⟩) (v := ?v15c) rfl (by kernel_rfl) (by kernel_rfl) (by kernel_rfl) (fun _ _ _ h => h) (Or.inl ⟨by rfl, ?y15c⟩) (by assumption) ?r15c
            case y15c => (intro w hSw; (try dsimp only at hSw); (try go_split_ands); go_simp); (try with_reducible rfl)
            case r15c =>
            (try simp only [Act.put, List.setIfInBounds_toArray, List.set_cons_zero, List.set_cons_succ])
            refine wpAnyH_take (i := 16) (oi := ⟨some 99, _, _, _, _, _⟩) (v := ?v16c) rfl (by kernel_rfl) (by kernel_rfl) (by kernel_rfl) (fun _ _ _ h => h) (Or.inl ⟨by rfl, ?y16c⟩) (by assumption) ?r16c
            case y16c => (intro w hSw; (try dsimp only at hSw); (try go_split_ands); go_simp); (try with_reducible rfl)
            case r16c =>
            (try simp only [Act.put, List.setIfInBounds_toArray, List.set_cons_zero, List.set_cons_succ])
            refine wpAnyH_take (i := 17) (oi := ⟨some 100, _, _, _, _, _⟩) (v := ?v17c) rfl (by kernel_rfl) (by kernel_rfl) (by kernel_rfl) (fun _ _ _ h => h) (Or.inl ⟨by rfl, ?y17c⟩) (by assumption) ?r17c
            case y17c => (intro w hSw; (try dsimp only at hSw); (try go_split_ands); go_simp); (try with_reducible rfl)
            case r17c =>
            (try simp only [Act.put, List.setIfInBounds_toArray, List.set_cons_zero, List.set_cons_succ])
            refine wpAnyH_take (i := 18) (oi := ⟨some 101, _, _, _, _, _⟩) (v := ?v18c) rfl (by kernel_rfl) (by kernel_rfl) (by kernel_rfl) (fun _ _ _ h => h) (Or.inl ⟨by rfl, ?y18c⟩) (by assumption) ?r18c
            case y18c => (intro w hSw; (try dsimp only at hSw); (try go_split_ands); go_simp); (try with_reducible rfl)
            case r18c =>
            (try simp only [Act.put, List.setIfInBounds_toArray, List.set_cons_zero, List.set_cons_succ])
            refine wpAnyH_take (i := 19) (oi := ⟨some 102, _, _, _, _, _⟩) (v := ?v19c) rfl (by kernel_rfl) (by kernel_rfl) (by kernel_rfl) (fun _ _ _ h => h) (Or.inl ⟨by rfl, ?y19c⟩) (by assumption) ?r19c
            case y19c => (intro w hSw; (try dsimp only at hSw); (try go_split_ands); go_simp); (try with_reducible rfl)
            case r19c =>
            (try simp only [Act.put, List.setIfInBounds_toArray, List.set_cons_zero, List.set_cons_succ])
            refine wpAnyH_take (i := 20) (oi := ⟨some 103, _, _, _, _, _⟩) (v := ?v20c) rfl (by kernel_rfl) (by kernel_rfl) (by kernel_rfl) (fun _ _ _ h => h) (Or.inl ⟨by rfl, ?y20c⟩) (by assumption) ?r20c
            case y20c => (intro w hSw; (try dsimp only at hSw); (try go_split_ands); go_simp); (try with_reducible rfl)
            case r20c =>
            (try simp only [Act.put, List.setIfInBounds_toArray, List.set_cons_zero, List.set_cons_succ])
            refine wpAnyH_take (i := 21) (oi := ⟨some 104, _, _, _, _, _⟩) (v := ?v21c) rfl (by kernel_rfl) (by kernel_rfl) (by kernel_rfl) (fun _ _ _ h => h) (Or.inl ⟨by rfl, ?y21c⟩) (by assumption) ?r21c
            case y21c => (intro w hSw; (try dsimp only at hSw); (try go_split_ands); go_simp); (try with_reducible rfl)
            case r21c =>
            (try simp only [Act.put, List.setIfInBounds_toArray, List.set_cons_zero, List.set_cons_succ])
            refine wpAnyH_take (i := 22) (oi := ⟨some 105, _, _, _, _, _⟩) (v := ?v22c) rfl (by kernel_rfl) (by kernel_rfl) (by kernel_rfl) (fun _ _ _ h => h) (Or.inl ⟨by rfl, ?y22c⟩) (by assumption) ?r22c
            case y22c => (intro w hSw; (try dsimp only at hSw); (try go_split_ands); go_simp); (try with_reducible rfl)
            case r22c =>
            (try simp only [Act.put, List.setIfInBounds_toArray, List.set_cons_zero, List.set_cons_succ])
            refine wpAnyH_take (i := 23) (oi := ⟨some 106, _, _, _, _, _⟩) (v := ?v23c) rfl (by kernel_rfl) (by kernel_rfl) (by kernel_rfl) (fun _ _ _ h => h) (Or.inl ⟨by rfl, ?y23c⟩) (by assumption) ?r23c
            case y23c => (intro w hSw; (try dsimp only at hSw); (try go_split_ands); go_simp); (try with_reducible rfl)
            case r23c =>
            (try simp only [Act.put, List.setIfInBounds_toArray, List.set_cons_zero, List.set_cons_succ])
            refine wpAnyH_take (i := 24) (oi := ⟨some 107, _, _, _, _, _⟩) (v := ?v24c) rfl (by kernel_rfl) (by kernel_rfl) (by kernel_rfl) (fun _ _ _ h => h) (Or.inl ⟨by rfl, ?y24c⟩) (by assumption) ?r24c
            case y24c => (intro w hSw; (try dsimp only at hSw); (try go_split_ands); go_simp); (try with_reducible rfl)
            case r24c =>
            (try simp only [Act.put, List.setIfInBounds_toArray, List.set_cons_zero, List.set_cons_succ])
            refine wpAnyH_take (i := 25) (oi := ⟨some 108, _, _, _, _, _⟩) (v := ?v25c) rfl (by kernel_rfl) (by kernel_rfl) (by kernel_rfl) (fun _ _ _ h => h) (Or.inl ⟨by rfl, ?y25c⟩) (by assumption) ?r25c
            case y25c => (intro w hSw; (try dsimp only at hSw); (try go_split_ands); go_simp); (try with_reducible rfl)
            case r25c =>
            (try simp only [Act.put, List.setIfInBounds_toArray, List.set_cons_zero, List.set_cons_succ])
            refine wpAnyH_ready (rs := [14]) (by kernel_rfl) (by simp) ?_
            refine AllReadyH.cons (o := ⟨some 97, _, _, _, _, _⟩) rfl (fun K hK => ?_) AllReadyH.nil
            go_simp
            refine (piTakeNo b _ row n off (some ⟨gw, 0, none⟩) p.length cw V.drew (HVP.out.pi.drewN 1) (by omega) (by omega) (by omega) (by omega) HNO.out).mono ?_
            rintro e w5 ⟨rfl, n5, hw5⟩
            have HT5 : Hid (Touch (fun _ => False) V w5) := Lib.hid (by rw [hw5]; exact ((Touch.refl _ V).drewN 1).drewN n5)
            have hb3 : Below w.heap.size V w5 := HT5.out.none_below hwV
            clear hw5
            go_wp2_with fail
            refine hK.out _ _ (hkeep _ hb3) (fun hHeld => ?_)
            clear hK K
            (try simp only [Act.put, List.setIfInBounds_toArray, List.set_cons_zero, List.set_cons_succ])
            refine wpAnyH_ready (rs := [26]) (by kernel_rfl) (by simp) ?_
            refine AllReadyH.cons (o := ⟨some 109, _, _, _, _, _⟩) rfl (fun K hK => ?_) AllReadyH.nil
            go_simp
            have hs5 := HT5.out.size
            refine (riTakeNo r _ row n off A1 p.length c1 w5 (HVP.out.below (HT5.out.none_below (Nat.le_refl _))).ri (by omega) (by omega) (by omega) (by omega) HNO.out).mono ?_
            rintro e w6 ⟨rfl, n6, hw6⟩
            have HT6 : Hid (Touch (fun _ => False) V w6) := Lib.hid (by rw [hw6]; exact HT5.out.drewN n6)
            clear hw6
            have hs6 := HT6.out.size
            have HPM6 := Lib.hid (HVP.out.below (HT6.out.none_below (Nat.le_refl _)))
            have HOW6 := Lib.hid (HT6.out.own HOW.out (fun _ _ h => h))
            have HG6 : Hid (rowBlk w6 b ≠ some gw ∧ rowBlk2 w6 r ≠ some gw) := Lib.hid (by
              rw [rowBlk_touch HT6.out HVP.out.pi.low (fun h => h), rowBlk2_touch HT6.out HVP.out.ri.low (fun h => h)]
              exact HRV.out)
            replace hb3 : Below w.heap.size V w6 := HT6.out.none_below hwV
            go_wp2_with fail
            refine hK.out _ _ (hkeep _ hb3) (fun hHeld => ?_)
            clear hK K
            (try simp only [Act.put, List.setIfInBounds_toArray, List.set_cons_zero, List.set_cons_succ])
            refine wpAnyH_take (i := 27) (oi := ⟨some 110, _, _, _, _, _⟩) (v := ?v27c) rfl (by kernel_rfl) (by kernel_rfl) (by kernel_rfl) (fun _ _ _ h => h) (Or.inl ⟨by rfl, ?y27c⟩) (by assumption) ?r27c
            case y27c => (intro w hSw; (try dsimp only at hSw); (try go_split_ands); go_simp); (try with_reducible rfl)
            case r27c =>
            (try simp only [Act.put, List.setIfInBounds_toArray, List.set_cons_zero, List.set_cons_succ])
            refine wpAnyH_take (i := 28) (oi := ⟨some 111, _, _, _, _, _⟩) (v := ?v28c) rfl (by kernel_rfl) (by kernel_rfl) (by kernel_rfl) (fun _ _ _ h => h) (Or.inl ⟨by rfl, ?y28c⟩) (by assumption) ?r28c
            case y28c => (intro w hSw; (try dsimp only at hSw); (try go_split_ands); go_simp); (try with_reducible rfl)
            case r28c =>
            (try simp only [Act.put, List.setIfInBounds_toArray, List.set_cons_zero, List.set_cons_succ])
            refine wpAnyH_take (i := 29) (oi := ⟨some 112, _, _, _, _, _⟩) (v := ?v29c) rfl (by kernel_rfl) (by kernel_rfl) (by kernel_rfl) (fun _ _ _ h => h) (Or.inl ⟨by rfl, ?y29c⟩) (by assumption) ?r29c
            case y29c => (intro w hSw; (try dsimp only at hSw); (try go_split_ands); go_simp); (try with_reducible rfl)
            case r29c =>
            (try simp only [Act.put, List.setIfInBounds_toArray, List.set_cons_zero, List.set_cons_succ])
            refine wpAnyH_take (i := 30) (oi := ⟨some 113, _, _, _, _, _⟩) (v := ?v30c) rfl (by kernel_rfl) (by kernel_rfl) (by kernel_rfl) (fun _ _ _ h => h) (Or.inl ⟨by rfl, ?y30c⟩) (by assumption) ?r30c
            case y30c => (intro w hSw; (try dsimp only at hSw); (try go_split_ands); go_simp); (try with_reducible rfl)
            case r30c =>
            (try simp only [Act.put, List.setIfInBounds_toArray, List.set_cons_zero, List.set_cons_succ])
            refine wpAnyH_take (i := 31) (oi := ⟨some 114, _, _, _, _, _⟩) (v := ?v31c) rfl (by kernel_rfl) (by kernel_rfl) (by kernel_rfl) (fun _ _ _ h => h) (Or.inl ⟨by rfl, ?y31c⟩) (by assumption) ?r31c
            case y31c => (intro w hSw; (try dsimp only at hSw); (try go_split_ands); go_simp); (try with_reducible rfl)
            case r31c =>
            (try simp only [Act.put, List.setIfInBounds_toArray, List.set_cons_zero, List.set_cons_succ])
            refine wpAnyH_take (i := 32) (oi := ⟨some 115, _, _, _, _, _⟩) (v := ?v32c) rfl (by kernel_rfl) (by kernel_rfl) (by kernel_rfl) (fun _ _ _ h => h) (Or.inl ⟨by rfl, ?y32c⟩) (by assumption) ?r32c
            case y32c => (intro w hSw; (try dsimp only at hSw); (try go_split_ands); go_simp); (try with_reducible rfl)
            case r32c =>
            (try simp only [Act.put, List.setIfInBounds_toArray, List.set_cons_zero, List.set_cons_succ])
            refine wpAnyH_take (i := 33) (oi := ⟨some 116, _, _, _, _, _⟩) (v := ?v33c) rfl (by kernel_rfl) (by kernel_rfl) (by kernel_rfl) (fun _ _ _ h => h) (Or.inl ⟨by rfl, ?y33c⟩) (by assumption) ?r33c
            case y33c => (intro w hSw; (try dsimp only at hSw); (try go_split_ands); go_simp); (try with_reducible rfl)
            case r33c =>
            (try simp only [Act.put, List.setIfInBounds_toArray, List.set_cons_zero, List.set_cons_succ])
            refine wpAnyH_take (i := 34) (oi := ⟨some 117, _, _, _, _, _⟩) (v := ?v34c) rfl (by kernel_rfl) (by kernel_rfl) (by kernel_rfl) (fun _ _ _ h => h) (Or.inl ⟨by rfl, ?y34c⟩) (by assumption) ?r34c
            case y34c => (intro w hSw; (try dsimp only at hSw); (try go_split_ands); go_simp); (try with_reducible rfl)
            case r34c =>
            (try simp only [Act.put, List.setIfInBounds_toArray, List.set_cons_zero, List.set_cons_succ])
            refine wpAnyH_ready (rs := [35]) (by kernel_rfl) (by simp) ?_
            refine AllReadyH.cons (o := ⟨some 118, _, _, _, _, _⟩) rfl (fun K hK => ?_) AllReadyH.nil
            go_simp
            refine (lawStands A1 c1 w.heap.size gw cw _ p _ (by omega) (cells_keep HCE.out hb3 (Nat.le_refl _)) HOW6.out).mono ?_
            rintro e w7 ⟨rfl, ht7⟩
            have HT7 := Lib.hid ht7
            have hb7 : Below w6.heap.size w6 w7 := ht7.none_below (Nat.le_refl _)
            replace hb3 := hb3.trans (hb7.mono (by have := hb3.size; omega))
            have hs7 := hb7.size
            clear ht7
            go_wp2_with fail
            refine hK.out _ _ (hkeep _ hb3) (fun hHeld => ?_)
            clear hK K
            (try simp only [Act.put, List.setIfInBounds_toArray, List.set_cons_zero, List.set_cons_succ])
            refine wpAnyH_take (i := 36) (oi := ⟨some 119, _, _, _, _, _⟩) (v := ?v36c) rfl (by kernel_rfl) (by kernel_rfl) (by kernel_rfl) (fun _ _ _ h => h) (Or.inl ⟨by rfl, ?y36c⟩) (by assumption) ?r36c
            case y36c => (intro w hSw; (try dsimp only at hSw); (try go_split_ands); go_simp); (try with_reducible rfl)
            case r36c =>
            (try simp only [Act.put, List.setIfInBounds_toArray, List.set_cons_zero, List.set_cons_succ])
            refine wpAnyH_take (i := 37) (oi := ⟨some 120, _, _, _, _, _⟩) (v := ?v37c) rfl (by kernel_rfl) (by kernel_rfl) (by kernel_rfl) (fun _ _ _ h => h) (Or.inl ⟨by rfl, ?y37c⟩) (by assumption) ?r37c
            case y37c => (intro w hSw; (try dsimp only at hSw); (try go_split_ands); go_simp); (try with_reducible rfl)
            case r37c =>
            (try simp only [Act.put, List.setIfInBounds_toArray, List.set_cons_zero, List.set_cons_succ])
            refine wpAnyH_done (by kernel_rfl) ?_ _
            go_wp2_with fail
            refine (lawSpoil wr.heap.size (p.length + 1) _ _ _ (by omega) (HT7.out.own HOW6.out (fun _ _ h => h)) (by omega)).mono ?_
            rintro e w8 ⟨rfl, ht8⟩
            have e7 : rowBlk w7 b = rowBlk w6 b := rowBlk_touch HT7.out HPM6.out.pi.low (fun h => h)
            have e8 : rowBlk2 w7 r = rowBlk2 w6 r := rowBlk2_touch HT7.out HPM6.out.ri.low (fun h => h)
            have HPM8 := Lib.hid (PM.late (w1 := w7) (HPM6.out.below (HT7.out.none_below (Nat.le_refl _))) (ht8.mono (fun k hk => by simp [Value.ownBlock] at hk; exact hk.symm)) (by omega) (by omega) (by rw [e7]; exact HG6.out.1) (by rw [e8]; exact HG6.out.2) (by omega))
            obtain ⟨rw2, hrw2⟩ : ∃ z, z = row := ⟨_, rfl⟩
            rw [← hrw2] at HPM8
            have hlen2 : rw2.length ≤ bulk (l.take (k + 1)) := by rw [hrw2]; have := HQ.out; first | (rw [List.length_append]; omega) | omega
            have hs8 := ht8.size
            obtain ⟨v9, hv9, hown9, _⟩ := HPM8.out.ri.slot
            obtain ⟨A9, c9, rfl, _, _, hx9⟩ := row_cells hown9
            have HC9 := Lib.hid hx9
            have hkeep2 : ∀ W, Below w8.heap.size w8 W → (Below w8.heap.size w8 W ∧ W.cell? ⟨r, 1, none⟩ = some (.slice A9 rw2.length c9)) := fun W hh => ⟨hh, bkeep hh hv9 HPM8.out.ri.low⟩
            obtain ⟨bb, hbb⟩ : ∃ bb, decide ((rw2.length : Int) = n) = bb := ⟨_, rfl⟩
            have HBB := Lib.hid hbb
            clear hbb hrw2 hown9 hx9 ht8 e7 e8 hkeep y0 y1
            go_wp2_with fail
            refine wp_region_held_drew (S := (fun W => Below w8.heap.size w8 W ∧ W.cell? ⟨r, 1, none⟩ = some (.slice A9 rw2.length c9))) (by kernel_rfl) (hkeep2 _ (Below.refl _ _).drew) (fun hHeld => ?_)
            refine wpAnyH_take (i := 0) (oi := ⟨some 123, _, _, _, _, _⟩) (v := ?v0d) rfl (by kernel_rfl) (by kernel_rfl) (by kernel_rfl) (fun _ _ _ h => h) (Or.inl ⟨by rfl, ?y0d⟩) (by assumption) ?r0d
            case y0d => (intro w hSw; (try dsimp only at hSw); (try go_split_ands); go_simp); (try with_reducible rfl)
            case r0d =>
            (try simp only [Act.put, List.setIfInBounds_toArray, List.set_cons_zero, List.set_cons_succ])
            refine wpAnyH_take (i := 2) (oi := ⟨some 125, _, _, _, _, _⟩) (v := ?v2d) rfl (by kernel_rfl) (by kernel_rfl) (by kernel_rfl) (fun _ _ _ h => h) (Or.inl ⟨by rfl, ?y2d⟩) (by assumption) ?r2d
            case y2d => (intro w hSw; (try dsimp only at hSw); (try go_split_ands); go_simp); (try with_reducible rfl)
            case r2d =>
            (try simp only [Act.put, List.setIfInBounds_toArray, List.set_cons_zero, List.set_cons_succ])
            refine wpAnyH_take (i := 3) (oi := ⟨some 126, _, _, _, _, _⟩) (v := ?v3d) rfl (by kernel_rfl) (by kernel_rfl) (by kernel_rfl) (fun _ _ _ h => h) (Or.inl ⟨by rfl, ?y3d⟩) (by assumption) ?r3d
            case y3d => (intro w hSw; (try dsimp only at hSw); (try go_split_ands); go_simp); (try with_reducible rfl)
            case r3d =>
            (try simp only [Act.put, List.setIfInBounds_toArray, List.set_cons_zero, List.set_cons_succ])
            refine wpAnyH_take (i := 4) (oi := ⟨some 127, _, _, _, _, _⟩) (v := ?v4d) rfl (by kernel_rfl) (by kernel_rfl) (by kernel_rfl) (fun _ _ _ h => h) (Or.inl ⟨by rfl, ?y4d⟩) (by assumption) ?r4d
            case y4d => (intro w hSw; (try dsimp only at hSw); (try go_split_ands); go_simp); (try with_reducible rfl)
            case r4d =>
            (try simp only [Act.put, List.setIfInBounds_toArray, List.set_cons_zero, List.set_cons_succ])
            refine wpAnyH_take (i := 5) (oi := ⟨some 128, _, _, _, _, _⟩) (v := ?v5d) rfl (by kernel_rfl) (by kernel_rfl) (by kernel_rfl) (fun _ _ _ h => h) (Or.inl ⟨by rfl, ?y5d⟩) (by assumption) ?r5d
            case y5d => (intro w hSw; (try dsimp only at hSw); (try go_split_ands); go_simp); (try with_reducible rfl)
            case r5d =>
            (try simp only [Act.put, List.setIfInBounds_toArray, List.set_cons_zero, List.set_cons_succ])
            refine wpAnyH_ready (rs := [1]) (by kernel_rfl) (by simp) ?_
            refine AllReadyH.cons (o := ⟨some 124, _, _, _, _, _⟩) rfl (fun K hK => ?_) AllReadyH.nil
            go_simp
            refine (piBytes b _ rw2 n w8.drew (HPM8.out.pi.drewN 1) (by omega)).mono ?_
            rintro e w9 ⟨v9, rfl, hown9, hb9⟩
            have hb3 : Below w8.heap.size w8 w9 := ((Below.refl _ _).drew).trans hb9
            obtain ⟨A10, c10, rfl, _, _, hx10⟩ := row_cells hown9
            have HX10 := Lib.hid hx10
            clear hown9 hx10
            go_wp2_with fail
            refine hK.out _ _ (hkeep2 _ hb3) (fun hHeld => ?_)
            clear hK K
            (try simp only [Act.put, List.setIfInBounds_toArray, List.set_cons_zero, List.set_cons_succ])
            refine wpAnyH_ready (rs := [6]) (by kernel_rfl) (by simp) ?_
            refine AllReadyH.cons (o := ⟨some 129, _, _, _, _, _⟩) rfl (fun K hK => ?_) AllReadyH.nil
            go_simp
            refine (lawSame A10 A9 c10 c9 _ w8.heap.size rw2 _ (by omega) HX10.out (cells_keep HC9.out hb3 (Nat.le_refl _))).mono ?_
            rintro e w10 ⟨rfl, ht10⟩
            replace hb3 := hb3.trans (ht10.none_below (B := w8.heap.size) (by have := hb3.size; omega))
            clear ht10
            go_wp2_with fail
            refine hK.out _ _ (hkeep2 _ hb3) (fun hHeld => ?_)
            clear hK K
            (try simp only [Act.put, List.setIfInBounds_toArray, List.set_cons_zero, List.set_cons_succ])
            refine wpAnyH_take (i := 7) (oi := ⟨some 130, _, _, _, _, _⟩) (v := ?v7d) rfl (by kernel_rfl) (by kernel_rfl) (by kernel_rfl) (fun _ _ _ h => h) (Or.inl ⟨by rfl, ?y7d⟩) (by assumption) ?r7d
            case y7d => (intro w hSw; (try dsimp only at hSw); (try go_split_ands); go_simp); (try with_reducible rfl)
            case r7d =>
            (try simp only [Act.put, List.setIfInBounds_toArray, List.set_cons_zero, List.set_cons_succ])
            refine wpAnyH_take (i := 8) (oi := ⟨some 131, _, _, _, _, _⟩) (v := ?v8d) rfl (by kernel_rfl) (by kernel_rfl) (by kernel_rfl) (fun _ _ _ h => h) (Or.inl ⟨by rfl, ?y8d⟩) (by assumption) ?r8d
            case y8d => (intro w hSw; (try dsimp only at hSw); (try go_split_ands); go_simp); (try with_reducible rfl)
            case r8d =>
            (try simp only [Act.put, List.setIfInBounds_toArray, List.set_cons_zero, List.set_cons_succ])
            refine wpAnyH_take (i := 9) (oi := ⟨some 132, _, _, _, _, _⟩) (v := ?v9d) rfl (by kernel_rfl) (by kernel_rfl) (by kernel_rfl) (fun _ _ _ h => h) (Or.inl ⟨by rfl, ?y9d⟩) (by assumption) ?r9d
            case y9d => (intro w hSw; (try dsimp only at hSw); (try go_split_ands); go_simp); (try with_reducible rfl)
            case r9d =>
            (try simp only [Act.put, List.setIfInBounds_toArray, List.set_cons_zero, List.set_cons_succ])
            refine wpAnyH_take (i := 11) (oi := ⟨some 134, _, _, _, _, _⟩) (v := ?v11d) rfl (by kernel_rfl) (by kernel_rfl) (by kernel_rfl) (fun _ _ _ h => h) (Or.inl ⟨by rfl, ?y11d⟩) (by assumption) ?r11d
            case y11d => (intro w hSw; (try dsimp only at hSw); (try go_split_ands); go_simp); (try with_reducible rfl)
            case r11d =>
            (try simp only [Act.put, List.setIfInBounds_toArray, List.set_cons_zero, List.set_cons_succ])
            refine wpAnyH_ready (rs := [10]) (by kernel_rfl) (by simp) ?_
            refine AllReadyH.cons (o := ⟨some 133, _, _, _, _, _⟩) rfl (fun K hK => ?_) AllReadyH.nil
            go_simp
            refine (piWholeB b _ rw2 n bb _ (HPM8.out.below hb3).pi HBB.out).mono ?_
            rintro e w11 ⟨rfl, hb11⟩
            replace hb3 := hb3.trans (hb11.mono (by have := hb3.size; omega))
            clear hb11
            go_wp2_with fail
            refine hK.out _ _ (hkeep2 _ hb3) (fun hHeld => ?_)
            clear hK K
            (try simp only [Act.put, List.setIfInBounds_toArray, List.set_cons_zero, List.set_cons_succ])
            refine wpAnyH_ready (rs := [12]) (by kernel_rfl) (by simp) ?_
            refine AllReadyH.cons (o := ⟨some 135, _, _, _, _, _⟩) rfl (fun K hK => ?_) AllReadyH.nil
            go_simp
            refine (riWholeB r _ rw2 n bb _ (HPM8.out.below hb3).ri HBB.out).mono ?_
            rintro e w12 ⟨rfl, hb12⟩
            replace hb3 := hb3.trans (hb12.mono (by have := hb3.size; omega))
            clear hb12
            go_wp2_with fail
            refine hK.out _ _ (hkeep2 _ hb3) (fun hHeld => ?_)
            clear hK K
            (try simp only [Act.put, List.setIfInBounds_toArray, List.set_cons_zero, List.set_cons_succ])
            refine wpAnyH_take (i := 13) (oi := ⟨some 136, _, _, _, _, _⟩) (v := ?v13d) rfl (by kernel_rfl) (by kernel_rfl) (by kernel_rfl) (fun _ _ _ h => h) (Or.inl ⟨by rfl, ?y13d⟩) (by assumption) ?r13d
            case y13d => (intro w hSw; (try dsimp only at hSw); (try go_split_ands); go_simp); (try with_reducible rfl)
            case r13d =>
            (try simp only [Act.put, List.setIfInBounds_toArray, List.set_cons_zero, List.set_cons_succ])
            refine wpAnyH_take (i := 14) (oi := ⟨some 137, _, _, _, _, _⟩) (v := ?v14d) rfl (by kernel_rfl) (by kernel_rfl) (by kernel_rfl) (fun _ _ _ h => h) (Or.inl ⟨by rfl, ?y14d⟩) (by assumption) ?r14d
            case y14d => (intro w hSw; (try dsimp only at hSw); (try go_split_ands); go_simp); (try with_reducible rfl)
            case r14d =>
            (try simp only [Act.put, List.setIfInBounds_toArray, List.set_cons_zero, List.set_cons_succ])
            refine wpAnyH_done (by kernel_rfl) ?_ _
            go_wp2_with fail
            go_roundw
            case rel => exact ⟨k + 1, rw2, by omega, by go_num, hlen2, Lib.hid (HPM8.out.below hHeld.1)⟩
            case measure => simp [intOf]; omega
        · have hke : k = 100 := by omega
          clear hrow
          have i1 : (k : Int) < (l.length : Int) := by omega
          have i2 : ¬ (k : Int) < 100 := by omega
          have HBE := Lib.hid HM2.out.be
          clear hkl hke hk
          go_wp2_with (go_at_call 36; refine (knownPiece _).mono ?_; rintro e wc ⟨rfl, hbc⟩)
          go_ret
          exact ⟨rfl, HBE.out.trans (hbc.mono hws)⟩

set_option maxHeartbeats 4000000 in
set_option maxRecDepth 100000 in
theorem walkPieceComesBS (n : Int) (hn : n < 1 ∨ 524288 < n) (A : Option Addr) (c : Nat) (l : List (Int × List Nat)) (w : World) (hc : l.length ≤ c) (hcm : c ≤ 9223372036854775807) (hL : l.length ≤ 100) (HX : Hid (Bits w w.heap.size A l)) :
    Calls Try.prog 9 #[.int .i64 n, .slice A l.length c] w fun e w' => e = .returned (.bool true) ∧ Below w.heap.size w w' := by
  go_enter Try.func9, Try.ntmps9
  go_wp2_with fail
  go_loop [5, 6] (fun m i => ∃ k : Nat, k ≤ l.length ∧ i = .int .i64 k ∧ m = .int .i64 (bulk (l.take k) : Nat) ∧ bulk (l.take k) ≤ 3000) (fun _ i => l.length - (intOf i).toNat)
  case atStart => exact ⟨0, by omega, rfl, rfl, by simp [bulk]⟩
  case round =>
    obtain ⟨k, hk, rfl, rfl, hbk⟩ := hrel
    by_cases hkl : k < l.length
    · have h1 : k < l.length := by omega
      obtain ⟨ab, ao, A1, c1, rfl, hab, y0, y1, hl1, hl2, _⟩ := HX.out k h1
      have HQ := Lib.hid (bulk_take h1)
      have i1 : (k : Int) < (l.length : Int) := by omega
      have i2 : (k : Int) < 100 := by omega
      unfold maxLen at hl2
      by_cases hpl : l[k].2.length ≤ 3000
      · by_cases hbig : bulk (l.take k) + 10 + l[k].2.length ≤ 3000
        · have i3 : ¬ (3000 : Int) < (bulk (l.take k) : Int) + 10 + (l[k].2.length : Int) := by omega
          have i4 : ¬ (3000 : Int) < (l[k].2.length : Int) := by omega
          go_wp2_with fail
          go_round
          case rel => exact ⟨k + 1, by omega, by go_num, by have := HQ.out; congr 1; omega, by have := HQ.out; omega⟩
          case measure => simp [intOf]; omega
        · have i3 : (3000 : Int) < (bulk (l.take k) : Int) + 10 + (l[k].2.length : Int) := by omega
          go_wp2_with fail
          go_ret
          exact ⟨rfl, Below.refl _ _⟩
      · have i4 : (3000 : Int) < (l[k].2.length : Int) := by omega
        obtain ⟨z, hz⟩ : ∃ z, wrap64 ((bulk (l.take k) : Int) + 10 + (l[k].2.length : Int)) = z := ⟨_, rfl⟩
        by_cases hz3 : 3000 < z
        · go_wp2_with fail
          go_ret
          exact ⟨rfl, Below.refl _ _⟩
        · go_wp2_with fail
          go_ret
          exact ⟨rfl, Below.refl _ _⟩
    · have hke : k = l.length := by omega
      have HBK : Hid (bulk (l.take l.length) ≤ 3000) := Lib.hid (hke ▸ hbk)
      have i1 : ¬ (k : Int) < (l.length : Int) := by omega
      clear hk hbk hkl hke
      have HN := Lib.hid hn
      clear hn
      go_wp2_with fail
      refine (piBeginNo n _ HN.out).mono ?_
      rintro e w1 ⟨rfl, rfl⟩
      go_wp2_with fail
      refine (riBeginNo n _ HN.out).mono ?_
      rintro e w1 ⟨rfl, rfl⟩
      go_wp2_with fail
      by_cases hl0 : 0 < l.length
      · have j1 : (0 : Int) < (l.length : Int) := by omega
        clear hl0
        go_loop [11] (fun i => i = .int .i64 0) (fun _ => 0)
        case atStart => rfl
        case round =>
          obtain rfl := hrel
          go_wp2_with (go_at_call 36; refine (knownPiece _).mono ?_; rintro e wc ⟨rfl, hbc⟩)
          go_ret
          exact ⟨rfl, hbc⟩
      · have j1 : ¬ (0 : Int) < (l.length : Int) := by omega
        clear hl0
        go_loop [11] (fun i => i = .int .i64 0) (fun _ => 0)
        case atStart => rfl
        case round =>
          obtain rfl := hrel
          go_wp2_with (go_at_call 36; refine (knownPiece _).mono ?_; rintro e wc ⟨rfl, hbc⟩)
          go_ret
          exact ⟨rfl, hbc⟩

set_option maxHeartbeats 4000000 in
set_option maxRecDepth 100000 in
theorem walkPieceComesBL (n : Int) (hn : n < 1 ∨ 524288 < n) (A : Option Addr) (c : Nat) (l : List (Int × List Nat)) (w : World) (hc : l.length ≤ c) (hcm : c ≤ 9223372036854775807) (hL : 100 < l.length) (HX : Hid (Bits w w.heap.size A l)) :
    Calls Try.prog 9 #[.int .i64 n, .slice A l.length c] w fun e w' => e = .returned (.bool true) ∧ Below w.heap.size w w' := by
  go_enter Try.func9, Try.ntmps9
  go_wp2_with fail
  go_loop [5, 6] (fun m i => ∃ k : Nat, k ≤ 100 ∧ i = .int .i64 k ∧ m = .int .i64 (bulk (l.take k) : Nat) ∧ bulk (l.take k) ≤ 3000) (fun _ i => 100 - (intOf i).toNat)
  case atStart => exact ⟨0, by omega, rfl, rfl, by simp [bulk]⟩
  case round =>
    obtain ⟨k, hk, rfl, rfl, hbk⟩ := hrel
    by_cases hkl : k < 100
    · have h1 : k < l.length := by omega
      obtain ⟨ab, ao, A1, c1, rfl, hab, y0, y1, hl1, hl2, _⟩ := HX.out k h1
      have HQ := Lib.hid (bulk_take h1)
      have i1 : (k : Int) < (l.length : Int) := by omega
      have i2 : (k : Int) < 100 := by omega
      unfold maxLen at hl2
      by_cases hpl : l[k].2.length ≤ 3000
      · by_cases hbig : bulk (l.take k) + 10 + l[k].2.length ≤ 3000
        · have i3 : ¬ (3000 : Int) < (bulk (l.take k) : Int) + 10 + (l[k].2.length : Int) := by omega
          have i4 : ¬ (3000 : Int) < (l[k].2.length : Int) := by omega
          go_wp2_with fail
          go_round
          case rel => exact ⟨k + 1, by omega, by go_num, by have := HQ.out; congr 1; omega, by have := HQ.out; omega⟩
          case measure => simp [intOf]; omega
        · have i3 : (3000 : Int) < (bulk (l.take k) : Int) + 10 + (l[k].2.length : Int) := by omega
          go_wp2_with fail
          go_ret
          exact ⟨rfl, Below.refl _ _⟩
      · have i4 : (3000 : Int) < (l[k].2.length : Int) := by omega
        obtain ⟨z, hz⟩ : ∃ z, wrap64 ((bulk (l.take k) : Int) + 10 + (l[k].2.length : Int)) = z := ⟨_, rfl⟩
        by_cases hz3 : 3000 < z
        · go_wp2_with fail
          go_ret
          exact ⟨rfl, Below.refl _ _⟩
        · go_wp2_with fail
          go_ret
          exact ⟨rfl, Below.refl _ _⟩
    · have hke : k = 100 := by omega
      have HBK : Hid (bulk (l.take 100) ≤ 3000) := Lib.hid (hke ▸ hbk)
      have i1 : (k : Int) < (l.length : Int) := by omega
      have i2 : ¬ (k : Int) < 100 := by omega
      clear hk hbk hkl hke
      have HN := Lib.hid hn
      clear hn
      go_wp2_with fail
      refine (piBeginNo n _ HN.out).mono ?_
      rintro e w1 ⟨rfl, rfl⟩
      go_wp2_with fail
      refine (riBeginNo n _ HN.out).mono ?_
      rintro e w1 ⟨rfl, rfl⟩
      go_wp2_with fail
      have j1 : (0 : Int) < (l.length : Int) := by omega
      go_loop [11] (fun i => i = .int .i64 0) (fun _ => 0)
      case atStart => rfl
      case round =>
        obtain rfl := hrel
        go_wp2_with (go_at_call 36; refine (knownPiece _).mono ?_; rintro e wc ⟨rfl, hbc⟩)
        go_ret
        exact ⟨rfl, hbc⟩

theorem walkPieceComes (n : Int) (A : Option Addr) (c : Nat) (l : List (Int × List Nat)) (w : World) (hc : l.length ≤ c) (hcm : c ≤ maxLen) (hx : Bits w w.heap.size A l) :
    Calls Try.prog 9 #[.int .i64 n, .slice A l.length c] w fun e w' => e = .returned (.bool true) ∧ Below w.heap.size w w' := by
  unfold maxLen at hcm
  by_cases h0 : 1 ≤ n ∧ n ≤ 524288
  · by_cases hL : l.length ≤ 100
    · exact walkPieceComesS n h0.1 h0.2 A c l w hc (by omega) hL (Lib.hid hx)
    · exact walkPieceComesL n h0.1 h0.2 A c l w hc (by omega) (by omega) (Lib.hid hx)
  · by_cases hL : l.length ≤ 100
    · exact walkPieceComesBS n (by omega) A c l w hc (by omega) hL (Lib.hid hx)
    · exact walkPieceComesBL n (by omega) A c l w hc (by omega) (by omega) (Lib.hid hx)

end Go.Proofs.Ytliljfncbljfpaa
