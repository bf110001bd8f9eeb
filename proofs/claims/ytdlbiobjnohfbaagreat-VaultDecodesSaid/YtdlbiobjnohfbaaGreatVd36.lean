/- The document's vault: Total. -/
import Derived.Deep.CutBlock
import Derived.Deep.DeepCutAuto
import Derived.Test.YtdlbiobjnohfbaaGreatVd33
import Derived.Test.YtdlbiobjnohfbaaGreatVd35
namespace Go.Proofs.YtdlbiobjnohfbaaGreat
open Go.RowKit Go.ChangeMaps Go.MapKept
set_option linter.unusedVariables false
set_option linter.unusedSimpArgs false
set_option maxHeartbeats 8000000 in
set_option maxRecDepth 10000 in
theorem refTotal (B d x : Nat) (u u2 : Value) (l : Pm) (L : List Od) (last nx : Int) (w : World) (h : RvH w B d x u u2 (rowsP l) L last nx) (hk : ∀ o ∈ L, OkO o) (h32 : L.length ≤ 32) (hlen : l.length ≤ 1000) :
    Calls Tryz.prog 27 #[.pointer (some ⟨d, 0, none⟩)] w fun e w' => e = .returned (addV (addTo (0, 0, 0, 0) (allP l L))) ∧ Below w.heap.size w w' := by
  obtain ⟨i0, hi, hz0, hz1, hz2⟩ := info_parts Tryz.infoIts
  obtain ⟨t0, t1, t2, t3, ff, hadd⟩ : ∃ (t0 t1 t2 t3 : Int) (f : Bool), addV (addTo (0, 0, 0, 0) (allP l L)) = .tuple #[.agg #[.int .i64 t0, .int .i64 t1, .int .i64 t2, .int .i64 t3], .bool f] := addV_form _
  obtain ⟨V, hV⟩ : ∃ V, V = addV (addTo (0, 0, 0, 0) (allP l L)) := ⟨_, rfl⟩
  rw [← hV]
  have HVV : Hid (V = .tuple #[.agg #[.int .i64 t0, .int .i64 t1, .int .i64 t2, .int .i64 t3], .bool ff]) := Lib.hid (by rw [hV]; exact hadd)
  clear hV
  obtain ⟨W1, hW1⟩ : ∃ W1, W1 = w.alloc (.cells #[.int .i64 0, .int .i64 0, .int .i64 0, .int .i64 0] 36) := ⟨_, rfl⟩
  have hs1 : W1.heap.size = w.heap.size + 1 := by rw [hW1]; simp
  have B1 : Below w.heap.size w W1 := by rw [hW1]; exact (Below.refl _ _).alloc (Nat.le_refl _) _
  have P1 : Whl W1 w.heap.size 36 #[.int .i64 0, .int .i64 0, .int .i64 0, .int .i64 0] := by rw [hW1]; exact Whl.new rfl
  have h1 := h.below B1
  obtain ⟨Ar, cr, rfl, _, _, _⟩ := own_slice h1.row
  obtain ⟨A2, c2, rfl, _, _, _⟩ := own_slice h1.bk.row
  have hdl := h1.whl.low
  have hxl := h1.bk.blk.low
  have k0 := h1.whl.cell 0
  have k1 := h1.whl.cell 1
  have k3 := h1.bk.blk.cell 0
  simp only [List.getElem?_toArray, List.getElem?_cons_succ, List.getElem?_cons_zero] at k0 k1 k3
  have HO1 := Lib.hid h1.row
  have HO2 := Lib.hid h1.bk.row
  have HB1 := Lib.hid B1
  have HP1 := Lib.hid P1
  have HADD := Lib.hid hadd
  have HLOK := Lib.hid hk
  have hrl : (rowsP l).length = l.length := rowsP_len l
  have HRL := Lib.hid hrl
  clear h h1 B1 P1 hadd hk hrl
  go_enter Tryz.func27, Tryz.ntmps27
  go_wp2_with fail
  rw [← hW1]
  clear hW1
  go_loopw [4, 5] (fun t iv wr => ∃ j : Nat, j ≤ (rowsP l).length ∧ iv = .int .i64 j ∧ wr.ownsRow W1.heap.size 36 4 t j (flatI (((rowsP l).map (·.2)).take j)) ∧ Below W1.heap.size W1 wr) (fun _ iv _ => (rowsP l).length - (intOf iv).toNat)
  case atStart => exact ⟨0, Nat.zero_le _, rfl, World.ownsRow_nil _ _ _ _, Below.refl _ _⟩
  case round =>
    obtain ⟨j, hj, rfl, hown, hB⟩ := hrel
    have hBs := hB.size
    have m0 := bkeep hB k0 hdl
    have hll : (rowsP l).length ≤ 1000 := by rw [HRL.out]; exact hlen
    by_cases hjl : j < (rowsP l).length
    · have q1 : (j : Int) < ((rowsP l).length : Int) := by omega
      cases Ar with
      | none => have := HO1.out.2; rcases this with ⟨_, h0⟩ | ⟨g0, _, _, e, _⟩; (exact absurd h0 (by omega)); injection e with e; cases e
      | some ad =>
      obtain ⟨gq, cq, e1, hq5, hq6, _, _⟩ := own_form HO1.out (by omega)
      simp only [Value.slice.injEq, Option.some.injEq, true_and] at e1
      obtain ⟨rfl, rfl⟩ := e1
      obtain ⟨_, r1, r2, r3, r4⟩ := flatH_at (rowsP l) j hjl
      have hrow := row_belowV HO1.out hB
      obtain ⟨r, hr⟩ : ∃ r, r = (rowsP l)[j] := ⟨_, rfl⟩
      rw [← hr] at r1 r2 r3 r4
      have y1 := (hrow.cellAt (j * 5 + 1) (by omega)).trans r1
      have y2 := (hrow.cellAt (j * 5 + 2) (by omega)).trans r2
      have y3 := (hrow.cellAt (j * 5 + 3) (by omega)).trans r3
      have y4 := (hrow.cellAt (j * 5 + 4) (by omega)).trans r4
      obtain ⟨ky, a0, a1, a2, a3⟩ := r
      simp only at y1 y2 y3 y4
      have htk : ((rowsP l).map (·.2)).take (j + 1) = ((rowsP l).map (·.2)).take j ++ [(a0, a1, a2, a3)] := by
        rw [List.take_add_one, List.getElem?_map, List.getElem?_eq_getElem hjl, ← hr]; rfl
      have HTK := Lib.hid htk
      have HB := Lib.hid hB
      have HT : Hid ((wr.alloc (.cells #[.int .i64 a0, .int .i64 a1, .int .i64 a2, .int .i64 a3] 36)).ownsRow W1.heap.size 36 4 _ j (flatI (((rowsP l).map (·.2)).take j))) := Lib.hid (row_belowV hown ((Below.refl _ _).alloc (Nat.le_refl _) _))
      have HC : Hid (Cells (wr.alloc (.cells #[.int .i64 a0, .int .i64 a1, .int .i64 a2, .int .i64 a3] 36)) (wr.heap.size + 1) (some ⟨wr.heap.size, 0, none⟩) 1 1 4 [.int .i64 a0, .int .i64 a1, .int .i64 a2, .int .i64 a3]) := Lib.hid ⟨rfl, (fun e => by cases e), fun k u hu => ⟨_, _, rfl, by omega, by rw [Nat.zero_add, (Whl.new rfl).cell]; simpa using hu⟩⟩
      clear r1 r2 r3 r4 hr hrow htk hown hB
      go_wp2_with (first
        | (at_builtin; go_must (refine wpList_append_row rfl (.tmp 16) (.tmp 25) 133 rfl W1.heap.size 36 i0 (.agg #[.int .i64 0, .int .i64 0, .int .i64 0, .int .i64 0]) 4 32 Tryz.underlying133 hi hz0 hz1 hz2 rfl (by decide) u4 j (flatI (((rowsP l).map (·.2)).take j)) rfl HT.out (wr.heap.size + 1) (some ⟨wr.heap.size, 0, none⟩) 1 1 [.int .i64 a0, .int .i64 a1, .int .i64 a2, .int .i64 a3] rfl HC.out (by intro u hu; simp at hu; rcases hu with rfl | rfl | rfl | rfl <;> rfl) (by unfold maxLen; omega) (by omega) (by simp; omega) ?_); intro v6 w6 hown6 hb6; have HO6 := Lib.hid hown6; have HB6 := Lib.hid hb6; clear hown6 hb6)
        | fail)
      have h6 := HO6.out
      refine ⟨⟨j + 1, by omega, by go_num, ?_, ?_⟩, by simp [intOf]; omega⟩
      · rw [HTK.out, flatI_app]; exact h6
      · exact (HB.out.alloc hBs _).trans HB6.out
    · obtain rfl : (rowsP l).length = j := by omega
      rw [List.take_of_length_le (by simp)] at hown
      have HBF := Lib.hid hB
      have HOF := Lib.hid hown
      clear hown hB
      go_wp2_with fail
      go_loopw [4, 6] (fun t iv wq => ∃ j : Nat, j ≤ L.length ∧ iv = .int .i64 j ∧ wq.ownsRow W1.heap.size 36 4 t ((rowsP l).length + j) (flatI ((rowsP l).map (·.2) ++ (L.take j).map heldP)) ∧ Below W1.heap.size W1 wq) (fun _ iv _ => L.length - (intOf iv).toNat)
      case atStart => exact ⟨0, Nat.zero_le _, rfl, by simpa using HOF.out, HBF.out⟩
      case round =>
        clear HBF HOF m0
        obtain ⟨j, hj, rfl, hown, hB⟩ := hrel
        have hBq := hB.size
        have m1 := bkeep hB k1 hdl
        have m3 := bkeep hB k3 hxl
        by_cases hjl : j < L.length
        · have q1 : (j : Int) < (L.length : Int) := by omega
          cases A2 with
          | none => have := HO2.out.2; rcases this with ⟨_, h0⟩ | ⟨g0, _, _, e, _⟩; (exact absurd h0 (by omega)); injection e with e; cases e
          | some ad =>
          obtain ⟨gq, cq, e1, hq5, hq6, _, _⟩ := own_form HO2.out (by omega)
          simp only [Value.slice.injEq, Option.some.injEq, true_and] at e1
          obtain ⟨rfl, rfl⟩ := e1
          obtain ⟨r0, r1, r2, r3, r4, r5⟩ := flatO_at L j hjl
          obtain ⟨z, hz⟩ : ∃ z, z = L[j] := ⟨_, rfl⟩
          rw [← hz] at r0 r1 r2 r3 r4 r5
          have hrow := row_belowV HO2.out hB
          have y0 := (hrow.cellAt (j * 6) (ixO0 hjl)).trans r0
          have y1 := (hrow.cellAt (j * 6 + 1) (ixO hjl 1 (by decide))).trans r1
          have y2 := (hrow.cellAt (j * 6 + 2) (ixO hjl 2 (by decide))).trans r2
          have y3 := (hrow.cellAt (j * 6 + 3) (ixO hjl 3 (by decide))).trans r3
          have y4 := (hrow.cellAt (j * 6 + 4) (ixO hjl 4 (by decide))).trans r4
          have y5 := (hrow.cellAt (j * 6 + 5) (ixO hjl 5 (by decide))).trans r5
          have HOZ : Hid (OkO z) := Lib.hid (HLOK.out z (by rw [hz]; exact List.getElem_mem hjl))
          obtain ⟨hp, hhp⟩ : ∃ hp, hp = heldP z := ⟨_, rfl⟩
          have HHP := Lib.hid hhp
          obtain ⟨a0, a1, a2, a3⟩ := hp
          have htk : (rowsP l).map (·.2) ++ (L.take (j + 1)).map heldP = ((rowsP l).map (·.2) ++ (L.take j).map heldP) ++ [(a0, a1, a2, a3)] := by
            rw [List.take_add_one, List.getElem?_eq_getElem hjl, ← hz, hhp]; simp
          have HTK := Lib.hid htk
          have HB := Lib.hid hB
          have HOW := Lib.hid hown
          clear r0 r1 r2 r3 r4 r5 hrow hz htk hown hB hhp
          go_wp2_with (first
            | (go_at_call 48; go_loud (refine (refHolds z _ HOZ.out).mono ?_; rintro e w5 ⟨he, hb5⟩; rw [← HHP.out] at he; simp only [itV] at he; subst he; have hs5 := hb5.size; have HB5 : Hid (Below W1.heap.size W1 w5) := Lib.hid (HB.out.trans (hb5.mono hBq)); have HT : Hid ((w5.alloc (.cells #[.int .i64 a0, .int .i64 a1, .int .i64 a2, .int .i64 a3] 36)).ownsRow W1.heap.size 36 4 _ ((rowsP l).length + j) (flatI ((rowsP l).map (·.2) ++ (L.take j).map heldP))) := Lib.hid (row_belowV (row_belowV HOW.out hb5) ((Below.refl _ _).alloc (Nat.le_refl _) _)); have HC : Hid (Cells (w5.alloc (.cells #[.int .i64 a0, .int .i64 a1, .int .i64 a2, .int .i64 a3] 36)) (w5.heap.size + 1) (some ⟨w5.heap.size, 0, none⟩) 1 1 4 [.int .i64 a0, .int .i64 a1, .int .i64 a2, .int .i64 a3]) := Lib.hid ⟨rfl, (fun e => by cases e), fun k u hu => ⟨_, _, rfl, by omega, by rw [Nat.zero_add, (Whl.new rfl).cell]; simpa using hu⟩⟩; clear hb5))
            | (at_builtin; go_must (refine wpList_append_row rfl (.tmp 39) (.tmp 51) 133 rfl W1.heap.size 36 i0 (.agg #[.int .i64 0, .int .i64 0, .int .i64 0, .int .i64 0]) 4 32 Tryz.underlying133 hi hz0 hz1 hz2 rfl (by decide) u4 ((rowsP l).length + j) (flatI ((rowsP l).map (·.2) ++ (L.take j).map heldP)) rfl HT.out (w5.heap.size + 1) (some ⟨w5.heap.size, 0, none⟩) 1 1 [.int .i64 a0, .int .i64 a1, .int .i64 a2, .int .i64 a3] rfl HC.out (by intro u hu; simp at hu; rcases hu with rfl | rfl | rfl | rfl <;> rfl) (by unfold maxLen; omega) (by omega) (by simp; omega) ?_); intro v6 w6 hown6 hb6; have HO6 := Lib.hid hown6; have HB6 := Lib.hid hb6; clear hown6 hb6)
            | fail)
          have h6 := HO6.out
          refine ⟨⟨j + 1, by omega, by go_num, ?_, ?_⟩, by simp [intOf]; omega⟩
          · rw [HTK.out, flatI_app]; exact h6
          · exact (HB5.out.alloc (by omega) _).trans HB6.out
        · obtain rfl : L.length = j := by omega
          rw [List.take_of_length_le (Nat.le_refl _)] at hown
          have hlen2 : (allP l L).length = (rowsP l).length + L.length := by simp [allP]
          have hown2 := hown
          rw [← hlen2] at hown2
          obtain ⟨At, kt, hvt, _, _, _⟩ := own_slice hown2
          subst hvt
          have hpu := purses_own (xs := allP l L) hown2 rfl
          have HPU := Lib.hid hpu
          have HBq := Lib.hid hB
          have HPZ := Lib.hid (HP1.out.below hB (by omega))
          have hl6 : (allP l L).length ≤ 1000000 := by omega
          have HA2 := HADD
          clear hown hown2 hB hpu hlen2
          obtain ⟨ys, hys⟩ : ∃ x, x = allP l L := ⟨_, rfl⟩
          rw [← hys] at HPU hl6 HA2 ⊢
          clear hys
          go_wp2_with (first
            | (go_at_call 62; go_loud (refine (refAdd At kt ys _ hl6 HPU.out).mono ?_; rintro e w8 ⟨he, hb8⟩; rw [HA2.out] at he; subst he; have hs8 := hb8.size; have HB8 := Lib.hid hb8; have P8 := HPZ.out.below hb8 (by omega); have z0 := P8.cell 0; have z1 := P8.cell 1; have z2 := P8.cell 2; have z3 := P8.cell 3; have f0 := P8.free 0; have f1 := P8.free 1; have f2 := P8.free 2; have f3 := P8.free 3; simp only [List.getElem?_toArray, List.getElem?_cons_succ, List.getElem?_cons_zero] at z0 z1 z2 z3; clear hb8 P8))
            | fail)
          have hbw : Below w.heap.size w w8 := (HB1.out.trans (HBq.out.mono (by omega))).trans (HB8.out.mono (by omega))
          refine bodyPost_ret (v := .tuple #[.agg #[.int .i64 t0, .int .i64 t1, .int .i64 t2, .int .i64 t3], .bool ff]) (by simp [results, Tryz.results27, go_sem, ↓IntWalk.iteOmega, *]) rfl ⟨by rw [HVV.out], by ((repeat (first | (with_reducible exact Below.refl _ _) | (with_reducible assumption) | ((with_reducible refine b_set ?_ ?_); · (first | omega | (simp; done) | (simp; omega))) | ((with_reducible refine b_alloc ?_ ?_); · (first | omega | (simp; done) | (simp; omega))) | (with_reducible refine Below.drew ?_) | (with_reducible refine b_drewN ?_) | ((with_reducible refine b_call (by assumption) ?_ ?_); · (first | omega | (simp; done) | (simp; omega))))); done)⟩
end Go.Proofs.YtdlbiobjnohfbaaGreat
