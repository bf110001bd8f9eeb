/- The document's directory: done: a merge. -/
import Derived.Test.YtbohpjinkdffhaaRdI
namespace Go.Proofs.Ytbohpjinkdffhaa
open Go.RowKit
set_option linter.unusedVariables false
set_option linter.unusedSimpArgs false

set_option maxHeartbeats 8000000 in
set_option maxRecDepth 10000 in
theorem rdDone2 (B d i : Nat) (hv zv : Value) (hosts : List Int) (m : Mp) (c : Ch) (hi : i < m.zs.length) (w : World) (h : RdH w B d hv zv hosts m) (hB : B ≤ w.heap.size) (hl : m.zs.length ≤ 1000) (hkd : c.kd = 4) (hp : m.zs[i].pd = 2) (hep : m.zs[i].ep = c.ep) (h2 : i + 1 < m.zs.length) (hid : m.zs[i + 1].id = m.zs[i].nw) (hn : (idsA m.zs).Nodup) (h0 : ∀ z ∈ m.zs, 0 ≤ z.ep) (htop : max m.zs[i].ep m.zs[i + 1].ep < topN) (hj : joinB m.zs[i].fr m.zs[i].tt m.zs[i + 1].fr m.zs[i + 1].tt = true) :
    Calls Try.prog 76 #[.pointer (some ⟨d, 0, none⟩), .int .i64 i] w fun e w' => RdQ B d hv zv hosts m c i hi w e w' := by
  have HD := Lib.hid h
  have l2 := h.blk.cell 2
  simp only [List.getElem?_toArray, List.getElem?_cons_succ, List.getElem?_cons_zero] at l2
  obtain ⟨gz, cc, hzv, _, hgz, hnc, hcm⟩ := own_form h.row (by omega)
  subst hzv
  have hdl := h.blk.low
  have q3 : (i : Int) < (m.zs.length : Int) := by omega
  have q4 : (i : Int) + 1 < (m.zs.length : Int) := by omega
  have hc0 : 0 ≤ (i : Int) + 1 := by omega
  have hcast : IntKind.i64.wrap ((i : Int) + 1) = (i : Int) + 1 := by rw [IntKind.wrap_i64]; omega
  obtain ⟨z, hz⟩ : ∃ z, z = m.zs[i] := ⟨_, rfl⟩
  obtain ⟨y, hy⟩ : ∃ y, y = m.zs[i + 1] := ⟨_, rfl⟩
  obtain ⟨v0, v1, v2, v3, v4, v5, v6, v7, v8⟩ := rowZ_at h.row hi
  rw [← hz] at v0 v1 v2 v3 v4 v5 v6 v7 v8
  have HDEED : Hid (Deed hosts m c i hi ⟨m.ver, m.nxt, m.zs.take i ++ settled { z with tt := y.tt } (max z.ep y.ep + 1) :: m.zs.drop (i + 2)⟩) := Lib.hid (by
    rw [hz, hy]
    exact Deed.mergeDone hkd hp hep h2 hid hj htop)
  have HAT : Hid (∀ k2 : Int, At m.zs z.nw m.zs.length k2 → k2 = (i : Int) + 1) := Lib.hid (by
    intro k2 hk
    rcases hk with ⟨_, hno⟩ | ⟨j, rfl, hjl, hjd, _⟩
    · exact absurd (by rw [hid, hz]) (hno (i + 1) h2 h2)
    · have := ids_at hn hjl h2 (by rw [hjd, hid, hz])
      omega)
  have hz0 : 0 ≤ z.ep := h0 z (by rw [hz]; exact List.getElem_mem hi)
  have hy0 : 0 ≤ y.ep := h0 y (by rw [hy]; exact List.getElem_mem h2)
  rw [← hz] at hp hep
  rw [← hz, ← hy] at htop hj
  obtain ⟨mx, hmx⟩ : ∃ x, x = max z.ep y.ep := ⟨_, rfl⟩
  rw [← hmx] at htop HDEED
  have htop : mx < 1099511627776 := htop
  have hmx0 : 0 ≤ mx := by rw [hmx]; omega
  have hwr : IntKind.i64.wrap (mx + 1) = mx + 1 := by rw [IntKind.wrap_i64]; omega
  rw [hp] at v5
  have HJ := Lib.hid hj
  have HYZ := Lib.hid hy
  have HMX := Lib.hid hmx
  clear h hkd hz hp hep hj hid hn h0 hy hmx
  go_enter Try.func76, Try.ntmps76
  go_upto_region 18 with (first
    | (go_at_call 40; go_loud (refine (rdFind B _ m.zs z.nw _ (HD.out.row.alloc _) (by omega)).mono ?_; rintro e w1 ⟨k2, rfl, hk2, hb1⟩; obtain rfl := HAT.out k2 hk2; have HB1 := Lib.hid hb1; have hs1 := hb1.size; (try simp at hs1); have g1 := (Whl.new (w := w) (t := 39) (cs := #[.int .i64 z.id, .string z.fr, .string z.tt, .int .i64 z.ow, .int .i64 z.ep, .int .i64 2, .int .i64 z.mv, .string z.ky, .int .i64 z.nw]) rfl).below hb1 (by simp); have z0 := g1.cell 0; have z1 := g1.cell 1; have z2 := g1.cell 2; have z3 := g1.cell 3; have z4 := g1.cell 4; have z5 := g1.cell 5; have z6 := g1.cell 6; have z7 := g1.cell 7; have z8 := g1.cell 8; simp only [List.getElem?_toArray, List.getElem?_cons_succ, List.getElem?_cons_zero] at z0 z1 z2 z3 z4 z5 z6 z7 z8; have G1 := Lib.hid g1; clear hb1 g1 hk2))
    | (go_at_call 77; go_loud (refine (rdFree ⟨z.id, z.fr, z.tt, z.ow, z.ep, 2, z.mv, z.ky, z.nw⟩ _).mono ?_; rintro e w3 ⟨rfl, hb3⟩; have HB3 := Lib.hid hb3; have hs3 := hb3.size; (try simp at hs3); clear hb3))
    | fail)
  obtain ⟨V, hV⟩ : ∃ V, V = (w3.alloc (.cells #[.int .i64 z.id, .string z.fr, .string z.tt, .int .i64 z.ow, .int .i64 z.ep, .int .i64 0, .int .i64 0, .string ⟨#[]⟩, .int .i64 0] 39)) := ⟨_, rfl⟩
  obtain ⟨N, hN⟩ : ∃ n, n = w3.heap.size := ⟨_, rfl⟩
  have hB1 : Below w.heap.size w w1 := Below.trans ((Below.refl _ _).alloc (Nat.le_refl _) _) (HB1.out.mono (by simp))
  have hBV : Below w.heap.size w V := by
    rw [hV]
    exact (hB1.trans (HB3.out.mono (by omega))).alloc (by omega) _
  have hP : Whl V w.heap.size 39 #[.int .i64 z.id, .string z.fr, .string z.tt, .int .i64 z.ow, .int .i64 z.ep, .int .i64 2, .int .i64 z.mv, .string z.ky, .int .i64 z.nw] := by
    rw [hV]
    exact ((G1.out).below HB3.out (by omega)).alloc _
  have hF : Whl V N 39 #[.int .i64 z.id, .string z.fr, .string z.tt, .int .i64 z.ow, .int .i64 z.ep, .int .i64 0, .int .i64 0, .string ⟨#[]⟩, .int .i64 0] := by rw [hV, hN]; exact Whl.new rfl
  have hNw : w.heap.size < N := by rw [hN]; omega
  rw [← hN, ← hV]
  have HBV := Lib.hid hBV
  have HDV := Lib.hid (HD.out.below hBV)
  have k2 := HDV.out.blk.cell 2
  simp only [List.getElem?_toArray, List.getElem?_cons_succ, List.getElem?_cons_zero] at k2
  obtain ⟨u0, u1, u2, u3, u4, u5, u6, u7, u8⟩ := rowZ_at HDV.out.row h2
  rw [← HYZ.out] at u0 u1 u2 u3 u4 u5 u6 u7 u8
  have p0 := hP.cell 0
  have p1 := hP.cell 1
  have p2 := hP.cell 2
  have p3 := hP.cell 3
  have p4 := hP.cell 4
  have p5 := hP.cell 5
  have p6 := hP.cell 6
  have p7 := hP.cell 7
  have p8 := hP.cell 8
  simp only [List.getElem?_toArray, List.getElem?_cons_succ, List.getElem?_cons_zero] at p0 p1 p2 p3 p4 p5 p6 p7 p8
  have q0 := hF.cell 0
  have q1 := hF.cell 1
  have q2 := hF.cell 2
  have q3 := hF.cell 3
  have q4 := hF.cell 4
  have q5 := hF.cell 5
  have q6 := hF.cell 6
  have q7 := hF.cell 7
  have q8 := hF.cell 8
  simp only [List.getElem?_toArray, List.getElem?_cons_succ, List.getElem?_cons_zero] at q0 q1 q2 q3 q4 q5 q6 q7 q8
  have q3 : (i : Int) < (m.zs.length : Int) := by omega
  have q4' : (i : Int) + 1 < (m.zs.length : Int) := by omega
  have hne1 : w.heap.size ≠ N := by omega
  have hNV := hF.low
  have hgV : gz < V.heap.size := by have := hBV.size; omega
  have hwV : w.heap.size < V.heap.size := by omega
  have HP := Lib.hid hP
  have HF := Lib.hid hF
  have hNo : ∀ W, Below V.heap.size V W → ∀ k, W.frozen? ⟨N, k, none⟩ = false := fun W hW k => (HF.out.below hW hNV).free k
  clear hV hN hF hP hBV hB1 l2 v0 v1 v2 v3 v4 v5 v6 v7 v8 z0 z1 z2 z3 z4 z5 z6 z7 z8
  go_region_with (first
    | (go_at_call 95; go_loud (refine (refJoin1 z.fr z.tt y.fr y.tt _ HJ.out).mono ?_; rintro e w5 ⟨rfl, hb5⟩; have HB5 : Hid (Below V.heap.size V w5) := Lib.hid (Below.trans (by ((repeat (first | (with_reducible exact Below.refl _ _) | (with_reducible assumption) | ((with_reducible refine b_set ?_ ?_); · (first | omega | (simp; done) | (simp; omega))) | ((with_reducible refine b_alloc ?_ ?_); · (first | omega | (simp; done) | (simp; omega))) | (with_reducible refine Below.drew ?_) | (with_reducible refine b_drewN ?_) | ((with_reducible refine b_call (by assumption) ?_ ?_); · (first | omega | (simp; done) | (simp; omega))))); done)) hb5); have hF5 := HF.out.below HB5.out hNV; have qf := fun k => hF5.free k; have q0 := hF5.cell 0; have q1 := hF5.cell 1; have q2 := hF5.cell 2; have q3 := hF5.cell 3; have q4 := hF5.cell 4; have q5 := hF5.cell 5; have q6 := hF5.cell 6; have q7 := hF5.cell 7; have q8 := hF5.cell 8; simp only [List.getElem?_toArray, List.getElem?_cons_succ, List.getElem?_cons_zero] at q0 q1 q2 q3 q4 q5 q6 q7 q8; have HF5 := Lib.hid hF5; clear hb5 hF5))
    | fail)
  · obtain ⟨V2, hV2⟩ : ∃ W, W = ((w5.setCell ⟨N, 1, none⟩ (.string z.fr)).setCell ⟨N, 2, none⟩ (.string y.tt)) := ⟨_, rfl⟩
    have hT1 : Touch (fun k => k = N) w5 (w5.setCell ⟨N, 1, none⟩ (.string z.fr)) := (Touch.refl _ _).set (fun _ => rfl)
    have hT2 : Touch (fun k => k = N) w5 V2 := by rw [hV2]; exact hT1.set (fun _ => rfl)
    have hX : Whl V2 N 39 #[.int .i64 z.id, .string z.fr, .string y.tt, .int .i64 z.ow, .int .i64 z.ep, .int .i64 0, .int .i64 0, .string ⟨#[]⟩, .int .i64 0] := by
      rw [hV2]
      exact (HF5.out.set 1 (.string z.fr)).set 2 (.string y.tt)
    have hP : Whl V2 w.heap.size 39 #[.int .i64 z.id, .string z.fr, .string z.tt, .int .i64 z.ow, .int .i64 z.ep, .int .i64 2, .int .i64 z.mv, .string z.ky, .int .i64 z.nw] := (HP.out.below HB5.out hwV).tou' hT2 hne1
    have HDV5 := HDV.out.below HB5.out
    have HDV2 := Lib.hid (HDV5.keep hT2 (fun k hk e => by have := (HD.out.lows k hk).2; omega))
    have hs5 := HB5.out.size
    have hbV5 : Below w.heap.size w w5 := HBV.out.trans (HB5.out.mono (by omega))
    have hBV2 : Below w.heap.size w V2 := hbV5.trans (hT2.below (by omega) (fun k hk => by omega))
    rw [← hV2]
    clear p0 p1 p2 p3 p4 p5 p6 p7 p8 q0 q1 q2 q3 q5 q6 q7 q8 qf k2 u0 u1 u2 u3 u4 u5 u6 u7 u8
    obtain ⟨u0, u1, u2, u3, u4, u5, u6, u7, u8⟩ := rowZ_at HDV2.out.row h2
    rw [← HYZ.out] at u0 u1 u2 u3 u4 u5 u6 u7 u8
    have p0 := hP.cell 0
    have p1 := hP.cell 1
    have p2 := hP.cell 2
    have p3 := hP.cell 3
    have p4 := hP.cell 4
    have p5 := hP.cell 5
    have p6 := hP.cell 6
    have p7 := hP.cell 7
    have p8 := hP.cell 8
    simp only [List.getElem?_toArray, List.getElem?_cons_succ, List.getElem?_cons_zero] at p0 p1 p2 p3 p4 p5 p6 p7 p8
    have r0 := hX.cell 0
    have r1 := hX.cell 1
    have r2 := hX.cell 2
    have r3 := hX.cell 3
    have r4 := hX.cell 4
    have r5 := hX.cell 5
    have r6 := hX.cell 6
    have r7 := hX.cell 7
    have r8 := hX.cell 8
    simp only [List.getElem?_toArray, List.getElem?_cons_succ, List.getElem?_cons_zero] at r0 r1 r2 r3 r4 r5 r6 r7 r8
    have qf := fun k => hX.free k
    have hmx2 : max z.ep y.ep = mx := HMX.out.symm
    have hNV2 := hX.low
    have HX := Lib.hid hX
    have HBV2 := Lib.hid hBV2
    clear hV2 hT1 hT2 hX hP hBV2 HDV5 hbV5
    go_wp2_with fail
    go_region
    have hmxi : (if z.ep < y.ep then y.ep else z.ep) = mx := by rw [HMX.out]; split <;> omega
    rw [hmxi]
    obtain ⟨V3, hV3⟩ : ∃ W, W = (V2.setCell ⟨N, 4, none⟩ (.int .i64 (mx + 1))).drew := ⟨_, rfl⟩
    have hT1 : Touch (fun k => k = N) V2 (V2.setCell ⟨N, 4, none⟩ (.int .i64 (mx + 1))) := (Touch.refl _ _).set (fun _ => rfl)
    have hT4 : Touch (fun k => k = N) V2 V3 := by rw [hV3]; exact hT1.trans (Touch.of_drew (fun k => k = N) _) (fun _ _ h => h)
    have hX : Whl V3 N 39 #[.int .i64 z.id, .string z.fr, .string y.tt, .int .i64 z.ow, .int .i64 (mx + 1), .int .i64 0, .int .i64 0, .string ⟨#[]⟩, .int .i64 0] := by rw [hV3]; exact (HX.out.set 4 (.int .i64 (mx + 1))).drew
    have HDV3 := Lib.hid (HDV2.out.keep hT4 (fun k hk e => by have := (HD.out.lows k hk).2; omega))
    have hBV3 : Below w.heap.size w V3 := HBV2.out.trans (hT4.below (by omega) (fun k hk => by omega))
    have hNV3 := hX.low
    have HTK := Lib.hid (takeZ (i := i) HDV3.out.row (by omega) (by have := hBV3.size; omega) cc)
    have HBV3 := Lib.hid hBV3
    rw [← hV3]
    clear p0 p1 p2 p3 p4 p5 p6 p7 p8 r0 r1 r2 r3 r4 r5 r6 r7 r8 u0 u1 u2 u3 u4 u5 u6 u7 u8 qf hmxi
    have p0 := hX.cell 0
    have p1 := hX.cell 1
    have p2 := hX.cell 2
    have p3 := hX.cell 3
    have p4 := hX.cell 4
    have p5 := hX.cell 5
    have p6 := hX.cell 6
    have p7 := hX.cell 7
    have p8 := hX.cell 8
    simp only [List.getElem?_toArray, List.getElem?_cons_succ, List.getElem?_cons_zero] at p0 p1 p2 p3 p4 p5 p6 p7 p8
    obtain ⟨i0, hi0, hz0', hz1, hz2⟩ := info_parts Try.infoZone
    have hb : Below V3.heap.size V3 V3.drew := (Below.refl _ _).drew
    have q9 : (i : Int) ≤ (cc : Int) := by omega
    clear hV3 hT1 hT4 hX hBV3
    go_wp2_with fail
    refine wp_region_held_drew (S := (fun W => W.cell? ⟨N, 0, none⟩ = some (.int .i64 z.id) ∧ W.cell? ⟨N, 1, none⟩ = some (.string z.fr) ∧ W.cell? ⟨N, 2, none⟩ = some (.string y.tt) ∧ W.cell? ⟨N, 3, none⟩ = some (.int .i64 z.ow) ∧ W.cell? ⟨N, 4, none⟩ = some (.int .i64 (mx + 1)) ∧ W.cell? ⟨N, 5, none⟩ = some (.int .i64 0) ∧ W.cell? ⟨N, 6, none⟩ = some (.int .i64 0) ∧ W.cell? ⟨N, 7, none⟩ = some (.string ⟨#[]⟩) ∧ W.cell? ⟨N, 8, none⟩ = some (.int .i64 0))) (by kernel_rfl) ⟨p0, p1, p2, p3, p4, p5, p6, p7, p8⟩ (fun hHeld => ?_)
    refine wpAnyH_take (i := 1) (oi := ⟨some 107, _, _, _, _, _⟩) (v := ?v1j_1) rfl (by kernel_rfl) (by kernel_rfl) (by kernel_rfl) (fun _ _ _ h => h) (Or.inl ⟨by rfl, ?y1j_1⟩) (by assumption) ?r1j_1
    case y1j_1 => (intro w hSw; (try dsimp only at hSw); (try go_split_ands); go_simp); (try with_reducible rfl)
    case r1j_1 =>
    (try simp only [Act.put, List.setIfInBounds_toArray, List.set_cons_zero, List.set_cons_succ])
    refine wpAnyH_take (i := 2) (oi := ⟨some 108, _, _, _, _, _⟩) (v := ?v2j_4) rfl (by kernel_rfl) (by kernel_rfl) (by kernel_rfl) (fun _ _ _ h => h) (Or.inl ⟨by rfl, ?y2j_4⟩) (by assumption) ?r2j_4
    case y2j_4 => (intro w hSw; (try dsimp only at hSw); (try go_split_ands); go_simp); (try with_reducible rfl)
    case r2j_4 =>
    (try simp only [Act.put, List.setIfInBounds_toArray, List.set_cons_zero, List.set_cons_succ])
    refine wpAnyH_take (i := 3) (oi := ⟨some 109, _, _, _, _, _⟩) (v := ?v3j_7) rfl (by kernel_rfl) (by kernel_rfl) (by kernel_rfl) (fun _ _ _ h => h) (Or.inl ⟨by rfl, ?y3j_7⟩) (by assumption) ?r3j_7
    case y3j_7 => (intro w hSw; (try dsimp only at hSw); (try go_split_ands); go_simp); (try with_reducible rfl)
    case r3j_7 =>
    (try simp only [Act.put, List.setIfInBounds_toArray, List.set_cons_zero, List.set_cons_succ])
    refine wpAnyH_take (i := 5) (oi := ⟨some 111, _, _, _, _, _⟩) (v := ?v5j_10) rfl (by kernel_rfl) (by kernel_rfl) (by kernel_rfl) (fun _ _ _ h => h) (Or.inl ⟨by rfl, ?y5j_10⟩) (by assumption) ?r5j_10
    case y5j_10 => (intro w hSw; (try dsimp only at hSw); (try go_split_ands); go_simp); (try with_reducible rfl)
    case r5j_10 =>
    (try simp only [Act.put, List.setIfInBounds_toArray, List.set_cons_zero, List.set_cons_succ])
    refine wpAnyH_ready (rs := [0, 6]) (by kernel_rfl) (by simp) ?_
    refine AllReadyH.cons (o := ⟨some 106, _, _, _, _, _⟩) rfl (fun K hK => ?_) (AllReadyH.cons (o := ⟨some 112, _, _, _, _, _⟩) rfl (fun K hK => ?_) AllReadyH.nil)
    · go_simp
      have hb0 : Below V3.heap.size V3 (V3.drew.alloc (.cells #[] 39)) := hb.alloc (by (try simp) <;> omega) _
      have kx0 := bkeep hb0 p0 hNV3
      have kx1 := bkeep hb0 p1 hNV3
      have kx2 := bkeep hb0 p2 hNV3
      have kx3 := bkeep hb0 p3 hNV3
      have kx4 := bkeep hb0 p4 hNV3
      have kx5 := bkeep hb0 p5 hNV3
      have kx6 := bkeep hb0 p6 hNV3
      have kx7 := bkeep hb0 p7 hNV3
      have kx8 := bkeep hb0 p8 hNV3
      have he0 : (V3.drew.alloc (.cells #[] 39)).ownsRow V3.heap.size 39 9 (.slice (some ⟨V3.heap.size, 0, none⟩) 0 0) 0 [] := owns_lit0 (by simp) (by (try simp) <;> omega)
      refine hK.out _ _ ⟨kx0, kx1, kx2, kx3, kx4, kx5, kx6, kx7, kx8⟩ (fun hHeld => ?_)
      clear hK K
      (try simp only [Act.put, List.setIfInBounds_toArray, List.set_cons_zero, List.set_cons_succ])
      refine wpAnyH_ready (rs := [4, 6]) (by kernel_rfl) (by simp) ?_
      refine AllReadyH.cons (o := ⟨some 110, _, _, _, _, _⟩) rfl (fun K hK => ?_) (AllReadyH.cons (o := ⟨some 112, _, _, _, _, _⟩) rfl (fun K hK => ?_) AllReadyH.nil)
      · refine step_append_cells rfl (.tmp 106) (.tmp 109) 31 rfl V3.heap.size 39 i0 _ 9 96 Try.underlying31 hi0 hz0' hz1 hz2 rfl (by decide) (.slice (some ⟨V3.heap.size, 0, none⟩) 0 0) 0 [] rfl he0 V3.heap.size (some ⟨gz, 0, none⟩) i cc (flatZ (m.zs.take i)) rfl (cells_keep HTK.out hb0 (Nat.le_refl _)) (flatZ_one _) (by unfold maxLen; omega) (by omega) (by (try simp) <;> omega) ?_
        intro v4 w4 ho4 ht4 hv4
        rw [Nat.zero_add, List.nil_append] at ho4
        have hs4 := ht4.size
        (try simp at hs4)
        have hb04 : Below V3.heap.size V3 w4 := hb0.trans (ht4.below (B := V3.heap.size) (by (try simp) <;> omega) (fun q hq => by simp [Value.ownBlock] at hq; omega))
        have kx0 := bkeep hb04 p0 hNV3
        have kx1 := bkeep hb04 p1 hNV3
        have kx2 := bkeep hb04 p2 hNV3
        have kx3 := bkeep hb04 p3 hNV3
        have kx4 := bkeep hb04 p4 hNV3
        have kx5 := bkeep hb04 p5 hNV3
        have kx6 := bkeep hb04 p6 hNV3
        have kx7 := bkeep hb04 p7 hNV3
        have kx8 := bkeep hb04 p8 hNV3
        refine hK.out _ _ ⟨kx0, kx1, kx2, kx3, kx4, kx5, kx6, kx7, kx8⟩ (fun hHeld => ?_)
        clear hK K
        (try simp only [Act.put, List.setIfInBounds_toArray, List.set_cons_zero, List.set_cons_succ])
        refine wpAnyH_ready (rs := [6]) (by kernel_rfl) (by simp) ?_
        refine AllReadyH.cons (o := ⟨some 112, _, _, _, _, _⟩) rfl (fun K hK => ?_) AllReadyH.nil
        go_simp
        have hb046 : Below V3.heap.size V3 (w4.alloc (.cells #[.int .i64 z.id, .string z.fr, .string y.tt, .int .i64 z.ow, .int .i64 (mx + 1), .int .i64 0, .int .i64 0, .string ⟨#[]⟩, .int .i64 0] 39)) := hb04.alloc (by (try simp) <;> omega) _
        have kx0 := bkeep hb046 p0 hNV3
        have kx1 := bkeep hb046 p1 hNV3
        have kx2 := bkeep hb046 p2 hNV3
        have kx3 := bkeep hb046 p3 hNV3
        have kx4 := bkeep hb046 p4 hNV3
        have kx5 := bkeep hb046 p5 hNV3
        have kx6 := bkeep hb046 p6 hNV3
        have kx7 := bkeep hb046 p7 hNV3
        have kx8 := bkeep hb046 p8 hNV3
        have hPB : Whl (w4.alloc (.cells #[.int .i64 z.id, .string z.fr, .string y.tt, .int .i64 z.ow, .int .i64 (mx + 1), .int .i64 0, .int .i64 0, .string ⟨#[]⟩, .int .i64 0] 39)) w4.heap.size 39 #[.int .i64 z.id, .string z.fr, .string y.tt, .int .i64 z.ow, .int .i64 (mx + 1), .int .i64 0, .int .i64 0, .string ⟨#[]⟩, .int .i64 0] := Whl.new (by simp)
        have ho4 := ho4.alloc (.cells #[.int .i64 z.id, .string z.fr, .string y.tt, .int .i64 z.ow, .int .i64 (mx + 1), .int .i64 0, .int .i64 0, .string ⟨#[]⟩, .int .i64 0] 39)
        refine hK.out _ _ ⟨kx0, kx1, kx2, kx3, kx4, kx5, kx6, kx7, kx8⟩ (fun hHeld => ?_)
        clear hK K
        (try simp only [Act.put, List.setIfInBounds_toArray, List.set_cons_zero, List.set_cons_succ])
        refine wpAnyH_ready (rs := [7]) (by kernel_rfl) (by simp) ?_
        refine AllReadyH.cons (o := ⟨some 113, _, _, _, _, _⟩) rfl (fun K hK => ?_) AllReadyH.nil
        refine step_append_cells rfl (.tmp 110) (.tmp 112) 31 rfl V3.heap.size 39 i0 _ 9 96 Try.underlying31 hi0 hz0' hz1 hz2 rfl (by decide) v4 i (flatZ (m.zs.take i)) rfl ho4 (w4.alloc (.cells #[.int .i64 z.id, .string z.fr, .string y.tt, .int .i64 z.ow, .int .i64 (mx + 1), .int .i64 0, .int .i64 0, .string ⟨#[]⟩, .int .i64 0] 39)).heap.size (some ⟨w4.heap.size, 0, none⟩) 1 1 (flatZ [(settled { z with tt := y.tt } (mx + 1))]) rfl (whlCells hPB rfl rfl hPB.low) (flatZ_one _) (by unfold maxLen; omega) (by omega) (by (try simp) <;> omega) ?_
        intro v8 w8 ho8 ht8 hv8
        have hs8 := ht8.size
        (try simp at hs8)
        have hb8 : Below V3.heap.size V3 w8 := hb046.trans (ht8.below (B := V3.heap.size) (by (try simp) <;> omega) (fun q hq => (ho4.lt q hq).1))
        obtain ⟨g8, c8, hv8', hg8, hg8l, hn8, hc8⟩ := own_form ho8 (by omega)
        subst hv8'
        have kx0 := bkeep hb8 p0 hNV3
        have kx1 := bkeep hb8 p1 hNV3
        have kx2 := bkeep hb8 p2 hNV3
        have kx3 := bkeep hb8 p3 hNV3
        have kx4 := bkeep hb8 p4 hNV3
        have kx5 := bkeep hb8 p5 hNV3
        have kx6 := bkeep hb8 p6 hNV3
        have kx7 := bkeep hb8 p7 hNV3
        have kx8 := bkeep hb8 p8 hNV3
        refine hK.out _ _ ⟨kx0, kx1, kx2, kx3, kx4, kx5, kx6, kx7, kx8⟩ (fun hHeld => ?_)
        clear hK K
        (try simp only [Act.put, List.setIfInBounds_toArray, List.set_cons_zero, List.set_cons_succ])
        refine wpAnyH_take (i := 8) (oi := ⟨some 15, _, _, _, _, _⟩) (v := ?v8j_89) rfl (by kernel_rfl) (by kernel_rfl) (by kernel_rfl) (fun _ _ _ h => h) (Or.inl ⟨by rfl, ?y8j_89⟩) (by assumption) ?r8j_89
        case y8j_89 => (intro w hSw; (try dsimp only at hSw); (try go_split_ands); go_simp); (try with_reducible rfl)
        case r8j_89 =>
        (try simp only [Act.put, List.setIfInBounds_toArray, List.set_cons_zero, List.set_cons_succ])
        refine wpAnyH_done (by kernel_rfl) ?_ _
        have HO8 := Lib.hid ho8
        have HB8 := Lib.hid hb8
        have HD8 := Lib.hid (HDV3.out.below hb8)
        have k2 := HD8.out.blk.cell 2
        have df := fun k => HD8.out.blk.free k
        simp only [List.getElem?_toArray, List.getElem?_cons_succ, List.getElem?_cons_zero] at k2
        clear ho8 hb8 ho4 hPB kx0 kx1 kx2 kx3 kx4 kx5 kx6 kx7 kx8 hHeld
        have hcast2 : IntKind.i64.wrap ((i : Int) + 2) = (i : Int) + 2 := by rw [IntKind.wrap_i64]; omega
        have hcast3 : IntKind.i64.wrap ((i : Int) + 1 + 1) = (i : Int) + 2 := by rw [IntKind.wrap_i64]; omega
        have hc1 : (i : Int) + 2 ≤ (m.zs.length : Int) := by omega
        have hc00 : 0 ≤ (i : Int) + 2 := by omega
        have hc2 : (i : Int) + 2 ≤ (cc : Int) := by omega
        have hc3 : (m.zs.length : Int) ≤ (cc : Int) := by omega
        have hV3w := HBV3.out.size
        have hs8w := HB8.out.size
        have hdl8 : d < w8.heap.size := by omega
        by_cases hcc : cc = i + 2
        · have hle : m.zs.length - (i + 2) = 0 := by omega
          have hdr : flatZ (m.zs.drop (i + 2)) = [] := by rw [List.drop_eq_nil_of_le (by omega)]; rfl
          have HDK : Hid (∀ ad n c, n = 0 → Cells w8 w8.heap.size (some ad) n c 9 (flatZ (m.zs.drop (i + 2)))) := Lib.hid (fun ad n c hn => by rw [hdr, hn]; exact cells_zeroZ)
          subst hcc
          clear hdr
          go_wp2_with (first
            | (at_builtin; go_loud (refine wpList_append_row rfl (.tmp 115) (.tmp 119) 31 rfl V3.heap.size 39 i0 _ 9 96 Try.underlying31 hi0 hz0' hz1 hz2 rfl (by decide) (.slice (some ⟨g8, 0, none⟩) (i + 1) c8) (i + 1) (flatZ (m.zs.take i) ++ flatZ [(settled { z with tt := y.tt } (mx + 1))]) rfl HO8.out w8.heap.size _ _ _ (flatZ (m.zs.drop (i + 2))) rfl (HDK.out _ _ _ (by omega)) (flatZ_one _) (by unfold maxLen; omega) (by omega) (by omega) ?_; intro v10 w10 ho10 hb10; have hq10 : ∃ n, n = i + 1 + (m.zs.length - (i + 2)) ∧ w10.ownsRow V3.heap.size 39 9 v10 n (flatZ (m.zs.take i) ++ flatZ [(settled { z with tt := y.tt } (mx + 1))] ++ flatZ (m.zs.drop (i + 2))) := ⟨_, (by omega), ho10⟩; clear ho10; obtain ⟨n10, hn10x, ho10⟩ := hq10; have HN10 := Lib.hid hn10x; obtain ⟨g10, c10, hv10, hg10, hg10l, hn10, hc10⟩ := own_form ho10 (by omega); clear hn10x; subst hv10; have HD10 := Lib.hid (HD8.out.keep (Touch.of_below hb10) (fun k hk hd => by have := (HD.out.lows k hk).2; omega)); have k2 := HD10.out.blk.cell 2; have df := fun k => HD10.out.blk.free k; simp only [List.getElem?_toArray, List.getElem?_cons_succ, List.getElem?_cons_zero] at k2; have HO10 := Lib.hid ho10; have HB10 := Lib.hid hb10; clear ho10 hb10))
            | fail)
          have hlen : n10 = (m.zs.take i ++ (settled { z with tt := y.tt } (mx + 1)) :: m.zs.drop (i + 2)).length := by rw [HN10.out]; simp; omega
          clear HN10
          subst hlen
          have hR10 := HO10.out
          rw [← flatZ_app, ← flatZ_app, List.append_assoc] at hR10
          have hbw : Below w.heap.size w w10 := (HBV3.out.trans (HB8.out.mono hV3w)).trans (HB10.out.mono hV3w)
          have hfin := HD10.out.stored (l := m.zs.take i ++ (settled { z with tt := y.tt } (mx + 1)) :: m.zs.drop (i + 2)) hR10 (by omega) (by omega) (fun q hq => by have := (HD.out.lows q (.inr (.inl hq))).2; omega)
          have hT := ((Touch.of_below hbw).mono'' (D' := Fz d (.slice (some ⟨gz, 0, none⟩) m.zs.length (i + 2))) (fun k h1 h2 => by omega)).set (a := ⟨d, 2, none⟩) (v := .slice (some ⟨g10, 0, none⟩) (m.zs.take i ++ (settled { z with tt := y.tt } (mx + 1)) :: m.zs.drop (i + 2)).length c10) (fun _ => .inl rfl)
          refine bodyPost_ret (v := .bool true) (by simp [results, Try.results76, go_sem]) rfl (.inl ⟨_, _, HDEED.out, rfl, hfin, hT, fun k hk => .inr (by simp [Value.ownBlock] at hk; omega)⟩)
        · have HDK := Lib.hid (dropZ (k := i + 2) HD8.out.row (by omega) (cc - (i + 2)))
          go_wp2_with (first
            | (at_builtin; go_loud (refine wpList_append_row rfl (.tmp 115) (.tmp 119) 31 rfl V3.heap.size 39 i0 _ 9 96 Try.underlying31 hi0 hz0' hz1 hz2 rfl (by decide) (.slice (some ⟨g8, 0, none⟩) (i + 1) c8) (i + 1) (flatZ (m.zs.take i) ++ flatZ [(settled { z with tt := y.tt } (mx + 1))]) rfl HO8.out w8.heap.size (some ⟨gz, (i + 2) * 9, none⟩) (m.zs.length - (i + 2)) (cc - (i + 2)) (flatZ (m.zs.drop (i + 2))) rfl HDK.out (flatZ_one _) (by unfold maxLen; omega) (by omega) (by omega) ?_; intro v10 w10 ho10 hb10; have hq10 : ∃ n, n = i + 1 + (m.zs.length - (i + 2)) ∧ w10.ownsRow V3.heap.size 39 9 v10 n (flatZ (m.zs.take i) ++ flatZ [(settled { z with tt := y.tt } (mx + 1))] ++ flatZ (m.zs.drop (i + 2))) := ⟨_, (by omega), ho10⟩; clear ho10; obtain ⟨n10, hn10x, ho10⟩ := hq10; have HN10 := Lib.hid hn10x; obtain ⟨g10, c10, hv10, hg10, hg10l, hn10, hc10⟩ := own_form ho10 (by omega); clear hn10x; subst hv10; have HD10 := Lib.hid (HD8.out.keep (Touch.of_below hb10) (fun k hk hd => by have := (HD.out.lows k hk).2; omega)); have k2 := HD10.out.blk.cell 2; have df := fun k => HD10.out.blk.free k; simp only [List.getElem?_toArray, List.getElem?_cons_succ, List.getElem?_cons_zero] at k2; have HO10 := Lib.hid ho10; have HB10 := Lib.hid hb10; clear ho10 hb10))
            | fail)
          have hlen : n10 = (m.zs.take i ++ (settled { z with tt := y.tt } (mx + 1)) :: m.zs.drop (i + 2)).length := by rw [HN10.out]; simp; omega
          clear HN10
          subst hlen
          have hR10 := HO10.out
          rw [← flatZ_app, ← flatZ_app, List.append_assoc] at hR10
          have hbw : Below w.heap.size w w10 := (HBV3.out.trans (HB8.out.mono hV3w)).trans (HB10.out.mono hV3w)
          have hfin := HD10.out.stored (l := m.zs.take i ++ (settled { z with tt := y.tt } (mx + 1)) :: m.zs.drop (i + 2)) hR10 (by omega) (by omega) (fun q hq => by have := (HD.out.lows q (.inr (.inl hq))).2; omega)
          have hT := ((Touch.of_below hbw).mono'' (D' := Fz d (.slice (some ⟨gz, 0, none⟩) m.zs.length cc)) (fun k h1 h2 => by omega)).set (a := ⟨d, 2, none⟩) (v := .slice (some ⟨g10, 0, none⟩) (m.zs.take i ++ (settled { z with tt := y.tt } (mx + 1)) :: m.zs.drop (i + 2)).length c10) (fun _ => .inl rfl)
          refine bodyPost_ret (v := .bool true) (by simp [results, Try.results76, go_sem]) rfl (.inl ⟨_, _, HDEED.out, rfl, hfin, hT, fun k hk => .inr (by simp [Value.ownBlock] at hk; omega)⟩)
      · go_simp
        have hb06 : Below V3.heap.size V3 ((V3.drew.alloc (.cells #[] 39)).alloc (.cells #[.int .i64 z.id, .string z.fr, .string y.tt, .int .i64 z.ow, .int .i64 (mx + 1), .int .i64 0, .int .i64 0, .string ⟨#[]⟩, .int .i64 0] 39)) := hb0.alloc (by (try simp) <;> omega) _
        have kx0 := bkeep hb06 p0 hNV3
        have kx1 := bkeep hb06 p1 hNV3
        have kx2 := bkeep hb06 p2 hNV3
        have kx3 := bkeep hb06 p3 hNV3
        have kx4 := bkeep hb06 p4 hNV3
        have kx5 := bkeep hb06 p5 hNV3
        have kx6 := bkeep hb06 p6 hNV3
        have kx7 := bkeep hb06 p7 hNV3
        have kx8 := bkeep hb06 p8 hNV3
        have hPB : Whl ((V3.drew.alloc (.cells #[] 39)).alloc (.cells #[.int .i64 z.id, .string z.fr, .string y.tt, .int .i64 z.ow, .int .i64 (mx + 1), .int .i64 0, .int .i64 0, .string ⟨#[]⟩, .int .i64 0] 39)) (V3.heap.size + 1) 39 #[.int .i64 z.id, .string z.fr, .string y.tt, .int .i64 z.ow, .int .i64 (mx + 1), .int .i64 0, .int .i64 0, .string ⟨#[]⟩, .int .i64 0] := Whl.new (by simp)
        have he0 := he0.alloc (.cells #[.int .i64 z.id, .string z.fr, .string y.tt, .int .i64 z.ow, .int .i64 (mx + 1), .int .i64 0, .int .i64 0, .string ⟨#[]⟩, .int .i64 0] 39)
        refine hK.out _ _ ⟨kx0, kx1, kx2, kx3, kx4, kx5, kx6, kx7, kx8⟩ (fun hHeld => ?_)
        clear hK K
        (try simp only [Act.put, List.setIfInBounds_toArray, List.set_cons_zero, List.set_cons_succ])
        refine wpAnyH_ready (rs := [4]) (by kernel_rfl) (by simp) ?_
        refine AllReadyH.cons (o := ⟨some 110, _, _, _, _, _⟩) rfl (fun K hK => ?_) AllReadyH.nil
        refine step_append_cells rfl (.tmp 106) (.tmp 109) 31 rfl V3.heap.size 39 i0 _ 9 96 Try.underlying31 hi0 hz0' hz1 hz2 rfl (by decide) (.slice (some ⟨V3.heap.size, 0, none⟩) 0 0) 0 [] rfl he0 V3.heap.size (some ⟨gz, 0, none⟩) i cc (flatZ (m.zs.take i)) rfl (cells_keep HTK.out hb06 (Nat.le_refl _)) (flatZ_one _) (by unfold maxLen; omega) (by omega) (by (try simp) <;> omega) ?_
        intro v4 w4 ho4 ht4 hv4
        rw [Nat.zero_add, List.nil_append] at ho4
        have hs4 := ht4.size
        (try simp at hs4)
        have hb064 : Below V3.heap.size V3 w4 := hb06.trans (ht4.below (B := V3.heap.size) (by (try simp) <;> omega) (fun q hq => by simp [Value.ownBlock] at hq; omega))
        have kx0 := bkeep hb064 p0 hNV3
        have kx1 := bkeep hb064 p1 hNV3
        have kx2 := bkeep hb064 p2 hNV3
        have kx3 := bkeep hb064 p3 hNV3
        have kx4 := bkeep hb064 p4 hNV3
        have kx5 := bkeep hb064 p5 hNV3
        have kx6 := bkeep hb064 p6 hNV3
        have kx7 := bkeep hb064 p7 hNV3
        have kx8 := bkeep hb064 p8 hNV3
        have hPB := hPB.tou'' ht4 (fun e => by simp [Value.ownBlock] at e <;> omega)
        refine hK.out _ _ ⟨kx0, kx1, kx2, kx3, kx4, kx5, kx6, kx7, kx8⟩ (fun hHeld => ?_)
        clear hK K
        (try simp only [Act.put, List.setIfInBounds_toArray, List.set_cons_zero, List.set_cons_succ])
        refine wpAnyH_ready (rs := [7]) (by kernel_rfl) (by simp) ?_
        refine AllReadyH.cons (o := ⟨some 113, _, _, _, _, _⟩) rfl (fun K hK => ?_) AllReadyH.nil
        refine step_append_cells rfl (.tmp 110) (.tmp 112) 31 rfl V3.heap.size 39 i0 _ 9 96 Try.underlying31 hi0 hz0' hz1 hz2 rfl (by decide) v4 i (flatZ (m.zs.take i)) rfl ho4 w4.heap.size (some ⟨(V3.heap.size + 1), 0, none⟩) 1 1 (flatZ [(settled { z with tt := y.tt } (mx + 1))]) rfl (whlCells hPB rfl rfl hPB.low) (flatZ_one _) (by unfold maxLen; omega) (by omega) (by (try simp) <;> omega) ?_
        intro v8 w8 ho8 ht8 hv8
        have hs8 := ht8.size
        (try simp at hs8)
        have hb8 : Below V3.heap.size V3 w8 := hb064.trans (ht8.below (B := V3.heap.size) (by (try simp) <;> omega) (fun q hq => (ho4.lt q hq).1))
        obtain ⟨g8, c8, hv8', hg8, hg8l, hn8, hc8⟩ := own_form ho8 (by omega)
        subst hv8'
        have kx0 := bkeep hb8 p0 hNV3
        have kx1 := bkeep hb8 p1 hNV3
        have kx2 := bkeep hb8 p2 hNV3
        have kx3 := bkeep hb8 p3 hNV3
        have kx4 := bkeep hb8 p4 hNV3
        have kx5 := bkeep hb8 p5 hNV3
        have kx6 := bkeep hb8 p6 hNV3
        have kx7 := bkeep hb8 p7 hNV3
        have kx8 := bkeep hb8 p8 hNV3
        refine hK.out _ _ ⟨kx0, kx1, kx2, kx3, kx4, kx5, kx6, kx7, kx8⟩ (fun hHeld => ?_)
        clear hK K
        (try simp only [Act.put, List.setIfInBounds_toArray, List.set_cons_zero, List.set_cons_succ])
        refine wpAnyH_take (i := 8) (oi := ⟨some 15, _, _, _, _, _⟩) (v := ?v8j_198) rfl (by kernel_rfl) (by kernel_rfl) (by kernel_rfl) (fun _ _ _ h => h) (Or.inl ⟨by rfl, ?y8j_198⟩) (by assumption) ?r8j_198
        case y8j_198 => (intro w hSw; (try dsimp only at hSw); (try go_split_ands); go_simp); (try with_reducible rfl)
        case r8j_198 =>
        (try simp only [Act.put, List.setIfInBounds_toArray, List.set_cons_zero, List.set_cons_succ])
        refine wpAnyH_done (by kernel_rfl) ?_ _
        have HO8 := Lib.hid ho8
        have HB8 := Lib.hid hb8
        have HD8 := Lib.hid (HDV3.out.below hb8)
        have k2 := HD8.out.blk.cell 2
        have df := fun k => HD8.out.blk.free k
        simp only [List.getElem?_toArray, List.getElem?_cons_succ, List.getElem?_cons_zero] at k2
        clear ho8 hb8 ho4 hPB kx0 kx1 kx2 kx3 kx4 kx5 kx6 kx7 kx8 hHeld
        have hcast2 : IntKind.i64.wrap ((i : Int) + 2) = (i : Int) + 2 := by rw [IntKind.wrap_i64]; omega
        have hcast3 : IntKind.i64.wrap ((i : Int) + 1 + 1) = (i : Int) + 2 := by rw [IntKind.wrap_i64]; omega
        have hc1 : (i : Int) + 2 ≤ (m.zs.length : Int) := by omega
        have hc00 : 0 ≤ (i : Int) + 2 := by omega
        have hc2 : (i : Int) + 2 ≤ (cc : Int) := by omega
        have hc3 : (m.zs.length : Int) ≤ (cc : Int) := by omega
        have hV3w := HBV3.out.size
        have hs8w := HB8.out.size
        have hdl8 : d < w8.heap.size := by omega
        by_cases hcc : cc = i + 2
        · have hle : m.zs.length - (i + 2) = 0 := by omega
          have hdr : flatZ (m.zs.drop (i + 2)) = [] := by rw [List.drop_eq_nil_of_le (by omega)]; rfl
          have HDK : Hid (∀ ad n c, n = 0 → Cells w8 w8.heap.size (some ad) n c 9 (flatZ (m.zs.drop (i + 2)))) := Lib.hid (fun ad n c hn => by rw [hdr, hn]; exact cells_zeroZ)
          subst hcc
          clear hdr
          go_wp2_with (first
            | (at_builtin; go_loud (refine wpList_append_row rfl (.tmp 115) (.tmp 119) 31 rfl V3.heap.size 39 i0 _ 9 96 Try.underlying31 hi0 hz0' hz1 hz2 rfl (by decide) (.slice (some ⟨g8, 0, none⟩) (i + 1) c8) (i + 1) (flatZ (m.zs.take i) ++ flatZ [(settled { z with tt := y.tt } (mx + 1))]) rfl HO8.out w8.heap.size _ _ _ (flatZ (m.zs.drop (i + 2))) rfl (HDK.out _ _ _ (by omega)) (flatZ_one _) (by unfold maxLen; omega) (by omega) (by omega) ?_; intro v10 w10 ho10 hb10; have hq10 : ∃ n, n = i + 1 + (m.zs.length - (i + 2)) ∧ w10.ownsRow V3.heap.size 39 9 v10 n (flatZ (m.zs.take i) ++ flatZ [(settled { z with tt := y.tt } (mx + 1))] ++ flatZ (m.zs.drop (i + 2))) := ⟨_, (by omega), ho10⟩; clear ho10; obtain ⟨n10, hn10x, ho10⟩ := hq10; have HN10 := Lib.hid hn10x; obtain ⟨g10, c10, hv10, hg10, hg10l, hn10, hc10⟩ := own_form ho10 (by omega); clear hn10x; subst hv10; have HD10 := Lib.hid (HD8.out.keep (Touch.of_below hb10) (fun k hk hd => by have := (HD.out.lows k hk).2; omega)); have k2 := HD10.out.blk.cell 2; have df := fun k => HD10.out.blk.free k; simp only [List.getElem?_toArray, List.getElem?_cons_succ, List.getElem?_cons_zero] at k2; have HO10 := Lib.hid ho10; have HB10 := Lib.hid hb10; clear ho10 hb10))
            | fail)
          have hlen : n10 = (m.zs.take i ++ (settled { z with tt := y.tt } (mx + 1)) :: m.zs.drop (i + 2)).length := by rw [HN10.out]; simp; omega
          clear HN10
          subst hlen
          have hR10 := HO10.out
          rw [← flatZ_app, ← flatZ_app, List.append_assoc] at hR10
          have hbw : Below w.heap.size w w10 := (HBV3.out.trans (HB8.out.mono hV3w)).trans (HB10.out.mono hV3w)
          have hfin := HD10.out.stored (l := m.zs.take i ++ (settled { z with tt := y.tt } (mx + 1)) :: m.zs.drop (i + 2)) hR10 (by omega) (by omega) (fun q hq => by have := (HD.out.lows q (.inr (.inl hq))).2; omega)
          have hT := ((Touch.of_below hbw).mono'' (D' := Fz d (.slice (some ⟨gz, 0, none⟩) m.zs.length (i + 2))) (fun k h1 h2 => by omega)).set (a := ⟨d, 2, none⟩) (v := .slice (some ⟨g10, 0, none⟩) (m.zs.take i ++ (settled { z with tt := y.tt } (mx + 1)) :: m.zs.drop (i + 2)).length c10) (fun _ => .inl rfl)
          refine bodyPost_ret (v := .bool true) (by simp [results, Try.results76, go_sem]) rfl (.inl ⟨_, _, HDEED.out, rfl, hfin, hT, fun k hk => .inr (by simp [Value.ownBlock] at hk; omega)⟩)
        · have HDK := Lib.hid (dropZ (k := i + 2) HD8.out.row (by omega) (cc - (i + 2)))
          go_wp2_with (first
            | (at_builtin; go_loud (refine wpList_append_row rfl (.tmp 115) (.tmp 119) 31 rfl V3.heap.size 39 i0 _ 9 96 Try.underlying31 hi0 hz0' hz1 hz2 rfl (by decide) (.slice (some ⟨g8, 0, none⟩) (i + 1) c8) (i + 1) (flatZ (m.zs.take i) ++ flatZ [(settled { z with tt := y.tt } (mx + 1))]) rfl HO8.out w8.heap.size (some ⟨gz, (i + 2) * 9, none⟩) (m.zs.length - (i + 2)) (cc - (i + 2)) (flatZ (m.zs.drop (i + 2))) rfl HDK.out (flatZ_one _) (by unfold maxLen; omega) (by omega) (by omega) ?_; intro v10 w10 ho10 hb10; have hq10 : ∃ n, n = i + 1 + (m.zs.length - (i + 2)) ∧ w10.ownsRow V3.heap.size 39 9 v10 n (flatZ (m.zs.take i) ++ flatZ [(settled { z with tt := y.tt } (mx + 1))] ++ flatZ (m.zs.drop (i + 2))) := ⟨_, (by omega), ho10⟩; clear ho10; obtain ⟨n10, hn10x, ho10⟩ := hq10; have HN10 := Lib.hid hn10x; obtain ⟨g10, c10, hv10, hg10, hg10l, hn10, hc10⟩ := own_form ho10 (by omega); clear hn10x; subst hv10; have HD10 := Lib.hid (HD8.out.keep (Touch.of_below hb10) (fun k hk hd => by have := (HD.out.lows k hk).2; omega)); have k2 := HD10.out.blk.cell 2; have df := fun k => HD10.out.blk.free k; simp only [List.getElem?_toArray, List.getElem?_cons_succ, List.getElem?_cons_zero] at k2; have HO10 := Lib.hid ho10; have HB10 := Lib.hid hb10; clear ho10 hb10))
            | fail)
          have hlen : n10 = (m.zs.take i ++ (settled { z with tt := y.tt } (mx + 1)) :: m.zs.drop (i + 2)).length := by rw [HN10.out]; simp; omega
          clear HN10
          subst hlen
          have hR10 := HO10.out
          rw [← flatZ_app, ← flatZ_app, List.append_assoc] at hR10
          have hbw : Below w.heap.size w w10 := (HBV3.out.trans (HB8.out.mono hV3w)).trans (HB10.out.mono hV3w)
          have hfin := HD10.out.stored (l := m.zs.take i ++ (settled { z with tt := y.tt } (mx + 1)) :: m.zs.drop (i + 2)) hR10 (by omega) (by omega) (fun q hq => by have := (HD.out.lows q (.inr (.inl hq))).2; omega)
          have hT := ((Touch.of_below hbw).mono'' (D' := Fz d (.slice (some ⟨gz, 0, none⟩) m.zs.length cc)) (fun k h1 h2 => by omega)).set (a := ⟨d, 2, none⟩) (v := .slice (some ⟨g10, 0, none⟩) (m.zs.take i ++ (settled { z with tt := y.tt } (mx + 1)) :: m.zs.drop (i + 2)).length c10) (fun _ => .inl rfl)
          refine bodyPost_ret (v := .bool true) (by simp [results, Try.results76, go_sem]) rfl (.inl ⟨_, _, HDEED.out, rfl, hfin, hT, fun k hk => .inr (by simp [Value.ownBlock] at hk; omega)⟩)
    · go_simp
      have hb6 : Below V3.heap.size V3 (V3.drew.alloc (.cells #[.int .i64 z.id, .string z.fr, .string y.tt, .int .i64 z.ow, .int .i64 (mx + 1), .int .i64 0, .int .i64 0, .string ⟨#[]⟩, .int .i64 0] 39)) := hb.alloc (by (try simp) <;> omega) _
      have kx0 := bkeep hb6 p0 hNV3
      have kx1 := bkeep hb6 p1 hNV3
      have kx2 := bkeep hb6 p2 hNV3
      have kx3 := bkeep hb6 p3 hNV3
      have kx4 := bkeep hb6 p4 hNV3
      have kx5 := bkeep hb6 p5 hNV3
      have kx6 := bkeep hb6 p6 hNV3
      have kx7 := bkeep hb6 p7 hNV3
      have kx8 := bkeep hb6 p8 hNV3
      have hPB : Whl (V3.drew.alloc (.cells #[.int .i64 z.id, .string z.fr, .string y.tt, .int .i64 z.ow, .int .i64 (mx + 1), .int .i64 0, .int .i64 0, .string ⟨#[]⟩, .int .i64 0] 39)) V3.heap.size 39 #[.int .i64 z.id, .string z.fr, .string y.tt, .int .i64 z.ow, .int .i64 (mx + 1), .int .i64 0, .int .i64 0, .string ⟨#[]⟩, .int .i64 0] := Whl.new (by simp)
      refine hK.out _ _ ⟨kx0, kx1, kx2, kx3, kx4, kx5, kx6, kx7, kx8⟩ (fun hHeld => ?_)
      clear hK K
      (try simp only [Act.put, List.setIfInBounds_toArray, List.set_cons_zero, List.set_cons_succ])
      refine wpAnyH_ready (rs := [0]) (by kernel_rfl) (by simp) ?_
      refine AllReadyH.cons (o := ⟨some 106, _, _, _, _, _⟩) rfl (fun K hK => ?_) AllReadyH.nil
      go_simp
      have hb60 : Below V3.heap.size V3 ((V3.drew.alloc (.cells #[.int .i64 z.id, .string z.fr, .string y.tt, .int .i64 z.ow, .int .i64 (mx + 1), .int .i64 0, .int .i64 0, .string ⟨#[]⟩, .int .i64 0] 39)).alloc (.cells #[] 39)) := hb6.alloc (by (try simp) <;> omega) _
      have kx0 := bkeep hb60 p0 hNV3
      have kx1 := bkeep hb60 p1 hNV3
      have kx2 := bkeep hb60 p2 hNV3
      have kx3 := bkeep hb60 p3 hNV3
      have kx4 := bkeep hb60 p4 hNV3
      have kx5 := bkeep hb60 p5 hNV3
      have kx6 := bkeep hb60 p6 hNV3
      have kx7 := bkeep hb60 p7 hNV3
      have kx8 := bkeep hb60 p8 hNV3
      have he0 : ((V3.drew.alloc (.cells #[.int .i64 z.id, .string z.fr, .string y.tt, .int .i64 z.ow, .int .i64 (mx + 1), .int .i64 0, .int .i64 0, .string ⟨#[]⟩, .int .i64 0] 39)).alloc (.cells #[] 39)).ownsRow V3.heap.size 39 9 (.slice (some ⟨(V3.heap.size + 1), 0, none⟩) 0 0) 0 [] := owns_lit0 (by simp) (by (try simp) <;> omega)
      have hPB := hPB.alloc (.cells #[] 39)
      refine hK.out _ _ ⟨kx0, kx1, kx2, kx3, kx4, kx5, kx6, kx7, kx8⟩ (fun hHeld => ?_)
      clear hK K
      (try simp only [Act.put, List.setIfInBounds_toArray, List.set_cons_zero, List.set_cons_succ])
      refine wpAnyH_ready (rs := [4]) (by kernel_rfl) (by simp) ?_
      refine AllReadyH.cons (o := ⟨some 110, _, _, _, _, _⟩) rfl (fun K hK => ?_) AllReadyH.nil
      refine step_append_cells rfl (.tmp 106) (.tmp 109) 31 rfl V3.heap.size 39 i0 _ 9 96 Try.underlying31 hi0 hz0' hz1 hz2 rfl (by decide) (.slice (some ⟨(V3.heap.size + 1), 0, none⟩) 0 0) 0 [] rfl he0 V3.heap.size (some ⟨gz, 0, none⟩) i cc (flatZ (m.zs.take i)) rfl (cells_keep HTK.out hb60 (Nat.le_refl _)) (flatZ_one _) (by unfold maxLen; omega) (by omega) (by (try simp) <;> omega) ?_
      intro v4 w4 ho4 ht4 hv4
      rw [Nat.zero_add, List.nil_append] at ho4
      have hs4 := ht4.size
      (try simp at hs4)
      have hb604 : Below V3.heap.size V3 w4 := hb60.trans (ht4.below (B := V3.heap.size) (by (try simp) <;> omega) (fun q hq => by simp [Value.ownBlock] at hq; omega))
      have kx0 := bkeep hb604 p0 hNV3
      have kx1 := bkeep hb604 p1 hNV3
      have kx2 := bkeep hb604 p2 hNV3
      have kx3 := bkeep hb604 p3 hNV3
      have kx4 := bkeep hb604 p4 hNV3
      have kx5 := bkeep hb604 p5 hNV3
      have kx6 := bkeep hb604 p6 hNV3
      have kx7 := bkeep hb604 p7 hNV3
      have kx8 := bkeep hb604 p8 hNV3
      have hPB := hPB.tou'' ht4 (fun e => by simp [Value.ownBlock] at e <;> omega)
      refine hK.out _ _ ⟨kx0, kx1, kx2, kx3, kx4, kx5, kx6, kx7, kx8⟩ (fun hHeld => ?_)
      clear hK K
      (try simp only [Act.put, List.setIfInBounds_toArray, List.set_cons_zero, List.set_cons_succ])
      refine wpAnyH_ready (rs := [7]) (by kernel_rfl) (by simp) ?_
      refine AllReadyH.cons (o := ⟨some 113, _, _, _, _, _⟩) rfl (fun K hK => ?_) AllReadyH.nil
      refine step_append_cells rfl (.tmp 110) (.tmp 112) 31 rfl V3.heap.size 39 i0 _ 9 96 Try.underlying31 hi0 hz0' hz1 hz2 rfl (by decide) v4 i (flatZ (m.zs.take i)) rfl ho4 w4.heap.size (some ⟨V3.heap.size, 0, none⟩) 1 1 (flatZ [(settled { z with tt := y.tt } (mx + 1))]) rfl (whlCells hPB rfl rfl hPB.low) (flatZ_one _) (by unfold maxLen; omega) (by omega) (by (try simp) <;> omega) ?_
      intro v8 w8 ho8 ht8 hv8
      have hs8 := ht8.size
      (try simp at hs8)
      have hb8 : Below V3.heap.size V3 w8 := hb604.trans (ht8.below (B := V3.heap.size) (by (try simp) <;> omega) (fun q hq => (ho4.lt q hq).1))
      obtain ⟨g8, c8, hv8', hg8, hg8l, hn8, hc8⟩ := own_form ho8 (by omega)
      subst hv8'
      have kx0 := bkeep hb8 p0 hNV3
      have kx1 := bkeep hb8 p1 hNV3
      have kx2 := bkeep hb8 p2 hNV3
      have kx3 := bkeep hb8 p3 hNV3
      have kx4 := bkeep hb8 p4 hNV3
      have kx5 := bkeep hb8 p5 hNV3
      have kx6 := bkeep hb8 p6 hNV3
      have kx7 := bkeep hb8 p7 hNV3
      have kx8 := bkeep hb8 p8 hNV3
      refine hK.out _ _ ⟨kx0, kx1, kx2, kx3, kx4, kx5, kx6, kx7, kx8⟩ (fun hHeld => ?_)
      clear hK K
      (try simp only [Act.put, List.setIfInBounds_toArray, List.set_cons_zero, List.set_cons_succ])
      refine wpAnyH_take (i := 8) (oi := ⟨some 15, _, _, _, _, _⟩) (v := ?v8j_324) rfl (by kernel_rfl) (by kernel_rfl) (by kernel_rfl) (fun _ _ _ h => h) (Or.inl ⟨by rfl, ?y8j_324⟩) (by assumption) ?r8j_324
      case y8j_324 => (intro w hSw; (try dsimp only at hSw); (try go_split_ands); go_simp); (try with_reducible rfl)
      case r8j_324 =>
      (try simp only [Act.put, List.setIfInBounds_toArray, List.set_cons_zero, List.set_cons_succ])
      refine wpAnyH_done (by kernel_rfl) ?_ _
      have HO8 := Lib.hid ho8
      have HB8 := Lib.hid hb8
      have HD8 := Lib.hid (HDV3.out.below hb8)
      have k2 := HD8.out.blk.cell 2
      have df := fun k => HD8.out.blk.free k
      simp only [List.getElem?_toArray, List.getElem?_cons_succ, List.getElem?_cons_zero] at k2
      clear ho8 hb8 ho4 hPB kx0 kx1 kx2 kx3 kx4 kx5 kx6 kx7 kx8 hHeld
      have hcast2 : IntKind.i64.wrap ((i : Int) + 2) = (i : Int) + 2 := by rw [IntKind.wrap_i64]; omega
      have hcast3 : IntKind.i64.wrap ((i : Int) + 1 + 1) = (i : Int) + 2 := by rw [IntKind.wrap_i64]; omega
      have hc1 : (i : Int) + 2 ≤ (m.zs.length : Int) := by omega
      have hc00 : 0 ≤ (i : Int) + 2 := by omega
      have hc2 : (i : Int) + 2 ≤ (cc : Int) := by omega
      have hc3 : (m.zs.length : Int) ≤ (cc : Int) := by omega
      have hV3w := HBV3.out.size
      have hs8w := HB8.out.size
      have hdl8 : d < w8.heap.size := by omega
      by_cases hcc : cc = i + 2
      · have hle : m.zs.length - (i + 2) = 0 := by omega
        have hdr : flatZ (m.zs.drop (i + 2)) = [] := by rw [List.drop_eq_nil_of_le (by omega)]; rfl
        have HDK : Hid (∀ ad n c, n = 0 → Cells w8 w8.heap.size (some ad) n c 9 (flatZ (m.zs.drop (i + 2)))) := Lib.hid (fun ad n c hn => by rw [hdr, hn]; exact cells_zeroZ)
        subst hcc
        clear hdr
        go_wp2_with (first
          | (at_builtin; go_loud (refine wpList_append_row rfl (.tmp 115) (.tmp 119) 31 rfl V3.heap.size 39 i0 _ 9 96 Try.underlying31 hi0 hz0' hz1 hz2 rfl (by decide) (.slice (some ⟨g8, 0, none⟩) (i + 1) c8) (i + 1) (flatZ (m.zs.take i) ++ flatZ [(settled { z with tt := y.tt } (mx + 1))]) rfl HO8.out w8.heap.size _ _ _ (flatZ (m.zs.drop (i + 2))) rfl (HDK.out _ _ _ (by omega)) (flatZ_one _) (by unfold maxLen; omega) (by omega) (by omega) ?_; intro v10 w10 ho10 hb10; have hq10 : ∃ n, n = i + 1 + (m.zs.length - (i + 2)) ∧ w10.ownsRow V3.heap.size 39 9 v10 n (flatZ (m.zs.take i) ++ flatZ [(settled { z with tt := y.tt } (mx + 1))] ++ flatZ (m.zs.drop (i + 2))) := ⟨_, (by omega), ho10⟩; clear ho10; obtain ⟨n10, hn10x, ho10⟩ := hq10; have HN10 := Lib.hid hn10x; obtain ⟨g10, c10, hv10, hg10, hg10l, hn10, hc10⟩ := own_form ho10 (by omega); clear hn10x; subst hv10; have HD10 := Lib.hid (HD8.out.keep (Touch.of_below hb10) (fun k hk hd => by have := (HD.out.lows k hk).2; omega)); have k2 := HD10.out.blk.cell 2; have df := fun k => HD10.out.blk.free k; simp only [List.getElem?_toArray, List.getElem?_cons_succ, List.getElem?_cons_zero] at k2; have HO10 := Lib.hid ho10; have HB10 := Lib.hid hb10; clear ho10 hb10))
          | fail)
        have hlen : n10 = (m.zs.take i ++ (settled { z with tt := y.tt } (mx + 1)) :: m.zs.drop (i + 2)).length := by rw [HN10.out]; simp; omega
        clear HN10
        subst hlen
        have hR10 := HO10.out
        rw [← flatZ_app, ← flatZ_app, List.append_assoc] at hR10
        have hbw : Below w.heap.size w w10 := (HBV3.out.trans (HB8.out.mono hV3w)).trans (HB10.out.mono hV3w)
        have hfin := HD10.out.stored (l := m.zs.take i ++ (settled { z with tt := y.tt } (mx + 1)) :: m.zs.drop (i + 2)) hR10 (by omega) (by omega) (fun q hq => by have := (HD.out.lows q (.inr (.inl hq))).2; omega)
        have hT := ((Touch.of_below hbw).mono'' (D' := Fz d (.slice (some ⟨gz, 0, none⟩) m.zs.length (i + 2))) (fun k h1 h2 => by omega)).set (a := ⟨d, 2, none⟩) (v := .slice (some ⟨g10, 0, none⟩) (m.zs.take i ++ (settled { z with tt := y.tt } (mx + 1)) :: m.zs.drop (i + 2)).length c10) (fun _ => .inl rfl)
        refine bodyPost_ret (v := .bool true) (by simp [results, Try.results76, go_sem]) rfl (.inl ⟨_, _, HDEED.out, rfl, hfin, hT, fun k hk => .inr (by simp [Value.ownBlock] at hk; omega)⟩)
      · have HDK := Lib.hid (dropZ (k := i + 2) HD8.out.row (by omega) (cc - (i + 2)))
        go_wp2_with (first
          | (at_builtin; go_loud (refine wpList_append_row rfl (.tmp 115) (.tmp 119) 31 rfl V3.heap.size 39 i0 _ 9 96 Try.underlying31 hi0 hz0' hz1 hz2 rfl (by decide) (.slice (some ⟨g8, 0, none⟩) (i + 1) c8) (i + 1) (flatZ (m.zs.take i) ++ flatZ [(settled { z with tt := y.tt } (mx + 1))]) rfl HO8.out w8.heap.size (some ⟨gz, (i + 2) * 9, none⟩) (m.zs.length - (i + 2)) (cc - (i + 2)) (flatZ (m.zs.drop (i + 2))) rfl HDK.out (flatZ_one _) (by unfold maxLen; omega) (by omega) (by omega) ?_; intro v10 w10 ho10 hb10; have hq10 : ∃ n, n = i + 1 + (m.zs.length - (i + 2)) ∧ w10.ownsRow V3.heap.size 39 9 v10 n (flatZ (m.zs.take i) ++ flatZ [(settled { z with tt := y.tt } (mx + 1))] ++ flatZ (m.zs.drop (i + 2))) := ⟨_, (by omega), ho10⟩; clear ho10; obtain ⟨n10, hn10x, ho10⟩ := hq10; have HN10 := Lib.hid hn10x; obtain ⟨g10, c10, hv10, hg10, hg10l, hn10, hc10⟩ := own_form ho10 (by omega); clear hn10x; subst hv10; have HD10 := Lib.hid (HD8.out.keep (Touch.of_below hb10) (fun k hk hd => by have := (HD.out.lows k hk).2; omega)); have k2 := HD10.out.blk.cell 2; have df := fun k => HD10.out.blk.free k; simp only [List.getElem?_toArray, List.getElem?_cons_succ, List.getElem?_cons_zero] at k2; have HO10 := Lib.hid ho10; have HB10 := Lib.hid hb10; clear ho10 hb10))
          | fail)
        have hlen : n10 = (m.zs.take i ++ (settled { z with tt := y.tt } (mx + 1)) :: m.zs.drop (i + 2)).length := by rw [HN10.out]; simp; omega
        clear HN10
        subst hlen
        have hR10 := HO10.out
        rw [← flatZ_app, ← flatZ_app, List.append_assoc] at hR10
        have hbw : Below w.heap.size w w10 := (HBV3.out.trans (HB8.out.mono hV3w)).trans (HB10.out.mono hV3w)
        have hfin := HD10.out.stored (l := m.zs.take i ++ (settled { z with tt := y.tt } (mx + 1)) :: m.zs.drop (i + 2)) hR10 (by omega) (by omega) (fun q hq => by have := (HD.out.lows q (.inr (.inl hq))).2; omega)
        have hT := ((Touch.of_below hbw).mono'' (D' := Fz d (.slice (some ⟨gz, 0, none⟩) m.zs.length cc)) (fun k h1 h2 => by omega)).set (a := ⟨d, 2, none⟩) (v := .slice (some ⟨g10, 0, none⟩) (m.zs.take i ++ (settled { z with tt := y.tt } (mx + 1)) :: m.zs.drop (i + 2)).length c10) (fun _ => .inl rfl)
        refine bodyPost_ret (v := .bool true) (by simp [results, Try.results76, go_sem]) rfl (.inl ⟨_, _, HDEED.out, rfl, hfin, hT, fun k hk => .inr (by simp [Value.ownBlock] at hk; omega)⟩)
  · obtain ⟨V2, hV2⟩ : ∃ W, W = ((w5.setCell ⟨N, 1, none⟩ (.string z.fr)).setCell ⟨N, 2, none⟩ (.string y.tt)) := ⟨_, rfl⟩
    have hT1 : Touch (fun k => k = N) w5 (w5.setCell ⟨N, 1, none⟩ (.string z.fr)) := (Touch.refl _ _).set (fun _ => rfl)
    have hT2 : Touch (fun k => k = N) w5 V2 := by rw [hV2]; exact hT1.set (fun _ => rfl)
    have hX : Whl V2 N 39 #[.int .i64 z.id, .string z.fr, .string y.tt, .int .i64 z.ow, .int .i64 z.ep, .int .i64 0, .int .i64 0, .string ⟨#[]⟩, .int .i64 0] := by
      rw [hV2]
      exact (HF5.out.set 1 (.string z.fr)).set 2 (.string y.tt)
    have hP : Whl V2 w.heap.size 39 #[.int .i64 z.id, .string z.fr, .string z.tt, .int .i64 z.ow, .int .i64 z.ep, .int .i64 2, .int .i64 z.mv, .string z.ky, .int .i64 z.nw] := (HP.out.below HB5.out hwV).tou' hT2 hne1
    have HDV5 := HDV.out.below HB5.out
    have HDV2 := Lib.hid (HDV5.keep hT2 (fun k hk e => by have := (HD.out.lows k hk).2; omega))
    have hs5 := HB5.out.size
    have hbV5 : Below w.heap.size w w5 := HBV.out.trans (HB5.out.mono (by omega))
    have hBV2 : Below w.heap.size w V2 := hbV5.trans (hT2.below (by omega) (fun k hk => by omega))
    rw [← hV2]
    clear p0 p1 p2 p3 p4 p5 p6 p7 p8 q0 q1 q2 q3 q5 q6 q7 q8 qf k2 u0 u1 u2 u3 u4 u5 u6 u7 u8
    obtain ⟨u0, u1, u2, u3, u4, u5, u6, u7, u8⟩ := rowZ_at HDV2.out.row h2
    rw [← HYZ.out] at u0 u1 u2 u3 u4 u5 u6 u7 u8
    have p0 := hP.cell 0
    have p1 := hP.cell 1
    have p2 := hP.cell 2
    have p3 := hP.cell 3
    have p4 := hP.cell 4
    have p5 := hP.cell 5
    have p6 := hP.cell 6
    have p7 := hP.cell 7
    have p8 := hP.cell 8
    simp only [List.getElem?_toArray, List.getElem?_cons_succ, List.getElem?_cons_zero] at p0 p1 p2 p3 p4 p5 p6 p7 p8
    have r0 := hX.cell 0
    have r1 := hX.cell 1
    have r2 := hX.cell 2
    have r3 := hX.cell 3
    have r4 := hX.cell 4
    have r5 := hX.cell 5
    have r6 := hX.cell 6
    have r7 := hX.cell 7
    have r8 := hX.cell 8
    simp only [List.getElem?_toArray, List.getElem?_cons_succ, List.getElem?_cons_zero] at r0 r1 r2 r3 r4 r5 r6 r7 r8
    have qf := fun k => hX.free k
    have hmx2 : max z.ep y.ep = mx := HMX.out.symm
    have hNV2 := hX.low
    have HX := Lib.hid hX
    have HBV2 := Lib.hid hBV2
    clear hV2 hT1 hT2 hX hP hBV2 HDV5 hbV5
    go_wp2_with fail
    go_region
    have hmxi : (if z.ep < y.ep then y.ep else z.ep) = mx := by rw [HMX.out]; split <;> omega
    rw [hmxi]
    obtain ⟨V3, hV3⟩ : ∃ W, W = (V2.setCell ⟨N, 4, none⟩ (.int .i64 (mx + 1))).drew := ⟨_, rfl⟩
    have hT1 : Touch (fun k => k = N) V2 (V2.setCell ⟨N, 4, none⟩ (.int .i64 (mx + 1))) := (Touch.refl _ _).set (fun _ => rfl)
    have hT4 : Touch (fun k => k = N) V2 V3 := by rw [hV3]; exact hT1.trans (Touch.of_drew (fun k => k = N) _) (fun _ _ h => h)
    have hX : Whl V3 N 39 #[.int .i64 z.id, .string z.fr, .string y.tt, .int .i64 z.ow, .int .i64 (mx + 1), .int .i64 0, .int .i64 0, .string ⟨#[]⟩, .int .i64 0] := by rw [hV3]; exact (HX.out.set 4 (.int .i64 (mx + 1))).drew
    have HDV3 := Lib.hid (HDV2.out.keep hT4 (fun k hk e => by have := (HD.out.lows k hk).2; omega))
    have hBV3 : Below w.heap.size w V3 := HBV2.out.trans (hT4.below (by omega) (fun k hk => by omega))
    have hNV3 := hX.low
    have HTK := Lib.hid (takeZ (i := i) HDV3.out.row (by omega) (by have := hBV3.size; omega) cc)
    have HBV3 := Lib.hid hBV3
    rw [← hV3]
    clear p0 p1 p2 p3 p4 p5 p6 p7 p8 r0 r1 r2 r3 r4 r5 r6 r7 r8 u0 u1 u2 u3 u4 u5 u6 u7 u8 qf hmxi
    have p0 := hX.cell 0
    have p1 := hX.cell 1
    have p2 := hX.cell 2
    have p3 := hX.cell 3
    have p4 := hX.cell 4
    have p5 := hX.cell 5
    have p6 := hX.cell 6
    have p7 := hX.cell 7
    have p8 := hX.cell 8
    simp only [List.getElem?_toArray, List.getElem?_cons_succ, List.getElem?_cons_zero] at p0 p1 p2 p3 p4 p5 p6 p7 p8
    obtain ⟨i0, hi0, hz0', hz1, hz2⟩ := info_parts Try.infoZone
    have hb : Below V3.heap.size V3 V3.drew := (Below.refl _ _).drew
    have q9 : (i : Int) ≤ (cc : Int) := by omega
    clear hV3 hT1 hT4 hX hBV3
    go_wp2_with fail
    refine wp_region_held_drew (S := (fun W => W.cell? ⟨N, 0, none⟩ = some (.int .i64 z.id) ∧ W.cell? ⟨N, 1, none⟩ = some (.string z.fr) ∧ W.cell? ⟨N, 2, none⟩ = some (.string y.tt) ∧ W.cell? ⟨N, 3, none⟩ = some (.int .i64 z.ow) ∧ W.cell? ⟨N, 4, none⟩ = some (.int .i64 (mx + 1)) ∧ W.cell? ⟨N, 5, none⟩ = some (.int .i64 0) ∧ W.cell? ⟨N, 6, none⟩ = some (.int .i64 0) ∧ W.cell? ⟨N, 7, none⟩ = some (.string ⟨#[]⟩) ∧ W.cell? ⟨N, 8, none⟩ = some (.int .i64 0))) (by kernel_rfl) ⟨p0, p1, p2, p3, p4, p5, p6, p7, p8⟩ (fun hHeld => ?_)
    refine wpAnyH_take (i := 1) (oi := ⟨some 107, _, _, _, _, _⟩) (v := ?v1k_1) rfl (by kernel_rfl) (by kernel_rfl) (by kernel_rfl) (fun _ _ _ h => h) (Or.inl ⟨by rfl, ?y1k_1⟩) (by assumption) ?r1k_1
    case y1k_1 => (intro w hSw; (try dsimp only at hSw); (try go_split_ands); go_simp); (try with_reducible rfl)
    case r1k_1 =>
    (try simp only [Act.put, List.setIfInBounds_toArray, List.set_cons_zero, List.set_cons_succ])
    refine wpAnyH_take (i := 2) (oi := ⟨some 108, _, _, _, _, _⟩) (v := ?v2k_4) rfl (by kernel_rfl) (by kernel_rfl) (by kernel_rfl) (fun _ _ _ h => h) (Or.inl ⟨by rfl, ?y2k_4⟩) (by assumption) ?r2k_4
    case y2k_4 => (intro w hSw; (try dsimp only at hSw); (try go_split_ands); go_simp); (try with_reducible rfl)
    case r2k_4 =>
    (try simp only [Act.put, List.setIfInBounds_toArray, List.set_cons_zero, List.set_cons_succ])
    refine wpAnyH_take (i := 3) (oi := ⟨some 109, _, _, _, _, _⟩) (v := ?v3k_7) rfl (by kernel_rfl) (by kernel_rfl) (by kernel_rfl) (fun _ _ _ h => h) (Or.inl ⟨by rfl, ?y3k_7⟩) (by assumption) ?r3k_7
    case y3k_7 => (intro w hSw; (try dsimp only at hSw); (try go_split_ands); go_simp); (try with_reducible rfl)
    case r3k_7 =>
    (try simp only [Act.put, List.setIfInBounds_toArray, List.set_cons_zero, List.set_cons_succ])
    refine wpAnyH_take (i := 5) (oi := ⟨some 111, _, _, _, _, _⟩) (v := ?v5k_10) rfl (by kernel_rfl) (by kernel_rfl) (by kernel_rfl) (fun _ _ _ h => h) (Or.inl ⟨by rfl, ?y5k_10⟩) (by assumption) ?r5k_10
    case y5k_10 => (intro w hSw; (try dsimp only at hSw); (try go_split_ands); go_simp); (try with_reducible rfl)
    case r5k_10 =>
    (try simp only [Act.put, List.setIfInBounds_toArray, List.set_cons_zero, List.set_cons_succ])
    refine wpAnyH_ready (rs := [0, 6]) (by kernel_rfl) (by simp) ?_
    refine AllReadyH.cons (o := ⟨some 106, _, _, _, _, _⟩) rfl (fun K hK => ?_) (AllReadyH.cons (o := ⟨some 112, _, _, _, _, _⟩) rfl (fun K hK => ?_) AllReadyH.nil)
    · go_simp
      have hb0 : Below V3.heap.size V3 (V3.drew.alloc (.cells #[] 39)) := hb.alloc (by (try simp) <;> omega) _
      have kx0 := bkeep hb0 p0 hNV3
      have kx1 := bkeep hb0 p1 hNV3
      have kx2 := bkeep hb0 p2 hNV3
      have kx3 := bkeep hb0 p3 hNV3
      have kx4 := bkeep hb0 p4 hNV3
      have kx5 := bkeep hb0 p5 hNV3
      have kx6 := bkeep hb0 p6 hNV3
      have kx7 := bkeep hb0 p7 hNV3
      have kx8 := bkeep hb0 p8 hNV3
      have he0 : (V3.drew.alloc (.cells #[] 39)).ownsRow V3.heap.size 39 9 (.slice (some ⟨V3.heap.size, 0, none⟩) 0 0) 0 [] := owns_lit0 (by simp) (by (try simp) <;> omega)
      refine hK.out _ _ ⟨kx0, kx1, kx2, kx3, kx4, kx5, kx6, kx7, kx8⟩ (fun hHeld => ?_)
      clear hK K
      (try simp only [Act.put, List.setIfInBounds_toArray, List.set_cons_zero, List.set_cons_succ])
      refine wpAnyH_ready (rs := [4, 6]) (by kernel_rfl) (by simp) ?_
      refine AllReadyH.cons (o := ⟨some 110, _, _, _, _, _⟩) rfl (fun K hK => ?_) (AllReadyH.cons (o := ⟨some 112, _, _, _, _, _⟩) rfl (fun K hK => ?_) AllReadyH.nil)
      · refine step_append_cells rfl (.tmp 106) (.tmp 109) 31 rfl V3.heap.size 39 i0 _ 9 96 Try.underlying31 hi0 hz0' hz1 hz2 rfl (by decide) (.slice (some ⟨V3.heap.size, 0, none⟩) 0 0) 0 [] rfl he0 V3.heap.size (some ⟨gz, 0, none⟩) i cc (flatZ (m.zs.take i)) rfl (cells_keep HTK.out hb0 (Nat.le_refl _)) (flatZ_one _) (by unfold maxLen; omega) (by omega) (by (try simp) <;> omega) ?_
        intro v4 w4 ho4 ht4 hv4
        rw [Nat.zero_add, List.nil_append] at ho4
        have hs4 := ht4.size
        (try simp at hs4)
        have hb04 : Below V3.heap.size V3 w4 := hb0.trans (ht4.below (B := V3.heap.size) (by (try simp) <;> omega) (fun q hq => by simp [Value.ownBlock] at hq; omega))
        have kx0 := bkeep hb04 p0 hNV3
        have kx1 := bkeep hb04 p1 hNV3
        have kx2 := bkeep hb04 p2 hNV3
        have kx3 := bkeep hb04 p3 hNV3
        have kx4 := bkeep hb04 p4 hNV3
        have kx5 := bkeep hb04 p5 hNV3
        have kx6 := bkeep hb04 p6 hNV3
        have kx7 := bkeep hb04 p7 hNV3
        have kx8 := bkeep hb04 p8 hNV3
        refine hK.out _ _ ⟨kx0, kx1, kx2, kx3, kx4, kx5, kx6, kx7, kx8⟩ (fun hHeld => ?_)
        clear hK K
        (try simp only [Act.put, List.setIfInBounds_toArray, List.set_cons_zero, List.set_cons_succ])
        refine wpAnyH_ready (rs := [6]) (by kernel_rfl) (by simp) ?_
        refine AllReadyH.cons (o := ⟨some 112, _, _, _, _, _⟩) rfl (fun K hK => ?_) AllReadyH.nil
        go_simp
        have hb046 : Below V3.heap.size V3 (w4.alloc (.cells #[.int .i64 z.id, .string z.fr, .string y.tt, .int .i64 z.ow, .int .i64 (mx + 1), .int .i64 0, .int .i64 0, .string ⟨#[]⟩, .int .i64 0] 39)) := hb04.alloc (by (try simp) <;> omega) _
        have kx0 := bkeep hb046 p0 hNV3
        have kx1 := bkeep hb046 p1 hNV3
        have kx2 := bkeep hb046 p2 hNV3
        have kx3 := bkeep hb046 p3 hNV3
        have kx4 := bkeep hb046 p4 hNV3
        have kx5 := bkeep hb046 p5 hNV3
        have kx6 := bkeep hb046 p6 hNV3
        have kx7 := bkeep hb046 p7 hNV3
        have kx8 := bkeep hb046 p8 hNV3
        have hPB : Whl (w4.alloc (.cells #[.int .i64 z.id, .string z.fr, .string y.tt, .int .i64 z.ow, .int .i64 (mx + 1), .int .i64 0, .int .i64 0, .string ⟨#[]⟩, .int .i64 0] 39)) w4.heap.size 39 #[.int .i64 z.id, .string z.fr, .string y.tt, .int .i64 z.ow, .int .i64 (mx + 1), .int .i64 0, .int .i64 0, .string ⟨#[]⟩, .int .i64 0] := Whl.new (by simp)
        have ho4 := ho4.alloc (.cells #[.int .i64 z.id, .string z.fr, .string y.tt, .int .i64 z.ow, .int .i64 (mx + 1), .int .i64 0, .int .i64 0, .string ⟨#[]⟩, .int .i64 0] 39)
        refine hK.out _ _ ⟨kx0, kx1, kx2, kx3, kx4, kx5, kx6, kx7, kx8⟩ (fun hHeld => ?_)
        clear hK K
        (try simp only [Act.put, List.setIfInBounds_toArray, List.set_cons_zero, List.set_cons_succ])
        refine wpAnyH_ready (rs := [7]) (by kernel_rfl) (by simp) ?_
        refine AllReadyH.cons (o := ⟨some 113, _, _, _, _, _⟩) rfl (fun K hK => ?_) AllReadyH.nil
        refine step_append_cells rfl (.tmp 110) (.tmp 112) 31 rfl V3.heap.size 39 i0 _ 9 96 Try.underlying31 hi0 hz0' hz1 hz2 rfl (by decide) v4 i (flatZ (m.zs.take i)) rfl ho4 (w4.alloc (.cells #[.int .i64 z.id, .string z.fr, .string y.tt, .int .i64 z.ow, .int .i64 (mx + 1), .int .i64 0, .int .i64 0, .string ⟨#[]⟩, .int .i64 0] 39)).heap.size (some ⟨w4.heap.size, 0, none⟩) 1 1 (flatZ [(settled { z with tt := y.tt } (mx + 1))]) rfl (whlCells hPB rfl rfl hPB.low) (flatZ_one _) (by unfold maxLen; omega) (by omega) (by (try simp) <;> omega) ?_
        intro v8 w8 ho8 ht8 hv8
        have hs8 := ht8.size
        (try simp at hs8)
        have hb8 : Below V3.heap.size V3 w8 := hb046.trans (ht8.below (B := V3.heap.size) (by (try simp) <;> omega) (fun q hq => (ho4.lt q hq).1))
        obtain ⟨g8, c8, hv8', hg8, hg8l, hn8, hc8⟩ := own_form ho8 (by omega)
        subst hv8'
        have kx0 := bkeep hb8 p0 hNV3
        have kx1 := bkeep hb8 p1 hNV3
        have kx2 := bkeep hb8 p2 hNV3
        have kx3 := bkeep hb8 p3 hNV3
        have kx4 := bkeep hb8 p4 hNV3
        have kx5 := bkeep hb8 p5 hNV3
        have kx6 := bkeep hb8 p6 hNV3
        have kx7 := bkeep hb8 p7 hNV3
        have kx8 := bkeep hb8 p8 hNV3
        refine hK.out _ _ ⟨kx0, kx1, kx2, kx3, kx4, kx5, kx6, kx7, kx8⟩ (fun hHeld => ?_)
        clear hK K
        (try simp only [Act.put, List.setIfInBounds_toArray, List.set_cons_zero, List.set_cons_succ])
        refine wpAnyH_take (i := 8) (oi := ⟨some 15, _, _, _, _, _⟩) (v := ?v8k_89) rfl (by kernel_rfl) (by kernel_rfl) (by kernel_rfl) (fun _ _ _ h => h) (Or.inl ⟨by rfl, ?y8k_89⟩) (by assumption) ?r8k_89
        case y8k_89 => (intro w hSw; (try dsimp only at hSw); (try go_split_ands); go_simp); (try with_reducible rfl)
        case r8k_89 =>
        (try simp only [Act.put, List.setIfInBounds_toArray, List.set_cons_zero, List.set_cons_succ])
        refine wpAnyH_done (by kernel_rfl) ?_ _
        have HO8 := Lib.hid ho8
        have HB8 := Lib.hid hb8
        have HD8 := Lib.hid (HDV3.out.below hb8)
        have k2 := HD8.out.blk.cell 2
        have df := fun k => HD8.out.blk.free k
        simp only [List.getElem?_toArray, List.getElem?_cons_succ, List.getElem?_cons_zero] at k2
        clear ho8 hb8 ho4 hPB kx0 kx1 kx2 kx3 kx4 kx5 kx6 kx7 kx8 hHeld
        have hcast2 : IntKind.i64.wrap ((i : Int) + 2) = (i : Int) + 2 := by rw [IntKind.wrap_i64]; omega
        have hcast3 : IntKind.i64.wrap ((i : Int) + 1 + 1) = (i : Int) + 2 := by rw [IntKind.wrap_i64]; omega
        have hc1 : (i : Int) + 2 ≤ (m.zs.length : Int) := by omega
        have hc00 : 0 ≤ (i : Int) + 2 := by omega
        have hc2 : (i : Int) + 2 ≤ (cc : Int) := by omega
        have hc3 : (m.zs.length : Int) ≤ (cc : Int) := by omega
        have hV3w := HBV3.out.size
        have hs8w := HB8.out.size
        have hdl8 : d < w8.heap.size := by omega
        by_cases hcc : cc = i + 2
        · have hle : m.zs.length - (i + 2) = 0 := by omega
          have hdr : flatZ (m.zs.drop (i + 2)) = [] := by rw [List.drop_eq_nil_of_le (by omega)]; rfl
          have HDK : Hid (∀ ad n c, n = 0 → Cells w8 w8.heap.size (some ad) n c 9 (flatZ (m.zs.drop (i + 2)))) := Lib.hid (fun ad n c hn => by rw [hdr, hn]; exact cells_zeroZ)
          subst hcc
          clear hdr
          go_wp2_with (first
            | (at_builtin; go_loud (refine wpList_append_row rfl (.tmp 115) (.tmp 119) 31 rfl V3.heap.size 39 i0 _ 9 96 Try.underlying31 hi0 hz0' hz1 hz2 rfl (by decide) (.slice (some ⟨g8, 0, none⟩) (i + 1) c8) (i + 1) (flatZ (m.zs.take i) ++ flatZ [(settled { z with tt := y.tt } (mx + 1))]) rfl HO8.out w8.heap.size _ _ _ (flatZ (m.zs.drop (i + 2))) rfl (HDK.out _ _ _ (by omega)) (flatZ_one _) (by unfold maxLen; omega) (by omega) (by omega) ?_; intro v10 w10 ho10 hb10; have hq10 : ∃ n, n = i + 1 + (m.zs.length - (i + 2)) ∧ w10.ownsRow V3.heap.size 39 9 v10 n (flatZ (m.zs.take i) ++ flatZ [(settled { z with tt := y.tt } (mx + 1))] ++ flatZ (m.zs.drop (i + 2))) := ⟨_, (by omega), ho10⟩; clear ho10; obtain ⟨n10, hn10x, ho10⟩ := hq10; have HN10 := Lib.hid hn10x; obtain ⟨g10, c10, hv10, hg10, hg10l, hn10, hc10⟩ := own_form ho10 (by omega); clear hn10x; subst hv10; have HD10 := Lib.hid (HD8.out.keep (Touch.of_below hb10) (fun k hk hd => by have := (HD.out.lows k hk).2; omega)); have k2 := HD10.out.blk.cell 2; have df := fun k => HD10.out.blk.free k; simp only [List.getElem?_toArray, List.getElem?_cons_succ, List.getElem?_cons_zero] at k2; have HO10 := Lib.hid ho10; have HB10 := Lib.hid hb10; clear ho10 hb10))
            | fail)
          have hlen : n10 = (m.zs.take i ++ (settled { z with tt := y.tt } (mx + 1)) :: m.zs.drop (i + 2)).length := by rw [HN10.out]; simp; omega
          clear HN10
          subst hlen
          have hR10 := HO10.out
          rw [← flatZ_app, ← flatZ_app, List.append_assoc] at hR10
          have hbw : Below w.heap.size w w10 := (HBV3.out.trans (HB8.out.mono hV3w)).trans (HB10.out.mono hV3w)
          have hfin := HD10.out.stored (l := m.zs.take i ++ (settled { z with tt := y.tt } (mx + 1)) :: m.zs.drop (i + 2)) hR10 (by omega) (by omega) (fun q hq => by have := (HD.out.lows q (.inr (.inl hq))).2; omega)
          have hT := ((Touch.of_below hbw).mono'' (D' := Fz d (.slice (some ⟨gz, 0, none⟩) m.zs.length (i + 2))) (fun k h1 h2 => by omega)).set (a := ⟨d, 2, none⟩) (v := .slice (some ⟨g10, 0, none⟩) (m.zs.take i ++ (settled { z with tt := y.tt } (mx + 1)) :: m.zs.drop (i + 2)).length c10) (fun _ => .inl rfl)
          refine bodyPost_ret (v := .bool true) (by simp [results, Try.results76, go_sem]) rfl (.inl ⟨_, _, HDEED.out, rfl, hfin, hT, fun k hk => .inr (by simp [Value.ownBlock] at hk; omega)⟩)
        · have HDK := Lib.hid (dropZ (k := i + 2) HD8.out.row (by omega) (cc - (i + 2)))
          go_wp2_with (first
            | (at_builtin; go_loud (refine wpList_append_row rfl (.tmp 115) (.tmp 119) 31 rfl V3.heap.size 39 i0 _ 9 96 Try.underlying31 hi0 hz0' hz1 hz2 rfl (by decide) (.slice (some ⟨g8, 0, none⟩) (i + 1) c8) (i + 1) (flatZ (m.zs.take i) ++ flatZ [(settled { z with tt := y.tt } (mx + 1))]) rfl HO8.out w8.heap.size (some ⟨gz, (i + 2) * 9, none⟩) (m.zs.length - (i + 2)) (cc - (i + 2)) (flatZ (m.zs.drop (i + 2))) rfl HDK.out (flatZ_one _) (by unfold maxLen; omega) (by omega) (by omega) ?_; intro v10 w10 ho10 hb10; have hq10 : ∃ n, n = i + 1 + (m.zs.length - (i + 2)) ∧ w10.ownsRow V3.heap.size 39 9 v10 n (flatZ (m.zs.take i) ++ flatZ [(settled { z with tt := y.tt } (mx + 1))] ++ flatZ (m.zs.drop (i + 2))) := ⟨_, (by omega), ho10⟩; clear ho10; obtain ⟨n10, hn10x, ho10⟩ := hq10; have HN10 := Lib.hid hn10x; obtain ⟨g10, c10, hv10, hg10, hg10l, hn10, hc10⟩ := own_form ho10 (by omega); clear hn10x; subst hv10; have HD10 := Lib.hid (HD8.out.keep (Touch.of_below hb10) (fun k hk hd => by have := (HD.out.lows k hk).2; omega)); have k2 := HD10.out.blk.cell 2; have df := fun k => HD10.out.blk.free k; simp only [List.getElem?_toArray, List.getElem?_cons_succ, List.getElem?_cons_zero] at k2; have HO10 := Lib.hid ho10; have HB10 := Lib.hid hb10; clear ho10 hb10))
            | fail)
          have hlen : n10 = (m.zs.take i ++ (settled { z with tt := y.tt } (mx + 1)) :: m.zs.drop (i + 2)).length := by rw [HN10.out]; simp; omega
          clear HN10
          subst hlen
          have hR10 := HO10.out
          rw [← flatZ_app, ← flatZ_app, List.append_assoc] at hR10
          have hbw : Below w.heap.size w w10 := (HBV3.out.trans (HB8.out.mono hV3w)).trans (HB10.out.mono hV3w)
          have hfin := HD10.out.stored (l := m.zs.take i ++ (settled { z with tt := y.tt } (mx + 1)) :: m.zs.drop (i + 2)) hR10 (by omega) (by omega) (fun q hq => by have := (HD.out.lows q (.inr (.inl hq))).2; omega)
          have hT := ((Touch.of_below hbw).mono'' (D' := Fz d (.slice (some ⟨gz, 0, none⟩) m.zs.length cc)) (fun k h1 h2 => by omega)).set (a := ⟨d, 2, none⟩) (v := .slice (some ⟨g10, 0, none⟩) (m.zs.take i ++ (settled { z with tt := y.tt } (mx + 1)) :: m.zs.drop (i + 2)).length c10) (fun _ => .inl rfl)
          refine bodyPost_ret (v := .bool true) (by simp [results, Try.results76, go_sem]) rfl (.inl ⟨_, _, HDEED.out, rfl, hfin, hT, fun k hk => .inr (by simp [Value.ownBlock] at hk; omega)⟩)
      · go_simp
        have hb06 : Below V3.heap.size V3 ((V3.drew.alloc (.cells #[] 39)).alloc (.cells #[.int .i64 z.id, .string z.fr, .string y.tt, .int .i64 z.ow, .int .i64 (mx + 1), .int .i64 0, .int .i64 0, .string ⟨#[]⟩, .int .i64 0] 39)) := hb0.alloc (by (try simp) <;> omega) _
        have kx0 := bkeep hb06 p0 hNV3
        have kx1 := bkeep hb06 p1 hNV3
        have kx2 := bkeep hb06 p2 hNV3
        have kx3 := bkeep hb06 p3 hNV3
        have kx4 := bkeep hb06 p4 hNV3
        have kx5 := bkeep hb06 p5 hNV3
        have kx6 := bkeep hb06 p6 hNV3
        have kx7 := bkeep hb06 p7 hNV3
        have kx8 := bkeep hb06 p8 hNV3
        have hPB : Whl ((V3.drew.alloc (.cells #[] 39)).alloc (.cells #[.int .i64 z.id, .string z.fr, .string y.tt, .int .i64 z.ow, .int .i64 (mx + 1), .int .i64 0, .int .i64 0, .string ⟨#[]⟩, .int .i64 0] 39)) (V3.heap.size + 1) 39 #[.int .i64 z.id, .string z.fr, .string y.tt, .int .i64 z.ow, .int .i64 (mx + 1), .int .i64 0, .int .i64 0, .string ⟨#[]⟩, .int .i64 0] := Whl.new (by simp)
        have he0 := he0.alloc (.cells #[.int .i64 z.id, .string z.fr, .string y.tt, .int .i64 z.ow, .int .i64 (mx + 1), .int .i64 0, .int .i64 0, .string ⟨#[]⟩, .int .i64 0] 39)
        refine hK.out _ _ ⟨kx0, kx1, kx2, kx3, kx4, kx5, kx6, kx7, kx8⟩ (fun hHeld => ?_)
        clear hK K
        (try simp only [Act.put, List.setIfInBounds_toArray, List.set_cons_zero, List.set_cons_succ])
        refine wpAnyH_ready (rs := [4]) (by kernel_rfl) (by simp) ?_
        refine AllReadyH.cons (o := ⟨some 110, _, _, _, _, _⟩) rfl (fun K hK => ?_) AllReadyH.nil
        refine step_append_cells rfl (.tmp 106) (.tmp 109) 31 rfl V3.heap.size 39 i0 _ 9 96 Try.underlying31 hi0 hz0' hz1 hz2 rfl (by decide) (.slice (some ⟨V3.heap.size, 0, none⟩) 0 0) 0 [] rfl he0 V3.heap.size (some ⟨gz, 0, none⟩) i cc (flatZ (m.zs.take i)) rfl (cells_keep HTK.out hb06 (Nat.le_refl _)) (flatZ_one _) (by unfold maxLen; omega) (by omega) (by (try simp) <;> omega) ?_
        intro v4 w4 ho4 ht4 hv4
        rw [Nat.zero_add, List.nil_append] at ho4
        have hs4 := ht4.size
        (try simp at hs4)
        have hb064 : Below V3.heap.size V3 w4 := hb06.trans (ht4.below (B := V3.heap.size) (by (try simp) <;> omega) (fun q hq => by simp [Value.ownBlock] at hq; omega))
        have kx0 := bkeep hb064 p0 hNV3
        have kx1 := bkeep hb064 p1 hNV3
        have kx2 := bkeep hb064 p2 hNV3
        have kx3 := bkeep hb064 p3 hNV3
        have kx4 := bkeep hb064 p4 hNV3
        have kx5 := bkeep hb064 p5 hNV3
        have kx6 := bkeep hb064 p6 hNV3
        have kx7 := bkeep hb064 p7 hNV3
        have kx8 := bkeep hb064 p8 hNV3
        have hPB := hPB.tou'' ht4 (fun e => by simp [Value.ownBlock] at e <;> omega)
        refine hK.out _ _ ⟨kx0, kx1, kx2, kx3, kx4, kx5, kx6, kx7, kx8⟩ (fun hHeld => ?_)
        clear hK K
        (try simp only [Act.put, List.setIfInBounds_toArray, List.set_cons_zero, List.set_cons_succ])
        refine wpAnyH_ready (rs := [7]) (by kernel_rfl) (by simp) ?_
        refine AllReadyH.cons (o := ⟨some 113, _, _, _, _, _⟩) rfl (fun K hK => ?_) AllReadyH.nil
        refine step_append_cells rfl (.tmp 110) (.tmp 112) 31 rfl V3.heap.size 39 i0 _ 9 96 Try.underlying31 hi0 hz0' hz1 hz2 rfl (by decide) v4 i (flatZ (m.zs.take i)) rfl ho4 w4.heap.size (some ⟨(V3.heap.size + 1), 0, none⟩) 1 1 (flatZ [(settled { z with tt := y.tt } (mx + 1))]) rfl (whlCells hPB rfl rfl hPB.low) (flatZ_one _) (by unfold maxLen; omega) (by omega) (by (try simp) <;> omega) ?_
        intro v8 w8 ho8 ht8 hv8
        have hs8 := ht8.size
        (try simp at hs8)
        have hb8 : Below V3.heap.size V3 w8 := hb064.trans (ht8.below (B := V3.heap.size) (by (try simp) <;> omega) (fun q hq => (ho4.lt q hq).1))
        obtain ⟨g8, c8, hv8', hg8, hg8l, hn8, hc8⟩ := own_form ho8 (by omega)
        subst hv8'
        have kx0 := bkeep hb8 p0 hNV3
        have kx1 := bkeep hb8 p1 hNV3
        have kx2 := bkeep hb8 p2 hNV3
        have kx3 := bkeep hb8 p3 hNV3
        have kx4 := bkeep hb8 p4 hNV3
        have kx5 := bkeep hb8 p5 hNV3
        have kx6 := bkeep hb8 p6 hNV3
        have kx7 := bkeep hb8 p7 hNV3
        have kx8 := bkeep hb8 p8 hNV3
        refine hK.out _ _ ⟨kx0, kx1, kx2, kx3, kx4, kx5, kx6, kx7, kx8⟩ (fun hHeld => ?_)
        clear hK K
        (try simp only [Act.put, List.setIfInBounds_toArray, List.set_cons_zero, List.set_cons_succ])
        refine wpAnyH_take (i := 8) (oi := ⟨some 15, _, _, _, _, _⟩) (v := ?v8k_198) rfl (by kernel_rfl) (by kernel_rfl) (by kernel_rfl) (fun _ _ _ h => h) (Or.inl ⟨by rfl, ?y8k_198⟩) (by assumption) ?r8k_198
        case y8k_198 => (intro w hSw; (try dsimp only at hSw); (try go_split_ands); go_simp); (try with_reducible rfl)
        case r8k_198 =>
        (try simp only [Act.put, List.setIfInBounds_toArray, List.set_cons_zero, List.set_cons_succ])
        refine wpAnyH_done (by kernel_rfl) ?_ _
        have HO8 := Lib.hid ho8
        have HB8 := Lib.hid hb8
        have HD8 := Lib.hid (HDV3.out.below hb8)
        have k2 := HD8.out.blk.cell 2
        have df := fun k => HD8.out.blk.free k
        simp only [List.getElem?_toArray, List.getElem?_cons_succ, List.getElem?_cons_zero] at k2
        clear ho8 hb8 ho4 hPB kx0 kx1 kx2 kx3 kx4 kx5 kx6 kx7 kx8 hHeld
        have hcast2 : IntKind.i64.wrap ((i : Int) + 2) = (i : Int) + 2 := by rw [IntKind.wrap_i64]; omega
        have hcast3 : IntKind.i64.wrap ((i : Int) + 1 + 1) = (i : Int) + 2 := by rw [IntKind.wrap_i64]; omega
        have hc1 : (i : Int) + 2 ≤ (m.zs.length : Int) := by omega
        have hc00 : 0 ≤ (i : Int) + 2 := by omega
        have hc2 : (i : Int) + 2 ≤ (cc : Int) := by omega
        have hc3 : (m.zs.length : Int) ≤ (cc : Int) := by omega
        have hV3w := HBV3.out.size
        have hs8w := HB8.out.size
        have hdl8 : d < w8.heap.size := by omega
        by_cases hcc : cc = i + 2
        · have hle : m.zs.length - (i + 2) = 0 := by omega
          have hdr : flatZ (m.zs.drop (i + 2)) = [] := by rw [List.drop_eq_nil_of_le (by omega)]; rfl
          have HDK : Hid (∀ ad n c, n = 0 → Cells w8 w8.heap.size (some ad) n c 9 (flatZ (m.zs.drop (i + 2)))) := Lib.hid (fun ad n c hn => by rw [hdr, hn]; exact cells_zeroZ)
          subst hcc
          clear hdr
          go_wp2_with (first
            | (at_builtin; go_loud (refine wpList_append_row rfl (.tmp 115) (.tmp 119) 31 rfl V3.heap.size 39 i0 _ 9 96 Try.underlying31 hi0 hz0' hz1 hz2 rfl (by decide) (.slice (some ⟨g8, 0, none⟩) (i + 1) c8) (i + 1) (flatZ (m.zs.take i) ++ flatZ [(settled { z with tt := y.tt } (mx + 1))]) rfl HO8.out w8.heap.size _ _ _ (flatZ (m.zs.drop (i + 2))) rfl (HDK.out _ _ _ (by omega)) (flatZ_one _) (by unfold maxLen; omega) (by omega) (by omega) ?_; intro v10 w10 ho10 hb10; have hq10 : ∃ n, n = i + 1 + (m.zs.length - (i + 2)) ∧ w10.ownsRow V3.heap.size 39 9 v10 n (flatZ (m.zs.take i) ++ flatZ [(settled { z with tt := y.tt } (mx + 1))] ++ flatZ (m.zs.drop (i + 2))) := ⟨_, (by omega), ho10⟩; clear ho10; obtain ⟨n10, hn10x, ho10⟩ := hq10; have HN10 := Lib.hid hn10x; obtain ⟨g10, c10, hv10, hg10, hg10l, hn10, hc10⟩ := own_form ho10 (by omega); clear hn10x; subst hv10; have HD10 := Lib.hid (HD8.out.keep (Touch.of_below hb10) (fun k hk hd => by have := (HD.out.lows k hk).2; omega)); have k2 := HD10.out.blk.cell 2; have df := fun k => HD10.out.blk.free k; simp only [List.getElem?_toArray, List.getElem?_cons_succ, List.getElem?_cons_zero] at k2; have HO10 := Lib.hid ho10; have HB10 := Lib.hid hb10; clear ho10 hb10))
            | fail)
          have hlen : n10 = (m.zs.take i ++ (settled { z with tt := y.tt } (mx + 1)) :: m.zs.drop (i + 2)).length := by rw [HN10.out]; simp; omega
          clear HN10
          subst hlen
          have hR10 := HO10.out
          rw [← flatZ_app, ← flatZ_app, List.append_assoc] at hR10
          have hbw : Below w.heap.size w w10 := (HBV3.out.trans (HB8.out.mono hV3w)).trans (HB10.out.mono hV3w)
          have hfin := HD10.out.stored (l := m.zs.take i ++ (settled { z with tt := y.tt } (mx + 1)) :: m.zs.drop (i + 2)) hR10 (by omega) (by omega) (fun q hq => by have := (HD.out.lows q (.inr (.inl hq))).2; omega)
          have hT := ((Touch.of_below hbw).mono'' (D' := Fz d (.slice (some ⟨gz, 0, none⟩) m.zs.length (i + 2))) (fun k h1 h2 => by omega)).set (a := ⟨d, 2, none⟩) (v := .slice (some ⟨g10, 0, none⟩) (m.zs.take i ++ (settled { z with tt := y.tt } (mx + 1)) :: m.zs.drop (i + 2)).length c10) (fun _ => .inl rfl)
          refine bodyPost_ret (v := .bool true) (by simp [results, Try.results76, go_sem]) rfl (.inl ⟨_, _, HDEED.out, rfl, hfin, hT, fun k hk => .inr (by simp [Value.ownBlock] at hk; omega)⟩)
        · have HDK := Lib.hid (dropZ (k := i + 2) HD8.out.row (by omega) (cc - (i + 2)))
          go_wp2_with (first
            | (at_builtin; go_loud (refine wpList_append_row rfl (.tmp 115) (.tmp 119) 31 rfl V3.heap.size 39 i0 _ 9 96 Try.underlying31 hi0 hz0' hz1 hz2 rfl (by decide) (.slice (some ⟨g8, 0, none⟩) (i + 1) c8) (i + 1) (flatZ (m.zs.take i) ++ flatZ [(settled { z with tt := y.tt } (mx + 1))]) rfl HO8.out w8.heap.size (some ⟨gz, (i + 2) * 9, none⟩) (m.zs.length - (i + 2)) (cc - (i + 2)) (flatZ (m.zs.drop (i + 2))) rfl HDK.out (flatZ_one _) (by unfold maxLen; omega) (by omega) (by omega) ?_; intro v10 w10 ho10 hb10; have hq10 : ∃ n, n = i + 1 + (m.zs.length - (i + 2)) ∧ w10.ownsRow V3.heap.size 39 9 v10 n (flatZ (m.zs.take i) ++ flatZ [(settled { z with tt := y.tt } (mx + 1))] ++ flatZ (m.zs.drop (i + 2))) := ⟨_, (by omega), ho10⟩; clear ho10; obtain ⟨n10, hn10x, ho10⟩ := hq10; have HN10 := Lib.hid hn10x; obtain ⟨g10, c10, hv10, hg10, hg10l, hn10, hc10⟩ := own_form ho10 (by omega); clear hn10x; subst hv10; have HD10 := Lib.hid (HD8.out.keep (Touch.of_below hb10) (fun k hk hd => by have := (HD.out.lows k hk).2; omega)); have k2 := HD10.out.blk.cell 2; have df := fun k => HD10.out.blk.free k; simp only [List.getElem?_toArray, List.getElem?_cons_succ, List.getElem?_cons_zero] at k2; have HO10 := Lib.hid ho10; have HB10 := Lib.hid hb10; clear ho10 hb10))
            | fail)
          have hlen : n10 = (m.zs.take i ++ (settled { z with tt := y.tt } (mx + 1)) :: m.zs.drop (i + 2)).length := by rw [HN10.out]; simp; omega
          clear HN10
          subst hlen
          have hR10 := HO10.out
          rw [← flatZ_app, ← flatZ_app, List.append_assoc] at hR10
          have hbw : Below w.heap.size w w10 := (HBV3.out.trans (HB8.out.mono hV3w)).trans (HB10.out.mono hV3w)
          have hfin := HD10.out.stored (l := m.zs.take i ++ (settled { z with tt := y.tt } (mx + 1)) :: m.zs.drop (i + 2)) hR10 (by omega) (by omega) (fun q hq => by have := (HD.out.lows q (.inr (.inl hq))).2; omega)
          have hT := ((Touch.of_below hbw).mono'' (D' := Fz d (.slice (some ⟨gz, 0, none⟩) m.zs.length cc)) (fun k h1 h2 => by omega)).set (a := ⟨d, 2, none⟩) (v := .slice (some ⟨g10, 0, none⟩) (m.zs.take i ++ (settled { z with tt := y.tt } (mx + 1)) :: m.zs.drop (i + 2)).length c10) (fun _ => .inl rfl)
          refine bodyPost_ret (v := .bool true) (by simp [results, Try.results76, go_sem]) rfl (.inl ⟨_, _, HDEED.out, rfl, hfin, hT, fun k hk => .inr (by simp [Value.ownBlock] at hk; omega)⟩)
    · go_simp
      have hb6 : Below V3.heap.size V3 (V3.drew.alloc (.cells #[.int .i64 z.id, .string z.fr, .string y.tt, .int .i64 z.ow, .int .i64 (mx + 1), .int .i64 0, .int .i64 0, .string ⟨#[]⟩, .int .i64 0] 39)) := hb.alloc (by (try simp) <;> omega) _
      have kx0 := bkeep hb6 p0 hNV3
      have kx1 := bkeep hb6 p1 hNV3
      have kx2 := bkeep hb6 p2 hNV3
      have kx3 := bkeep hb6 p3 hNV3
      have kx4 := bkeep hb6 p4 hNV3
      have kx5 := bkeep hb6 p5 hNV3
      have kx6 := bkeep hb6 p6 hNV3
      have kx7 := bkeep hb6 p7 hNV3
      have kx8 := bkeep hb6 p8 hNV3
      have hPB : Whl (V3.drew.alloc (.cells #[.int .i64 z.id, .string z.fr, .string y.tt, .int .i64 z.ow, .int .i64 (mx + 1), .int .i64 0, .int .i64 0, .string ⟨#[]⟩, .int .i64 0] 39)) V3.heap.size 39 #[.int .i64 z.id, .string z.fr, .string y.tt, .int .i64 z.ow, .int .i64 (mx + 1), .int .i64 0, .int .i64 0, .string ⟨#[]⟩, .int .i64 0] := Whl.new (by simp)
      refine hK.out _ _ ⟨kx0, kx1, kx2, kx3, kx4, kx5, kx6, kx7, kx8⟩ (fun hHeld => ?_)
      clear hK K
      (try simp only [Act.put, List.setIfInBounds_toArray, List.set_cons_zero, List.set_cons_succ])
      refine wpAnyH_ready (rs := [0]) (by kernel_rfl) (by simp) ?_
      refine AllReadyH.cons (o := ⟨some 106, _, _, _, _, _⟩) rfl (fun K hK => ?_) AllReadyH.nil
      go_simp
      have hb60 : Below V3.heap.size V3 ((V3.drew.alloc (.cells #[.int .i64 z.id, .string z.fr, .string y.tt, .int .i64 z.ow, .int .i64 (mx + 1), .int .i64 0, .int .i64 0, .string ⟨#[]⟩, .int .i64 0] 39)).alloc (.cells #[] 39)) := hb6.alloc (by (try simp) <;> omega) _
      have kx0 := bkeep hb60 p0 hNV3
      have kx1 := bkeep hb60 p1 hNV3
      have kx2 := bkeep hb60 p2 hNV3
      have kx3 := bkeep hb60 p3 hNV3
      have kx4 := bkeep hb60 p4 hNV3
      have kx5 := bkeep hb60 p5 hNV3
      have kx6 := bkeep hb60 p6 hNV3
      have kx7 := bkeep hb60 p7 hNV3
      have kx8 := bkeep hb60 p8 hNV3
      have he0 : ((V3.drew.alloc (.cells #[.int .i64 z.id, .string z.fr, .string y.tt, .int .i64 z.ow, .int .i64 (mx + 1), .int .i64 0, .int .i64 0, .string ⟨#[]⟩, .int .i64 0] 39)).alloc (.cells #[] 39)).ownsRow V3.heap.size 39 9 (.slice (some ⟨(V3.heap.size + 1), 0, none⟩) 0 0) 0 [] := owns_lit0 (by simp) (by (try simp) <;> omega)
      have hPB := hPB.alloc (.cells #[] 39)
      refine hK.out _ _ ⟨kx0, kx1, kx2, kx3, kx4, kx5, kx6, kx7, kx8⟩ (fun hHeld => ?_)
      clear hK K
      (try simp only [Act.put, List.setIfInBounds_toArray, List.set_cons_zero, List.set_cons_succ])
      refine wpAnyH_ready (rs := [4]) (by kernel_rfl) (by simp) ?_
      refine AllReadyH.cons (o := ⟨some 110, _, _, _, _, _⟩) rfl (fun K hK => ?_) AllReadyH.nil
      refine step_append_cells rfl (.tmp 106) (.tmp 109) 31 rfl V3.heap.size 39 i0 _ 9 96 Try.underlying31 hi0 hz0' hz1 hz2 rfl (by decide) (.slice (some ⟨(V3.heap.size + 1), 0, none⟩) 0 0) 0 [] rfl he0 V3.heap.size (some ⟨gz, 0, none⟩) i cc (flatZ (m.zs.take i)) rfl (cells_keep HTK.out hb60 (Nat.le_refl _)) (flatZ_one _) (by unfold maxLen; omega) (by omega) (by (try simp) <;> omega) ?_
      intro v4 w4 ho4 ht4 hv4
      rw [Nat.zero_add, List.nil_append] at ho4
      have hs4 := ht4.size
      (try simp at hs4)
      have hb604 : Below V3.heap.size V3 w4 := hb60.trans (ht4.below (B := V3.heap.size) (by (try simp) <;> omega) (fun q hq => by simp [Value.ownBlock] at hq; omega))
      have kx0 := bkeep hb604 p0 hNV3
      have kx1 := bkeep hb604 p1 hNV3
      have kx2 := bkeep hb604 p2 hNV3
      have kx3 := bkeep hb604 p3 hNV3
      have kx4 := bkeep hb604 p4 hNV3
      have kx5 := bkeep hb604 p5 hNV3
      have kx6 := bkeep hb604 p6 hNV3
      have kx7 := bkeep hb604 p7 hNV3
      have kx8 := bkeep hb604 p8 hNV3
      have hPB := hPB.tou'' ht4 (fun e => by simp [Value.ownBlock] at e <;> omega)
      refine hK.out _ _ ⟨kx0, kx1, kx2, kx3, kx4, kx5, kx6, kx7, kx8⟩ (fun hHeld => ?_)
      clear hK K
      (try simp only [Act.put, List.setIfInBounds_toArray, List.set_cons_zero, List.set_cons_succ])
      refine wpAnyH_ready (rs := [7]) (by kernel_rfl) (by simp) ?_
      refine AllReadyH.cons (o := ⟨some 113, _, _, _, _, _⟩) rfl (fun K hK => ?_) AllReadyH.nil
      refine step_append_cells rfl (.tmp 110) (.tmp 112) 31 rfl V3.heap.size 39 i0 _ 9 96 Try.underlying31 hi0 hz0' hz1 hz2 rfl (by decide) v4 i (flatZ (m.zs.take i)) rfl ho4 w4.heap.size (some ⟨V3.heap.size, 0, none⟩) 1 1 (flatZ [(settled { z with tt := y.tt } (mx + 1))]) rfl (whlCells hPB rfl rfl hPB.low) (flatZ_one _) (by unfold maxLen; omega) (by omega) (by (try simp) <;> omega) ?_
      intro v8 w8 ho8 ht8 hv8
      have hs8 := ht8.size
      (try simp at hs8)
      have hb8 : Below V3.heap.size V3 w8 := hb604.trans (ht8.below (B := V3.heap.size) (by (try simp) <;> omega) (fun q hq => (ho4.lt q hq).1))
      obtain ⟨g8, c8, hv8', hg8, hg8l, hn8, hc8⟩ := own_form ho8 (by omega)
      subst hv8'
      have kx0 := bkeep hb8 p0 hNV3
      have kx1 := bkeep hb8 p1 hNV3
      have kx2 := bkeep hb8 p2 hNV3
      have kx3 := bkeep hb8 p3 hNV3
      have kx4 := bkeep hb8 p4 hNV3
      have kx5 := bkeep hb8 p5 hNV3
      have kx6 := bkeep hb8 p6 hNV3
      have kx7 := bkeep hb8 p7 hNV3
      have kx8 := bkeep hb8 p8 hNV3
      refine hK.out _ _ ⟨kx0, kx1, kx2, kx3, kx4, kx5, kx6, kx7, kx8⟩ (fun hHeld => ?_)
      clear hK K
      (try simp only [Act.put, List.setIfInBounds_toArray, List.set_cons_zero, List.set_cons_succ])
      refine wpAnyH_take (i := 8) (oi := ⟨some 15, _, _, _, _, _⟩) (v := ?v8k_324) rfl (by kernel_rfl) (by kernel_rfl) (by kernel_rfl) (fun _ _ _ h => h) (Or.inl ⟨by rfl, ?y8k_324⟩) (by assumption) ?r8k_324
      case y8k_324 => (intro w hSw; (try dsimp only at hSw); (try go_split_ands); go_simp); (try with_reducible rfl)
      case r8k_324 =>
      (try simp only [Act.put, List.setIfInBounds_toArray, List.set_cons_zero, List.set_cons_succ])
      refine wpAnyH_done (by kernel_rfl) ?_ _
      have HO8 := Lib.hid ho8
      have HB8 := Lib.hid hb8
      have HD8 := Lib.hid (HDV3.out.below hb8)
      have k2 := HD8.out.blk.cell 2
      have df := fun k => HD8.out.blk.free k
      simp only [List.getElem?_toArray, List.getElem?_cons_succ, List.getElem?_cons_zero] at k2
      clear ho8 hb8 ho4 hPB kx0 kx1 kx2 kx3 kx4 kx5 kx6 kx7 kx8 hHeld
      have hcast2 : IntKind.i64.wrap ((i : Int) + 2) = (i : Int) + 2 := by rw [IntKind.wrap_i64]; omega
      have hcast3 : IntKind.i64.wrap ((i : Int) + 1 + 1) = (i : Int) + 2 := by rw [IntKind.wrap_i64]; omega
      have hc1 : (i : Int) + 2 ≤ (m.zs.length : Int) := by omega
      have hc00 : 0 ≤ (i : Int) + 2 := by omega
      have hc2 : (i : Int) + 2 ≤ (cc : Int) := by omega
      have hc3 : (m.zs.length : Int) ≤ (cc : Int) := by omega
      have hV3w := HBV3.out.size
      have hs8w := HB8.out.size
      have hdl8 : d < w8.heap.size := by omega
      by_cases hcc : cc = i + 2
      · have hle : m.zs.length - (i + 2) = 0 := by omega
        have hdr : flatZ (m.zs.drop (i + 2)) = [] := by rw [List.drop_eq_nil_of_le (by omega)]; rfl
        have HDK : Hid (∀ ad n c, n = 0 → Cells w8 w8.heap.size (some ad) n c 9 (flatZ (m.zs.drop (i + 2)))) := Lib.hid (fun ad n c hn => by rw [hdr, hn]; exact cells_zeroZ)
        subst hcc
        clear hdr
        go_wp2_with (first
          | (at_builtin; go_loud (refine wpList_append_row rfl (.tmp 115) (.tmp 119) 31 rfl V3.heap.size 39 i0 _ 9 96 Try.underlying31 hi0 hz0' hz1 hz2 rfl (by decide) (.slice (some ⟨g8, 0, none⟩) (i + 1) c8) (i + 1) (flatZ (m.zs.take i) ++ flatZ [(settled { z with tt := y.tt } (mx + 1))]) rfl HO8.out w8.heap.size _ _ _ (flatZ (m.zs.drop (i + 2))) rfl (HDK.out _ _ _ (by omega)) (flatZ_one _) (by unfold maxLen; omega) (by omega) (by omega) ?_; intro v10 w10 ho10 hb10; have hq10 : ∃ n, n = i + 1 + (m.zs.length - (i + 2)) ∧ w10.ownsRow V3.heap.size 39 9 v10 n (flatZ (m.zs.take i) ++ flatZ [(settled { z with tt := y.tt } (mx + 1))] ++ flatZ (m.zs.drop (i + 2))) := ⟨_, (by omega), ho10⟩; clear ho10; obtain ⟨n10, hn10x, ho10⟩ := hq10; have HN10 := Lib.hid hn10x; obtain ⟨g10, c10, hv10, hg10, hg10l, hn10, hc10⟩ := own_form ho10 (by omega); clear hn10x; subst hv10; have HD10 := Lib.hid (HD8.out.keep (Touch.of_below hb10) (fun k hk hd => by have := (HD.out.lows k hk).2; omega)); have k2 := HD10.out.blk.cell 2; have df := fun k => HD10.out.blk.free k; simp only [List.getElem?_toArray, List.getElem?_cons_succ, List.getElem?_cons_zero] at k2; have HO10 := Lib.hid ho10; have HB10 := Lib.hid hb10; clear ho10 hb10))
          | fail)
        have hlen : n10 = (m.zs.take i ++ (settled { z with tt := y.tt } (mx + 1)) :: m.zs.drop (i + 2)).length := by rw [HN10.out]; simp; omega
        clear HN10
        subst hlen
        have hR10 := HO10.out
        rw [← flatZ_app, ← flatZ_app, List.append_assoc] at hR10
        have hbw : Below w.heap.size w w10 := (HBV3.out.trans (HB8.out.mono hV3w)).trans (HB10.out.mono hV3w)
        have hfin := HD10.out.stored (l := m.zs.take i ++ (settled { z with tt := y.tt } (mx + 1)) :: m.zs.drop (i + 2)) hR10 (by omega) (by omega) (fun q hq => by have := (HD.out.lows q (.inr (.inl hq))).2; omega)
        have hT := ((Touch.of_below hbw).mono'' (D' := Fz d (.slice (some ⟨gz, 0, none⟩) m.zs.length (i + 2))) (fun k h1 h2 => by omega)).set (a := ⟨d, 2, none⟩) (v := .slice (some ⟨g10, 0, none⟩) (m.zs.take i ++ (settled { z with tt := y.tt } (mx + 1)) :: m.zs.drop (i + 2)).length c10) (fun _ => .inl rfl)
        refine bodyPost_ret (v := .bool true) (by simp [results, Try.results76, go_sem]) rfl (.inl ⟨_, _, HDEED.out, rfl, hfin, hT, fun k hk => .inr (by simp [Value.ownBlock] at hk; omega)⟩)
      · have HDK := Lib.hid (dropZ (k := i + 2) HD8.out.row (by omega) (cc - (i + 2)))
        go_wp2_with (first
          | (at_builtin; go_loud (refine wpList_append_row rfl (.tmp 115) (.tmp 119) 31 rfl V3.heap.size 39 i0 _ 9 96 Try.underlying31 hi0 hz0' hz1 hz2 rfl (by decide) (.slice (some ⟨g8, 0, none⟩) (i + 1) c8) (i + 1) (flatZ (m.zs.take i) ++ flatZ [(settled { z with tt := y.tt } (mx + 1))]) rfl HO8.out w8.heap.size (some ⟨gz, (i + 2) * 9, none⟩) (m.zs.length - (i + 2)) (cc - (i + 2)) (flatZ (m.zs.drop (i + 2))) rfl HDK.out (flatZ_one _) (by unfold maxLen; omega) (by omega) (by omega) ?_; intro v10 w10 ho10 hb10; have hq10 : ∃ n, n = i + 1 + (m.zs.length - (i + 2)) ∧ w10.ownsRow V3.heap.size 39 9 v10 n (flatZ (m.zs.take i) ++ flatZ [(settled { z with tt := y.tt } (mx + 1))] ++ flatZ (m.zs.drop (i + 2))) := ⟨_, (by omega), ho10⟩; clear ho10; obtain ⟨n10, hn10x, ho10⟩ := hq10; have HN10 := Lib.hid hn10x; obtain ⟨g10, c10, hv10, hg10, hg10l, hn10, hc10⟩ := own_form ho10 (by omega); clear hn10x; subst hv10; have HD10 := Lib.hid (HD8.out.keep (Touch.of_below hb10) (fun k hk hd => by have := (HD.out.lows k hk).2; omega)); have k2 := HD10.out.blk.cell 2; have df := fun k => HD10.out.blk.free k; simp only [List.getElem?_toArray, List.getElem?_cons_succ, List.getElem?_cons_zero] at k2; have HO10 := Lib.hid ho10; have HB10 := Lib.hid hb10; clear ho10 hb10))
          | fail)
        have hlen : n10 = (m.zs.take i ++ (settled { z with tt := y.tt } (mx + 1)) :: m.zs.drop (i + 2)).length := by rw [HN10.out]; simp; omega
        clear HN10
        subst hlen
        have hR10 := HO10.out
        rw [← flatZ_app, ← flatZ_app, List.append_assoc] at hR10
        have hbw : Below w.heap.size w w10 := (HBV3.out.trans (HB8.out.mono hV3w)).trans (HB10.out.mono hV3w)
        have hfin := HD10.out.stored (l := m.zs.take i ++ (settled { z with tt := y.tt } (mx + 1)) :: m.zs.drop (i + 2)) hR10 (by omega) (by omega) (fun q hq => by have := (HD.out.lows q (.inr (.inl hq))).2; omega)
        have hT := ((Touch.of_below hbw).mono'' (D' := Fz d (.slice (some ⟨gz, 0, none⟩) m.zs.length cc)) (fun k h1 h2 => by omega)).set (a := ⟨d, 2, none⟩) (v := .slice (some ⟨g10, 0, none⟩) (m.zs.take i ++ (settled { z with tt := y.tt } (mx + 1)) :: m.zs.drop (i + 2)).length c10) (fun _ => .inl rfl)
        refine bodyPost_ret (v := .bool true) (by simp [results, Try.results76, go_sem]) rfl (.inl ⟨_, _, HDEED.out, rfl, hfin, hT, fun k hk => .inr (by simp [Value.ownBlock] at hk; omega)⟩)
end Go.Proofs.Ytbohpjinkdffhaa
