/- vault's law: alike. -/
import Derived.Test.YtdlbiobjnohfbaaGreatVb41
import Derived.Test.YtdlbiobjnohfbaaGreatVb42
namespace Go.Proofs.YtdlbiobjnohfbaaGreat
open Go.RowKit Go.ChangeMaps Go.MapKept
set_option linter.unusedVariables false
set_option linter.unusedSimpArgs false
theorem k0Vb43 {p : Prop} (h : p := by exact ⟨hbX, bkeep hbX a0 (by omega), bkeep hbX a1 (by omega), bkeep hbX a2 (by omega), bkeep hbX a3 (by omega), bkeep hbX b0 (by omega), bkeep hbX b1 (by omega), bkeep hbX b2 (by omega), bkeep hbX b3 (by omega), bkeep hbX k0 (by omega), bkeep hbX k1 (by omega), bkeep hbX k2 (by omega), bkeep hbX k3 (by omega)⟩) : p := h
theorem VtAt.keysV {w : World} {b : Nat} {p : Value} {v : Nat → Value} {l : Pm} {L : List Od} {last gone : Int} (h : VtAt w b p v l L last gone) : ∀ r ∈ rowsP l, r.1.length ≤ 16 := by
 obtain ⟨S, hv, _⟩ := h
 intro r hr
 exact (hv.ok.2 r ((rowsP_perm hv.ok.1).mem_iff.1 hr)).2.2.2
theorem VtAt.okV {w : World} {b : Nat} {p : Value} {v : Nat → Value} {l : Pm} {L : List Od} {last gone : Int} (h : VtAt w b p v l L last gone) : ∀ o ∈ L, OkO o := by
 obtain ⟨S, _, _, hk, _⟩ := h
 exact hk.ok
theorem VtAt.len32 {w : World} {b : Nat} {p : Value} {v : Nat → Value} {l : Pm} {L : List Od} {last gone : Int} (h : VtAt w b p v l L last gone) : L.length ≤ 32 := by
 obtain ⟨S, _, _, _, h5, _⟩ := h
 exact h5
set_option maxHeartbeats 8000000 in
set_option maxRecDepth 10000 in
theorem lwAlike (b : Nat) (p : Value) (v : Nat → Value) (l : Pm) (L : List Od) (lastc g : Int) (B d x : Nat) (u u2 : Value) (last nx : Int) (w : World) (hv : VtAt w b p v l L lastc g) (hr : RvH w B d x u u2 (rowsP l) L last nx) (hnx : nx = g + 1) (hlen : l.length ≤ 300) :
  Calls Tryz.prog 8 #[.pointer (some ⟨b, 0, none⟩), .pointer (some ⟨d, 0, none⟩)] w fun e w' => e = .returned (.bool true) ∧ Below w.heap.size w w' := by
 subst hnx
 obtain ⟨t0, t1, t2, t3, ff, hadd⟩ : ∃ (t0 t1 t2 t3 : Int) (f : Bool), addV (addTo (0, 0, 0, 0) (allP l L)) = .tuple #[.agg #[.int .i64 t0, .int .i64 t1, .int .i64 t2, .int .i64 t3], .bool f] := addV_form _
 have HADD := Lib.hid hadd
 have hkeys := Lib.hid hv.keysV
 have hok := Lib.hid hv.okV
 have h32 := hv.len32
 have hwho : Hid (∀ o ∈ L, o.who.size ≤ 16) := Lib.hid (fun o ho => (hok.out o ho).who.2)
 have hrl : (rowsP l).length = l.length := rowsP_len l
 obtain ⟨Ar, cr, rfl, _, _, _⟩ := own_slice hr.row
 obtain ⟨A2, c2, rfl, _, _, _⟩ := own_slice hr.bk.row
 have hdl := hr.whl.low
 have hxl := hr.bk.blk.low
 have HV := Lib.hid hv
 have HR := Lib.hid hr
 have HRL := Lib.hid hrl
 obtain ⟨R, hR⟩ : ∃ R, R = vB l L (g + 1) := ⟨_, rfl⟩
 have HRR := Lib.hid hR
 obtain ⟨T, hT⟩ : ∃ T, T = strU R := ⟨_, rfl⟩
 have HTT := Lib.hid hT
 have hl2 : (rowsP l).length ≤ 1000 := by omega
 clear hadd hv hr hrl hR hT
 go_enter Tryz.func8, Tryz.ntmps8
 go_wp2_with (first
  | (go_at_call 25; go_loud (refine (vtList b p v l L lastc g _ HV.out (by omega)).mono ?_; rintro e w1 ⟨v1, v2, rfl, h1, h2, hb1⟩; rw [← HRL.out] at h1; obtain ⟨A1, c1, rfl, _, _, _⟩ := own_slice h1; obtain ⟨A3, c3, rfl, _, _, _⟩ := own_slice h2; have HO1 := Lib.hid h1; have HO2 := Lib.hid h2; have HB1 := Lib.hid hb1; have hs1 := hb1.size; clear h1 h2 hb1))
  | (go_at_call 26; go_loud (refine (vtTotalA b p v l L lastc g _ (HV.out.below HB1.out) (by omega)).mono ?_; rintro e w2 ⟨rfl, hb2⟩; rw [HADD.out]; have HB2 := Lib.hid (HB1.out.trans (hb2.mono hs1)); have hs2 := hb2.size; have HO1 := Lib.hid (row_belowV HO1.out hb2); have HO2 := Lib.hid (row_belowV HO2.out hb2); clear hb2))
  | (go_at_call 27; go_loud (have HBa := Lib.hid (HB2.out.alloc (by omega) (.cells #[.int .i64 t0, .int .i64 t1, .int .i64 t2, .int .i64 t3] 36)); refine (refTotal B d x _ _ l L last (g + 1) _ (HR.out.below HBa.out) hok.out h32 (by omega)).mono ?_; rintro e w3 ⟨rfl, hb3⟩; rw [HADD.out]; have HB3 := Lib.hid (HBa.out.trans (hb3.mono HBa.out.size)); have hs3 := hb3.size; have P8 : Whl w3 w2.heap.size 36 #[.int .i64 t0, .int .i64 t1, .int .i64 t2, .int .i64 t3] := (Whl.new rfl : Whl (w2.alloc (.cells #[.int .i64 t0, .int .i64 t1, .int .i64 t2, .int .i64 t3] 36)) w2.heap.size 36 #[.int .i64 t0, .int .i64 t1, .int .i64 t2, .int .i64 t3]).below hb3 (by simp); have hba := ((Below.refl w2.heap.size w2).alloc (Nat.le_refl _) (.cells #[.int .i64 t0, .int .i64 t1, .int .i64 t2, .int .i64 t3] 36)).trans (hb3.mono (by simp)); have HO1 := Lib.hid (row_belowV HO1.out hba); have HO2 := Lib.hid (row_belowV HO2.out hba); clear hb3 hba HBa))
  | fail)
 obtain ⟨g3, hg3⟩ : ∃ g3, g3 = w3.heap.size := ⟨_, rfl⟩
 have P9 : Whl (w3.alloc (.cells #[.int .i64 t0, .int .i64 t1, .int .i64 t2, .int .i64 t3] 36)) w2.heap.size 36 #[.int .i64 t0, .int .i64 t1, .int .i64 t2, .int .i64 t3] := P8.alloc _
 have Q9 : Whl (w3.alloc (.cells #[.int .i64 t0, .int .i64 t1, .int .i64 t2, .int .i64 t3] 36)) g3 36 #[.int .i64 t0, .int .i64 t1, .int .i64 t2, .int .i64 t3] := by rw [hg3]; exact Whl.new rfl
 have hs9 : (w3.alloc (.cells #[.int .i64 t0, .int .i64 t1, .int .i64 t2, .int .i64 t3] 36)).heap.size = g3 + 1 := by rw [hg3]; simp
 have B9 : Below w.heap.size w (w3.alloc (.cells #[.int .i64 t0, .int .i64 t1, .int .i64 t2, .int .i64 t3] 36)) := HB3.out.alloc (by have := HB3.out.size; omega) _
 have O19 := row_belowV HO1.out ((Below.refl w3.heap.size w3).alloc (Nat.le_refl _) (.cells #[.int .i64 t0, .int .i64 t1, .int .i64 t2, .int .i64 t3] 36))
 have O29 := row_belowV HO2.out ((Below.refl w3.heap.size w3).alloc (Nat.le_refl _) (.cells #[.int .i64 t0, .int .i64 t1, .int .i64 t2, .int .i64 t3] 36))
 rw [← hg3]
 generalize (w3.alloc (.cells #[.int .i64 t0, .int .i64 t1, .int .i64 t2, .int .i64 t3] 36)) = V at *
 obtain ⟨g2, hg2⟩ : ∃ g2, g2 = w2.heap.size := ⟨_, rfl⟩
 rw [← hg2] at P9 ⊢
 have hV2 := P9.low
 have V9 := HV.out.below B9
 have R9 := HR.out.below B9
 have HV9 := Lib.hid V9
 have HR9 := Lib.hid R9
 have HO19 := Lib.hid O19
 have HO29 := Lib.hid O29
 have HB9 := Lib.hid B9
 have hsz9 := B9.size
 have a0 := P9.cell 0
 have a1 := P9.cell 1
 have a2 := P9.cell 2
 have a3 := P9.cell 3
 have b0 := Q9.cell 0
 have b1 := Q9.cell 1
 have b2 := Q9.cell 2
 have b3 := Q9.cell 3
 have k0 := R9.whl.cell 0
 have k1 := R9.whl.cell 1
 have k2 := R9.whl.cell 2
 have k3 := R9.bk.blk.cell 0
 simp only [List.getElem?_toArray, List.getElem?_cons_succ, List.getElem?_cons_zero] at a0 a1 a2 a3 b0 b1 b2 b3 k0 k1 k2 k3
 have hdV := R9.whl.low
 have hxV := R9.bk.blk.low
 clear P8 P9 Q9 B9 O19 O29 V9 R9 HO1 HO2 HV HR HB1 HB2 HB3 hs1 hs2 hs3 hg2 hg3
 have e1 := itEqV t0 t1 t2 t3
 have e2 := boEqV ff
 have e3 := stEqV T
 refine wp_region_held_drew (S := (fun W => Below V.heap.size V W ∧ W.cell? ⟨g2, 0, none⟩ = some (.int .i64 t0) ∧ W.cell? ⟨g2, 1, none⟩ = some (.int .i64 t1) ∧ W.cell? ⟨g2, 2, none⟩ = some (.int .i64 t2) ∧ W.cell? ⟨g2, 3, none⟩ = some (.int .i64 t3) ∧ W.cell? ⟨g3, 0, none⟩ = some (.int .i64 t0) ∧ W.cell? ⟨g3, 1, none⟩ = some (.int .i64 t1) ∧ W.cell? ⟨g3, 2, none⟩ = some (.int .i64 t2) ∧ W.cell? ⟨g3, 3, none⟩ = some (.int .i64 t3) ∧ W.cell? ⟨d, 0, none⟩ = some (.slice Ar (rowsP l).length cr) ∧ W.cell? ⟨d, 1, none⟩ = some (.pointer (some ⟨x, 0, none⟩)) ∧ W.cell? ⟨d, 2, none⟩ = some (.int .i64 (g + 1)) ∧ W.cell? ⟨x, 0, none⟩ = some (.slice A2 L.length c2))) (by kernel_rfl) ⟨(Below.refl _ _).drew, a0, a1, a2, a3, b0, b1, b2, b3, k0, k1, k2, k3⟩ (fun hHeld => ?_)
 refine tkY 0 (some 28) ?v0q_1 rfl ?y0q_1 ?r0q_1
 case y0q_1 => exact tY
 case r0q_1 =>
 try simp only [q1,q2,q3,q4,q5]
 refine tkY 1 (some 29) ?v1q_4 rfl ?y1q_4 ?r1q_4
 case y1q_4 => exact tY
 case r1q_4 =>
 try simp only [q1,q2,q3,q4,q5]
 refine tkY 2 (some 30) ?v2q_7 rfl ?y2q_7 ?r2q_7
 case y2q_7 => exact tY
 case r2q_7 =>
 try simp only [q1,q2,q3,q4,q5]
 refine tkY 3 (some 31) ?v3q_10 rfl ?y3q_10 ?r3q_10
 case y3q_10 => exact tY
 case r3q_10 =>
 try simp only [q1,q2,q3,q4,q5]
 refine tkY 4 (some 32) ?v4q_13 rfl ?y4q_13 ?r4q_13
 case y4q_13 => exact tY
 case r4q_13 =>
 try simp only [q1,q2,q3,q4,q5]
 refine wpAnyH_ready (rs := [5]) (by kernel_rfl) (by simp) ?_
 refine AllReadyH.cons (o := ⟨some 33, _, _, _, _, _⟩) rfl (fun K hK => ?_) AllReadyH.nil
 go_simp
 refine (lwHoldings _ _ _ _ (rowsP l) _ (own_cellsV (row_belowV HO19.out hHeld.1)) (own_cellsV (HR9.out.below hHeld.1).row) hl2).mono ?_
 rintro e w5 ⟨rfl, hb5⟩
 go_wp2_with fail
 have hbX := hHeld.1.trans (hb5.mono hHeld.1.size)
 refine hK.out _ _ k0Vb43 (fun hHeld => ?_)
 clear hK K
 try simp only [q1,q2,q3,q4,q5]
 refine tkY 6 (some 34) (.bool true) rfl ?y6q_26 ?r6q_26
 case y6q_26 => (intro w hSw; (try dsimp only at hSw); (try go_split_ands); go_simp)
 case r6q_26 =>
 try simp only [q1,q2,q3,q4,q5]
 refine tkY 7 (some 35) ?v7q_29 rfl ?y7q_29 ?r7q_29
 case y7q_29 => exact tY
 case r7q_29 =>
 try simp only [q1,q2,q3,q4,q5]
 refine tkY 8 (some 36) ?v8q_32 rfl ?y8q_32 ?r8q_32
 case y8q_32 => exact tY
 case r8q_32 =>
 try simp only [q1,q2,q3,q4,q5]
 refine tkY 9 (some 37) ?v9q_35 rfl ?y9q_35 ?r9q_35
 case y9q_35 => exact tY
 case r9q_35 =>
 try simp only [q1,q2,q3,q4,q5]
 refine tkY 10 (some 38) ?v10q_38 rfl ?y10q_38 ?r10q_38
 case y10q_38 => exact tY
 case r10q_38 =>
 try simp only [q1,q2,q3,q4,q5]
 refine tkY 11 (some 39) ?v11q_41 rfl ?y11q_41 ?r11q_41
 case y11q_41 => exact tY
 case r11q_41 =>
 try simp only [q1,q2,q3,q4,q5]
 refine tkY 12 (some 40) ?v12q_44 rfl ?y12q_44 ?r12q_44
 case y12q_44 => exact tY
 case r12q_44 =>
 try simp only [q1,q2,q3,q4,q5]
 refine tkY 13 (some 41) ?v13q_47 rfl ?y13q_47 ?r13q_47
 case y13q_47 => exact tY
 case r13q_47 =>
 try simp only [q1,q2,q3,q4,q5]
 refine tkY 14 (some 42) ?v14q_50 rfl ?y14q_50 ?r14q_50
 case y14q_50 => exact tY
 case r14q_50 =>
 try simp only [q1,q2,q3,q4,q5]
 refine wpAnyH_ready (rs := [15]) (by kernel_rfl) (by simp) ?_
 refine AllReadyH.cons (o := ⟨some 43, _, _, _, _, _⟩) rfl (fun K hK => ?_) AllReadyH.nil
 go_simp
 refine (lwOrders _ _ _ _ L _ (own_cellsV (row_belowV HO29.out hHeld.1)) (own_cellsV (HR9.out.below hHeld.1).bk.row) (by omega)).mono ?_
 rintro e w6 ⟨rfl, hb6⟩
 go_wp2_with fail
 have hbX := hHeld.1.trans (hb6.mono hHeld.1.size)
 refine hK.out _ _ k0Vb43 (fun hHeld => ?_)
 clear hK K
 try simp only [q1,q2,q3,q4,q5]
 refine tkY 16 (some 44) (.bool true) rfl ?y16q_63 ?r16q_63
 case y16q_63 => (intro w hSw; (try dsimp only at hSw); (try go_split_ands); go_simp)
 case r16q_63 =>
 try simp only [q1,q2,q3,q4,q5]
 refine tkY 17 (some 45) (.bool true) rfl ?y17q_66 ?r17q_66
 case y17q_66 => (intro w hSw; (try dsimp only at hSw); (try go_split_ands); go_simp)
 case r17q_66 =>
 try simp only [q1,q2,q3,q4,q5]
 refine tkY 18 (some 46) ?v18q_69 rfl ?y18q_69 ?r18q_69
 case y18q_69 => exact tY
 case r18q_69 =>
 try simp only [q1,q2,q3,q4,q5]
 refine tkY 19 (some 47) ?v19q_72 rfl ?y19q_72 ?r19q_72
 case y19q_72 => exact tY
 case r19q_72 =>
 try simp only [q1,q2,q3,q4,q5]
 refine tkY 20 (some 48) ?v20q_75 rfl ?y20q_75 ?r20q_75
 case y20q_75 => exact tY
 case r20q_75 =>
 try simp only [q1,q2,q3,q4,q5]
 refine tkY 21 (some 49) ?v21q_78 rfl ?y21q_78 ?r21q_78
 case y21q_78 => exact tY
 case r21q_78 =>
 try simp only [q1,q2,q3,q4,q5]
 refine tkY 22 (some 50) ?v22q_81 rfl ?y22q_81 ?r22q_81
 case y22q_81 => exact tY
 case r22q_81 =>
 try simp only [q1,q2,q3,q4,q5]
 refine tkY 23 (some 51) (.bool true) rfl ?y23q_84 ?r23q_84
 case y23q_84 => (intro w hSw; (try dsimp only at hSw); (try go_split_ands); go_simp)
 case r23q_84 =>
 try simp only [q1,q2,q3,q4,q5]
 refine tkY 24 (some 52) (.bool true) rfl ?y24q_87 ?r24q_87
 case y24q_87 => (intro w hSw; (try dsimp only at hSw); (try go_split_ands); go_simp)
 case r24q_87 =>
 try simp only [q1,q2,q3,q4,q5]
 refine tkY 25 (some 53) (.bool true) rfl ?y25q_90 ?r25q_90
 case y25q_90 => (intro w hSw; (try dsimp only at hSw); (try go_split_ands); go_simp)
 case r25q_90 =>
 try simp only [q1,q2,q3,q4,q5]
 refine tkY 26 (some 54) ?v26q_93 rfl ?y26q_93 ?r26q_93
 case y26q_93 => exact tY
 case r26q_93 =>
 try simp only [q1,q2,q3,q4,q5]
 refine tkY 27 (some 55) ?v27q_96 rfl ?y27q_96 ?r27q_96
 case y27q_96 => exact tY
 case r27q_96 =>
 try simp only [q1,q2,q3,q4,q5]
 refine tkY 28 (some 56) (.bool true) rfl ?y28q_99 ?r28q_99
 case y28q_99 => (intro w hSw; (try dsimp only at hSw); (try go_split_ands); go_simp)
 case r28q_99 =>
 try simp only [q1,q2,q3,q4,q5]
 refine tkY 29 (some 57) (.bool true) rfl ?y29q_102 ?r29q_102
 case y29q_102 => (intro w hSw; (try dsimp only at hSw); (try go_split_ands); go_simp)
 case r29q_102 =>
 try simp only [q1,q2,q3,q4,q5]
 refine tkY 30 (some 58) (.bool true) rfl ?y30q_105 ?r30q_105
 case y30q_105 => (intro w hSw; (try dsimp only at hSw); (try go_split_ands); go_simp)
 case r30q_105 =>
 try simp only [q1,q2,q3,q4,q5]
 refine tkY 31 (some 59) ?v31q_108 rfl ?y31q_108 ?r31q_108
 case y31q_108 => exact tY
 case r31q_108 =>
 try simp only [q1,q2,q3,q4,q5]
 refine tkY 32 (some 60) ?v32q_111 rfl ?y32q_111 ?r32q_111
 case y32q_111 => exact tY
 case r32q_111 =>
 try simp only [q1,q2,q3,q4,q5]
 refine tkY 33 (some 61) (.bool true) rfl ?y33q_114 ?r33q_114
 case y33q_114 => (intro w hSw; (try dsimp only at hSw); (try go_split_ands); go_simp)
 case r33q_114 =>
 try simp only [q1,q2,q3,q4,q5]
 refine tkY 34 (some 62) (.bool true) rfl ?y34q_117 ?r34q_117
 case y34q_117 => (intro w hSw; (try dsimp only at hSw); (try go_split_ands); go_simp)
 case r34q_117 =>
 try simp only [q1,q2,q3,q4,q5]
 refine tkY 35 (some 63) (.bool true) rfl ?y35q_120 ?r35q_120
 case y35q_120 => (intro w hSw; (try dsimp only at hSw); (try go_split_ands); go_simp)
 case r35q_120 =>
 try simp only [q1,q2,q3,q4,q5]
 refine tkY 36 (some 64) ?v36q_123 rfl ?y36q_123 ?r36q_123
 case y36q_123 => exact tY
 case r36q_123 =>
 try simp only [q1,q2,q3,q4,q5]
 refine tkY 39 (some 67) ?v39q_126 rfl ?y39q_126 ?r39q_126
 case y39q_126 => exact tY
 case r39q_126 =>
 try simp only [q1,q2,q3,q4,q5]
 refine wpAnyH_ready (rs := [37]) (by kernel_rfl) (by simp) ?_
 refine AllReadyH.cons (o := ⟨some 65, _, _, _, _, _⟩) rfl (fun K hK => ?_) AllReadyH.nil
 go_simp
 refine (vtEncode b p v l L lastc g _ (HV9.out.below hHeld.1) hlen).mono ?_
 rintro e w7 ⟨v7, rfl, hown7, hb7⟩
 rw [← HRR.out] at hown7
 go_wp2_with fail
 have hbX := hHeld.1.trans (hb7.mono hHeld.1.size)
 refine hK.out _ _ k0Vb43 (fun hHeld => ?_)
 clear hK K
 try simp only [q1,q2,q3,q4,q5]
 refine wpAnyH_ready (rs := [38, 40]) (by kernel_rfl) (by simp) ?_
 refine AllReadyH.cons (o := ⟨some 66, _, _, _, _, _⟩) rfl (fun K hK => ?_) (AllReadyH.cons (o := ⟨some 68, _, _, _, _, _⟩) rfl (fun K hK => ?_) AllReadyH.nil)
 ·
  have cv := conv_ownV hown7
  rw [← HTT.out] at cv
  go_simp
  have hbX := hHeld.1
  refine hK.out _ _ k0Vb43 (fun hHeld => ?_)
  clear hK K
  try simp only [q1,q2,q3,q4,q5]
  refine wpAnyH_ready (rs := [40]) (by kernel_rfl) (by simp) ?_
  refine AllReadyH.cons (o := ⟨some 68, _, _, _, _, _⟩) rfl (fun K hK => ?_) AllReadyH.nil
  go_simp
  refine (refVEncode B d x _ _ l L last (g + 1) _ (HR9.out.below hHeld.1) hkeys.out hwho.out h32 hlen).mono ?_
  rintro e w8 ⟨v8, rfl, hown8, hb8⟩
  rw [← HRR.out] at hown8
  go_wp2_with fail
  have hbX := hHeld.1.trans (hb8.mono hHeld.1.size)
  refine hK.out _ _ k0Vb43 (fun hHeld => ?_)
  clear hK K
  try simp only [q1,q2,q3,q4,q5]
  refine wpAnyH_ready (rs := [41]) (by kernel_rfl) (by simp) ?_
  refine AllReadyH.cons (o := ⟨some 69, _, _, _, _, _⟩) rfl (fun K hK => ?_) AllReadyH.nil
  have cw := conv_ownV hown8
  rw [← HTT.out] at cw
  go_simp
  have hbX := hHeld.1
  refine hK.out _ _ k0Vb43 (fun hHeld => ?_)
  clear hK K
  try simp only [q1,q2,q3,q4,q5]
  refine tkY 42 (some 70) (.bool true) rfl ?y42q_169 ?r42q_169
  case y42q_169 => (intro w hSw; (try dsimp only at hSw); (try go_split_ands); go_simp)
  case r42q_169 =>
  try simp only [q1,q2,q3,q4,q5]
  refine tkY 43 (some 71) (.bool true) rfl ?y43q_172 ?r43q_172
  case y43q_172 => (intro w hSw; (try dsimp only at hSw); (try go_split_ands); go_simp)
  case r43q_172 =>
  try simp only [q1,q2,q3,q4,q5]
  refine tkY 44 (some 4) (.bool true) rfl ?y44q_175 ?r44q_175
  case y44q_175 => (intro w hSw; (try dsimp only at hSw); (try go_split_ands); go_simp)
  case r44q_175 =>
  try simp only [q1,q2,q3,q4,q5]
  refine wpAnyH_done (by kernel_rfl) ?_ _
  go_wp2_with fail
  refine bodyPost_ret (v := .bool true) (by simp [results, Tryz.results8, go_sem]) rfl ⟨rfl, HB9.out.trans (hHeld.1.mono (by omega))⟩
 ·
  go_simp
  refine (refVEncode B d x _ _ l L last (g + 1) _ (HR9.out.below hHeld.1) hkeys.out hwho.out h32 hlen).mono ?_
  rintro e w8 ⟨v8, rfl, hown8, hb8⟩
  rw [← HRR.out] at hown8
  go_wp2_with fail
  have hbX := hHeld.1.trans (hb8.mono hHeld.1.size)
  refine hK.out _ _ k0Vb43 (fun hHeld => ?_)
  clear hK K
  try simp only [q1,q2,q3,q4,q5]
  refine wpAnyH_ready (rs := [38, 41]) (by kernel_rfl) (by simp) ?_
  refine AllReadyH.cons (o := ⟨some 66, _, _, _, _, _⟩) rfl (fun K hK => ?_) (AllReadyH.cons (o := ⟨some 69, _, _, _, _, _⟩) rfl (fun K hK => ?_) AllReadyH.nil)
  ·
   have cv := conv_ownV (row_belowV hown7 hb8)
   rw [← HTT.out] at cv
   go_simp
   have hbX := hHeld.1
   refine hK.out _ _ k0Vb43 (fun hHeld => ?_)
   clear hK K
   try simp only [q1,q2,q3,q4,q5]
   refine wpAnyH_ready (rs := [41]) (by kernel_rfl) (by simp) ?_
   refine AllReadyH.cons (o := ⟨some 69, _, _, _, _, _⟩) rfl (fun K hK => ?_) AllReadyH.nil
   have cw := conv_ownV hown8
   rw [← HTT.out] at cw
   go_simp
   have hbX := hHeld.1
   refine hK.out _ _ k0Vb43 (fun hHeld => ?_)
   clear hK K
   try simp only [q1,q2,q3,q4,q5]
   refine tkY 42 (some 70) (.bool true) rfl ?y42q_208 ?r42q_208
   case y42q_208 => (intro w hSw; (try dsimp only at hSw); (try go_split_ands); go_simp)
   case r42q_208 =>
   try simp only [q1,q2,q3,q4,q5]
   refine tkY 43 (some 71) (.bool true) rfl ?y43q_211 ?r43q_211
   case y43q_211 => (intro w hSw; (try dsimp only at hSw); (try go_split_ands); go_simp)
   case r43q_211 =>
   try simp only [q1,q2,q3,q4,q5]
   refine tkY 44 (some 4) (.bool true) rfl ?y44q_214 ?r44q_214
   case y44q_214 => (intro w hSw; (try dsimp only at hSw); (try go_split_ands); go_simp)
   case r44q_214 =>
   try simp only [q1,q2,q3,q4,q5]
   refine wpAnyH_done (by kernel_rfl) ?_ _
   go_wp2_with fail
   refine bodyPost_ret (v := .bool true) (by simp [results, Tryz.results8, go_sem]) rfl ⟨rfl, HB9.out.trans (hHeld.1.mono (by omega))⟩
  ·
   have cw := conv_ownV hown8
   rw [← HTT.out] at cw
   go_simp
   have hbX := hHeld.1
   refine hK.out _ _ k0Vb43 (fun hHeld => ?_)
   clear hK K
   try simp only [q1,q2,q3,q4,q5]
   refine wpAnyH_ready (rs := [38]) (by kernel_rfl) (by simp) ?_
   refine AllReadyH.cons (o := ⟨some 66, _, _, _, _, _⟩) rfl (fun K hK => ?_) AllReadyH.nil
   have cv := conv_ownV (row_belowV hown7 hb8)
   rw [← HTT.out] at cv
   go_simp
   have hbX := hHeld.1
   refine hK.out _ _ k0Vb43 (fun hHeld => ?_)
   clear hK K
   try simp only [q1,q2,q3,q4,q5]
   refine tkY 42 (some 70) (.bool true) rfl ?y42q_236 ?r42q_236
   case y42q_236 => (intro w hSw; (try dsimp only at hSw); (try go_split_ands); go_simp)
   case r42q_236 =>
   try simp only [q1,q2,q3,q4,q5]
   refine tkY 43 (some 71) (.bool true) rfl ?y43q_239 ?r43q_239
   case y43q_239 => (intro w hSw; (try dsimp only at hSw); (try go_split_ands); go_simp)
   case r43q_239 =>
   try simp only [q1,q2,q3,q4,q5]
   refine tkY 44 (some 4) (.bool true) rfl ?y44q_242 ?r44q_242
   case y44q_242 => (intro w hSw; (try dsimp only at hSw); (try go_split_ands); go_simp)
   case r44q_242 =>
   try simp only [q1,q2,q3,q4,q5]
   refine wpAnyH_done (by kernel_rfl) ?_ _
   go_wp2_with fail
   refine bodyPost_ret (v := .bool true) (by simp [results, Tryz.results8, go_sem]) rfl ⟨rfl, HB9.out.trans (hHeld.1.mono (by omega))⟩
end Go.Proofs.YtdlbiobjnohfbaaGreat
