/- PlanMakes: the law's walk. -/
import Derived.Test.YtepjehcmiofehaaGreatPmK
import Derived.Test.YtepjehcmiofehaaGreatPlR
import Derived.Test.YtepjehcmiofehaaGreatPlS
namespace Go.Proofs.YtepjehcmiofehaaGreat
open Go.RowKit
set_option linter.unusedVariables false
set_option linter.unusedSimpArgs false

theorem own_cellsS {w : World} {B e size n c : Nat} {A : Option Addr} {xs : List Value} (h : w.ownsRow B e size (.slice A n c) n xs) : Cells w w.heap.size A n c size xs := by
  obtain ⟨A2, c2, e, _, _, hr⟩ := row_cells h
  injection e with e1 e2 e3
  subst e1 e3
  exact hr
theorem row_leS {w : World} {B e size n c : Nat} {A : Option Addr} {xs : List Value} (h : w.ownsRow B e size (.slice A n c) n xs) : n ≤ c := by
  obtain ⟨A2, c2, e, h1, _, _⟩ := row_cells h
  injection e with e1 e2 e3
  subst e3
  exact h1
theorem RowZ.ofS {w : World} {B c : Nat} {A : Option Addr} {l : List Zn} (h : w.ownsRow B 56 9 (.slice A l.length c) l.length (flatZ l)) : RowZ w A c l := by
  obtain ⟨A2, c2, e, hr⟩ := RowZ.of (n := l.length) h
  injection e with e1 e2 e3
  subst e1 e3
  exact hr
theorem lt60_smM {m : Mp} (h : Lt60 m) : SmZ m := ⟨h.len, fun z hz => by obtain ⟨i, hi, rfl⟩ := List.getElem_of_mem hz; have := h.txt i hi; omega⟩
theorem cells_nilM (w : World) (B : Nat) : Cells w B none ([] : List Ch).length 0 5 (([] : List Ch).flatMap chV) := ⟨rfl, fun _ => ⟨rfl, rfl⟩, fun j u h => by simp at h⟩
set_option maxHeartbeats 16000000 in
set_option maxRecDepth 10000 in
theorem plMakesWalk (A : Option Addr) (cp : Nat) (m : Mp) (Ah : Option Addr) (ch : Nat) (hs : List Int) (Al : Option Addr) (cl : Nat) (l : List Lr) (hot cold : Int) (w : World) (hz : RowZ w A cp m.zs) (hx : Cells w w.heap.size Ah hs.length ch 1 (intsV hs)) (hl : RowL w Al cl l) :
    Calls Tryz.prog 3 #[.agg #[.int .i64 m.ver, .int .i64 m.nxt, .slice A m.zs.length cp], .slice Ah hs.length ch, .slice Al l.length cl, .agg #[.int .i64 hot, .int .i64 cold]] w fun e w' => e = .returned (.bool true) ∧ Below w.heap.size w w' := by
  obtain ⟨i0, hi0, hz0, hz1, hz2⟩ := info_parts Tryz.infoInt0
  obtain ⟨r0, hr0, hr1, hr2, hr3⟩ := info_parts Tryz.infoRowL
  have hB : Below w.heap.size w ((w.alloc (.cells #[.int .i64 m.ver, .int .i64 m.nxt, .slice A m.zs.length cp] 24)).alloc (.cells #[.int .i64 hot, .int .i64 cold] 28)) := ((Below.refl _ _).alloc (Nat.le_refl _) _).alloc (by simp) _
  have HB := Lib.hid hB
  have HZ := Lib.hid (hz.below hB)
  have HX := Lib.hid (cells_keep hx hB hB.size)
  have HL := Lib.hid (hl.below hB)
  have HP := Lib.hid (show Whl ((w.alloc (.cells #[.int .i64 m.ver, .int .i64 m.nxt, .slice A m.zs.length cp] 24)).alloc (.cells #[.int .i64 hot, .int .i64 cold] 28)) w.heap.size 24 #[.int .i64 m.ver, .int .i64 m.nxt, .slice A m.zs.length cp] from (Whl.new rfl).alloc _)
  have HQ := Lib.hid (show Whl ((w.alloc (.cells #[.int .i64 m.ver, .int .i64 m.nxt, .slice A m.zs.length cp] 24)).alloc (.cells #[.int .i64 hot, .int .i64 cold] 28)) (w.heap.size + 1) 28 #[.int .i64 hot, .int .i64 cold] from Whl.new (by simp))
  clear hz hx hl hB
  by_cases hyes : MayP m ∧ hostsB hs = true
  case neg =>
    have HNO := Lib.hid hyes
    clear hyes
    go_enter Tryz.func3, Tryz.ntmps3
    go_wp2_with (first
      | (go_at_call 6; go_loud (refine (plMakeNo A1 c1 m A3 c3 hs A4 c4 l hot cold _ (RowZ.ofS HO15.out) (lt60_smM H60.out) (own_cellsS HO35.out) (by omega) HNO.out).mono ?_; rintro e w6 ⟨rfl, hb6⟩; have HB6c := Lib.hid hb6; have HB6b := Lib.hid (HB5b.out.trans (hb6.mono HB5b.out.size)); clear hb6))
      | (at_builtin; go_loud (refine wpList_append_row rfl (.tmp 24) (.tmp 25) 26 rfl w3.heap.size 34 r0 (.agg #[.int .i64 0, .int .i64 0, .string ⟨#[]⟩]) 3 32 Tryz.underlying26 hr0 hr1 hr2 hr3 rfl (by decide) (.slice (some ⟨w3.heap.size, 0, none⟩) 0 0) 0 [] rfl (owns_lit0 rfl (Nat.le_refl _)) w3.heap.size Al l.length cl (flatL l) rfl (cells_keep HL.out (HB3b.out.alloc (by omega) _) (by omega)) (flatL_oneM l) (by unfold maxLen; omega) (by omega) (by simp) ?_; intro v4 w4 ho4 hb4; rw [Nat.zero_add, List.nil_append] at ho4; obtain ⟨A4, c4, hv4, -, -, -⟩ := own_slice ho4; subst hv4; have HO4 := Lib.hid ho4; have HB4c := Lib.hid (((Below.refl w3.heap.size w3).alloc (Nat.le_refl _) _).trans hb4); have HB4b := Lib.hid (HB3b.out.trans (HB4c.out.mono (by omega))); have hs4 := HB4c.out.size; have HN := Lib.hid (show Whl (w4.alloc (.cells #[.int .i64 m.ver, .int .i64 m.nxt, .slice A1 m.zs.length c1] 24)) w4.heap.size 24 #[.int .i64 m.ver, .int .i64 m.nxt, .slice A1 m.zs.length c1] from Whl.new rfl); have HB5b := Lib.hid (HB4b.out.alloc (by omega) (.cells #[.int .i64 m.ver, .int .i64 m.nxt, .slice A1 m.zs.length c1] 24)); have HO15 := Lib.hid (row_belowZ HO1.out (HB3c.out.trans ((HB4c.out.mono hs3).trans ((Below.refl w2.heap.size w4).alloc (by omega) (.cells #[.int .i64 m.ver, .int .i64 m.nxt, .slice A1 m.zs.length c1] 24))))); have HO35 := Lib.hid ((row_belowZ HO3.out HB4c.out).alloc (.cells #[.int .i64 m.ver, .int .i64 m.nxt, .slice A1 m.zs.length c1] 24)); have HO45 := Lib.hid (HO4.out.alloc (.cells #[.int .i64 m.ver, .int .i64 m.nxt, .slice A1 m.zs.length c1] 24)); have hQ4 := HQ.out.below HB5b.out HQ.out.low; have z0 := hQ4.cell 0; have z1 := hQ4.cell 1; simp only [List.getElem?_toArray, List.getElem?_cons_succ, List.getElem?_cons_zero] at z0 z1; clear hQ4; clear ho4 hb4))
      | (at_builtin; go_loud (refine wpList_append_row rfl (.tmp 21) (.tmp 22) 25 rfl w2.heap.size 3 i0 (.int .i64 0) 1 8 Tryz.underlying25 hi0 hz0 hz1 hz2 rfl (by decide) (.slice (some ⟨w2.heap.size, 0, none⟩) 0 0) 0 [] rfl (owns_lit0 rfl (Nat.le_refl _)) w2.heap.size Ah hs.length ch (intsV hs) rfl (cells_keep HX.out (HB2b.out.alloc hs2 _) hs2) (intsV_one hs) (by unfold maxLen; omega) (by omega) (by simp) ?_; intro v3 w3 ho3 hb3; rw [Nat.zero_add, List.nil_append] at ho3; obtain ⟨A3, c3, hv3, -, -, -⟩ := own_slice ho3; subst hv3; have HO3 := Lib.hid ho3; have HB3c := Lib.hid (((Below.refl w2.heap.size w2).alloc (Nat.le_refl _) _).trans hb3); have HB3b := Lib.hid (HB2b.out.trans (HB3c.out.mono hs2)); have hs3 := HB3c.out.size; clear ho3 hb3))
      | (go_at_call 5; go_loud (obtain ⟨h60, hh20, hl60⟩ := HQ1.out (by first | assumption | simp_all); have H60 := Lib.hid h60; have hm60 := h60.len; refine (rdOwnA A cp m _ (HZ.out.below HB1b.out) (by omega)).mono ?_; rintro e w2 ⟨v1, rfl, ho1, hb2⟩; obtain ⟨A1, c1, hv1, -, -, -⟩ := own_slice ho1; subst hv1; have HO1 := Lib.hid ho1; have HB2b := Lib.hid (HB1b.out.trans (hb2.mono HB1b.out.size)); have hs2 := HB2b.out.size; clear h60 hb2 ho1))
      | (go_at_call 4; go_loud (refine (plHeavy A cp m Ah ch hs Al cl l _ HZ.out HL.out).mono ?_; rintro e w1 ⟨b, rfl, hq, hb1⟩; have HQ1 := Lib.hid hq; have HB1b := Lib.hid hb1; have hP1 := HP.out.below HB1b.out HP.out.low; have x10 := hP1.cell 0; have x11 := hP1.cell 1; have x12 := hP1.cell 2; simp only [List.getElem?_toArray, List.getElem?_cons_succ, List.getElem?_cons_zero] at x10 x11 x12; clear hP1; clear hb1 hq))
      | fail)
    · go_ret
      exact ⟨rfl, HB.out.trans (HB1b.out.mono HB.out.size)⟩
    go_loopw [13] (fun iv wr => ∃ i : Nat, i ≤ l.length ∧ iv = .int .i64 i ∧ Below w6.heap.size w6 wr) (fun iv _ => l.length - (intOf iv).toNat)
    case atStart => exact ⟨0, Nat.zero_le _, rfl, Below.refl _ _⟩
    case round =>
      obtain ⟨i, hil, rfl, hBr⟩ := hrel
      have HBR := Lib.hid hBr
      by_cases hlt : i < l.length
      · have q3 : (i : Int) < (l.length : Int) := by omega
        have hb0 := HB6b.out.trans (hBr.mono HB6b.out.size)
        obtain ⟨g1, p1, hA1, hg1, b0, b1, b2⟩ := lr_cells (cells_keep HL.out hb0 hb0.size) hlt
        subst hA1
        have hb5 := HB6c.out.trans (hBr.mono HB6c.out.size)
        obtain ⟨g2, p2, hA2, hg2, a0, a1, a2⟩ := lr_cells (cells_keep (own_cellsS HO45.out) hb5 hb5.size) hlt
        subst hA2
        obtain ⟨z, hz⟩ : ∃ z, z = l[i] := ⟨_, rfl⟩
        rw [← hz] at a0 a1 a2 b0 b1 b2
        have hne := lrNeqM z
        clear hz hBr hb0 hb5
        go_wp2_with fail
        go_quiet (fail)
        go_wp2_with fail
        exact ⟨⟨i + 1, hlt, by go_num, b_drewN HBR.out⟩, measZ hlt⟩
      · obtain rfl : l.length = i := by omega
        clear hBr
        go_wp2_with fail
        go_loopw [14] (fun jv wj => ∃ j : Nat, j ≤ hs.length ∧ jv = .int .i64 j ∧ Below w6.heap.size w6 wj) (fun jv _ => hs.length - (intOf jv).toNat)
        case atStart => exact ⟨0, Nat.zero_le _, rfl, HBR.out⟩
        case round =>
          obtain ⟨j, hjl, rfl, hBj⟩ := hrel
          have HBJ := Lib.hid hBj
          by_cases hjt : j < hs.length
          · have q5 : (j : Int) < (hs.length : Int) := by omega
            have hb0 := HB6b.out.trans (hBj.mono HB6b.out.size)
            obtain ⟨g1, p1, hA1, hg1, b0⟩ := (cells_keep HX.out hb0 hb0.size).2.2 j _ (intsV_at hjt)
            subst hA1
            have hb5 := HB6c.out.trans (hBj.mono HB6c.out.size)
            obtain ⟨g2, p2, hA2, hg2, a0⟩ := (cells_keep (own_cellsS HO35.out) hb5 hb5.size).2.2 j _ (intsV_at hjt)
            subst hA2
            obtain ⟨z, hz⟩ : ∃ z, z = hs[j] := ⟨_, rfl⟩
            rw [← hz] at a0 b0
            have hne : (z != z) = false := by simp
            clear hz hBj hb0 hb5
            go_wp2_with fail
            go_quiet (fail)
            go_wp2_with fail
            exact ⟨⟨j + 1, hjt, by go_num, b_drewN HBJ.out⟩, measZ hjt⟩
          · obtain rfl : hs.length = j := by omega
            clear hBj
            go_upto_region 15 with fail
            obtain ⟨V, hV⟩ : ∃ x, x = wr := ⟨_, rfl⟩
            rw [← hV] at HBJ ⊢
            clear hV
            have HBV6 := Lib.hid HBJ.out
            have hbv5 := HB6c.out.trans (HBJ.out.mono HB6c.out.size)
            have hbv0 := HB6b.out.trans (HBJ.out.mono HB6b.out.size)
            have HBV0 := Lib.hid hbv0
            have HZV := Lib.hid (HZ.out.below hbv0)
            have HLV := Lib.hid (HL.out.below hbv0)
            have HXV := Lib.hid (cells_keep HX.out hbv0 hbv0.size)
            have HNZ := Lib.hid ((RowZ.ofS HO15.out).below hbv5)
            have hPV := HP.out.below hbv0 HP.out.low
            have hQV := HQ.out.below hbv0 HQ.out.low
            have hNV := HN.out.below hbv5 HN.out.low
            have hpl := hPV.low
            have hql := hQV.low
            have hnl := hNV.low
            have p0 := hPV.cell 0
            have p1 := hPV.cell 1
            have p2 := hPV.cell 2
            have n0 := hNV.cell 0
            have n1 := hNV.cell 1
            have n2 := hNV.cell 2
            have l0 := hQV.cell 0
            have l1 := hQV.cell 1
            simp only [List.getElem?_toArray, List.getElem?_cons_succ, List.getElem?_cons_zero] at p0 p1 p2 n0 n1 n2 l0 l1
            clear hbv5 hbv0 hPV hQV hNV
            refine wp_region_held_drew (S := (fun W => Below V.heap.size V W ∧ W.cell? ⟨w.heap.size, 0, none⟩ = some (.int .i64 m.ver) ∧ W.cell? ⟨w.heap.size, 1, none⟩ = some (.int .i64 m.nxt) ∧ W.cell? ⟨w.heap.size, 2, none⟩ = some (.slice A m.zs.length cp) ∧ W.cell? ⟨w4.heap.size, 0, none⟩ = some (.int .i64 m.ver) ∧ W.cell? ⟨w4.heap.size, 1, none⟩ = some (.int .i64 m.nxt) ∧ W.cell? ⟨w4.heap.size, 2, none⟩ = some (.slice A1 m.zs.length c1) ∧ W.cell? ⟨w.heap.size + 1, 0, none⟩ = some (.int .i64 hot) ∧ W.cell? ⟨w.heap.size + 1, 1, none⟩ = some (.int .i64 cold))) (by kernel_rfl) ⟨(Below.refl _ _).drew, p0, p1, p2, n0, n1, n2, l0, l1⟩ (fun hHeld => ?_)
            refine tk (i := 0) (oi := ⟨some 62, _, _, _, _, _⟩) (?v0n) rfl (by rfl) ?y0n ?r0n
            case y0n => (intro w hSw; (try dsimp only at hSw); (try go_split_ands); go_simp); (try with_reducible rfl)
            case r0n =>
            (try simp only [Act.put, sA, sB, sC])
            refine tk (i := 1) (oi := ⟨some 63, _, _, _, _, _⟩) (?v1n) rfl (by rfl) ?y1n ?r1n
            case y1n => (intro w hSw; (try dsimp only at hSw); (try go_split_ands); go_simp); (try with_reducible rfl)
            case r1n =>
            (try simp only [Act.put, sA, sB, sC])
            refine wpAnyH_ready (rs := [2]) (by kernel_rfl) (by simp) ?_
            refine AllReadyH.cons (o := ⟨some 64, _, _, _, _, _⟩) rfl (fun K hK => ?_) AllReadyH.nil
            go_simp
            refine (plMapsC m.ver m.nxt m.zs A A1 cp c1 _ (HZV.out.below hHeld.1) (HNZ.out.below hHeld.1) (by omega)).mono ?_; rintro e w7 ⟨rfl, hb3⟩
            go_wp2_with fail
            refine hK.out _ _ (by have hh := Below.trans hHeld.1 (Below.mono hb3 (Below.size hHeld.1)); exact ⟨hh, bkeep hh p0 hpl, bkeep hh p1 hpl, bkeep hh p2 hpl, bkeep hh n0 hnl, bkeep hh n1 hnl, bkeep hh n2 hnl, bkeep hh l0 hql, bkeep hh l1 hql⟩) (fun hHeld => ?_)
            clear hK K
            (try simp only [Act.put, sA, sB, sC])
            refine tk (i := 3) (oi := ⟨some 65, _, _, _, _, _⟩) (.bool true) rfl (by rfl) ?y3n ?r3n
            case y3n => (intro w hSw; (try dsimp only at hSw); (try go_split_ands); go_simp)
            case r3n =>
            (try simp only [Act.put, sA, sB, sC])
            refine tk (i := 4) (oi := ⟨some 66, _, _, _, _, _⟩) (?v4n) rfl (by rfl) ?y4n ?r4n
            case y4n => (intro w hSw; (try dsimp only at hSw); (try go_split_ands); go_simp); (try with_reducible rfl)
            case r4n =>
            (try simp only [Act.put, sA, sB, sC])
            refine tk (i := 5) (oi := ⟨some 67, _, _, _, _, _⟩) (?v5n) rfl (by rfl) ?y5n ?r5n
            case y5n => (intro w hSw; (try dsimp only at hSw); (try go_split_ands); go_simp); (try with_reducible rfl)
            case r5n =>
            (try simp only [Act.put, sA, sB, sC])
            refine tk (i := 6) (oi := ⟨some 68, _, _, _, _, _⟩) (?v6n) rfl (by rfl) ?y6n ?r6n
            case y6n => (intro w hSw; (try dsimp only at hSw); (try go_split_ands); go_simp); (try with_reducible rfl)
            case r6n =>
            (try simp only [Act.put, sA, sB, sC])
            refine tk (i := 7) (oi := ⟨some 69, _, _, _, _, _⟩) (?v7n) rfl (by rfl) ?y7n ?r7n
            case y7n => (intro w hSw; (try dsimp only at hSw); (try go_split_ands); go_simp); (try with_reducible rfl)
            case r7n =>
            (try simp only [Act.put, sA, sB, sC])
            refine tk (i := 9) (oi := ⟨some 71, _, _, _, _, _⟩) (?v9n) rfl (by rfl) ?y9n ?r9n
            case y9n => (intro w hSw; (try dsimp only at hSw); (try go_split_ands); go_simp); (try with_reducible rfl)
            case r9n =>
            (try simp only [Act.put, sA, sB, sC])
            refine tk (i := 10) (oi := ⟨some 72, _, _, _, _, _⟩) (?v10n) rfl (by rfl) ?y10n ?r10n
            case y10n => (intro w hSw; (try dsimp only at hSw); (try go_split_ands); go_simp); (try with_reducible rfl)
            case r10n =>
            (try simp only [Act.put, sA, sB, sC])
            refine tk (i := 11) (oi := ⟨some 73, _, _, _, _, _⟩) (?v11n) rfl (by rfl) ?y11n ?r11n
            case y11n => (intro w hSw; (try dsimp only at hSw); (try go_split_ands); go_simp); (try with_reducible rfl)
            case r11n =>
            (try simp only [Act.put, sA, sB, sC])
            refine tk (i := 12) (oi := ⟨some 74, _, _, _, _, _⟩) (?v12n) rfl (by rfl) ?y12n ?r12n
            case y12n => (intro w hSw; (try dsimp only at hSw); (try go_split_ands); go_simp); (try with_reducible rfl)
            case r12n =>
            (try simp only [Act.put, sA, sB, sC])
            refine wpAnyH_ready (rs := [8]) (by kernel_rfl) (by simp) ?_
            refine AllReadyH.cons (o := ⟨some 70, _, _, _, _, _⟩) rfl (fun K hK => ?_) AllReadyH.nil
            go_simp
            refine (plLike Al cl l _ (HLV.out.below hHeld.1) (by omega)).mono ?_; rintro e w8 ⟨v8, rfl, ho8, hb3⟩; obtain ⟨A8, c8, hv8, -, -, hC8⟩ := row_cells ho8; subst hv8; have HC8 := Lib.hid hC8; clear ho8 hC8
            go_wp2_with fail
            refine hK.out _ _ (by have hh := Below.trans hHeld.1 (Below.mono hb3 (Below.size hHeld.1)); exact ⟨hh, bkeep hh p0 hpl, bkeep hh p1 hpl, bkeep hh p2 hpl, bkeep hh n0 hnl, bkeep hh n1 hnl, bkeep hh n2 hnl, bkeep hh l0 hql, bkeep hh l1 hql⟩) (fun hHeld => ?_)
            clear hK K
            (try simp only [Act.put, sA, sB, sC])
            refine wpAnyH_ready (rs := [13]) (by kernel_rfl) (by simp) ?_
            refine AllReadyH.cons (o := ⟨some 75, _, _, _, _, _⟩) rfl (fun K hK => ?_) AllReadyH.nil
            go_simp
            refine (rsMakeNo A cp m Ah ch hs A8 c8 l hot cold _ (HZV.out.below hHeld.1) (by omega) (cells_keep HXV.out hHeld.1 hHeld.1.size) (by omega) HNO.out).mono ?_; rintro e w9 ⟨rfl, hb3⟩
            go_wp2_with fail
            refine hK.out _ _ (by have hh := Below.trans hHeld.1 (Below.mono hb3 (Below.size hHeld.1)); exact ⟨hh, bkeep hh p0 hpl, bkeep hh p1 hpl, bkeep hh p2 hpl, bkeep hh n0 hnl, bkeep hh n1 hnl, bkeep hh n2 hnl, bkeep hh l0 hql, bkeep hh l1 hql⟩) (fun hHeld => ?_)
            clear hK K
            (try simp only [Act.put, sA, sB, sC])
            refine wpAnyH_ready (rs := [14]) (by kernel_rfl) (by simp) ?_
            refine AllReadyH.cons (o := ⟨some 76, _, _, _, _, _⟩) rfl (fun K hK => ?_) AllReadyH.nil
            go_simp
            have hchn := plChanges [] none none 0 0 w9 (cells_nilM _ _) (cells_nilM _ _) (Nat.zero_le _)
            refine hchn.mono ?_; rintro e w10 ⟨rfl, hb3⟩
            go_wp2_with fail
            refine hK.out _ _ (by have hh := Below.trans hHeld.1 (Below.mono hb3 (Below.size hHeld.1)); exact ⟨hh, bkeep hh p0 hpl, bkeep hh p1 hpl, bkeep hh p2 hpl, bkeep hh n0 hnl, bkeep hh n1 hnl, bkeep hh n2 hnl, bkeep hh l0 hql, bkeep hh l1 hql⟩) (fun hHeld => ?_)
            clear hK K
            (try simp only [Act.put, sA, sB, sC])
            refine tk (i := 15) (oi := ⟨some 77, _, _, _, _, _⟩) (.bool true) rfl (by rfl) ?y15n ?r15n
            case y15n => (intro w hSw; (try dsimp only at hSw); (try go_split_ands); go_simp)
            case r15n =>
            (try simp only [Act.put, sA, sB, sC])
            refine tk (i := 16) (oi := ⟨some 78, _, _, _, _, _⟩) (.bool true) rfl (by rfl) ?y16n ?r16n
            case y16n => (intro w hSw; (try dsimp only at hSw); (try go_split_ands); go_simp)
            case r16n =>
            (try simp only [Act.put, sA, sB, sC])
            refine wpAnyH_ready (rs := [17]) (by kernel_rfl) (by simp) ?_
            refine AllReadyH.cons (o := ⟨some 79, _, _, _, _, _⟩) rfl (fun K hK => ?_) AllReadyH.nil
            go_simp
            refine (plKnown _).mono ?_; rintro e w11 ⟨rfl, hb3⟩
            go_wp2_with fail
            refine hK.out _ _ (by have hh := Below.trans hHeld.1 (Below.mono hb3 (Below.size hHeld.1)); exact ⟨hh, bkeep hh p0 hpl, bkeep hh p1 hpl, bkeep hh p2 hpl, bkeep hh n0 hnl, bkeep hh n1 hnl, bkeep hh n2 hnl, bkeep hh l0 hql, bkeep hh l1 hql⟩) (fun hHeld => ?_)
            clear hK K
            (try simp only [Act.put, sA, sB, sC])
            refine tk (i := 18) (oi := ⟨some 80, _, _, _, _, _⟩) (.bool true) rfl (by rfl) ?y18n ?r18n
            case y18n => (intro w hSw; (try dsimp only at hSw); (try go_split_ands); go_simp)
            case r18n =>
            (try simp only [Act.put, sA, sB, sC])
            refine tk (i := 19) (oi := ⟨some 8, _, _, _, _, _⟩) (.bool true) rfl (by rfl) ?y19n ?r19n
            case y19n => (intro w hSw; (try dsimp only at hSw); (try go_split_ands); go_simp)
            case r19n =>
            (try simp only [Act.put, sA, sB, sC])
            refine wpAnyH_done (by kernel_rfl) ?_ _
            go_wp2_with fail
            go_ret
            exact ⟨rfl, HB.out.trans ((HBV0.out.trans (hHeld.1.mono HBV0.out.size)).mono HB.out.size)⟩
  obtain ⟨hm, hh⟩ := hyes
  have HM := Lib.hid hm
  have HHB := Lib.hid hh
  clear hm hh
  go_enter Tryz.func3, Tryz.ntmps3
  go_wp2_with (first
    | (go_at_call 6; go_loud (refine (plMakeYes A1 c1 m A3 c3 hs A4 c4 l hot cold _ (RowZ.ofS HO15.out) (lt60_smM H60.out) (own_cellsS HO35.out) (own_cellsS HO45.out) (by omega) HM.out HHB.out).mono ?_; rintro e w6 ⟨v6, cs, rfl, hR, ho6, hb6⟩; obtain ⟨Av, cv, hv6, -, hvm, hCv⟩ := row_cells ho6; subst hv6; have hvn := row_leS ho6; obtain ⟨π, hπ⟩ : ∃ π, ByI (begP l m.zs) π := (by obtain ⟨π, _, _, _, _, h, _⟩ := hR.run; exact ⟨π, h⟩); have HPI := Lib.hid hπ; have HPR := Lib.hid hR; have HCV := Lib.hid hCv; have HB6c := Lib.hid hb6; have HB6b := Lib.hid (HB5b.out.trans (hb6.mono HB5b.out.size)); clear hb6 hR hπ hCv ho6))
    | (at_builtin; go_loud (refine wpList_append_row rfl (.tmp 24) (.tmp 25) 26 rfl w3.heap.size 34 r0 (.agg #[.int .i64 0, .int .i64 0, .string ⟨#[]⟩]) 3 32 Tryz.underlying26 hr0 hr1 hr2 hr3 rfl (by decide) (.slice (some ⟨w3.heap.size, 0, none⟩) 0 0) 0 [] rfl (owns_lit0 rfl (Nat.le_refl _)) w3.heap.size Al l.length cl (flatL l) rfl (cells_keep HL.out (HB3b.out.alloc (by omega) _) (by omega)) (flatL_oneM l) (by unfold maxLen; omega) (by omega) (by simp) ?_; intro v4 w4 ho4 hb4; rw [Nat.zero_add, List.nil_append] at ho4; obtain ⟨A4, c4, hv4, -, -, -⟩ := own_slice ho4; subst hv4; have HO4 := Lib.hid ho4; have HB4c := Lib.hid (((Below.refl w3.heap.size w3).alloc (Nat.le_refl _) _).trans hb4); have HB4b := Lib.hid (HB3b.out.trans (HB4c.out.mono (by omega))); have hs4 := HB4c.out.size; have HN := Lib.hid (show Whl (w4.alloc (.cells #[.int .i64 m.ver, .int .i64 m.nxt, .slice A1 m.zs.length c1] 24)) w4.heap.size 24 #[.int .i64 m.ver, .int .i64 m.nxt, .slice A1 m.zs.length c1] from Whl.new rfl); have HB5b := Lib.hid (HB4b.out.alloc (by omega) (.cells #[.int .i64 m.ver, .int .i64 m.nxt, .slice A1 m.zs.length c1] 24)); have HO15 := Lib.hid (row_belowZ HO1.out (HB3c.out.trans ((HB4c.out.mono hs3).trans ((Below.refl w2.heap.size w4).alloc (by omega) (.cells #[.int .i64 m.ver, .int .i64 m.nxt, .slice A1 m.zs.length c1] 24))))); have HO35 := Lib.hid ((row_belowZ HO3.out HB4c.out).alloc (.cells #[.int .i64 m.ver, .int .i64 m.nxt, .slice A1 m.zs.length c1] 24)); have HO45 := Lib.hid (HO4.out.alloc (.cells #[.int .i64 m.ver, .int .i64 m.nxt, .slice A1 m.zs.length c1] 24)); have hQ4 := HQ.out.below HB5b.out HQ.out.low; have z0 := hQ4.cell 0; have z1 := hQ4.cell 1; simp only [List.getElem?_toArray, List.getElem?_cons_succ, List.getElem?_cons_zero] at z0 z1; clear hQ4; clear ho4 hb4))
    | (at_builtin; go_loud (refine wpList_append_row rfl (.tmp 21) (.tmp 22) 25 rfl w2.heap.size 3 i0 (.int .i64 0) 1 8 Tryz.underlying25 hi0 hz0 hz1 hz2 rfl (by decide) (.slice (some ⟨w2.heap.size, 0, none⟩) 0 0) 0 [] rfl (owns_lit0 rfl (Nat.le_refl _)) w2.heap.size Ah hs.length ch (intsV hs) rfl (cells_keep HX.out (HB2b.out.alloc hs2 _) hs2) (intsV_one hs) (by unfold maxLen; omega) (by omega) (by simp) ?_; intro v3 w3 ho3 hb3; rw [Nat.zero_add, List.nil_append] at ho3; obtain ⟨A3, c3, hv3, -, -, -⟩ := own_slice ho3; subst hv3; have HO3 := Lib.hid ho3; have HB3c := Lib.hid (((Below.refl w2.heap.size w2).alloc (Nat.le_refl _) _).trans hb3); have HB3b := Lib.hid (HB2b.out.trans (HB3c.out.mono hs2)); have hs3 := HB3c.out.size; clear ho3 hb3))
    | (go_at_call 5; go_loud (obtain ⟨h60, hh20, hl60⟩ := HQ1.out (by first | assumption | simp_all); have H60 := Lib.hid h60; have hm60 := h60.len; refine (rdOwnA A cp m _ (HZ.out.below HB1b.out) (by omega)).mono ?_; rintro e w2 ⟨v1, rfl, ho1, hb2⟩; obtain ⟨A1, c1, hv1, -, -, -⟩ := own_slice ho1; subst hv1; have HO1 := Lib.hid ho1; have HB2b := Lib.hid (HB1b.out.trans (hb2.mono HB1b.out.size)); have hs2 := HB2b.out.size; clear h60 hb2 ho1))
    | (go_at_call 4; go_loud (refine (plHeavy A cp m Ah ch hs Al cl l _ HZ.out HL.out).mono ?_; rintro e w1 ⟨b, rfl, hq, hb1⟩; have HQ1 := Lib.hid hq; have HB1b := Lib.hid hb1; have hP1 := HP.out.below HB1b.out HP.out.low; have x10 := hP1.cell 0; have x11 := hP1.cell 1; have x12 := hP1.cell 2; simp only [List.getElem?_toArray, List.getElem?_cons_succ, List.getElem?_cons_zero] at x10 x11 x12; clear hP1; clear hb1 hq))
    | fail)
  · go_ret
    exact ⟨rfl, HB.out.trans (HB1b.out.mono HB.out.size)⟩
  go_loopw [13] (fun iv wr => ∃ i : Nat, i ≤ l.length ∧ iv = .int .i64 i ∧ Below w6.heap.size w6 wr) (fun iv _ => l.length - (intOf iv).toNat)
  case atStart => exact ⟨0, Nat.zero_le _, rfl, Below.refl _ _⟩
  case round =>
    obtain ⟨i, hil, rfl, hBr⟩ := hrel
    have HBR := Lib.hid hBr
    by_cases hlt : i < l.length
    · have q3 : (i : Int) < (l.length : Int) := by omega
      have hb0 := HB6b.out.trans (hBr.mono HB6b.out.size)
      obtain ⟨g1, p1, hA1, hg1, b0, b1, b2⟩ := lr_cells (cells_keep HL.out hb0 hb0.size) hlt
      subst hA1
      have hb5 := HB6c.out.trans (hBr.mono HB6c.out.size)
      obtain ⟨g2, p2, hA2, hg2, a0, a1, a2⟩ := lr_cells (cells_keep (own_cellsS HO45.out) hb5 hb5.size) hlt
      subst hA2
      obtain ⟨z, hz⟩ : ∃ z, z = l[i] := ⟨_, rfl⟩
      rw [← hz] at a0 a1 a2 b0 b1 b2
      have hne := lrNeqM z
      clear hz hBr hb0 hb5
      go_wp2_with fail
      go_quiet (fail)
      go_wp2_with fail
      exact ⟨⟨i + 1, hlt, by go_num, b_drewN HBR.out⟩, measZ hlt⟩
    · obtain rfl : l.length = i := by omega
      clear hBr
      go_wp2_with fail
      go_loopw [14] (fun jv wj => ∃ j : Nat, j ≤ hs.length ∧ jv = .int .i64 j ∧ Below w6.heap.size w6 wj) (fun jv _ => hs.length - (intOf jv).toNat)
      case atStart => exact ⟨0, Nat.zero_le _, rfl, HBR.out⟩
      case round =>
        obtain ⟨j, hjl, rfl, hBj⟩ := hrel
        have HBJ := Lib.hid hBj
        by_cases hjt : j < hs.length
        · have q5 : (j : Int) < (hs.length : Int) := by omega
          have hb0 := HB6b.out.trans (hBj.mono HB6b.out.size)
          obtain ⟨g1, p1, hA1, hg1, b0⟩ := (cells_keep HX.out hb0 hb0.size).2.2 j _ (intsV_at hjt)
          subst hA1
          have hb5 := HB6c.out.trans (hBj.mono HB6c.out.size)
          obtain ⟨g2, p2, hA2, hg2, a0⟩ := (cells_keep (own_cellsS HO35.out) hb5 hb5.size).2.2 j _ (intsV_at hjt)
          subst hA2
          obtain ⟨z, hz⟩ : ∃ z, z = hs[j] := ⟨_, rfl⟩
          rw [← hz] at a0 b0
          have hne : (z != z) = false := by simp
          clear hz hBj hb0 hb5
          go_wp2_with fail
          go_quiet (fail)
          go_wp2_with fail
          exact ⟨⟨j + 1, hjt, by go_num, b_drewN HBJ.out⟩, measZ hjt⟩
        · obtain rfl : hs.length = j := by omega
          clear hBj
          go_upto_region 15 with fail
          obtain ⟨V, hV⟩ : ∃ x, x = wr := ⟨_, rfl⟩
          rw [← hV] at HBJ ⊢
          clear hV
          have HBV6 := Lib.hid HBJ.out
          have hbv5 := HB6c.out.trans (HBJ.out.mono HB6c.out.size)
          have hbv0 := HB6b.out.trans (HBJ.out.mono HB6b.out.size)
          have HBV0 := Lib.hid hbv0
          have HZV := Lib.hid (HZ.out.below hbv0)
          have HLV := Lib.hid (HL.out.below hbv0)
          have HXV := Lib.hid (cells_keep HX.out hbv0 hbv0.size)
          have HNZ := Lib.hid ((RowZ.ofS HO15.out).below hbv5)
          have hPV := HP.out.below hbv0 HP.out.low
          have hQV := HQ.out.below hbv0 HQ.out.low
          have hNV := HN.out.below hbv5 HN.out.low
          have hpl := hPV.low
          have hql := hQV.low
          have hnl := hNV.low
          have p0 := hPV.cell 0
          have p1 := hPV.cell 1
          have p2 := hPV.cell 2
          have n0 := hNV.cell 0
          have n1 := hNV.cell 1
          have n2 := hNV.cell 2
          have l0 := hQV.cell 0
          have l1 := hQV.cell 1
          simp only [List.getElem?_toArray, List.getElem?_cons_succ, List.getElem?_cons_zero] at p0 p1 p2 n0 n1 n2 l0 l1
          clear hbv5 hbv0 hPV hQV hNV
          refine wp_region_held_drew (S := (fun W => Below V.heap.size V W ∧ W.cell? ⟨w.heap.size, 0, none⟩ = some (.int .i64 m.ver) ∧ W.cell? ⟨w.heap.size, 1, none⟩ = some (.int .i64 m.nxt) ∧ W.cell? ⟨w.heap.size, 2, none⟩ = some (.slice A m.zs.length cp) ∧ W.cell? ⟨w4.heap.size, 0, none⟩ = some (.int .i64 m.ver) ∧ W.cell? ⟨w4.heap.size, 1, none⟩ = some (.int .i64 m.nxt) ∧ W.cell? ⟨w4.heap.size, 2, none⟩ = some (.slice A1 m.zs.length c1) ∧ W.cell? ⟨w.heap.size + 1, 0, none⟩ = some (.int .i64 hot) ∧ W.cell? ⟨w.heap.size + 1, 1, none⟩ = some (.int .i64 cold))) (by kernel_rfl) ⟨(Below.refl _ _).drew, p0, p1, p2, n0, n1, n2, l0, l1⟩ (fun hHeld => ?_)
          refine tk (i := 0) (oi := ⟨some 62, _, _, _, _, _⟩) (?v0y) rfl (by rfl) ?y0y ?r0y
          case y0y => (intro w hSw; (try dsimp only at hSw); (try go_split_ands); go_simp); (try with_reducible rfl)
          case r0y =>
          (try simp only [Act.put, sA, sB, sC])
          refine tk (i := 1) (oi := ⟨some 63, _, _, _, _, _⟩) (?v1y) rfl (by rfl) ?y1y ?r1y
          case y1y => (intro w hSw; (try dsimp only at hSw); (try go_split_ands); go_simp); (try with_reducible rfl)
          case r1y =>
          (try simp only [Act.put, sA, sB, sC])
          refine wpAnyH_ready (rs := [2]) (by kernel_rfl) (by simp) ?_
          refine AllReadyH.cons (o := ⟨some 64, _, _, _, _, _⟩) rfl (fun K hK => ?_) AllReadyH.nil
          go_simp
          refine (plMapsC m.ver m.nxt m.zs A A1 cp c1 _ (HZV.out.below hHeld.1) (HNZ.out.below hHeld.1) (by omega)).mono ?_; rintro e w7 ⟨rfl, hb3⟩
          go_wp2_with fail
          refine hK.out _ _ (by have hh := Below.trans hHeld.1 (Below.mono hb3 (Below.size hHeld.1)); exact ⟨hh, bkeep hh p0 hpl, bkeep hh p1 hpl, bkeep hh p2 hpl, bkeep hh n0 hnl, bkeep hh n1 hnl, bkeep hh n2 hnl, bkeep hh l0 hql, bkeep hh l1 hql⟩) (fun hHeld => ?_)
          clear hK K
          (try simp only [Act.put, sA, sB, sC])
          refine tk (i := 3) (oi := ⟨some 65, _, _, _, _, _⟩) (.bool true) rfl (by rfl) ?y3y ?r3y
          case y3y => (intro w hSw; (try dsimp only at hSw); (try go_split_ands); go_simp)
          case r3y =>
          (try simp only [Act.put, sA, sB, sC])
          refine tk (i := 4) (oi := ⟨some 66, _, _, _, _, _⟩) (?v4y) rfl (by rfl) ?y4y ?r4y
          case y4y => (intro w hSw; (try dsimp only at hSw); (try go_split_ands); go_simp); (try with_reducible rfl)
          case r4y =>
          (try simp only [Act.put, sA, sB, sC])
          refine tk (i := 5) (oi := ⟨some 67, _, _, _, _, _⟩) (?v5y) rfl (by rfl) ?y5y ?r5y
          case y5y => (intro w hSw; (try dsimp only at hSw); (try go_split_ands); go_simp); (try with_reducible rfl)
          case r5y =>
          (try simp only [Act.put, sA, sB, sC])
          refine tk (i := 6) (oi := ⟨some 68, _, _, _, _, _⟩) (?v6y) rfl (by rfl) ?y6y ?r6y
          case y6y => (intro w hSw; (try dsimp only at hSw); (try go_split_ands); go_simp); (try with_reducible rfl)
          case r6y =>
          (try simp only [Act.put, sA, sB, sC])
          refine tk (i := 7) (oi := ⟨some 69, _, _, _, _, _⟩) (?v7y) rfl (by rfl) ?y7y ?r7y
          case y7y => (intro w hSw; (try dsimp only at hSw); (try go_split_ands); go_simp); (try with_reducible rfl)
          case r7y =>
          (try simp only [Act.put, sA, sB, sC])
          refine tk (i := 9) (oi := ⟨some 71, _, _, _, _, _⟩) (?v9y) rfl (by rfl) ?y9y ?r9y
          case y9y => (intro w hSw; (try dsimp only at hSw); (try go_split_ands); go_simp); (try with_reducible rfl)
          case r9y =>
          (try simp only [Act.put, sA, sB, sC])
          refine tk (i := 10) (oi := ⟨some 72, _, _, _, _, _⟩) (?v10y) rfl (by rfl) ?y10y ?r10y
          case y10y => (intro w hSw; (try dsimp only at hSw); (try go_split_ands); go_simp); (try with_reducible rfl)
          case r10y =>
          (try simp only [Act.put, sA, sB, sC])
          refine tk (i := 11) (oi := ⟨some 73, _, _, _, _, _⟩) (?v11y) rfl (by rfl) ?y11y ?r11y
          case y11y => (intro w hSw; (try dsimp only at hSw); (try go_split_ands); go_simp); (try with_reducible rfl)
          case r11y =>
          (try simp only [Act.put, sA, sB, sC])
          refine tk (i := 12) (oi := ⟨some 74, _, _, _, _, _⟩) (?v12y) rfl (by rfl) ?y12y ?r12y
          case y12y => (intro w hSw; (try dsimp only at hSw); (try go_split_ands); go_simp); (try with_reducible rfl)
          case r12y =>
          (try simp only [Act.put, sA, sB, sC])
          refine wpAnyH_ready (rs := [8]) (by kernel_rfl) (by simp) ?_
          refine AllReadyH.cons (o := ⟨some 70, _, _, _, _, _⟩) rfl (fun K hK => ?_) AllReadyH.nil
          go_simp
          refine (plLike Al cl l _ (HLV.out.below hHeld.1) (by omega)).mono ?_; rintro e w8 ⟨v8, rfl, ho8, hb3⟩; obtain ⟨A8, c8, hv8, -, -, hC8⟩ := row_cells ho8; subst hv8; have HC8 := Lib.hid hC8; clear ho8 hC8
          go_wp2_with fail
          refine hK.out _ _ (by have hh := Below.trans hHeld.1 (Below.mono hb3 (Below.size hHeld.1)); exact ⟨hh, bkeep hh p0 hpl, bkeep hh p1 hpl, bkeep hh p2 hpl, bkeep hh n0 hnl, bkeep hh n1 hnl, bkeep hh n2 hnl, bkeep hh l0 hql, bkeep hh l1 hql⟩) (fun hHeld => ?_)
          clear hK K
          (try simp only [Act.put, sA, sB, sC])
          refine wpAnyH_ready (rs := [13]) (by kernel_rfl) (by simp) ?_
          refine AllReadyH.cons (o := ⟨some 75, _, _, _, _, _⟩) rfl (fun K hK => ?_) AllReadyH.nil
          go_simp
          refine (rsMakeYes A cp m Ah ch hs A8 c8 l hot cold _ (HZV.out.below hHeld.1) (by omega) (cells_keep HXV.out hHeld.1 hHeld.1.size) (by omega) HC8.out (by omega) HM.out HHB.out π HPI.out).mono ?_; rintro e w9 ⟨v9, cs9, rfl, hp9, ho9, hb3⟩; obtain rfl : cs9 = cs := (HPR.out.one (hosts_ok HHB.out).2 hp9.out).symm; obtain ⟨A9, c9, hv9, -, -, hC9⟩ := row_cells ho9; subst hv9; have HC9 := Lib.hid hC9; clear ho9 hC9 hp9
          go_wp2_with fail
          refine hK.out _ _ (by have hh := Below.trans hHeld.1 (Below.mono hb3 (Below.size hHeld.1)); exact ⟨hh, bkeep hh p0 hpl, bkeep hh p1 hpl, bkeep hh p2 hpl, bkeep hh n0 hnl, bkeep hh n1 hnl, bkeep hh n2 hnl, bkeep hh l0 hql, bkeep hh l1 hql⟩) (fun hHeld => ?_)
          clear hK K
          (try simp only [Act.put, sA, sB, sC])
          refine wpAnyH_ready (rs := [14]) (by kernel_rfl) (by simp) ?_
          refine AllReadyH.cons (o := ⟨some 76, _, _, _, _, _⟩) rfl (fun K hK => ?_) AllReadyH.nil
          go_simp
          refine (plChanges cs9 Av A9 cv c9 _ (cells_keep HCV.out (HBV6.out.trans (hHeld.1.mono HBV6.out.size)) (Nat.le_trans HBV6.out.size hHeld.1.size)) HC9.out (by omega)).mono ?_; rintro e w10 ⟨rfl, hb3⟩
          go_wp2_with fail
          refine hK.out _ _ (by have hh := Below.trans hHeld.1 (Below.mono hb3 (Below.size hHeld.1)); exact ⟨hh, bkeep hh p0 hpl, bkeep hh p1 hpl, bkeep hh p2 hpl, bkeep hh n0 hnl, bkeep hh n1 hnl, bkeep hh n2 hnl, bkeep hh l0 hql, bkeep hh l1 hql⟩) (fun hHeld => ?_)
          clear hK K
          (try simp only [Act.put, sA, sB, sC])
          refine tk (i := 15) (oi := ⟨some 77, _, _, _, _, _⟩) (.bool true) rfl (by rfl) ?y15y ?r15y
          case y15y => (intro w hSw; (try dsimp only at hSw); (try go_split_ands); go_simp)
          case r15y =>
          (try simp only [Act.put, sA, sB, sC])
          refine tk (i := 16) (oi := ⟨some 78, _, _, _, _, _⟩) (.bool true) rfl (by rfl) ?y16y ?r16y
          case y16y => (intro w hSw; (try dsimp only at hSw); (try go_split_ands); go_simp)
          case r16y =>
          (try simp only [Act.put, sA, sB, sC])
          refine wpAnyH_ready (rs := [17]) (by kernel_rfl) (by simp) ?_
          refine AllReadyH.cons (o := ⟨some 79, _, _, _, _, _⟩) rfl (fun K hK => ?_) AllReadyH.nil
          go_simp
          refine (plKnown _).mono ?_; rintro e w11 ⟨rfl, hb3⟩
          go_wp2_with fail
          refine hK.out _ _ (by have hh := Below.trans hHeld.1 (Below.mono hb3 (Below.size hHeld.1)); exact ⟨hh, bkeep hh p0 hpl, bkeep hh p1 hpl, bkeep hh p2 hpl, bkeep hh n0 hnl, bkeep hh n1 hnl, bkeep hh n2 hnl, bkeep hh l0 hql, bkeep hh l1 hql⟩) (fun hHeld => ?_)
          clear hK K
          (try simp only [Act.put, sA, sB, sC])
          refine tk (i := 18) (oi := ⟨some 80, _, _, _, _, _⟩) (.bool true) rfl (by rfl) ?y18y ?r18y
          case y18y => (intro w hSw; (try dsimp only at hSw); (try go_split_ands); go_simp)
          case r18y =>
          (try simp only [Act.put, sA, sB, sC])
          refine tk (i := 19) (oi := ⟨some 8, _, _, _, _, _⟩) (.bool true) rfl (by rfl) ?y19y ?r19y
          case y19y => (intro w hSw; (try dsimp only at hSw); (try go_split_ands); go_simp)
          case r19y =>
          (try simp only [Act.put, sA, sB, sC])
          refine wpAnyH_done (by kernel_rfl) ?_ _
          go_wp2_with fail
          go_ret
          exact ⟨rfl, HB.out.trans ((HBV0.out.trans (hHeld.1.mono HBV0.out.size)).mono HB.out.size)⟩
end Go.Proofs.YtepjehcmiofehaaGreat
