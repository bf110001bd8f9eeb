/- The directory's laws: changes, played in both. The directory's laws: heavy; played, of no hosts; DirPlays. -/
import Derived.Test.YtbohpjinkdffhaaRdU
import Derived.Test.YtbohpjinkdffhaaRdGc
import Derived.Test.YtbohpjinkdffhaaDrV
namespace Go.Proofs.Ytbohpjinkdffhaa
open Go.RowKit
set_option linter.unusedVariables false
set_option linter.unusedSimpArgs false

theorem DrH.lower {w : World} {B B' d : Nat} {hv zv : Value} {hosts : List Int} {m : Mp} (h : DrH w B d hv zv hosts m) (hb : B' ≤ B) : DrH w B' d hv zv hosts m := ⟨h.blk, own_mono h.hrow hb, own_mono h.row hb, h.ha, h.za, h.hz, Nat.le_trans hb h.low⟩
theorem RdH.lower {w : World} {B B' d : Nat} {hv zv : Value} {hosts : List Int} {m : Mp} (h : RdH w B d hv zv hosts m) (hb : B' ≤ B) : RdH w B' d hv zv hosts m := ⟨h.blk, own_mono h.hrow hb, own_mono h.row hb, h.ha, h.za, h.hz, Nat.le_trans hb h.low⟩
theorem mp1_small (l : List Int) : Small (mp1 l) 2 := ⟨by show (1 : Int) ≤ 2; decide, by show (2 : Int) ≤ 2; decide, fun z hz => by (have hz : z = ⟨1, ⟨#[]⟩, ⟨#[]⟩, l.headD 0, 1, 0, 0, ⟨#[]⟩, 0⟩ := (by simpa [mp1] using hz)); subst hz; show (1 : Int) ≤ 2; decide⟩
theorem okFrom_head {l : List Int} (h : hostsB l = true) : 1 ≤ l.headD 0 ∧ l.headD 0 ≤ 1048576 := by
  unfold hostsB at h
  simp only [Bool.and_eq_true, decide_eq_true_eq] at h
  obtain ⟨⟨h1, h6⟩, h2⟩ := h
  rcases l with _ | ⟨a, r⟩
  · simp at h1
  · simp only [okFrom, Bool.and_eq_true, decide_eq_true_eq] at h2
    show 1 ≤ a ∧ a ≤ 1048576
    omega
set_option maxHeartbeats 20000000 in
set_option maxRecDepth 10000 in
theorem played1 (Ah : Option Addr) (ch : Nat) (hosts : List Int) (A : Option Addr) (c : Nat) (xs : List Ch) (w : World) (hh : Cells w w.heap.size Ah hosts.length ch 1 (intsV hosts)) (hb : hostsB hosts = true) (hx : Cells w w.heap.size A xs.length c 5 (xs.flatMap chV)) :
    Calls Try.prog 10 #[.slice Ah hosts.length ch, .slice A xs.length c] w fun e w' => ∃ (d x : Nat) (hv zv hv2 zv2 : Value) (m : Mp), e = .returned (.tuple #[.pointer (some ⟨d, 0, none⟩), .pointer (some ⟨x, 0, none⟩), .bool true]) ∧ DrH w' w.heap.size d hv zv hosts m ∧ RdH w' w.heap.size x hv2 zv2 hosts m ∧ MayI m ∧ 1 ≤ m.ver ∧ Small m 1000 ∧ (∀ k, Fd d hv zv k → ¬ Fd x hv2 zv2 k) ∧ Below w.heap.size w w' := by
  have HH := Lib.hid hh
  have HX := Lib.hid hx
  have HHB := Lib.hid hb
  have h6 : 1 ≤ hosts.length ∧ hosts.length ≤ 6 := by
    unfold hostsB at hb
    simp only [Bool.and_eq_true, decide_eq_true_eq] at hb
    exact hb.1
  obtain ⟨i0, hi0, hz0, hz1, hz2⟩ := info_parts Try.infoI64
  clear hh hx hb
  go_enter Try.func10, Try.ntmps10
  go_upto_region 5 with (first
    | (at_builtin; go_loud (refine wpList_append_row rfl (.tmp 14) (.tmp 15) 22 rfl w.heap.size 3 i0 (.int .i64 0) 1 8 Try.underlying22 hi0 hz0 hz1 hz2 rfl (by decide) (.slice (some ⟨w.heap.size, 0, none⟩) 0 0) 0 [] rfl (owns_lit0 rfl (Nat.le_refl _)) w.heap.size Ah hosts.length ch (intsV hosts) rfl (cells_keep HH.out (by ((repeat (first | (with_reducible exact Below.refl _ _) | (with_reducible assumption) | ((with_reducible refine b_set ?_ ?_); · (first | omega | (simp; done) | (simp; omega))) | ((with_reducible refine b_alloc ?_ ?_); · (first | omega | (simp; done) | (simp; omega))) | (with_reducible refine Below.drew ?_) | (with_reducible refine b_drewN ?_) | ((with_reducible refine b_call (by assumption) ?_ ?_); · (first | omega | (simp; done) | (simp; omega))))); done)) (Nat.le_refl _)) (intsV_one hosts) (by unfold maxLen; omega) (by omega) (by (first | omega | (simp; done) | (simp; omega))) ?_; intro v1 w1 ho1 hb1; rw [Nat.zero_add, List.nil_append] at ho1; obtain ⟨g1, c1, e1, _, _, _, _⟩ := own_form ho1 (by omega); subst e1; have HO1 := Lib.hid ho1; have HB1 : Hid (Below w.heap.size w w1) := Lib.hid (Below.trans (show Below w.heap.size w _ by ((repeat (first | (with_reducible exact Below.refl _ _) | (with_reducible assumption) | ((with_reducible refine b_set ?_ ?_); · (first | omega | (simp; done) | (simp; omega))) | ((with_reducible refine b_alloc ?_ ?_); · (first | omega | (simp; done) | (simp; omega))) | (with_reducible refine Below.drew ?_) | (with_reducible refine b_drewN ?_) | ((with_reducible refine b_call (by assumption) ?_ ?_); · (first | omega | (simp; done) | (simp; omega))))); done)) (hb1.mono (by (first | omega | (simp; done) | (simp; omega))))); have hs1 := HB1.out.size; clear ho1 hb1))
    | (go_at_call 29; go_loud (refine (drNew1 w.heap.size _ hosts _ HO1.out HHB.out).mono ?_; rintro e w2 ⟨d, hv, zv, rfl, hd2, hb2⟩; have HB2 := Lib.hid (HB1.out.trans (hb2.mono hs1)); have hs2 := hb2.size; have HD2 := Lib.hid (hd2.lower hs1); have HDB := Lib.hid hd2; clear hd2 hb2))
    | (go_at_call 30; go_loud (refine (rdNewC1 Ah ch hosts _ (cells_keep HH.out HB2.out (by omega)) HHB.out).mono ?_; rintro e w3 ⟨x, hv2, zv2, rfl, hr3, hb3⟩; have HB3 := Lib.hid (HB2.out.trans (hb3.mono (by omega))); have hs3 := hb3.size; have HR3 := Lib.hid (hr3.lower (show w.heap.size ≤ w2.heap.size by omega)); have HD3 := Lib.hid (HD2.out.below hb3); have HAP3 : Hid (∀ k, Fd d hv zv k → ¬ Fd x hv2 zv2 k) := Lib.hid (fun k hk hx => by (have := (HD2.out.lows k hk).2; have := (hr3.lows k hx).1; omega)); clear hr3 hb3))
    | fail)
  clear hi0 hz0 hz1 hz2
  go_wp2_with fail
  have hw3 := HB3.out.size
  go_loopw [11, 12] (fun iv bv wr => ∃ (i : Nat) (m : Mp) (zv zv2 : Value), i ≤ min xs.length 100 ∧ iv = .int .i64 i ∧ DrH wr w.heap.size d hv zv hosts m ∧ RdH wr w.heap.size x hv2 zv2 hosts m ∧ MayI m ∧ 1 ≤ m.ver ∧ Small m (i + 2) ∧ (∀ k, Fd d hv zv k → ¬ Fd x hv2 zv2 k) ∧ Below w.heap.size w wr) (fun iv _ _ => min xs.length 100 - (intOf iv).toNat)
  case atStart => exact ⟨0, _, _, _, Nat.zero_le _, rfl, HD3.out, HR3.out, MayI.begin (okFrom_head HHB.out), by show (1 : Int) ≤ 1; decide, mp1_small _, HAP3.out, HB3.out⟩
  case round =>
    obtain ⟨i, m, zv, zv2, hil, rfl, hD, hR, hM, hV, hS, hAP, hBw⟩ := hrel
    have HD := Lib.hid hD
    have HR := Lib.hid hR
    have HM := Lib.hid hM
    have HV1 := Lib.hid hV
    have HAP := Lib.hid hAP
    have HW := Lib.hid hBw
    have hlen : m.zs.length ≤ 16 := by have := hM.okn.sum; omega
    have hsw := hBw.size
    have hdl := hD.blk.low
    have hxl := hR.blk.low
    by_cases hlt : i < min xs.length 100
    · have q3 : (i : Int) < (xs.length : Int) := by omega
      have q4 : (i : Int) < 100 := by omega
      have HS : Hid (Small m 999999) := Lib.hid (hS.mono (by omega))
      have HS2 := Lib.hid hS
      obtain ⟨qb, qo, rfl, hqb, c0, c1, c2, c3, c4⟩ := ch_at HX.out (show i < xs.length by omega)
      have c0 := bkeep hBw c0 hqb
      have c1 := bkeep hBw c1 hqb
      have c2 := bkeep hBw c2 hqb
      have c3 := bkeep hBw c3 hqb
      have c4 := bkeep hBw c4 hqb
      obtain ⟨cc, hcc⟩ : ∃ k, k = xs[i]'(by omega) := ⟨_, rfl⟩
      rw [← hcc] at c0 c1 c2 c3 c4
      obtain ⟨b, m', ha⟩ := Ap.ex hosts m cc
      have HA := Lib.hid ha
      have HM2 := Lib.hid (ha.may hM)
      have hlen2 : m'.zs.length ≤ 16 := by have := HM2.out.okn.sum; omega
      have hFq : ¬ Fz d zv qb := by
        rintro (h | h)
        · have := hD.low; omega
        · have := (hD.row.lt qb h).1; omega
      have hFq2 : ¬ Fz x zv2 qb := by
        rintro (h | h)
        · have := hR.low; omega
        · have := (hR.row.lt qb h).1; omega
      clear hBw hcc hD hR hM hV hS hAP ha
      go_upto_region 9 with (first
        | (go_at_call 31; go_loud (refine (drWould w.heap.size d hv _ hosts m cc _ HD.out (by omega) HM.out.okn.okm (by omega) HA.out).mono ?_; rintro e w3 ⟨rfl, hb3⟩; have hs3 := hb3.size; have HB3 := Lib.hid hb3; have c0 := bkeep hb3 c0 (by omega); have c1 := bkeep hb3 c1 (by omega); have c2 := bkeep hb3 c2 (by omega); have c3 := bkeep hb3 c3 (by omega); have c4 := bkeep hb3 c4 (by omega); have HD3 := Lib.hid (HD.out.below hb3); have HR3 := Lib.hid (HR.out.below hb3); clear hb3))
        | fail)
      refine wp_region_held_drew (S := (fun W => W.cell? ⟨qb, qo + i * 5, none⟩ = some (.int .i64 cc.kd) ∧ W.cell? ⟨qb, qo + i * 5 + 1, none⟩ = some (.int .i64 cc.zo) ∧ W.cell? ⟨qb, qo + i * 5 + 2, none⟩ = some (.int .i64 cc.ep) ∧ W.cell? ⟨qb, qo + i * 5 + 3, none⟩ = some (.int .i64 cc.mv) ∧ W.cell? ⟨qb, qo + i * 5 + 4, none⟩ = some (.string cc.ky))) (by kernel_rfl) ⟨c0, c1, c2, c3, c4⟩ (fun hHeld => ?_)
      refine wpAnyH_take (i := 0) (oi := ⟨some 55, _, _, _, _, _⟩) (v := ?v0p_1) rfl (by kernel_rfl) (by kernel_rfl) (by kernel_rfl) (fun _ _ _ h => h) (Or.inl ⟨by rfl, ?y0p_1⟩) (by assumption) ?r0p_1
      case y0p_1 => (intro w hSw; (try dsimp only at hSw); (try go_split_ands); go_simp); (try with_reducible rfl)
      case r0p_1 =>
      (try simp only [Act.put, List.setIfInBounds_toArray, List.set_cons_zero, List.set_cons_succ])
      refine wpAnyH_take (i := 1) (oi := ⟨some 56, _, _, _, _, _⟩) (v := ?v1p_4) rfl (by kernel_rfl) (by kernel_rfl) (by kernel_rfl) (fun _ _ _ h => h) (Or.inl ⟨by rfl, ?y1p_4⟩) (by assumption) ?r1p_4
      case y1p_4 => (intro w hSw; (try dsimp only at hSw); (try go_split_ands); go_simp); (try with_reducible rfl)
      case r1p_4 =>
      (try simp only [Act.put, List.setIfInBounds_toArray, List.set_cons_zero, List.set_cons_succ])
      refine wpAnyH_take (i := 2) (oi := ⟨some 57, _, _, _, _, _⟩) (v := ?v2p_7) rfl (by kernel_rfl) (by kernel_rfl) (by kernel_rfl) (fun _ _ _ h => h) (Or.inl ⟨by rfl, ?y2p_7⟩) (by assumption) ?r2p_7
      case y2p_7 => (intro w hSw; (try dsimp only at hSw); (try go_split_ands); go_simp); (try with_reducible rfl)
      case r2p_7 =>
      (try simp only [Act.put, List.setIfInBounds_toArray, List.set_cons_zero, List.set_cons_succ])
      refine wpAnyH_take (i := 3) (oi := ⟨some 58, _, _, _, _, _⟩) (v := ?v3p_10) rfl (by kernel_rfl) (by kernel_rfl) (by kernel_rfl) (fun _ _ _ h => h) (Or.inl ⟨by rfl, ?y3p_10⟩) (by assumption) ?r3p_10
      case y3p_10 => (intro w hSw; (try dsimp only at hSw); (try go_split_ands); go_simp); (try with_reducible rfl)
      case r3p_10 =>
      (try simp only [Act.put, List.setIfInBounds_toArray, List.set_cons_zero, List.set_cons_succ])
      refine wpAnyH_take (i := 4) (oi := ⟨some 59, _, _, _, _, _⟩) (v := ?v4p_13) rfl (by kernel_rfl) (by kernel_rfl) (by kernel_rfl) (fun _ _ _ h => h) (Or.inl ⟨by rfl, ?y4p_13⟩) (by assumption) ?r4p_13
      case y4p_13 => (intro w hSw; (try dsimp only at hSw); (try go_split_ands); go_simp); (try with_reducible rfl)
      case r4p_13 =>
      (try simp only [Act.put, List.setIfInBounds_toArray, List.set_cons_zero, List.set_cons_succ])
      refine wpAnyH_take (i := 5) (oi := ⟨some 60, _, _, _, _, _⟩) (v := ?v5p_16) rfl (by kernel_rfl) (by kernel_rfl) (by kernel_rfl) (fun _ _ _ h => h) (Or.inl ⟨by rfl, ?y5p_16⟩) (by assumption) ?r5p_16
      case y5p_16 => (intro w hSw; (try dsimp only at hSw); (try go_split_ands); go_simp); (try with_reducible rfl)
      case r5p_16 =>
      (try simp only [Act.put, List.setIfInBounds_toArray, List.set_cons_zero, List.set_cons_succ])
      refine wpAnyH_ready (rs := [6]) (by kernel_rfl) (by simp) ?_
      refine AllReadyH.cons (o := ⟨some 61, _, _, _, _, _⟩) rfl (fun K hK => ?_) AllReadyH.nil
      go_simp
      refine (rdWould w.heap.size x hv2 _ hosts m cc _ (HR3.out.below (Below.refl _ _).drew) (by (try simp) <;> omega) (by omega) HM.out HV1.out HS.out HA.out).mono ?_; rintro e w4 ⟨rfl, hb4⟩
      go_wp2_with fail
      have HB4 : Hid (Below w3.heap.size w3 w4) := Lib.hid ((Below.refl _ _).drew.trans hb4)
      have hs4 := HB4.out.size
      have hS4 : w4.cell? ⟨qb, qo + i * 5, none⟩ = some (.int .i64 cc.kd) ∧ w4.cell? ⟨qb, qo + i * 5 + 1, none⟩ = some (.int .i64 cc.zo) ∧ w4.cell? ⟨qb, qo + i * 5 + 2, none⟩ = some (.int .i64 cc.ep) ∧ w4.cell? ⟨qb, qo + i * 5 + 3, none⟩ = some (.int .i64 cc.mv) ∧ w4.cell? ⟨qb, qo + i * 5 + 4, none⟩ = some (.string cc.ky) := ⟨bkeep HB4.out c0 (by omega), bkeep HB4.out c1 (by omega), bkeep HB4.out c2 (by omega), bkeep HB4.out c3 (by omega), bkeep HB4.out c4 (by omega)⟩
      have HD4 := Lib.hid (HD3.out.below HB4.out)
      have HR4 := Lib.hid (HR3.out.below HB4.out)
      clear hb4
      refine hK.out _ _ (by assumption) (fun hHeld => ?_)
      clear hK K
      (try simp only [Act.put, List.setIfInBounds_toArray, List.set_cons_zero, List.set_cons_succ])
      refine wpAnyH_take (i := 7) (oi := ⟨some 62, _, _, _, _, _⟩) (v := .bool false) rfl (by kernel_rfl) (by kernel_rfl) (by kernel_rfl) (fun _ _ _ h => h) (Or.inl ⟨by rfl, ?y7p_33⟩) (by assumption) ?r7p_33
      case y7p_33 => (intro w hSw; (try dsimp only at hSw); (try go_split_ands); go_simp)
      case r7p_33 =>
      (try simp only [Act.put, List.setIfInBounds_toArray, List.set_cons_zero, List.set_cons_succ])
      refine wpAnyH_take (i := 8) (oi := ⟨some 63, _, _, _, _, _⟩) (v := .bool false) rfl (by kernel_rfl) (by kernel_rfl) (by kernel_rfl) (fun _ _ _ h => h) (Or.inl ⟨by rfl, ?y8p_36⟩) (by assumption) ?r8p_36
      case y8p_36 => (intro w hSw; (try dsimp only at hSw); (try go_split_ands); go_simp)
      case r8p_36 =>
      (try simp only [Act.put, List.setIfInBounds_toArray, List.set_cons_zero, List.set_cons_succ])
      refine wpAnyH_take (i := 9) (oi := ⟨some 64, _, _, _, _, _⟩) (v := ?v9p_39) rfl (by kernel_rfl) (by kernel_rfl) (by kernel_rfl) (fun _ _ _ h => h) (Or.inl ⟨by rfl, ?y9p_39⟩) (by assumption) ?r9p_39
      case y9p_39 => (intro w hSw; (try dsimp only at hSw); (try go_split_ands); go_simp); (try with_reducible rfl)
      case r9p_39 =>
      (try simp only [Act.put, List.setIfInBounds_toArray, List.set_cons_zero, List.set_cons_succ])
      refine wpAnyH_take (i := 10) (oi := ⟨some 65, _, _, _, _, _⟩) (v := ?v10p_42) rfl (by kernel_rfl) (by kernel_rfl) (by kernel_rfl) (fun _ _ _ h => h) (Or.inl ⟨by rfl, ?y10p_42⟩) (by assumption) ?r10p_42
      case y10p_42 => (intro w hSw; (try dsimp only at hSw); (try go_split_ands); go_simp); (try with_reducible rfl)
      case r10p_42 =>
      (try simp only [Act.put, List.setIfInBounds_toArray, List.set_cons_zero, List.set_cons_succ])
      refine wpAnyH_take (i := 11) (oi := ⟨some 66, _, _, _, _, _⟩) (v := ?v11p_45) rfl (by kernel_rfl) (by kernel_rfl) (by kernel_rfl) (fun _ _ _ h => h) (Or.inl ⟨by rfl, ?y11p_45⟩) (by assumption) ?r11p_45
      case y11p_45 => (intro w hSw; (try dsimp only at hSw); (try go_split_ands); go_simp); (try with_reducible rfl)
      case r11p_45 =>
      (try simp only [Act.put, List.setIfInBounds_toArray, List.set_cons_zero, List.set_cons_succ])
      refine wpAnyH_take (i := 12) (oi := ⟨some 67, _, _, _, _, _⟩) (v := ?v12p_48) rfl (by kernel_rfl) (by kernel_rfl) (by kernel_rfl) (fun _ _ _ h => h) (Or.inl ⟨by rfl, ?y12p_48⟩) (by assumption) ?r12p_48
      case y12p_48 => (intro w hSw; (try dsimp only at hSw); (try go_split_ands); go_simp); (try with_reducible rfl)
      case r12p_48 =>
      (try simp only [Act.put, List.setIfInBounds_toArray, List.set_cons_zero, List.set_cons_succ])
      refine wpAnyH_take (i := 13) (oi := ⟨some 68, _, _, _, _, _⟩) (v := ?v13p_51) rfl (by kernel_rfl) (by kernel_rfl) (by kernel_rfl) (fun _ _ _ h => h) (Or.inl ⟨by rfl, ?y13p_51⟩) (by assumption) ?r13p_51
      case y13p_51 => (intro w hSw; (try dsimp only at hSw); (try go_split_ands); go_simp); (try with_reducible rfl)
      case r13p_51 =>
      (try simp only [Act.put, List.setIfInBounds_toArray, List.set_cons_zero, List.set_cons_succ])
      refine wpAnyH_take (i := 14) (oi := ⟨some 69, _, _, _, _, _⟩) (v := ?v14p_54) rfl (by kernel_rfl) (by kernel_rfl) (by kernel_rfl) (fun _ _ _ h => h) (Or.inl ⟨by rfl, ?y14p_54⟩) (by assumption) ?r14p_54
      case y14p_54 => (intro w hSw; (try dsimp only at hSw); (try go_split_ands); go_simp); (try with_reducible rfl)
      case r14p_54 =>
      (try simp only [Act.put, List.setIfInBounds_toArray, List.set_cons_zero, List.set_cons_succ])
      refine wpAnyH_ready (rs := [15]) (by kernel_rfl) (by simp) ?_
      refine AllReadyH.cons (o := ⟨some 70, _, _, _, _, _⟩) rfl (fun K hK => ?_) AllReadyH.nil
      go_simp
      refine (drAp w.heap.size d hv _ hosts m cc _ HD4.out (by omega) HM.out.okn.okm (by omega) HA.out).mono ?_; rintro e w5 ⟨z5, rfl, hd5, ht5, hw5⟩
      go_wp2_with fail
      have HD5 := Lib.hid hd5
      have hs5 := ht5.size
      have hS5 : w5.cell? ⟨qb, qo + i * 5, none⟩ = some (.int .i64 cc.kd) ∧ w5.cell? ⟨qb, qo + i * 5 + 1, none⟩ = some (.int .i64 cc.zo) ∧ w5.cell? ⟨qb, qo + i * 5 + 2, none⟩ = some (.int .i64 cc.ep) ∧ w5.cell? ⟨qb, qo + i * 5 + 3, none⟩ = some (.int .i64 cc.mv) ∧ w5.cell? ⟨qb, qo + i * 5 + 4, none⟩ = some (.string cc.ky) := ⟨ht5.cell hS4.1 hFq, ht5.cell hS4.2.1 hFq, ht5.cell hS4.2.2.1 hFq, ht5.cell hS4.2.2.2.1 hFq, ht5.cell hS4.2.2.2.2 hFq⟩
      have HR5 := Lib.hid (HR4.out.keep ht5 (fun k hk hf => HAP.out k (hf.elim .inl (fun h => .inr (.inr h))) hk))
      have HAP5 : Hid (∀ k, Fd d hv z5 k → ¬ Fd x hv2 zv2 k) := Lib.hid (fun k hk hx => by
        rcases hk with h | h | h
        · exact HAP.out k (.inl h) hx
        · exact HAP.out k (.inr (.inl h)) hx
        · rcases hw5 k h with h | h
          · exact HAP.out k (.inr (.inr h)) hx
          · have := (HR4.out.lows k hx).2; omega)
      have HW5 : Hid (Below w.heap.size w w5) := Lib.hid (((HW.out.trans (HB3.out.mono hsw)).trans (HB4.out.mono (by omega))).trans (ht5.below (B := w.heap.size) (by omega) (fun k hk => by
        rcases hk with h | h
        · have := HD4.out.low; omega
        · have := (HD4.out.row.lt k h).1; omega)))
      clear hd5 ht5 hw5
      refine hK.out _ _ (by assumption) (fun hHeld => ?_)
      clear hK K
      (try simp only [Act.put, List.setIfInBounds_toArray, List.set_cons_zero, List.set_cons_succ])
      refine wpAnyH_take (i := 16) (oi := ⟨some 71, _, _, _, _, _⟩) (v := .bool false) rfl (by kernel_rfl) (by kernel_rfl) (by kernel_rfl) (fun _ _ _ h => h) (Or.inl ⟨by rfl, ?y16p_81⟩) (by assumption) ?r16p_81
      case y16p_81 => (intro w hSw; (try dsimp only at hSw); (try go_split_ands); go_simp)
      case r16p_81 =>
      (try simp only [Act.put, List.setIfInBounds_toArray, List.set_cons_zero, List.set_cons_succ])
      refine wpAnyH_take (i := 17) (oi := ⟨some 72, _, _, _, _, _⟩) (v := .bool false) rfl (by kernel_rfl) (by kernel_rfl) (by kernel_rfl) (fun _ _ _ h => h) (Or.inl ⟨by rfl, ?y17p_84⟩) (by assumption) ?r17p_84
      case y17p_84 => (intro w hSw; (try dsimp only at hSw); (try go_split_ands); go_simp)
      case r17p_84 =>
      (try simp only [Act.put, List.setIfInBounds_toArray, List.set_cons_zero, List.set_cons_succ])
      refine wpAnyH_take (i := 18) (oi := ⟨some 73, _, _, _, _, _⟩) (v := .bool false) rfl (by kernel_rfl) (by kernel_rfl) (by kernel_rfl) (fun _ _ _ h => h) (Or.inl ⟨by rfl, ?y18p_87⟩) (by assumption) ?r18p_87
      case y18p_87 => (intro w hSw; (try dsimp only at hSw); (try go_split_ands); go_simp)
      case r18p_87 =>
      (try simp only [Act.put, List.setIfInBounds_toArray, List.set_cons_zero, List.set_cons_succ])
      refine wpAnyH_take (i := 19) (oi := ⟨some 74, _, _, _, _, _⟩) (v := ?v19p_90) rfl (by kernel_rfl) (by kernel_rfl) (by kernel_rfl) (fun _ _ _ h => h) (Or.inl ⟨by rfl, ?y19p_90⟩) (by assumption) ?r19p_90
      case y19p_90 => (intro w hSw; (try dsimp only at hSw); (try go_split_ands); go_simp); (try with_reducible rfl)
      case r19p_90 =>
      (try simp only [Act.put, List.setIfInBounds_toArray, List.set_cons_zero, List.set_cons_succ])
      refine wpAnyH_take (i := 20) (oi := ⟨some 75, _, _, _, _, _⟩) (v := ?v20p_93) rfl (by kernel_rfl) (by kernel_rfl) (by kernel_rfl) (fun _ _ _ h => h) (Or.inl ⟨by rfl, ?y20p_93⟩) (by assumption) ?r20p_93
      case y20p_93 => (intro w hSw; (try dsimp only at hSw); (try go_split_ands); go_simp); (try with_reducible rfl)
      case r20p_93 =>
      (try simp only [Act.put, List.setIfInBounds_toArray, List.set_cons_zero, List.set_cons_succ])
      refine wpAnyH_take (i := 21) (oi := ⟨some 76, _, _, _, _, _⟩) (v := ?v21p_96) rfl (by kernel_rfl) (by kernel_rfl) (by kernel_rfl) (fun _ _ _ h => h) (Or.inl ⟨by rfl, ?y21p_96⟩) (by assumption) ?r21p_96
      case y21p_96 => (intro w hSw; (try dsimp only at hSw); (try go_split_ands); go_simp); (try with_reducible rfl)
      case r21p_96 =>
      (try simp only [Act.put, List.setIfInBounds_toArray, List.set_cons_zero, List.set_cons_succ])
      refine wpAnyH_take (i := 22) (oi := ⟨some 77, _, _, _, _, _⟩) (v := ?v22p_99) rfl (by kernel_rfl) (by kernel_rfl) (by kernel_rfl) (fun _ _ _ h => h) (Or.inl ⟨by rfl, ?y22p_99⟩) (by assumption) ?r22p_99
      case y22p_99 => (intro w hSw; (try dsimp only at hSw); (try go_split_ands); go_simp); (try with_reducible rfl)
      case r22p_99 =>
      (try simp only [Act.put, List.setIfInBounds_toArray, List.set_cons_zero, List.set_cons_succ])
      refine wpAnyH_take (i := 23) (oi := ⟨some 78, _, _, _, _, _⟩) (v := ?v23p_102) rfl (by kernel_rfl) (by kernel_rfl) (by kernel_rfl) (fun _ _ _ h => h) (Or.inl ⟨by rfl, ?y23p_102⟩) (by assumption) ?r23p_102
      case y23p_102 => (intro w hSw; (try dsimp only at hSw); (try go_split_ands); go_simp); (try with_reducible rfl)
      case r23p_102 =>
      (try simp only [Act.put, List.setIfInBounds_toArray, List.set_cons_zero, List.set_cons_succ])
      refine wpAnyH_take (i := 24) (oi := ⟨some 79, _, _, _, _, _⟩) (v := ?v24p_105) rfl (by kernel_rfl) (by kernel_rfl) (by kernel_rfl) (fun _ _ _ h => h) (Or.inl ⟨by rfl, ?y24p_105⟩) (by assumption) ?r24p_105
      case y24p_105 => (intro w hSw; (try dsimp only at hSw); (try go_split_ands); go_simp); (try with_reducible rfl)
      case r24p_105 =>
      (try simp only [Act.put, List.setIfInBounds_toArray, List.set_cons_zero, List.set_cons_succ])
      refine wpAnyH_ready (rs := [25]) (by kernel_rfl) (by simp) ?_
      refine AllReadyH.cons (o := ⟨some 80, _, _, _, _, _⟩) rfl (fun K hK => ?_) AllReadyH.nil
      go_simp
      refine (rdAp w.heap.size x hv2 _ hosts m cc _ HR5.out (by omega) (by omega) HM.out HV1.out HS.out HA.out).mono ?_; rintro e w6 ⟨z6, rfl, hr6, ht6, hw6⟩
      go_wp2_with fail
      have HR6 := Lib.hid hr6
      have hs6 := ht6.size
      have hS6 : w6.cell? ⟨qb, qo + i * 5, none⟩ = some (.int .i64 cc.kd) ∧ w6.cell? ⟨qb, qo + i * 5 + 1, none⟩ = some (.int .i64 cc.zo) ∧ w6.cell? ⟨qb, qo + i * 5 + 2, none⟩ = some (.int .i64 cc.ep) ∧ w6.cell? ⟨qb, qo + i * 5 + 3, none⟩ = some (.int .i64 cc.mv) ∧ w6.cell? ⟨qb, qo + i * 5 + 4, none⟩ = some (.string cc.ky) := ⟨ht6.cell hS5.1 hFq2, ht6.cell hS5.2.1 hFq2, ht6.cell hS5.2.2.1 hFq2, ht6.cell hS5.2.2.2.1 hFq2, ht6.cell hS5.2.2.2.2 hFq2⟩
      have HD6 := Lib.hid (HD5.out.keep ht6 (fun k hk hf => HAP5.out k hk (hf.elim .inl (fun h => .inr (.inr h)))))
      have HAP6 : Hid (∀ k, Fd d hv z5 k → ¬ Fd x hv2 z6 k) := Lib.hid (fun k hk hx => by
        rcases hx with h | h | h
        · exact HAP5.out k hk (.inl h)
        · exact HAP5.out k hk (.inr (.inl h))
        · rcases hw6 k h with h | h
          · exact HAP5.out k hk (.inr (.inr h))
          · have := (HD5.out.lows k hk).2; omega)
      have u0 := hr6.blk.cell 0
      have u1 := hr6.blk.cell 1
      have u2 := hr6.blk.cell 2
      simp only [List.getElem?_toArray, List.getElem?_cons_succ, List.getElem?_cons_zero] at u0 u1 u2
      have HW36 : Hid (Below w.heap.size w w6) := Lib.hid ((HW5.out).trans (ht6.below (B := w.heap.size) (by omega) (fun k hk => by
        rcases hk with h | h
        · have := HR5.out.low; omega
        · have := (HR5.out.row.lt k h).1; omega)))
      clear hr6 ht6 hw6
      refine hK.out _ _ (by assumption) (fun hHeld => ?_)
      clear hK K
      (try simp only [Act.put, List.setIfInBounds_toArray, List.set_cons_zero, List.set_cons_succ])
      refine wpAnyH_take (i := 26) (oi := ⟨some 81, _, _, _, _, _⟩) (v := .bool false) rfl (by kernel_rfl) (by kernel_rfl) (by kernel_rfl) (fun _ _ _ h => h) (Or.inl ⟨by rfl, ?y26p_136⟩) (by assumption) ?r26p_136
      case y26p_136 => (intro w hSw; (try dsimp only at hSw); (try go_split_ands); go_simp)
      case r26p_136 =>
      (try simp only [Act.put, List.setIfInBounds_toArray, List.set_cons_zero, List.set_cons_succ])
      refine wpAnyH_take (i := 27) (oi := ⟨some 82, _, _, _, _, _⟩) (v := .bool false) rfl (by kernel_rfl) (by kernel_rfl) (by kernel_rfl) (fun _ _ _ h => h) (Or.inl ⟨by rfl, ?y27p_139⟩) (by assumption) ?r27p_139
      case y27p_139 => (intro w hSw; (try dsimp only at hSw); (try go_split_ands); go_simp)
      case r27p_139 =>
      (try simp only [Act.put, List.setIfInBounds_toArray, List.set_cons_zero, List.set_cons_succ])
      refine wpAnyH_take (i := 28) (oi := ⟨some 83, _, _, _, _, _⟩) (v := .bool false) rfl (by kernel_rfl) (by kernel_rfl) (by kernel_rfl) (fun _ _ _ h => h) (Or.inl ⟨by rfl, ?y28p_142⟩) (by assumption) ?r28p_142
      case y28p_142 => (intro w hSw; (try dsimp only at hSw); (try go_split_ands); go_simp)
      case r28p_142 =>
      (try simp only [Act.put, List.setIfInBounds_toArray, List.set_cons_zero, List.set_cons_succ])
      refine wpAnyH_take (i := 29) (oi := ⟨some 84, _, _, _, _, _⟩) (v := ?v29p_145) rfl (by kernel_rfl) (by kernel_rfl) (by kernel_rfl) (fun _ _ _ h => h) (Or.inl ⟨by rfl, ?y29p_145⟩) (by assumption) ?r29p_145
      case y29p_145 => (intro w hSw; (try dsimp only at hSw); (try go_split_ands); go_simp); (try with_reducible rfl)
      case r29p_145 =>
      (try simp only [Act.put, List.setIfInBounds_toArray, List.set_cons_zero, List.set_cons_succ])
      refine wpAnyH_take (i := 31) (oi := ⟨some 86, _, _, _, _, _⟩) (v := ?v31p_148) rfl (by kernel_rfl) (by kernel_rfl) (by kernel_rfl) (fun _ _ _ h => h) (Or.inl ⟨by rfl, ?y31p_148⟩) (by assumption) ?r31p_148
      case y31p_148 => (intro w hSw; (try dsimp only at hSw); (try go_split_ands); go_simp); (try with_reducible rfl)
      case r31p_148 =>
      (try simp only [Act.put, List.setIfInBounds_toArray, List.set_cons_zero, List.set_cons_succ])
      refine wpAnyH_take (i := 32) (oi := ⟨some 87, _, _, _, _, _⟩) (v := ?v32p_151) rfl (by kernel_rfl) (by kernel_rfl) (by kernel_rfl) (fun _ _ _ h => h) (Or.inl ⟨by rfl, ?y32p_151⟩) (by assumption) ?r32p_151
      case y32p_151 => (intro w hSw; (try dsimp only at hSw); (try go_split_ands); go_simp); (try with_reducible rfl)
      case r32p_151 =>
      (try simp only [Act.put, List.setIfInBounds_toArray, List.set_cons_zero, List.set_cons_succ])
      refine wpAnyH_take (i := 33) (oi := ⟨some 88, _, _, _, _, _⟩) (v := ?v33p_154) rfl (by kernel_rfl) (by kernel_rfl) (by kernel_rfl) (fun _ _ _ h => h) (Or.inl ⟨by rfl, ?y33p_154⟩) (by assumption) ?r33p_154
      case y33p_154 => (intro w hSw; (try dsimp only at hSw); (try go_split_ands); go_simp); (try with_reducible rfl)
      case r33p_154 =>
      (try simp only [Act.put, List.setIfInBounds_toArray, List.set_cons_zero, List.set_cons_succ])
      refine wpAnyH_ready (rs := [30, 34]) (by kernel_rfl) (by simp) ?_
      refine AllReadyH.cons (o := ⟨some 85, _, _, _, _, _⟩) rfl (fun K hK => ?_) (AllReadyH.cons (o := ⟨some 89, _, _, _, _, _⟩) rfl (fun K hK => ?_) AllReadyH.nil)
      · go_simp
        refine (drMap w.heap.size d hv z5 hosts m' _ HD6.out (by omega)).mono ?_; rintro e w7 ⟨v7, rfl, ho7, hb7⟩
        go_wp2_with fail
        have HO7 := Lib.hid ho7
        have hs7 := hb7.size
        have hS7 : w7.cell? ⟨qb, qo + i * 5, none⟩ = some (.int .i64 cc.kd) ∧ w7.cell? ⟨qb, qo + i * 5 + 1, none⟩ = some (.int .i64 cc.zo) ∧ w7.cell? ⟨qb, qo + i * 5 + 2, none⟩ = some (.int .i64 cc.ep) ∧ w7.cell? ⟨qb, qo + i * 5 + 3, none⟩ = some (.int .i64 cc.mv) ∧ w7.cell? ⟨qb, qo + i * 5 + 4, none⟩ = some (.string cc.ky) := ⟨bkeep hb7 hS6.1 (by omega), bkeep hb7 hS6.2.1 (by omega), bkeep hb7 hS6.2.2.1 (by omega), bkeep hb7 hS6.2.2.2.1 (by omega), bkeep hb7 hS6.2.2.2.2 (by omega)⟩
        have HD7 := Lib.hid (HD6.out.below hb7)
        have HR7 := Lib.hid (HR6.out.below hb7)
        have x0 := HR7.out.blk.cell 0
        have x1 := HR7.out.blk.cell 1
        have x2 := HR7.out.blk.cell 2
        simp only [List.getElem?_toArray, List.getElem?_cons_succ, List.getElem?_cons_zero] at x0 x1 x2
        have HB67 := Lib.hid hb7
        clear ho7 hb7
        refine hK.out _ _ (by assumption) (fun hHeld => ?_)
        clear hK K
        (try simp only [Act.put, List.setIfInBounds_toArray, List.set_cons_zero, List.set_cons_succ])
        refine wpAnyH_ready (rs := [34]) (by kernel_rfl) (by simp) ?_
        refine AllReadyH.cons (o := ⟨some 89, _, _, _, _, _⟩) rfl (fun K hK => ?_) AllReadyH.nil
        go_simp
        refine hK.out _ _ (by assumption) (fun hHeld => ?_)
        clear hK K
        (try simp only [Act.put, List.setIfInBounds_toArray, List.set_cons_zero, List.set_cons_succ])
        refine wpAnyH_ready (rs := [35]) (by kernel_rfl) (by simp) ?_
        refine AllReadyH.cons (o := ⟨some 90, _, _, _, _, _⟩) rfl (fun K hK => ?_) AllReadyH.nil
        go_simp
        refine (drMaps m'.ver m'.nxt m'.zs w6.heap.size w.heap.size v7 z6 _ HO7.out HR7.out.row (by omega)).mono ?_; rintro e w8 ⟨rfl, hb8⟩
        go_wp2_with fail
        have hs8 := hb8.size
        have hS8 : w8.cell? ⟨qb, qo + i * 5, none⟩ = some (.int .i64 cc.kd) ∧ w8.cell? ⟨qb, qo + i * 5 + 1, none⟩ = some (.int .i64 cc.zo) ∧ w8.cell? ⟨qb, qo + i * 5 + 2, none⟩ = some (.int .i64 cc.ep) ∧ w8.cell? ⟨qb, qo + i * 5 + 3, none⟩ = some (.int .i64 cc.mv) ∧ w8.cell? ⟨qb, qo + i * 5 + 4, none⟩ = some (.string cc.ky) := ⟨bkeep hb8 hS7.1 (by omega), bkeep hb8 hS7.2.1 (by omega), bkeep hb8 hS7.2.2.1 (by omega), bkeep hb8 hS7.2.2.2.1 (by omega), bkeep hb8 hS7.2.2.2.2 (by omega)⟩
        have HD8 := Lib.hid (HD7.out.below hb8)
        have HR8 := Lib.hid (HR7.out.below hb8)
        have HB68 : Below w6.heap.size w6 w8 := HB67.out.trans (hb8.mono hs7)
        have HB38 : Below w3.heap.size w3 w4 := HB4.out
        have HW8 : Below w.heap.size w w8 := ((HW36.out).trans (HB68.mono (by omega)))
        clear hb8
        refine hK.out _ _ (by assumption) (fun hHeld => ?_)
        clear hK K
        (try simp only [Act.put, List.setIfInBounds_toArray, List.set_cons_zero, List.set_cons_succ])
        refine wpAnyH_take (i := 36) (oi := ⟨some 91, _, _, _, _, _⟩) (v := .bool false) rfl (by kernel_rfl) (by kernel_rfl) (by kernel_rfl) (fun _ _ _ h => h) (Or.inl ⟨by rfl, ?y36p_198⟩) (by assumption) ?r36p_198
        case y36p_198 => (intro w hSw; (try dsimp only at hSw); (try go_split_ands); go_simp)
        case r36p_198 =>
        (try simp only [Act.put, List.setIfInBounds_toArray, List.set_cons_zero, List.set_cons_succ])
        refine wpAnyH_take (i := 37) (oi := ⟨some 92, _, _, _, _, _⟩) (v := .bool false) rfl (by kernel_rfl) (by kernel_rfl) (by kernel_rfl) (fun _ _ _ h => h) (Or.inl ⟨by rfl, ?y37p_201⟩) (by assumption) ?r37p_201
        case y37p_201 => (intro w hSw; (try dsimp only at hSw); (try go_split_ands); go_simp)
        case r37p_201 =>
        (try simp only [Act.put, List.setIfInBounds_toArray, List.set_cons_zero, List.set_cons_succ])
        refine wpAnyH_done (by kernel_rfl) ?_ _
        go_wp2_with fail
        exact ⟨⟨i + 1, m', z5, z6, hlt, by go_num, HD8.out, HR8.out, HM2.out, HA.out.ver1 HV1.out, by (have h9 := HA.out.small HS2.out; exact h9.mono (by omega)), HAP6.out, HW8⟩, by simp [intOf]; omega⟩
      · go_simp
        refine hK.out _ _ (by assumption) (fun hHeld => ?_)
        clear hK K
        (try simp only [Act.put, List.setIfInBounds_toArray, List.set_cons_zero, List.set_cons_succ])
        refine wpAnyH_ready (rs := [30]) (by kernel_rfl) (by simp) ?_
        refine AllReadyH.cons (o := ⟨some 85, _, _, _, _, _⟩) rfl (fun K hK => ?_) AllReadyH.nil
        go_simp
        refine (drMap w.heap.size d hv z5 hosts m' _ HD6.out (by omega)).mono ?_; rintro e w7 ⟨v7, rfl, ho7, hb7⟩
        go_wp2_with fail
        have HO7 := Lib.hid ho7
        have hs7 := hb7.size
        have hS7 : w7.cell? ⟨qb, qo + i * 5, none⟩ = some (.int .i64 cc.kd) ∧ w7.cell? ⟨qb, qo + i * 5 + 1, none⟩ = some (.int .i64 cc.zo) ∧ w7.cell? ⟨qb, qo + i * 5 + 2, none⟩ = some (.int .i64 cc.ep) ∧ w7.cell? ⟨qb, qo + i * 5 + 3, none⟩ = some (.int .i64 cc.mv) ∧ w7.cell? ⟨qb, qo + i * 5 + 4, none⟩ = some (.string cc.ky) := ⟨bkeep hb7 hS6.1 (by omega), bkeep hb7 hS6.2.1 (by omega), bkeep hb7 hS6.2.2.1 (by omega), bkeep hb7 hS6.2.2.2.1 (by omega), bkeep hb7 hS6.2.2.2.2 (by omega)⟩
        have HD7 := Lib.hid (HD6.out.below hb7)
        have HR7 := Lib.hid (HR6.out.below hb7)
        have x0 := HR7.out.blk.cell 0
        have x1 := HR7.out.blk.cell 1
        have x2 := HR7.out.blk.cell 2
        simp only [List.getElem?_toArray, List.getElem?_cons_succ, List.getElem?_cons_zero] at x0 x1 x2
        have HB67 := Lib.hid hb7
        clear ho7 hb7
        refine hK.out _ _ (by assumption) (fun hHeld => ?_)
        clear hK K
        (try simp only [Act.put, List.setIfInBounds_toArray, List.set_cons_zero, List.set_cons_succ])
        refine wpAnyH_ready (rs := [35]) (by kernel_rfl) (by simp) ?_
        refine AllReadyH.cons (o := ⟨some 90, _, _, _, _, _⟩) rfl (fun K hK => ?_) AllReadyH.nil
        go_simp
        refine (drMaps m'.ver m'.nxt m'.zs w6.heap.size w.heap.size v7 z6 _ HO7.out HR7.out.row (by omega)).mono ?_; rintro e w8 ⟨rfl, hb8⟩
        go_wp2_with fail
        have hs8 := hb8.size
        have hS8 : w8.cell? ⟨qb, qo + i * 5, none⟩ = some (.int .i64 cc.kd) ∧ w8.cell? ⟨qb, qo + i * 5 + 1, none⟩ = some (.int .i64 cc.zo) ∧ w8.cell? ⟨qb, qo + i * 5 + 2, none⟩ = some (.int .i64 cc.ep) ∧ w8.cell? ⟨qb, qo + i * 5 + 3, none⟩ = some (.int .i64 cc.mv) ∧ w8.cell? ⟨qb, qo + i * 5 + 4, none⟩ = some (.string cc.ky) := ⟨bkeep hb8 hS7.1 (by omega), bkeep hb8 hS7.2.1 (by omega), bkeep hb8 hS7.2.2.1 (by omega), bkeep hb8 hS7.2.2.2.1 (by omega), bkeep hb8 hS7.2.2.2.2 (by omega)⟩
        have HD8 := Lib.hid (HD7.out.below hb8)
        have HR8 := Lib.hid (HR7.out.below hb8)
        have HB68 : Below w6.heap.size w6 w8 := HB67.out.trans (hb8.mono hs7)
        have HB38 : Below w3.heap.size w3 w4 := HB4.out
        have HW8 : Below w.heap.size w w8 := ((HW36.out).trans (HB68.mono (by omega)))
        clear hb8
        refine hK.out _ _ (by assumption) (fun hHeld => ?_)
        clear hK K
        (try simp only [Act.put, List.setIfInBounds_toArray, List.set_cons_zero, List.set_cons_succ])
        refine wpAnyH_take (i := 36) (oi := ⟨some 91, _, _, _, _, _⟩) (v := .bool false) rfl (by kernel_rfl) (by kernel_rfl) (by kernel_rfl) (fun _ _ _ h => h) (Or.inl ⟨by rfl, ?y36p_246⟩) (by assumption) ?r36p_246
        case y36p_246 => (intro w hSw; (try dsimp only at hSw); (try go_split_ands); go_simp)
        case r36p_246 =>
        (try simp only [Act.put, List.setIfInBounds_toArray, List.set_cons_zero, List.set_cons_succ])
        refine wpAnyH_take (i := 37) (oi := ⟨some 92, _, _, _, _, _⟩) (v := .bool false) rfl (by kernel_rfl) (by kernel_rfl) (by kernel_rfl) (fun _ _ _ h => h) (Or.inl ⟨by rfl, ?y37p_249⟩) (by assumption) ?r37p_249
        case y37p_249 => (intro w hSw; (try dsimp only at hSw); (try go_split_ands); go_simp)
        case r37p_249 =>
        (try simp only [Act.put, List.setIfInBounds_toArray, List.set_cons_zero, List.set_cons_succ])
        refine wpAnyH_done (by kernel_rfl) ?_ _
        go_wp2_with fail
        exact ⟨⟨i + 1, m', z5, z6, hlt, by go_num, HD8.out, HR8.out, HM2.out, HA.out.ver1 HV1.out, by (have h9 := HA.out.small HS2.out; exact h9.mono (by omega)), HAP6.out, HW8⟩, by simp [intOf]; omega⟩
    · obtain rfl : min xs.length 100 = i := by omega
      have HS := Lib.hid hS
      clear hBw hD hR hM hV hS hAP
      have x0 := HR.out.blk.cell 0
      have x1 := HR.out.blk.cell 1
      have x2 := HR.out.blk.cell 2
      simp only [List.getElem?_toArray, List.getElem?_cons_succ, List.getElem?_cons_zero] at x0 x1 x2
      by_cases q3 : ((min xs.length 100 : Nat) : Int) < (xs.length : Int)
      · have q4 : ¬ ((min xs.length 100 : Nat) : Int) < 100 := by omega
        go_upto_region 11 with fail
        refine wp_region_held_drew (S := (fun W => True)) (by kernel_rfl) trivial (fun hHeld => ?_)
        refine wpAnyH_take (i := 0) (oi := ⟨some 93, _, _, _, _, _⟩) (v := ?v0y_1) rfl (by kernel_rfl) (by kernel_rfl) (by kernel_rfl) (fun _ _ _ h => h) (Or.inl ⟨by rfl, ?y0y_1⟩) (by assumption) ?r0y_1
        case y0y_1 => (intro w hSw; (try dsimp only at hSw); (try go_split_ands); go_simp); (try with_reducible rfl)
        case r0y_1 =>
        (try simp only [Act.put, List.setIfInBounds_toArray, List.set_cons_zero, List.set_cons_succ])
        refine wpAnyH_take (i := 1) (oi := ⟨some 94, _, _, _, _, _⟩) (v := ?v1y_4) rfl (by kernel_rfl) (by kernel_rfl) (by kernel_rfl) (fun _ _ _ h => h) (Or.inl ⟨by rfl, ?y1y_4⟩) (by assumption) ?r1y_4
        case y1y_4 => (intro w hSw; (try dsimp only at hSw); (try go_split_ands); go_simp); (try with_reducible rfl)
        case r1y_4 =>
        (try simp only [Act.put, List.setIfInBounds_toArray, List.set_cons_zero, List.set_cons_succ])
        refine wpAnyH_take (i := 2) (oi := ⟨some 95, _, _, _, _, _⟩) (v := ?v2y_7) rfl (by kernel_rfl) (by kernel_rfl) (by kernel_rfl) (fun _ _ _ h => h) (Or.inl ⟨by rfl, ?y2y_7⟩) (by assumption) ?r2y_7
        case y2y_7 => (intro w hSw; (try dsimp only at hSw); (try go_split_ands); go_simp); (try with_reducible rfl)
        case r2y_7 =>
        (try simp only [Act.put, List.setIfInBounds_toArray, List.set_cons_zero, List.set_cons_succ])
        refine wpAnyH_take (i := 3) (oi := ⟨some 96, _, _, _, _, _⟩) (v := .bool false) rfl (by kernel_rfl) (by kernel_rfl) (by kernel_rfl) (fun _ _ _ h => h) (Or.inl ⟨by rfl, ?y3y_10⟩) (by assumption) ?r3y_10
        case y3y_10 => (intro w hSw; (try dsimp only at hSw); (try go_split_ands); go_simp)
        case r3y_10 =>
        (try simp only [Act.put, List.setIfInBounds_toArray, List.set_cons_zero, List.set_cons_succ])
        refine wpAnyH_take (i := 4) (oi := ⟨some 97, _, _, _, _, _⟩) (v := .bool false) rfl (by kernel_rfl) (by kernel_rfl) (by kernel_rfl) (fun _ _ _ h => h) (Or.inl ⟨by rfl, ?y4y_13⟩) (by assumption) ?r4y_13
        case y4y_13 => (intro w hSw; (try dsimp only at hSw); (try go_split_ands); go_simp)
        case r4y_13 =>
        (try simp only [Act.put, List.setIfInBounds_toArray, List.set_cons_zero, List.set_cons_succ])
        refine wpAnyH_take (i := 5) (oi := ⟨some 98, _, _, _, _, _⟩) (v := ?v5y_16) rfl (by kernel_rfl) (by kernel_rfl) (by kernel_rfl) (fun _ _ _ h => h) (Or.inl ⟨by rfl, ?y5y_16⟩) (by assumption) ?r5y_16
        case y5y_16 => (intro w hSw; (try dsimp only at hSw); (try go_split_ands); go_simp); (try with_reducible rfl)
        case r5y_16 =>
        (try simp only [Act.put, List.setIfInBounds_toArray, List.set_cons_zero, List.set_cons_succ])
        refine wpAnyH_take (i := 7) (oi := ⟨some 100, _, _, _, _, _⟩) (v := ?v7y_19) rfl (by kernel_rfl) (by kernel_rfl) (by kernel_rfl) (fun _ _ _ h => h) (Or.inl ⟨by rfl, ?y7y_19⟩) (by assumption) ?r7y_19
        case y7y_19 => (intro w hSw; (try dsimp only at hSw); (try go_split_ands); go_simp); (try with_reducible rfl)
        case r7y_19 =>
        (try simp only [Act.put, List.setIfInBounds_toArray, List.set_cons_zero, List.set_cons_succ])
        refine wpAnyH_take (i := 8) (oi := ⟨some 101, _, _, _, _, _⟩) (v := ?v8y_22) rfl (by kernel_rfl) (by kernel_rfl) (by kernel_rfl) (fun _ _ _ h => h) (Or.inl ⟨by rfl, ?y8y_22⟩) (by assumption) ?r8y_22
        case y8y_22 => (intro w hSw; (try dsimp only at hSw); (try go_split_ands); go_simp); (try with_reducible rfl)
        case r8y_22 =>
        (try simp only [Act.put, List.setIfInBounds_toArray, List.set_cons_zero, List.set_cons_succ])
        refine wpAnyH_take (i := 9) (oi := ⟨some 102, _, _, _, _, _⟩) (v := ?v9y_25) rfl (by kernel_rfl) (by kernel_rfl) (by kernel_rfl) (fun _ _ _ h => h) (Or.inl ⟨by rfl, ?y9y_25⟩) (by assumption) ?r9y_25
        case y9y_25 => (intro w hSw; (try dsimp only at hSw); (try go_split_ands); go_simp); (try with_reducible rfl)
        case r9y_25 =>
        (try simp only [Act.put, List.setIfInBounds_toArray, List.set_cons_zero, List.set_cons_succ])
        refine wpAnyH_ready (rs := [6, 10]) (by kernel_rfl) (by simp) ?_
        refine AllReadyH.cons (o := ⟨some 99, _, _, _, _, _⟩) rfl (fun K hK => ?_) (AllReadyH.cons (o := ⟨some 103, _, _, _, _, _⟩) rfl (fun K hK => ?_) AllReadyH.nil)
        · go_simp
          refine (drMap w.heap.size d hv zv hosts m _ (HD.out.below (Below.refl _ _).drew) (by omega)).mono ?_; rintro e w7 ⟨v7, rfl, ho7, hb7⟩
          go_wp2_with fail
          have HO7 := Lib.hid ho7
          have HB7 : Hid (Below wr.heap.size wr w7) := Lib.hid ((Below.refl _ _).drew.trans hb7)
          have hs7 := HB7.out.size
          have HD7 := Lib.hid (HD.out.below HB7.out)
          have HR7 := Lib.hid (HR.out.below HB7.out)
          have x0 := HR7.out.blk.cell 0
          have x1 := HR7.out.blk.cell 1
          have x2 := HR7.out.blk.cell 2
          simp only [List.getElem?_toArray, List.getElem?_cons_succ, List.getElem?_cons_zero] at x0 x1 x2
          clear ho7 hb7
          refine hK.out _ _ trivial (fun hHeld => ?_)
          clear hK K
          (try simp only [Act.put, List.setIfInBounds_toArray, List.set_cons_zero, List.set_cons_succ])
          refine wpAnyH_ready (rs := [10]) (by kernel_rfl) (by simp) ?_
          refine AllReadyH.cons (o := ⟨some 103, _, _, _, _, _⟩) rfl (fun K hK => ?_) AllReadyH.nil
          go_simp
          refine hK.out _ _ trivial (fun hHeld => ?_)
          clear hK K
          (try simp only [Act.put, List.setIfInBounds_toArray, List.set_cons_zero, List.set_cons_succ])
          refine wpAnyH_ready (rs := [11]) (by kernel_rfl) (by simp) ?_
          refine AllReadyH.cons (o := ⟨some 104, _, _, _, _, _⟩) rfl (fun K hK => ?_) AllReadyH.nil
          go_simp
          refine (drMaps m.ver m.nxt m.zs wr.drew.heap.size w.heap.size v7 zv2 _ HO7.out HR7.out.row (by omega)).mono ?_; rintro e w8 ⟨rfl, hb8⟩
          go_wp2_with fail
          have hs8 := hb8.size
          have HD8 := Lib.hid (HD7.out.below hb8)
          have HR8 := Lib.hid (HR7.out.below hb8)
          have HB8 := Lib.hid (HB7.out.trans (hb8.mono hs7))
          clear hb8
          refine hK.out _ _ trivial (fun hHeld => ?_)
          clear hK K
          (try simp only [Act.put, List.setIfInBounds_toArray, List.set_cons_zero, List.set_cons_succ])
          refine wpAnyH_take (i := 12) (oi := ⟨some 105, _, _, _, _, _⟩) (v := .bool true) rfl (by kernel_rfl) (by kernel_rfl) (by kernel_rfl) (fun _ _ _ h => h) (Or.inl ⟨by rfl, ?y12y_65⟩) (by assumption) ?r12y_65
          case y12y_65 => (intro w hSw; (try dsimp only at hSw); (try go_split_ands); go_simp)
          case r12y_65 =>
          (try simp only [Act.put, List.setIfInBounds_toArray, List.set_cons_zero, List.set_cons_succ])
          refine wpAnyH_take (i := 13) (oi := ⟨some 4, _, _, _, _, _⟩) (v := ?v13y_68) rfl (by kernel_rfl) (by kernel_rfl) (by kernel_rfl) (fun _ _ _ h => h) (Or.inl ⟨by rfl, ?y13y_68⟩) (by assumption) ?r13y_68
          case y13y_68 => (intro w hSw; (try dsimp only at hSw); (try go_split_ands); go_simp); (try with_reducible rfl)
          case r13y_68 =>
          (try simp only [Act.put, List.setIfInBounds_toArray, List.set_cons_zero, List.set_cons_succ])
          refine wpAnyH_take (i := 14) (oi := ⟨some 5, _, _, _, _, _⟩) (v := ?v14y_71) rfl (by kernel_rfl) (by kernel_rfl) (by kernel_rfl) (fun _ _ _ h => h) (Or.inl ⟨by rfl, ?y14y_71⟩) (by assumption) ?r14y_71
          case y14y_71 => (intro w hSw; (try dsimp only at hSw); (try go_split_ands); go_simp); (try with_reducible rfl)
          case r14y_71 =>
          (try simp only [Act.put, List.setIfInBounds_toArray, List.set_cons_zero, List.set_cons_succ])
          refine wpAnyH_take (i := 15) (oi := ⟨some 6, _, _, _, _, _⟩) (v := .bool true) rfl (by kernel_rfl) (by kernel_rfl) (by kernel_rfl) (fun _ _ _ h => h) (Or.inl ⟨by rfl, ?y15y_74⟩) (by assumption) ?r15y_74
          case y15y_74 => (intro w hSw; (try dsimp only at hSw); (try go_split_ands); go_simp)
          case r15y_74 =>
          (try simp only [Act.put, List.setIfInBounds_toArray, List.set_cons_zero, List.set_cons_succ])
          refine wpAnyH_done (by kernel_rfl) ?_ _
          go_wp2_with fail
          refine bodyPost_ret (v := .tuple #[.pointer (some ⟨d, 0, none⟩), .pointer (some ⟨x, 0, none⟩), .bool true]) (by simp [results, Try.results10, go_sem]) rfl ⟨d, x, hv, zv, hv2, zv2, m, rfl, HD8.out, HR8.out, HM.out, HV1.out, HS.out.mono (by omega), HAP.out, HW.out.trans (HB8.out.mono hsw)⟩
        · go_simp
          refine hK.out _ _ trivial (fun hHeld => ?_)
          clear hK K
          (try simp only [Act.put, List.setIfInBounds_toArray, List.set_cons_zero, List.set_cons_succ])
          refine wpAnyH_ready (rs := [6]) (by kernel_rfl) (by simp) ?_
          refine AllReadyH.cons (o := ⟨some 99, _, _, _, _, _⟩) rfl (fun K hK => ?_) AllReadyH.nil
          go_simp
          refine (drMap w.heap.size d hv zv hosts m _ (HD.out.below (Below.refl _ _).drew) (by omega)).mono ?_; rintro e w7 ⟨v7, rfl, ho7, hb7⟩
          go_wp2_with fail
          have HO7 := Lib.hid ho7
          have HB7 : Hid (Below wr.heap.size wr w7) := Lib.hid ((Below.refl _ _).drew.trans hb7)
          have hs7 := HB7.out.size
          have HD7 := Lib.hid (HD.out.below HB7.out)
          have HR7 := Lib.hid (HR.out.below HB7.out)
          have x0 := HR7.out.blk.cell 0
          have x1 := HR7.out.blk.cell 1
          have x2 := HR7.out.blk.cell 2
          simp only [List.getElem?_toArray, List.getElem?_cons_succ, List.getElem?_cons_zero] at x0 x1 x2
          clear ho7 hb7
          refine hK.out _ _ trivial (fun hHeld => ?_)
          clear hK K
          (try simp only [Act.put, List.setIfInBounds_toArray, List.set_cons_zero, List.set_cons_succ])
          refine wpAnyH_ready (rs := [11]) (by kernel_rfl) (by simp) ?_
          refine AllReadyH.cons (o := ⟨some 104, _, _, _, _, _⟩) rfl (fun K hK => ?_) AllReadyH.nil
          go_simp
          refine (drMaps m.ver m.nxt m.zs wr.drew.heap.size w.heap.size v7 zv2 _ HO7.out HR7.out.row (by omega)).mono ?_; rintro e w8 ⟨rfl, hb8⟩
          go_wp2_with fail
          have hs8 := hb8.size
          have HD8 := Lib.hid (HD7.out.below hb8)
          have HR8 := Lib.hid (HR7.out.below hb8)
          have HB8 := Lib.hid (HB7.out.trans (hb8.mono hs7))
          clear hb8
          refine hK.out _ _ trivial (fun hHeld => ?_)
          clear hK K
          (try simp only [Act.put, List.setIfInBounds_toArray, List.set_cons_zero, List.set_cons_succ])
          refine wpAnyH_take (i := 12) (oi := ⟨some 105, _, _, _, _, _⟩) (v := .bool true) rfl (by kernel_rfl) (by kernel_rfl) (by kernel_rfl) (fun _ _ _ h => h) (Or.inl ⟨by rfl, ?y12y_115⟩) (by assumption) ?r12y_115
          case y12y_115 => (intro w hSw; (try dsimp only at hSw); (try go_split_ands); go_simp)
          case r12y_115 =>
          (try simp only [Act.put, List.setIfInBounds_toArray, List.set_cons_zero, List.set_cons_succ])
          refine wpAnyH_take (i := 13) (oi := ⟨some 4, _, _, _, _, _⟩) (v := ?v13y_118) rfl (by kernel_rfl) (by kernel_rfl) (by kernel_rfl) (fun _ _ _ h => h) (Or.inl ⟨by rfl, ?y13y_118⟩) (by assumption) ?r13y_118
          case y13y_118 => (intro w hSw; (try dsimp only at hSw); (try go_split_ands); go_simp); (try with_reducible rfl)
          case r13y_118 =>
          (try simp only [Act.put, List.setIfInBounds_toArray, List.set_cons_zero, List.set_cons_succ])
          refine wpAnyH_take (i := 14) (oi := ⟨some 5, _, _, _, _, _⟩) (v := ?v14y_121) rfl (by kernel_rfl) (by kernel_rfl) (by kernel_rfl) (fun _ _ _ h => h) (Or.inl ⟨by rfl, ?y14y_121⟩) (by assumption) ?r14y_121
          case y14y_121 => (intro w hSw; (try dsimp only at hSw); (try go_split_ands); go_simp); (try with_reducible rfl)
          case r14y_121 =>
          (try simp only [Act.put, List.setIfInBounds_toArray, List.set_cons_zero, List.set_cons_succ])
          refine wpAnyH_take (i := 15) (oi := ⟨some 6, _, _, _, _, _⟩) (v := .bool true) rfl (by kernel_rfl) (by kernel_rfl) (by kernel_rfl) (fun _ _ _ h => h) (Or.inl ⟨by rfl, ?y15y_124⟩) (by assumption) ?r15y_124
          case y15y_124 => (intro w hSw; (try dsimp only at hSw); (try go_split_ands); go_simp)
          case r15y_124 =>
          (try simp only [Act.put, List.setIfInBounds_toArray, List.set_cons_zero, List.set_cons_succ])
          refine wpAnyH_done (by kernel_rfl) ?_ _
          go_wp2_with fail
          refine bodyPost_ret (v := .tuple #[.pointer (some ⟨d, 0, none⟩), .pointer (some ⟨x, 0, none⟩), .bool true]) (by simp [results, Try.results10, go_sem]) rfl ⟨d, x, hv, zv, hv2, zv2, m, rfl, HD8.out, HR8.out, HM.out, HV1.out, HS.out.mono (by omega), HAP.out, HW.out.trans (HB8.out.mono hsw)⟩
      · go_upto_region 11 with fail
        refine wp_region_held_drew (S := (fun W => True)) (by kernel_rfl) trivial (fun hHeld => ?_)
        refine wpAnyH_take (i := 0) (oi := ⟨some 93, _, _, _, _, _⟩) (v := ?v0z_1) rfl (by kernel_rfl) (by kernel_rfl) (by kernel_rfl) (fun _ _ _ h => h) (Or.inl ⟨by rfl, ?y0z_1⟩) (by assumption) ?r0z_1
        case y0z_1 => (intro w hSw; (try dsimp only at hSw); (try go_split_ands); go_simp); (try with_reducible rfl)
        case r0z_1 =>
        (try simp only [Act.put, List.setIfInBounds_toArray, List.set_cons_zero, List.set_cons_succ])
        refine wpAnyH_take (i := 1) (oi := ⟨some 94, _, _, _, _, _⟩) (v := ?v1z_4) rfl (by kernel_rfl) (by kernel_rfl) (by kernel_rfl) (fun _ _ _ h => h) (Or.inl ⟨by rfl, ?y1z_4⟩) (by assumption) ?r1z_4
        case y1z_4 => (intro w hSw; (try dsimp only at hSw); (try go_split_ands); go_simp); (try with_reducible rfl)
        case r1z_4 =>
        (try simp only [Act.put, List.setIfInBounds_toArray, List.set_cons_zero, List.set_cons_succ])
        refine wpAnyH_take (i := 2) (oi := ⟨some 95, _, _, _, _, _⟩) (v := ?v2z_7) rfl (by kernel_rfl) (by kernel_rfl) (by kernel_rfl) (fun _ _ _ h => h) (Or.inl ⟨by rfl, ?y2z_7⟩) (by assumption) ?r2z_7
        case y2z_7 => (intro w hSw; (try dsimp only at hSw); (try go_split_ands); go_simp); (try with_reducible rfl)
        case r2z_7 =>
        (try simp only [Act.put, List.setIfInBounds_toArray, List.set_cons_zero, List.set_cons_succ])
        refine wpAnyH_take (i := 3) (oi := ⟨some 96, _, _, _, _, _⟩) (v := .bool false) rfl (by kernel_rfl) (by kernel_rfl) (by kernel_rfl) (fun _ _ _ h => h) (Or.inl ⟨by rfl, ?y3z_10⟩) (by assumption) ?r3z_10
        case y3z_10 => (intro w hSw; (try dsimp only at hSw); (try go_split_ands); go_simp)
        case r3z_10 =>
        (try simp only [Act.put, List.setIfInBounds_toArray, List.set_cons_zero, List.set_cons_succ])
        refine wpAnyH_take (i := 4) (oi := ⟨some 97, _, _, _, _, _⟩) (v := .bool false) rfl (by kernel_rfl) (by kernel_rfl) (by kernel_rfl) (fun _ _ _ h => h) (Or.inl ⟨by rfl, ?y4z_13⟩) (by assumption) ?r4z_13
        case y4z_13 => (intro w hSw; (try dsimp only at hSw); (try go_split_ands); go_simp)
        case r4z_13 =>
        (try simp only [Act.put, List.setIfInBounds_toArray, List.set_cons_zero, List.set_cons_succ])
        refine wpAnyH_take (i := 5) (oi := ⟨some 98, _, _, _, _, _⟩) (v := ?v5z_16) rfl (by kernel_rfl) (by kernel_rfl) (by kernel_rfl) (fun _ _ _ h => h) (Or.inl ⟨by rfl, ?y5z_16⟩) (by assumption) ?r5z_16
        case y5z_16 => (intro w hSw; (try dsimp only at hSw); (try go_split_ands); go_simp); (try with_reducible rfl)
        case r5z_16 =>
        (try simp only [Act.put, List.setIfInBounds_toArray, List.set_cons_zero, List.set_cons_succ])
        refine wpAnyH_take (i := 7) (oi := ⟨some 100, _, _, _, _, _⟩) (v := ?v7z_19) rfl (by kernel_rfl) (by kernel_rfl) (by kernel_rfl) (fun _ _ _ h => h) (Or.inl ⟨by rfl, ?y7z_19⟩) (by assumption) ?r7z_19
        case y7z_19 => (intro w hSw; (try dsimp only at hSw); (try go_split_ands); go_simp); (try with_reducible rfl)
        case r7z_19 =>
        (try simp only [Act.put, List.setIfInBounds_toArray, List.set_cons_zero, List.set_cons_succ])
        refine wpAnyH_take (i := 8) (oi := ⟨some 101, _, _, _, _, _⟩) (v := ?v8z_22) rfl (by kernel_rfl) (by kernel_rfl) (by kernel_rfl) (fun _ _ _ h => h) (Or.inl ⟨by rfl, ?y8z_22⟩) (by assumption) ?r8z_22
        case y8z_22 => (intro w hSw; (try dsimp only at hSw); (try go_split_ands); go_simp); (try with_reducible rfl)
        case r8z_22 =>
        (try simp only [Act.put, List.setIfInBounds_toArray, List.set_cons_zero, List.set_cons_succ])
        refine wpAnyH_take (i := 9) (oi := ⟨some 102, _, _, _, _, _⟩) (v := ?v9z_25) rfl (by kernel_rfl) (by kernel_rfl) (by kernel_rfl) (fun _ _ _ h => h) (Or.inl ⟨by rfl, ?y9z_25⟩) (by assumption) ?r9z_25
        case y9z_25 => (intro w hSw; (try dsimp only at hSw); (try go_split_ands); go_simp); (try with_reducible rfl)
        case r9z_25 =>
        (try simp only [Act.put, List.setIfInBounds_toArray, List.set_cons_zero, List.set_cons_succ])
        refine wpAnyH_ready (rs := [6, 10]) (by kernel_rfl) (by simp) ?_
        refine AllReadyH.cons (o := ⟨some 99, _, _, _, _, _⟩) rfl (fun K hK => ?_) (AllReadyH.cons (o := ⟨some 103, _, _, _, _, _⟩) rfl (fun K hK => ?_) AllReadyH.nil)
        · go_simp
          refine (drMap w.heap.size d hv zv hosts m _ (HD.out.below (Below.refl _ _).drew) (by omega)).mono ?_; rintro e w7 ⟨v7, rfl, ho7, hb7⟩
          go_wp2_with fail
          have HO7 := Lib.hid ho7
          have HB7 : Hid (Below wr.heap.size wr w7) := Lib.hid ((Below.refl _ _).drew.trans hb7)
          have hs7 := HB7.out.size
          have HD7 := Lib.hid (HD.out.below HB7.out)
          have HR7 := Lib.hid (HR.out.below HB7.out)
          have x0 := HR7.out.blk.cell 0
          have x1 := HR7.out.blk.cell 1
          have x2 := HR7.out.blk.cell 2
          simp only [List.getElem?_toArray, List.getElem?_cons_succ, List.getElem?_cons_zero] at x0 x1 x2
          clear ho7 hb7
          refine hK.out _ _ trivial (fun hHeld => ?_)
          clear hK K
          (try simp only [Act.put, List.setIfInBounds_toArray, List.set_cons_zero, List.set_cons_succ])
          refine wpAnyH_ready (rs := [10]) (by kernel_rfl) (by simp) ?_
          refine AllReadyH.cons (o := ⟨some 103, _, _, _, _, _⟩) rfl (fun K hK => ?_) AllReadyH.nil
          go_simp
          refine hK.out _ _ trivial (fun hHeld => ?_)
          clear hK K
          (try simp only [Act.put, List.setIfInBounds_toArray, List.set_cons_zero, List.set_cons_succ])
          refine wpAnyH_ready (rs := [11]) (by kernel_rfl) (by simp) ?_
          refine AllReadyH.cons (o := ⟨some 104, _, _, _, _, _⟩) rfl (fun K hK => ?_) AllReadyH.nil
          go_simp
          refine (drMaps m.ver m.nxt m.zs wr.drew.heap.size w.heap.size v7 zv2 _ HO7.out HR7.out.row (by omega)).mono ?_; rintro e w8 ⟨rfl, hb8⟩
          go_wp2_with fail
          have hs8 := hb8.size
          have HD8 := Lib.hid (HD7.out.below hb8)
          have HR8 := Lib.hid (HR7.out.below hb8)
          have HB8 := Lib.hid (HB7.out.trans (hb8.mono hs7))
          clear hb8
          refine hK.out _ _ trivial (fun hHeld => ?_)
          clear hK K
          (try simp only [Act.put, List.setIfInBounds_toArray, List.set_cons_zero, List.set_cons_succ])
          refine wpAnyH_take (i := 12) (oi := ⟨some 105, _, _, _, _, _⟩) (v := .bool true) rfl (by kernel_rfl) (by kernel_rfl) (by kernel_rfl) (fun _ _ _ h => h) (Or.inl ⟨by rfl, ?y12z_65⟩) (by assumption) ?r12z_65
          case y12z_65 => (intro w hSw; (try dsimp only at hSw); (try go_split_ands); go_simp)
          case r12z_65 =>
          (try simp only [Act.put, List.setIfInBounds_toArray, List.set_cons_zero, List.set_cons_succ])
          refine wpAnyH_take (i := 13) (oi := ⟨some 4, _, _, _, _, _⟩) (v := ?v13z_68) rfl (by kernel_rfl) (by kernel_rfl) (by kernel_rfl) (fun _ _ _ h => h) (Or.inl ⟨by rfl, ?y13z_68⟩) (by assumption) ?r13z_68
          case y13z_68 => (intro w hSw; (try dsimp only at hSw); (try go_split_ands); go_simp); (try with_reducible rfl)
          case r13z_68 =>
          (try simp only [Act.put, List.setIfInBounds_toArray, List.set_cons_zero, List.set_cons_succ])
          refine wpAnyH_take (i := 14) (oi := ⟨some 5, _, _, _, _, _⟩) (v := ?v14z_71) rfl (by kernel_rfl) (by kernel_rfl) (by kernel_rfl) (fun _ _ _ h => h) (Or.inl ⟨by rfl, ?y14z_71⟩) (by assumption) ?r14z_71
          case y14z_71 => (intro w hSw; (try dsimp only at hSw); (try go_split_ands); go_simp); (try with_reducible rfl)
          case r14z_71 =>
          (try simp only [Act.put, List.setIfInBounds_toArray, List.set_cons_zero, List.set_cons_succ])
          refine wpAnyH_take (i := 15) (oi := ⟨some 6, _, _, _, _, _⟩) (v := .bool true) rfl (by kernel_rfl) (by kernel_rfl) (by kernel_rfl) (fun _ _ _ h => h) (Or.inl ⟨by rfl, ?y15z_74⟩) (by assumption) ?r15z_74
          case y15z_74 => (intro w hSw; (try dsimp only at hSw); (try go_split_ands); go_simp)
          case r15z_74 =>
          (try simp only [Act.put, List.setIfInBounds_toArray, List.set_cons_zero, List.set_cons_succ])
          refine wpAnyH_done (by kernel_rfl) ?_ _
          go_wp2_with fail
          refine bodyPost_ret (v := .tuple #[.pointer (some ⟨d, 0, none⟩), .pointer (some ⟨x, 0, none⟩), .bool true]) (by simp [results, Try.results10, go_sem]) rfl ⟨d, x, hv, zv, hv2, zv2, m, rfl, HD8.out, HR8.out, HM.out, HV1.out, HS.out.mono (by omega), HAP.out, HW.out.trans (HB8.out.mono hsw)⟩
        · go_simp
          refine hK.out _ _ trivial (fun hHeld => ?_)
          clear hK K
          (try simp only [Act.put, List.setIfInBounds_toArray, List.set_cons_zero, List.set_cons_succ])
          refine wpAnyH_ready (rs := [6]) (by kernel_rfl) (by simp) ?_
          refine AllReadyH.cons (o := ⟨some 99, _, _, _, _, _⟩) rfl (fun K hK => ?_) AllReadyH.nil
          go_simp
          refine (drMap w.heap.size d hv zv hosts m _ (HD.out.below (Below.refl _ _).drew) (by omega)).mono ?_; rintro e w7 ⟨v7, rfl, ho7, hb7⟩
          go_wp2_with fail
          have HO7 := Lib.hid ho7
          have HB7 : Hid (Below wr.heap.size wr w7) := Lib.hid ((Below.refl _ _).drew.trans hb7)
          have hs7 := HB7.out.size
          have HD7 := Lib.hid (HD.out.below HB7.out)
          have HR7 := Lib.hid (HR.out.below HB7.out)
          have x0 := HR7.out.blk.cell 0
          have x1 := HR7.out.blk.cell 1
          have x2 := HR7.out.blk.cell 2
          simp only [List.getElem?_toArray, List.getElem?_cons_succ, List.getElem?_cons_zero] at x0 x1 x2
          clear ho7 hb7
          refine hK.out _ _ trivial (fun hHeld => ?_)
          clear hK K
          (try simp only [Act.put, List.setIfInBounds_toArray, List.set_cons_zero, List.set_cons_succ])
          refine wpAnyH_ready (rs := [11]) (by kernel_rfl) (by simp) ?_
          refine AllReadyH.cons (o := ⟨some 104, _, _, _, _, _⟩) rfl (fun K hK => ?_) AllReadyH.nil
          go_simp
          refine (drMaps m.ver m.nxt m.zs wr.drew.heap.size w.heap.size v7 zv2 _ HO7.out HR7.out.row (by omega)).mono ?_; rintro e w8 ⟨rfl, hb8⟩
          go_wp2_with fail
          have hs8 := hb8.size
          have HD8 := Lib.hid (HD7.out.below hb8)
          have HR8 := Lib.hid (HR7.out.below hb8)
          have HB8 := Lib.hid (HB7.out.trans (hb8.mono hs7))
          clear hb8
          refine hK.out _ _ trivial (fun hHeld => ?_)
          clear hK K
          (try simp only [Act.put, List.setIfInBounds_toArray, List.set_cons_zero, List.set_cons_succ])
          refine wpAnyH_take (i := 12) (oi := ⟨some 105, _, _, _, _, _⟩) (v := .bool true) rfl (by kernel_rfl) (by kernel_rfl) (by kernel_rfl) (fun _ _ _ h => h) (Or.inl ⟨by rfl, ?y12z_115⟩) (by assumption) ?r12z_115
          case y12z_115 => (intro w hSw; (try dsimp only at hSw); (try go_split_ands); go_simp)
          case r12z_115 =>
          (try simp only [Act.put, List.setIfInBounds_toArray, List.set_cons_zero, List.set_cons_succ])
          refine wpAnyH_take (i := 13) (oi := ⟨some 4, _, _, _, _, _⟩) (v := ?v13z_118) rfl (by kernel_rfl) (by kernel_rfl) (by kernel_rfl) (fun _ _ _ h => h) (Or.inl ⟨by rfl, ?y13z_118⟩) (by assumption) ?r13z_118
          case y13z_118 => (intro w hSw; (try dsimp only at hSw); (try go_split_ands); go_simp); (try with_reducible rfl)
          case r13z_118 =>
          (try simp only [Act.put, List.setIfInBounds_toArray, List.set_cons_zero, List.set_cons_succ])
          refine wpAnyH_take (i := 14) (oi := ⟨some 5, _, _, _, _, _⟩) (v := ?v14z_121) rfl (by kernel_rfl) (by kernel_rfl) (by kernel_rfl) (fun _ _ _ h => h) (Or.inl ⟨by rfl, ?y14z_121⟩) (by assumption) ?r14z_121
          case y14z_121 => (intro w hSw; (try dsimp only at hSw); (try go_split_ands); go_simp); (try with_reducible rfl)
          case r14z_121 =>
          (try simp only [Act.put, List.setIfInBounds_toArray, List.set_cons_zero, List.set_cons_succ])
          refine wpAnyH_take (i := 15) (oi := ⟨some 6, _, _, _, _, _⟩) (v := .bool true) rfl (by kernel_rfl) (by kernel_rfl) (by kernel_rfl) (fun _ _ _ h => h) (Or.inl ⟨by rfl, ?y15z_124⟩) (by assumption) ?r15z_124
          case y15z_124 => (intro w hSw; (try dsimp only at hSw); (try go_split_ands); go_simp)
          case r15z_124 =>
          (try simp only [Act.put, List.setIfInBounds_toArray, List.set_cons_zero, List.set_cons_succ])
          refine wpAnyH_done (by kernel_rfl) ?_ _
          go_wp2_with fail
          refine bodyPost_ret (v := .tuple #[.pointer (some ⟨d, 0, none⟩), .pointer (some ⟨x, 0, none⟩), .bool true]) (by simp [results, Try.results10, go_sem]) rfl ⟨d, x, hv, zv, hv2, zv2, m, rfl, HD8.out, HR8.out, HM.out, HV1.out, HS.out.mono (by omega), HAP.out, HW.out.trans (HB8.out.mono hsw)⟩
end Go.Proofs.Ytbohpjinkdffhaa

namespace Go.Proofs.Ytbohpjinkdffhaa
open Go.RowKit
set_option linter.unusedVariables false
set_option linter.unusedSimpArgs false

theorem intsV_flat (l : List Int) : (l.flatMap fun r => [Value.int .i64 r]) = intsV l := by
  induction l with
  | nil => rfl
  | cons a r ih => rw [List.flatMap_cons, ih]; rfl
/-- a key longer than is looked at -/
def Hv (xs : List Ch) : Prop := ∃ (j : Nat) (h : j < xs.length), j < 100 ∧ (60 : Int) < (xs[j].ky.size : Int)
set_option maxHeartbeats 8000000 in
set_option maxRecDepth 10000 in
theorem drHeavyB (A : Option Addr) (c : Nat) (xs : List Ch) (w : World) (hx : Cells w w.heap.size A xs.length c 5 (xs.flatMap chV)) {b : Bool} (hb : b = true ↔ Hv xs) :
    Calls Try.prog 9 #[.slice A xs.length c] w fun e w' => e = .returned (.bool b) ∧ Below w.heap.size w w' := by
  have HX := Lib.hid hx
  have HBB := Lib.hid hb
  clear hx hb
  go_enter Try.func9, Try.ntmps9
  go_wp2_with fail
  go_loopw [3] (fun iv wr => ∃ i : Nat, i ≤ min xs.length 100 ∧ iv = .int .i64 i ∧ (∀ j (h : j < xs.length), j < i → ¬ (60 : Int) < (xs[j].ky.size : Int)) ∧ Below w.heap.size w wr) (fun iv _ => min xs.length 100 - (intOf iv).toNat)
  case atStart => exact ⟨0, Nat.zero_le _, rfl, fun j h hj => absurd hj (Nat.not_lt_zero _), by ((repeat (first | (with_reducible exact Below.refl _ _) | (with_reducible assumption) | ((with_reducible refine b_set ?_ ?_); · (first | omega | (simp; done) | (simp; omega))) | ((with_reducible refine b_alloc ?_ ?_); · (first | omega | (simp; done) | (simp; omega))) | (with_reducible refine Below.drew ?_) | (with_reducible refine b_drewN ?_) | ((with_reducible refine b_call (by assumption) ?_ ?_); · (first | omega | (simp; done) | (simp; omega))))); done)⟩
  case round =>
    obtain ⟨i, hil, rfl, hno, hBw⟩ := hrel
    have HBW := Lib.hid hBw
    have HNO := Lib.hid hno
    clear hno
    by_cases hlt : i < min xs.length 100
    · have q3 : (i : Int) < (xs.length : Int) := by omega
      have q4 : (i : Int) < 100 := by omega
      obtain ⟨qb, qo, rfl, hqb, _, _, _, _, c4⟩ := ch_at HX.out (show i < xs.length by omega)
      have c4 := bkeep hBw c4 hqb
      obtain ⟨ky, hky⟩ : ∃ k, k = xs[i].ky := ⟨_, rfl⟩
      rw [← hky] at c4
      have HKY := Lib.hid hky
      clear hBw hky
      by_cases hs : (60 : Int) < (ky.size : Int)
      · have HSS := Lib.hid hs
        go_wp2_with fail
        go_ret
        exact ⟨ret_bool ((HBB.out.2 ⟨i, by omega, by omega, by rw [← HKY.out]; exact HSS.out⟩).symm), HBW.out⟩
      · have HSS := Lib.hid hs
        go_wp2_with fail
        refine ⟨⟨i + 1, hlt, by go_num, fun j h hj => ?_, HBW.out⟩, by simp [intOf]; omega⟩
        by_cases e : j = i
        · subst e; rw [← HKY.out]; exact HSS.out
        · exact HNO.out j h (by omega)
    · obtain rfl : min xs.length 100 = i := by omega
      have hbf : b = false := by
        cases b with
        | false => rfl
        | true =>
          obtain ⟨j, h, h1, h2⟩ := HBB.out.1 rfl
          exact absurd h2 (HNO.out j h (by omega))
      have HBF := Lib.hid hbf
      clear hBw hbf
      by_cases q3 : ((min xs.length 100 : Nat) : Int) < (xs.length : Int)
      · have q4 : ¬ ((min xs.length 100 : Nat) : Int) < 100 := by omega
        go_wp2_with fail
        go_ret
        exact ⟨ret_bool HBF.out.symm, HBW.out⟩
      · go_wp2_with fail
        go_ret
        exact ⟨ret_bool HBF.out.symm, HBW.out⟩
set_option maxHeartbeats 8000000 in
set_option maxRecDepth 10000 in
theorem played0 (Ah : Option Addr) (ch : Nat) (hosts : List Int) (A : Option Addr) (c : Nat) (xs : List Ch) (w : World) (hh : Cells w w.heap.size Ah hosts.length ch 1 (intsV hosts)) (hb : hostsB hosts = false) (hl : hosts.length ≤ 100000) :
    Calls Try.prog 10 #[.slice Ah hosts.length ch, .slice A xs.length c] w fun e w' => e = .returned (.tuple #[.pointer none, .pointer none, .bool true]) ∧ Below w.heap.size w w' := by
  have HH := Lib.hid hh
  have HHB := Lib.hid hb
  obtain ⟨i0, hi0, hz0, hz1, hz2⟩ := info_parts Try.infoI64
  clear hh hb
  go_enter Try.func10, Try.ntmps10
  go_upto_region 5 with (first
    | (at_builtin; go_loud (refine wpList_append_row rfl (.tmp 14) (.tmp 15) 22 rfl w.heap.size 3 i0 (.int .i64 0) 1 8 Try.underlying22 hi0 hz0 hz1 hz2 rfl (by decide) (.slice (some ⟨w.heap.size, 0, none⟩) 0 0) 0 [] rfl (owns_lit0 rfl (Nat.le_refl _)) w.heap.size Ah hosts.length ch (intsV hosts) rfl (cells_keep HH.out (by ((repeat (first | (with_reducible exact Below.refl _ _) | (with_reducible assumption) | ((with_reducible refine b_set ?_ ?_); · (first | omega | (simp; done) | (simp; omega))) | ((with_reducible refine b_alloc ?_ ?_); · (first | omega | (simp; done) | (simp; omega))) | (with_reducible refine Below.drew ?_) | (with_reducible refine b_drewN ?_) | ((with_reducible refine b_call (by assumption) ?_ ?_); · (first | omega | (simp; done) | (simp; omega))))); done)) (Nat.le_refl _)) (intsV_one hosts) (by unfold maxLen; omega) (by omega) (by (first | omega | (simp; done) | (simp; omega))) ?_; intro v1 w1 ho1 hb1; rw [Nat.zero_add, List.nil_append] at ho1; obtain ⟨A1, c1, e1, _, _, _⟩ := own_slice ho1; subst e1; have HO1 := Lib.hid ho1; have HB1 : Hid (Below w.heap.size w w1) := Lib.hid (Below.trans (show Below w.heap.size w _ by ((repeat (first | (with_reducible exact Below.refl _ _) | (with_reducible assumption) | ((with_reducible refine b_set ?_ ?_); · (first | omega | (simp; done) | (simp; omega))) | ((with_reducible refine b_alloc ?_ ?_); · (first | omega | (simp; done) | (simp; omega))) | (with_reducible refine Below.drew ?_) | (with_reducible refine b_drewN ?_) | ((with_reducible refine b_call (by assumption) ?_ ?_); · (first | omega | (simp; done) | (simp; omega))))); done)) (hb1.mono (by (first | omega | (simp; done) | (simp; omega))))); have hs1 := HB1.out.size; clear ho1 hb1))
    | (go_at_call 29; go_loud (refine (drNew0 w.heap.size _ hosts _ HO1.out hl HHB.out).mono ?_; rintro e w2 ⟨rfl, hb2⟩; have HB2 := Lib.hid (HB1.out.trans (hb2.mono hs1)); have hs2 := hb2.size; clear hb2))
    | (go_at_call 30; go_loud (refine (rdNewC0 Ah ch hosts _ (cells_keep HH.out HB2.out (by omega)) hl HHB.out).mono ?_; rintro e w3 ⟨rfl, hb3⟩; have HB3 := Lib.hid (HB2.out.trans (hb3.mono (by omega))); have hs3 := hb3.size; clear hb3))
    | fail)
  clear hi0 hz0 hz1 hz2
  go_wp2_with fail
  go_loopw [11, 12] (fun iv bv wr => iv = .int .i64 0 ∧ wr = w3) (fun iv _ _ => 0)
  case atStart => exact ⟨rfl, rfl⟩
  case round =>
    obtain ⟨rfl, rfl⟩ := hrel
    by_cases q3 : (0 : Int) < (xs.length : Int)
    · go_upto_region 11 with fail
      go_quiet (fail)
      go_wp2_with fail
      exact bodyPost_ret (v := .tuple #[.pointer none, .pointer none, .bool true]) (by simp [results, Try.results10, go_sem]) rfl ⟨rfl, b_drewN HB3.out⟩
    · go_upto_region 11 with fail
      go_quiet (fail)
      go_wp2_with fail
      exact bodyPost_ret (v := .tuple #[.pointer none, .pointer none, .bool true]) (by simp [results, Try.results10, go_sem]) rfl ⟨rfl, b_drewN HB3.out⟩
set_option maxHeartbeats 8000000 in
set_option maxRecDepth 10000 in
theorem walkDirPlays (Ah : Option Addr) (ch : Nat) (hosts : List Int) (A : Option Addr) (c : Nat) (xs : List Ch) (w : World) (hh : Cells w w.heap.size Ah hosts.length ch 1 (intsV hosts)) (hx : Cells w w.heap.size A xs.length c 5 (xs.flatMap chV)) :
    Calls Try.prog 3 #[.slice Ah hosts.length ch, .slice A xs.length c] w fun e w' => e = .returned (.bool true) ∧ Below w.heap.size w w' := by
  have HH := Lib.hid hh
  have HX := Lib.hid hx
  clear hh hx
  by_cases hP : Hv xs
  case pos =>
    have HP : Hid (true = true ↔ Hv xs) := Lib.hid ⟨fun _ => hP, fun _ => rfl⟩
    clear hP
    go_enter Try.func3, Try.ntmps3
    go_wp2_with (first
      | (go_at_call 9; go_loud (refine (drHeavyB A c xs _ HX.out HP.out).mono ?_; rintro e w0 ⟨rfl, hb0⟩; have HB0 := Lib.hid hb0; clear hb0))
      | fail)
    go_ret
    exact ⟨rfl, HB0.out⟩
  have HP : Hid (false = true ↔ Hv xs) := Lib.hid ⟨fun h => (by cases h), fun h => absurd h hP⟩
  clear hP
  by_cases hl : (20 : Int) < (hosts.length : Int)
  case pos =>
    go_enter Try.func3, Try.ntmps3
    go_wp2_with (first
      | (go_at_call 9; go_loud (refine (drHeavyB A c xs _ HX.out HP.out).mono ?_; rintro e w0 ⟨rfl, hb0⟩; have HB0 := Lib.hid hb0; clear hb0))
      | fail)
    go_ret
    exact ⟨rfl, HB0.out⟩
  cases hb : hostsB hosts with
  | true =>
    have HHB := Lib.hid hb
    clear hb
    go_enter Try.func3, Try.ntmps3
    go_wp2_with (first
      | (go_at_call 9; go_loud (refine (drHeavyB A c xs _ HX.out HP.out).mono ?_; rintro e w0 ⟨rfl, hb0⟩; have HB0 := Lib.hid hb0; have hs0 := hb0.size; clear hb0))
      | (go_at_call 10; go_loud (refine (played1 Ah ch hosts A c xs _ (cells_keep HH.out HB0.out hs0) HHB.out (cells_keep HX.out HB0.out hs0)).mono ?_; rintro e w1 ⟨d, x, hv, zv, hv2, zv2, m, rfl, _, _, _, _, _, _, hb1⟩; have HB1 := Lib.hid (HB0.out.trans (hb1.mono hs0)); have hs1 := HB1.out.size; clear hb1))
      | (go_at_call 11; go_loud (refine (drKnown _).mono ?_; rintro e w9 ⟨rfl, hb9⟩; have HB9 := Lib.hid (HB1.out.trans (hb9.mono hs1)); clear hb9))
      | fail)
    go_ret
    exact ⟨rfl, HB9.out⟩
  | false =>
    have HHB := Lib.hid hb
    clear hb
    go_enter Try.func3, Try.ntmps3
    go_wp2_with (first
      | (go_at_call 9; go_loud (refine (drHeavyB A c xs _ HX.out HP.out).mono ?_; rintro e w0 ⟨rfl, hb0⟩; have HB0 := Lib.hid hb0; have hs0 := hb0.size; clear hb0))
      | (go_at_call 10; go_loud (refine (played0 Ah ch hosts A c xs _ (cells_keep HH.out HB0.out hs0) HHB.out (by omega)).mono ?_; rintro e w1 ⟨rfl, hb1⟩; have HB1 := Lib.hid (HB0.out.trans (hb1.mono hs0)); have hs1 := HB1.out.size; clear hb1))
      | (go_at_call 11; go_loud (refine (drKnown _).mono ?_; rintro e w9 ⟨rfl, hb9⟩; have HB9 := Lib.hid (HB1.out.trans (hb9.mono hs1)); clear hb9))
      | fail)
    go_ret
    exact ⟨rfl, HB9.out⟩
end Go.Proofs.Ytbohpjinkdffhaa
