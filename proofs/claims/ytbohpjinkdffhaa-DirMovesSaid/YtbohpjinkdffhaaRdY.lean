/- The law DirMoves: no more moves are under way than may be, and no more zones are there. -/
import Derived.Test.YtbohpjinkdffhaaRdW
namespace Go.Proofs.Ytbohpjinkdffhaa
open Go.RowKit
set_option linter.unusedVariables false
set_option linter.unusedSimpArgs false

theorem hosts6 {w : World} : Cells (w.alloc (.cells #[.int .i64 8, .int .i64 9, .int .i64 10, .int .i64 11, .int .i64 12, .int .i64 13] 3)) (w.alloc (.cells #[.int .i64 8, .int .i64 9, .int .i64 10, .int .i64 11, .int .i64 12, .int .i64 13] 3)).heap.size (some ⟨w.heap.size, 0, none⟩) ([8, 9, 10, 11, 12, 13] : List Int).length 6 1 (intsV [8, 9, 10, 11, 12, 13]) := by
  have h := World.ownsRow_lit (base := w.heap.size) (e := 3) (size := 1) w #[.int .i64 8, .int .i64 9, .int .i64 10, .int .i64 11, .int .i64 12, .int .i64 13] 6 (Nat.le_refl _) (by unfold maxLen; omega) rfl
  refine ⟨rfl, (fun h => nomatch h), fun j u hj => ⟨w.heap.size, 0, rfl, by simp, ?_⟩⟩
  rw [Nat.zero_add, h.cellAt j (by have := (List.getElem?_eq_some_iff.1 hj).1; simpa [intsV] using this)]
  exact hj
set_option maxHeartbeats 8000000 in
set_option maxRecDepth 10000 in
theorem walkDirMoves (A : Option Addr) (c : Nat) (xs : List Ch) (w : World) (hx : Cells w w.heap.size A xs.length c 5 (xs.flatMap chV)) :
    Calls Try.prog 8 #[.slice A xs.length c] w fun e w' => e = .returned (.bool true) ∧ Below w.heap.size w w' := by
  have HX := Lib.hid hx
  clear hx
  by_cases hP : Hv xs
  case pos =>
    have HP : Hid (true = true ↔ Hv xs) := Lib.hid ⟨fun _ => hP, fun _ => rfl⟩
    clear hP
    go_enter Try.func8, Try.ntmps8
    go_wp2_with (first
      | (go_at_call 9; go_loud (refine (drHeavyB A c xs _ HX.out HP.out).mono ?_; rintro e w0 ⟨rfl, hb0⟩; have HB0 := Lib.hid hb0; have hs0 := hb0.size; clear hb0))
      | fail)
    go_ret
    exact ⟨rfl, HB0.out⟩
  have HP : Hid (false = true ↔ Hv xs) := Lib.hid ⟨fun h => (by cases h), fun h => absurd h hP⟩
  clear hP
  go_enter Try.func8, Try.ntmps8
  go_wp2_with (first
    | (go_at_call 9; go_loud (refine (drHeavyB A c xs _ HX.out HP.out).mono ?_; rintro e w0 ⟨rfl, hb0⟩; have HB0 := Lib.hid hb0; have hs0 := hb0.size; clear hb0))
    | (go_at_call 10; go_loud (refine (played1 (some ⟨w0.heap.size, 0, none⟩) 6 [8, 9, 10, 11, 12, 13] A c xs _ hosts6 (by decide) (cells_keep HX.out (HB0.out.alloc hs0 _) (by simp; omega))).mono ?_; rintro e w1 ⟨d, x, hv, zv, hv2, zv2, m, rfl, hd1, hr1, hm1, hv1, hsm1, hap1, hb1⟩; have HB1 : Hid (Below w.heap.size w w1) := Lib.hid ((HB0.out.alloc hs0 _).trans (hb1.mono (by simp; omega))); have hs1 := HB1.out.size; have HD1 := Lib.hid (hd1.lower (show w0.heap.size ≤ _ by simp)); have HR1 := Lib.hid (hr1.lower (show w0.heap.size ≤ _ by simp)); have HM1 := Lib.hid hm1; have HV1 := Lib.hid hv1; have HS1 := Lib.hid hsm1; have HAP1 := Lib.hid hap1; have hs01 : w0.heap.size ≤ w1.heap.size := (by have := hb1.size; simp at this; omega); clear hd1 hr1 hm1 hv1 hsm1 hap1 hb1))
    | (go_at_call 12; go_loud (refine (drMap w0.heap.size d hv zv [8, 9, 10, 11, 12, 13] m _ HD1.out (by have := HM1.out.okn.sum; omega)).mono ?_; rintro e w2 ⟨v2, rfl, ho2, hb2⟩; obtain ⟨g2, c2, e2, hg2, hgl2, _, _⟩ := own_form ho2 (HM1.out.okn.one); subst e2; have HO2 := Lib.hid ho2; have HB2 := Lib.hid hb2; have hs2 := hb2.size; clear ho2 hb2))
    | fail)
  have hlen : m.zs.length ≤ 16 := by have := HM1.out.okn.sum; omega
  have hone := HM1.out.okn.one
  have HNV : Hid (Whl (w2.alloc (.cells #[.int .i64 m.ver, .int .i64 m.nxt, .slice (some ⟨g2, 0, none⟩) m.zs.length c2] 33)) w2.heap.size 33 #[.int .i64 m.ver, .int .i64 m.nxt, .slice (some ⟨g2, 0, none⟩) m.zs.length c2]) := Lib.hid (Whl.new rfl)
  have HB12 : Hid (Below w1.heap.size w1 (w2.alloc (.cells #[.int .i64 m.ver, .int .i64 m.nxt, .slice (some ⟨g2, 0, none⟩) m.zs.length c2] 33))) := Lib.hid (HB2.out.alloc hs2 _)
  have HRV : Hid ((w2.alloc (.cells #[.int .i64 m.ver, .int .i64 m.nxt, .slice (some ⟨g2, 0, none⟩) m.zs.length c2] 33)).ownsRow w1.heap.size 39 9 (.slice (some ⟨g2, 0, none⟩) m.zs.length c2) m.zs.length (flatZ m.zs)) := Lib.hid (HO2.out.alloc _)
  have hV2 : w2.heap.size < (w2.alloc (.cells #[.int .i64 m.ver, .int .i64 m.nxt, .slice (some ⟨g2, 0, none⟩) m.zs.length c2] 33)).heap.size := by simp
  obtain ⟨N, hN⟩ : ∃ n, n = w2.heap.size := ⟨_, rfl⟩
  rw [← hN] at HNV hV2 ⊢
  have hgV : g2 < (w2.alloc (.cells #[.int .i64 m.ver, .int .i64 m.nxt, .slice (some ⟨g2, 0, none⟩) m.zs.length c2] 33)).heap.size := by omega
  generalize (w2.alloc (.cells #[.int .i64 m.ver, .int .i64 m.nxt, .slice (some ⟨g2, 0, none⟩) m.zs.length c2] 33)) = V at *
  have HDV := Lib.hid (HD1.out.below HB12.out)
  have HXV := Lib.hid (HR1.out.below HB12.out)
  have HBWV := Lib.hid (HB1.out.trans (HB12.out.mono hs1))
  have hwV := HBWV.out.size
  clear hN
  go_loopw [6, 7, 9] (fun nv sv iv wr => ∃ k : Nat, k ≤ m.zs.length ∧ iv = .int .i64 k ∧ nv = .int .i64 (pendN 3 (m.zs.take k)) ∧ sv = .int .i64 (pendN 1 (m.zs.take k)) ∧ Below V.heap.size V wr) (fun _ _ iv _ => m.zs.length - (intOf iv).toNat)
  case atStart => exact ⟨0, Nat.zero_le _, rfl, by simp [pendN], by simp [pendN], Below.refl _ _⟩
  case round =>
    obtain ⟨k, hkl, rfl, rfl, rfl, hBk⟩ := hrel
    have HBK := Lib.hid hBk
    have hN2 := HNV.out.below hBk hV2
    have n0 := hN2.cell 0
    have n1 := hN2.cell 1
    have n2 := hN2.cell 2
    simp only [List.getElem?_toArray, List.getElem?_cons_succ, List.getElem?_cons_zero] at n0 n1 n2
    by_cases hlt : k < m.zs.length
    · have q3 : (k : Int) < (m.zs.length : Int) := by omega
      have hr := row_belowZ HRV.out hBk
      obtain ⟨z, hz⟩ : ∃ z, z = m.zs[k] := ⟨_, rfl⟩
      obtain ⟨_, _, _, _, _, a5, _⟩ := rowZ_at hr hlt
      rw [← hz] at a5
      have hp3 := pendN_snoc 3 hlt
      have hp1 := pendN_snoc 1 hlt
      rw [← hz] at hp3 hp1
      have hl3 := pendN_le 3 (m.zs.take k)
      have hl1 := pendN_le 1 (m.zs.take k)
      rw [List.length_take] at hl3 hl1
      have HP3 := Lib.hid hp3
      have HP1 := Lib.hid hp1
      obtain ⟨p3, e3⟩ : ∃ p, p = pendN 3 (m.zs.take k) := ⟨_, rfl⟩
      obtain ⟨p1, e1⟩ : ∃ p, p = pendN 1 (m.zs.take k) := ⟨_, rfl⟩
      rw [← e3] at hl3 ⊢
      rw [← e1] at hl1 ⊢
      have E3 := Lib.hid e3
      have E1 := Lib.hid e1
      clear hr hBk hz hp3 hp1 e3 e1 hN2 n0 n1
      by_cases hk : z.pd = 3
      · have hk1 : (z.pd == 1) = false := by simp; omega
        have hk3 : (z.pd == 3) = true := by simpa using hk
        have HK := Lib.hid hk
        clear hk
        go_wp2_with fail
        refine ⟨⟨k + 1, hlt, by go_num, ?_, ?_, HBK.out⟩, measZ hlt⟩
        · rw [HP3.out, if_pos HK.out, ← E3.out]; go_num
        · rw [HP1.out, if_neg (by rw [HK.out]; decide), ← E1.out]; rfl
      by_cases hk1 : z.pd = 1
      · have hk3 : (z.pd == 3) = false := by simpa using hk
        have hk1b : (z.pd == 1) = true := by simpa using hk1
        have HK := Lib.hid hk1
        clear hk hk1
        go_wp2_with fail
        refine ⟨⟨k + 1, hlt, by go_num, ?_, ?_, HBK.out⟩, measZ hlt⟩
        · rw [HP3.out, if_neg (by rw [HK.out]; decide), ← E3.out]; rfl
        · rw [HP1.out, if_pos HK.out, ← E1.out]; go_num
      · have hk3 : (z.pd == 3) = false := by simpa using hk
        have hk1b : (z.pd == 1) = false := by simpa using hk1
        have HK := Lib.hid hk
        have HK1 := Lib.hid hk1
        clear hk hk1
        go_wp2_with fail
        refine ⟨⟨k + 1, hlt, by go_num, ?_, ?_, HBK.out⟩, measZ hlt⟩
        · rw [HP3.out, if_neg HK.out, ← E3.out]; rfl
        · rw [HP1.out, if_neg HK1.out, ← E1.out]; rfl
    · obtain rfl : m.zs.length = k := by omega
      rw [List.take_length]
      have b3 : (pendN 3 m.zs : Int) ≤ 2 := by have := HM1.out.okn.mv; omega
      have b1 : (m.zs.length : Int) + (pendN 1 m.zs : Int) ≤ 16 := by have := HM1.out.okn.sum; omega
      have bw : IntKind.i64.wrap ((m.zs.length : Int) + (pendN 1 m.zs : Int)) = (m.zs.length : Int) + (pendN 1 m.zs : Int) := by rw [IntKind.wrap_i64]; omega
      have HXW := Lib.hid (HXV.out.below hBk)
      have hn0 := HNV.out.cell 0
      have hn1 := HNV.out.cell 1
      have hn2 := HNV.out.cell 2
      have hj0 := HXV.out.blk.cell 0
      have hj1 := HXV.out.blk.cell 1
      have hj2 := HXV.out.blk.cell 2
      simp only [List.getElem?_toArray, List.getElem?_cons_succ, List.getElem?_cons_zero] at hn0 hn1 hn2 hj0 hj1 hj2
      clear hN2
      have hxl := HXV.out.blk.low
      go_upto_region 15 with fail
      have hB0 : Below V.heap.size V wr.drew := HBK.out.drew
      refine wp_region_held_drew (S := (fun W => Below V.heap.size V W ∧ W.cell? ⟨N, 0, none⟩ = some (.int .i64 m.ver) ∧ W.cell? ⟨N, 1, none⟩ = some (.int .i64 m.nxt) ∧ W.cell? ⟨N, 2, none⟩ = some (.slice (some ⟨g2, 0, none⟩) m.zs.length c2) ∧ W.cell? ⟨x, 0, none⟩ = some (.int .i64 m.ver) ∧ W.cell? ⟨x, 1, none⟩ = some (.int .i64 m.nxt) ∧ W.cell? ⟨x, 2, none⟩ = some (zv2))) (by kernel_rfl) ⟨hB0, bkeep hB0 hn0 hV2, bkeep hB0 hn1 hV2, bkeep hB0 hn2 hV2, bkeep hB0 hj0 (by omega), bkeep hB0 hj1 (by omega), bkeep hB0 hj2 (by omega)⟩ (fun hHeld => ?_)
      refine wpAnyH_take (i := 0) (oi := ⟨some 48, _, _, _, _, _⟩) (v := ?v0m) rfl (by kernel_rfl) (by kernel_rfl) (by kernel_rfl) (fun _ _ _ h => h) (Or.inl ⟨by rfl, ?y0m⟩) (by assumption) ?r0m
      case y0m => (intro w hSw; (try dsimp only at hSw); (try go_split_ands); go_simp); (try with_reducible rfl)
      case r0m =>
      (try simp only [Act.put, List.setIfInBounds_toArray, List.set_cons_zero, List.set_cons_succ])
      refine wpAnyH_take (i := 1) (oi := ⟨some 49, _, _, _, _, _⟩) (v := .bool true) rfl (by kernel_rfl) (by kernel_rfl) (by kernel_rfl) (fun _ _ _ h => h) (Or.inl ⟨by rfl, ?y1m⟩) (by assumption) ?r1m
      case y1m => (intro w hSw; (try dsimp only at hSw); (try go_split_ands); go_simp)
      case r1m =>
      (try simp only [Act.put, List.setIfInBounds_toArray, List.set_cons_zero, List.set_cons_succ])
      refine wpAnyH_take (i := 2) (oi := ⟨some 50, _, _, _, _, _⟩) (v := .bool true) rfl (by kernel_rfl) (by kernel_rfl) (by kernel_rfl) (fun _ _ _ h => h) (Or.inl ⟨by rfl, ?y2m⟩) (by assumption) ?r2m
      case y2m => (intro w hSw; (try dsimp only at hSw); (try go_split_ands); go_simp)
      case r2m =>
      (try simp only [Act.put, List.setIfInBounds_toArray, List.set_cons_zero, List.set_cons_succ])
      refine wpAnyH_take (i := 3) (oi := ⟨some 51, _, _, _, _, _⟩) (v := ?v3m) rfl (by kernel_rfl) (by kernel_rfl) (by kernel_rfl) (fun _ _ _ h => h) (Or.inl ⟨by rfl, ?y3m⟩) (by assumption) ?r3m
      case y3m => (intro w hSw; (try dsimp only at hSw); (try go_split_ands); go_simp); (try with_reducible rfl)
      case r3m =>
      (try simp only [Act.put, List.setIfInBounds_toArray, List.set_cons_zero, List.set_cons_succ])
      refine wpAnyH_take (i := 4) (oi := ⟨some 52, _, _, _, _, _⟩) (v := ?v4m) rfl (by kernel_rfl) (by kernel_rfl) (by kernel_rfl) (fun _ _ _ h => h) (Or.inl ⟨by rfl, ?y4m⟩) (by assumption) ?r4m
      case y4m => (intro w hSw; (try dsimp only at hSw); (try go_split_ands); go_simp); (try with_reducible rfl)
      case r4m =>
      (try simp only [Act.put, List.setIfInBounds_toArray, List.set_cons_zero, List.set_cons_succ])
      refine wpAnyH_take (i := 5) (oi := ⟨some 53, _, _, _, _, _⟩) (v := ?v5m) rfl (by kernel_rfl) (by kernel_rfl) (by kernel_rfl) (fun _ _ _ h => h) (Or.inl ⟨by rfl, ?y5m⟩) (by assumption) ?r5m
      case y5m => (intro w hSw; (try dsimp only at hSw); (try go_split_ands); go_simp); (try with_reducible rfl)
      case r5m =>
      (try simp only [Act.put, List.setIfInBounds_toArray, List.set_cons_zero, List.set_cons_succ])
      refine wpAnyH_take (i := 6) (oi := ⟨some 54, _, _, _, _, _⟩) (v := ?v6m) rfl (by kernel_rfl) (by kernel_rfl) (by kernel_rfl) (fun _ _ _ h => h) (Or.inl ⟨by rfl, ?y6m⟩) (by assumption) ?r6m
      case y6m => (intro w hSw; (try dsimp only at hSw); (try go_split_ands); go_simp); (try with_reducible rfl)
      case r6m =>
      (try simp only [Act.put, List.setIfInBounds_toArray, List.set_cons_zero, List.set_cons_succ])
      refine wpAnyH_take (i := 7) (oi := ⟨some 55, _, _, _, _, _⟩) (v := ?v7m) rfl (by kernel_rfl) (by kernel_rfl) (by kernel_rfl) (fun _ _ _ h => h) (Or.inl ⟨by rfl, ?y7m⟩) (by assumption) ?r7m
      case y7m => (intro w hSw; (try dsimp only at hSw); (try go_split_ands); go_simp); (try with_reducible rfl)
      case r7m =>
      (try simp only [Act.put, List.setIfInBounds_toArray, List.set_cons_zero, List.set_cons_succ])
      refine wpAnyH_take (i := 8) (oi := ⟨some 56, _, _, _, _, _⟩) (v := .bool true) rfl (by kernel_rfl) (by kernel_rfl) (by kernel_rfl) (fun _ _ _ h => h) (Or.inl ⟨by rfl, ?y8m⟩) (by assumption) ?r8m
      case y8m => (intro w hSw; (try dsimp only at hSw); (try go_split_ands); go_simp)
      case r8m =>
      (try simp only [Act.put, List.setIfInBounds_toArray, List.set_cons_zero, List.set_cons_succ])
      refine wpAnyH_take (i := 9) (oi := ⟨some 57, _, _, _, _, _⟩) (v := .bool true) rfl (by kernel_rfl) (by kernel_rfl) (by kernel_rfl) (fun _ _ _ h => h) (Or.inl ⟨by rfl, ?y9m⟩) (by assumption) ?r9m
      case y9m => (intro w hSw; (try dsimp only at hSw); (try go_split_ands); go_simp)
      case r9m =>
      (try simp only [Act.put, List.setIfInBounds_toArray, List.set_cons_zero, List.set_cons_succ])
      refine wpAnyH_take (i := 10) (oi := ⟨some 58, _, _, _, _, _⟩) (v := .bool true) rfl (by kernel_rfl) (by kernel_rfl) (by kernel_rfl) (fun _ _ _ h => h) (Or.inl ⟨by rfl, ?y10m⟩) (by assumption) ?r10m
      case y10m => (intro w hSw; (try dsimp only at hSw); (try go_split_ands); go_simp)
      case r10m =>
      (try simp only [Act.put, List.setIfInBounds_toArray, List.set_cons_zero, List.set_cons_succ])
      refine wpAnyH_take (i := 11) (oi := ⟨some 59, _, _, _, _, _⟩) (v := ?v11m) rfl (by kernel_rfl) (by kernel_rfl) (by kernel_rfl) (fun _ _ _ h => h) (Or.inl ⟨by rfl, ?y11m⟩) (by assumption) ?r11m
      case y11m => (intro w hSw; (try dsimp only at hSw); (try go_split_ands); go_simp); (try with_reducible rfl)
      case r11m =>
      (try simp only [Act.put, List.setIfInBounds_toArray, List.set_cons_zero, List.set_cons_succ])
      refine wpAnyH_ready (rs := [12]) (by kernel_rfl) (by simp) ?_
      refine AllReadyH.cons (o := ⟨some 60, _, _, _, _, _⟩) rfl (fun K hK => ?_) AllReadyH.nil
      go_simp
      refine (rdMay w1.heap.size _ m _ (row_belowZ HRV.out hHeld.1) HM1.out HV1.out (HS1.out.mono (by decide))).mono ?_; rintro e w3 ⟨rfl, hb3⟩
      go_wp2_with fail
      refine hK.out _ _ (by have hh := Below.trans hHeld.1 (Below.mono hb3 (Below.size hHeld.1)); exact ⟨hh, bkeep hh hn0 hV2, bkeep hh hn1 hV2, bkeep hh hn2 hV2, bkeep hh hj0 (by omega), bkeep hh hj1 (by omega), bkeep hh hj2 (by omega)⟩) (fun hHeld => ?_)
      clear hK K
      (try simp only [Act.put, List.setIfInBounds_toArray, List.set_cons_zero, List.set_cons_succ])
      refine wpAnyH_take (i := 13) (oi := ⟨some 61, _, _, _, _, _⟩) (v := .bool true) rfl (by kernel_rfl) (by kernel_rfl) (by kernel_rfl) (fun _ _ _ h => h) (Or.inl ⟨by rfl, ?y13m⟩) (by assumption) ?r13m
      case y13m => (intro w hSw; (try dsimp only at hSw); (try go_split_ands); go_simp)
      case r13m =>
      (try simp only [Act.put, List.setIfInBounds_toArray, List.set_cons_zero, List.set_cons_succ])
      refine wpAnyH_take (i := 14) (oi := ⟨some 62, _, _, _, _, _⟩) (v := .bool true) rfl (by kernel_rfl) (by kernel_rfl) (by kernel_rfl) (fun _ _ _ h => h) (Or.inl ⟨by rfl, ?y14m⟩) (by assumption) ?r14m
      case y14m => (intro w hSw; (try dsimp only at hSw); (try go_split_ands); go_simp)
      case r14m =>
      (try simp only [Act.put, List.setIfInBounds_toArray, List.set_cons_zero, List.set_cons_succ])
      refine wpAnyH_take (i := 15) (oi := ⟨some 63, _, _, _, _, _⟩) (v := ?v15m) rfl (by kernel_rfl) (by kernel_rfl) (by kernel_rfl) (fun _ _ _ h => h) (Or.inl ⟨by rfl, ?y15m⟩) (by assumption) ?r15m
      case y15m => (intro w hSw; (try dsimp only at hSw); (try go_split_ands); go_simp); (try with_reducible rfl)
      case r15m =>
      (try simp only [Act.put, List.setIfInBounds_toArray, List.set_cons_zero, List.set_cons_succ])
      refine wpAnyH_take (i := 16) (oi := ⟨some 64, _, _, _, _, _⟩) (v := ?v16m) rfl (by kernel_rfl) (by kernel_rfl) (by kernel_rfl) (fun _ _ _ h => h) (Or.inl ⟨by rfl, ?y16m⟩) (by assumption) ?r16m
      case y16m => (intro w hSw; (try dsimp only at hSw); (try go_split_ands); go_simp); (try with_reducible rfl)
      case r16m =>
      (try simp only [Act.put, List.setIfInBounds_toArray, List.set_cons_zero, List.set_cons_succ])
      refine wpAnyH_take (i := 17) (oi := ⟨some 65, _, _, _, _, _⟩) (v := ?v17m) rfl (by kernel_rfl) (by kernel_rfl) (by kernel_rfl) (fun _ _ _ h => h) (Or.inl ⟨by rfl, ?y17m⟩) (by assumption) ?r17m
      case y17m => (intro w hSw; (try dsimp only at hSw); (try go_split_ands); go_simp); (try with_reducible rfl)
      case r17m =>
      (try simp only [Act.put, List.setIfInBounds_toArray, List.set_cons_zero, List.set_cons_succ])
      refine wpAnyH_take (i := 18) (oi := ⟨some 66, _, _, _, _, _⟩) (v := ?v18m) rfl (by kernel_rfl) (by kernel_rfl) (by kernel_rfl) (fun _ _ _ h => h) (Or.inl ⟨by rfl, ?y18m⟩) (by assumption) ?r18m
      case y18m => (intro w hSw; (try dsimp only at hSw); (try go_split_ands); go_simp); (try with_reducible rfl)
      case r18m =>
      (try simp only [Act.put, List.setIfInBounds_toArray, List.set_cons_zero, List.set_cons_succ])
      refine wpAnyH_take (i := 19) (oi := ⟨some 67, _, _, _, _, _⟩) (v := ?v19m) rfl (by kernel_rfl) (by kernel_rfl) (by kernel_rfl) (fun _ _ _ h => h) (Or.inl ⟨by rfl, ?y19m⟩) (by assumption) ?r19m
      case y19m => (intro w hSw; (try dsimp only at hSw); (try go_split_ands); go_simp); (try with_reducible rfl)
      case r19m =>
      (try simp only [Act.put, List.setIfInBounds_toArray, List.set_cons_zero, List.set_cons_succ])
      refine wpAnyH_ready (rs := [20]) (by kernel_rfl) (by simp) ?_
      refine AllReadyH.cons (o := ⟨some 68, _, _, _, _, _⟩) rfl (fun K hK => ?_) AllReadyH.nil
      go_simp
      refine (drMaps m.ver m.nxt m.zs w1.heap.size w0.heap.size _ zv2 _ (row_belowZ HRV.out hHeld.1) (HXV.out.below hHeld.1).row (by omega)).mono ?_; rintro e w4 ⟨rfl, hb3⟩
      go_wp2_with fail
      refine hK.out _ _ (by have hh := Below.trans hHeld.1 (Below.mono hb3 (Below.size hHeld.1)); exact ⟨hh, bkeep hh hn0 hV2, bkeep hh hn1 hV2, bkeep hh hn2 hV2, bkeep hh hj0 (by omega), bkeep hh hj1 (by omega), bkeep hh hj2 (by omega)⟩) (fun hHeld => ?_)
      clear hK K
      (try simp only [Act.put, List.setIfInBounds_toArray, List.set_cons_zero, List.set_cons_succ])
      refine wpAnyH_take (i := 21) (oi := ⟨some 69, _, _, _, _, _⟩) (v := .bool true) rfl (by kernel_rfl) (by kernel_rfl) (by kernel_rfl) (fun _ _ _ h => h) (Or.inl ⟨by rfl, ?y21m⟩) (by assumption) ?r21m
      case y21m => (intro w hSw; (try dsimp only at hSw); (try go_split_ands); go_simp)
      case r21m =>
      (try simp only [Act.put, List.setIfInBounds_toArray, List.set_cons_zero, List.set_cons_succ])
      refine wpAnyH_take (i := 22) (oi := ⟨some 70, _, _, _, _, _⟩) (v := .bool true) rfl (by kernel_rfl) (by kernel_rfl) (by kernel_rfl) (fun _ _ _ h => h) (Or.inl ⟨by rfl, ?y22m⟩) (by assumption) ?r22m
      case y22m => (intro w hSw; (try dsimp only at hSw); (try go_split_ands); go_simp)
      case r22m =>
      (try simp only [Act.put, List.setIfInBounds_toArray, List.set_cons_zero, List.set_cons_succ])
      refine wpAnyH_ready (rs := [23]) (by kernel_rfl) (by simp) ?_
      refine AllReadyH.cons (o := ⟨some 71, _, _, _, _, _⟩) rfl (fun K hK => ?_) AllReadyH.nil
      go_simp
      refine (drKnown _).mono ?_; rintro e w5 ⟨rfl, hb3⟩
      go_wp2_with fail
      refine hK.out _ _ (by have hh := Below.trans hHeld.1 (Below.mono hb3 (Below.size hHeld.1)); exact ⟨hh, bkeep hh hn0 hV2, bkeep hh hn1 hV2, bkeep hh hn2 hV2, bkeep hh hj0 (by omega), bkeep hh hj1 (by omega), bkeep hh hj2 (by omega)⟩) (fun hHeld => ?_)
      clear hK K
      (try simp only [Act.put, List.setIfInBounds_toArray, List.set_cons_zero, List.set_cons_succ])
      refine wpAnyH_take (i := 24) (oi := ⟨some 72, _, _, _, _, _⟩) (v := .bool true) rfl (by kernel_rfl) (by kernel_rfl) (by kernel_rfl) (fun _ _ _ h => h) (Or.inl ⟨by rfl, ?y24m⟩) (by assumption) ?r24m
      case y24m => (intro w hSw; (try dsimp only at hSw); (try go_split_ands); go_simp)
      case r24m =>
      (try simp only [Act.put, List.setIfInBounds_toArray, List.set_cons_zero, List.set_cons_succ])
      refine wpAnyH_take (i := 25) (oi := ⟨some 2, _, _, _, _, _⟩) (v := .bool true) rfl (by kernel_rfl) (by kernel_rfl) (by kernel_rfl) (fun _ _ _ h => h) (Or.inl ⟨by rfl, ?y25m⟩) (by assumption) ?r25m
      case y25m => (intro w hSw; (try dsimp only at hSw); (try go_split_ands); go_simp)
      case r25m =>
      (try simp only [Act.put, List.setIfInBounds_toArray, List.set_cons_zero, List.set_cons_succ])
      refine wpAnyH_done (by kernel_rfl) ?_ _
      go_wp2_with fail
      refine bodyPost_ret (v := .bool true) (by simp [results, Try.results8, go_sem]) rfl ⟨rfl, HBWV.out.trans (hHeld.1.mono hwV)⟩
end Go.Proofs.Ytbohpjinkdffhaa
