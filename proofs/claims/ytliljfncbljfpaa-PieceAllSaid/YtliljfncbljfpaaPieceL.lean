/- PieceAll returns true. -/
import Derived.Test.YtliljfncbljfpaaPieceP
import Derived.Test.YtliljfncbljfpaaPieceM
namespace Go.Proofs.Ytliljfncbljfpaa
open Go.RowKit
set_option linter.unusedVariables false
set_option linter.unusedSimpArgs false

theorem Try.infoBit : (Try.prog.info? 69).map (fun i => (i.zero, i.size, i.bytes)) = some (some (.agg #[.int .i64 0, .slice none 0 0]), 2, 32) := by kernel_rfl
theorem cells2 {w : World} {b : Nat} {v0 v1 : Value} (h0 : w.cell? ⟨b, 0, none⟩ = some v0) (h1 : w.cell? ⟨b, 1, none⟩ = some v1) : ∀ j u, [v0, v1][j]? = some u → w.cell? ((⟨b, 0, none⟩ : Addr).add j) = some u := by
  intro j u hu
  rw [add_none, Nat.zero_add]
  match j, hu with
  | 0, hu => rw [h0]; exact hu
  | 1, hu => rw [h1]; exact hu
theorem Qu.form {w : World} {base e n : Nat} {v : Value} {xs : List Value} (h : Qu w base e v n xs) : ∃ A c, v = .slice A n c := by
  rcases h.2 with ⟨rfl, rfl⟩ | ⟨g, off, cap, cur, rfl, _⟩
  · exact ⟨_, _, rfl⟩
  · exact ⟨_, _, rfl⟩
theorem Qu.form1 {w : World} {base e n : Nat} {v : Value} {xs : List Value} (h : Qu w base e v (n + 1) xs) : ∃ g off cap, v = .slice (some ⟨g, off, none⟩) (n + 1) cap ∧ n + 1 ≤ cap ∧ cap ≤ maxLen := by
  rcases h.2 with ⟨rfl, h0⟩ | ⟨g, off, cap, cur, rfl, _, _, h1, h2, _⟩
  · omega
  · exact ⟨_, _, _, rfl, h1, h2⟩
/-- how far it is at round k: F rounds of fate, then on and on -/
def far (F n k come a : Nat) : Prop := k ≤ F ∨ (come = a ∧ min n (512 * (k - F - 1)) ≤ a)
theorem far_fate {F n k come' a' : Nat} (h : k < F) : far F n (k + 1) come' a' := Or.inl (by omega)
theorem far_more {F n k come a a1 a2 : Nat} (h : far F n k come a) (hk : F ≤ k) (hal : a ≤ n) (h1 : a1 = if come = a then a + min 512 (n - a) else a) (h2 : a1 ≤ a2) : far F n (k + 1) a2 a2 := by
  refine Or.inr ⟨rfl, ?_⟩
  rcases h with h | ⟨h3, h4⟩
  · have : k = F := by omega
    subst this
    rw [show k + 1 - k - 1 = 0 from by omega]; omega
  · rw [if_pos h3] at h1
    by_cases hkF : k = F
    · subst hkF
      rw [show k + 1 - k - 1 = 0 from by omega]; omega
    · rw [show k + 1 - F - 1 = (k - F - 1) + 1 from by omega]; omega
theorem far_end {F n come a : Nat} (h : far F n (F + n / 512 + 3) come a) (ha : a ≤ n) : come = n ∧ a = n := by
  rcases h with h | ⟨h3, h4⟩
  · omega
  · rw [show F + n / 512 + 3 - F - 1 = n / 512 + 2 from by omega] at h4
    omega

set_option maxHeartbeats 8000000 in
set_option maxRecDepth 100000 in
theorem walkPieceAll1 (ad : Addr) (A2 : Option Addr) (c c2 : Nat) (p : List Nat) (fate : List Int) (w : World) (hp1 : 1 ≤ p.length) (hp : p.length ≤ 3000) (hf : fate.length ≤ 60) (hpc : p.length ≤ c) (hcm : c ≤ maxLen) (hx : Cells w w.heap.size (some ad) p.length c 1 (flatU p)) (hl : Ints w w.heap.size A2 fate) (hlc : fate.length ≤ c2) (hcm2 : c2 ≤ maxLen) :
    Calls Try.prog 10 #[.slice (some ad) p.length c, .slice A2 fate.length c2] w fun e w' => e = .returned (.bool true) ∧ Below w.heap.size w w' := by
  obtain ⟨i0, hi, hz0, hz1, hz2⟩ := info_parts Try.infoBit
  have HX := Lib.hid hx
  have HL := Lib.hid hl
  have j1 : ¬ (p.length : Int) < 1 := by omega
  have j2 : ¬ (3000 : Int) < (p.length : Int) := by omega
  have j3 : ¬ (60 : Int) < (fate.length : Int) := by omega
  unfold maxLen at hcm hcm2
  clear hx hl
  go_enter Try.func10, Try.ntmps10
  go_wp2_with fail
  refine (poNew ad c p _ (by omega) HX.out).mono ?_
  rintro e w1 ⟨bo, rfl, hbs, hpo, hb1⟩
  have hs1 := hb1.size
  have hbo := hpo.low
  have HP := Lib.hid hpo
  clear hpo
  go_wp2_with fail
  refine (piBegin p.length _ (by omega) (by omega)).mono ?_
  rintro e w2 ⟨bi, rfl, his, hpi, hrb, hb2⟩
  have hs2 := hb2.size
  have HA : Hid (PA w w2 bo bi w.heap.size w1.heap.size p 0 0 (.slice none 0 0) []) := Lib.hid (by
    refine ⟨HP.out.below hb2 hbo, by simpa using hpi, hb1.trans (hb2.mono hs1), Nat.le_refl _, by omega, ⟨rfl, Or.inl ⟨rfl, rfl⟩⟩, hbo, Nat.le_refl _, hbs, by simp [Value.ownBlock], (fun g hg => by rw [hrb] at hg; cases hg), (fun x hx => by cases hx)⟩)
  clear hpi hrb hb1 hb2 HP
  go_wp2_with fail
  obtain ⟨M, hM⟩ : ∃ z, z = w1.heap.size := ⟨_, rfl⟩
  rw [← hM] at HA
  clear hM
  go_loopw [8, 9] (fun v i wr => ∃ (k come a : Nat) (l : List (Nat × Value)), k ≤ fate.length + p.length / 512 + 3 ∧ i = .int .i64 k ∧ l.length ≤ k ∧ Hid (far fate.length p.length k come a) ∧ Hid (PA w wr bo bi w.heap.size M p come a v l)) (fun _ i _ => fate.length + p.length / 512 + 3 - (intOf i).toNat)
  case atStart => exact ⟨0, 0, 0, [], by omega, rfl, by simp, Lib.hid (Or.inl (by omega)), HA⟩
  case round =>
    obtain ⟨k, come, a, l, hk, rfl, hlk, HFAR, HW⟩ := hrel
    have hal := HW.out.al
    have hca := HW.out.ca
    have hbil := HW.out.pi.low
    obtain ⟨A8, c8, hv8⟩ := HW.out.qu.form
    subst hv8
    by_cases hkK : k < fate.length + p.length / 512 + 3
    · have i1 : (k : Int) < (fate.length : Int) + (p.length : Int) / 512 + 3 := by omega
      go_wp2_with fail
      refine (poNext bo _ p come _ HW.out.po (by omega) (by omega)).mono ?_
      rintro e wa ⟨sv, rfl, hown, hba⟩
      have hsa := hba.size
      have hpl := pc_length p come
      have HO : Hid (wa.ownsRow wr.heap.size 5 1 sv (pc p come).length (flatU (pc p come))) := Lib.hid (by rw [hpl]; exact hown)
      have HWa := Lib.hid (HW.out.fresh hba)
      have hMr : M ≤ wr.heap.size := by have h1 := HW.out.pi.high; omega
      have HSX : Hid (∀ g, sv.ownBlock = some g → g ≠ bi ∧ rowBlk wa bi ≠ some g ∧ (Value.slice A8 l.length c8).ownBlock ≠ some g) := Lib.hid (by
        intro g hg
        have h1 := (HO.out.lt g hg).1
        have e1 : rowBlk wa bi = rowBlk wr bi := rowBlk_touch (Touch.of_below hba) hbil (by omega)
        refine ⟨by omega, fun h => ?_, fun h => ?_⟩
        · rw [e1] at h; have := (HW.out.pi.blk_lt h).2; omega
        · have := (HW.out.qu.lt g h).2; omega)
      obtain ⟨A3, c3, rfl, _, _, _⟩ := row_cells HO.out
      obtain ⟨n3, hn3⟩ : ∃ z, z = (pc p come).length := ⟨_, rfl⟩
      clear hown hpl hba
      by_cases hkF : k < fate.length
      · obtain ⟨ab, ao, rfl, hab, hcell⟩ := ints_at HL.out hkF
        replace hcell := bkeep HWa.out.be hcell hab
        have i2 : (k : Int) < (fate.length : Int) := by omega
        obtain ⟨f, hfv⟩ : ∃ f, bits BinOp.and IntKind.i64 fate[k] 3 = f := ⟨_, rfl⟩
        by_cases hf1 : f = 1
        · have d1 : (f == 1) = true := by subst hf1; rfl
          clear hf1
          go_wp2_with fail
          go_roundw
          case rel => exact ⟨k + 1, come, a, l, by omega, by go_num, by omega, Lib.hid (far_fate hkF), HWa⟩
          case measure => simp [intOf]; omega
        · have d1 : (f == 1) = false := by rw [beq_eq_false_iff_ne]; exact hf1
          by_cases hf2 : f = 2
          · have d2 : (f == 2) = true := by subst hf2; rfl
            clear hf1 hf2
            have HWb := Lib.hid (HWa.out.fresh ((Below.refl _ _).alloc (Nat.le_refl _) (.cells #[.int .i64 come, .slice A3 (pc p come).length c3] 69)))
            have eb : rowBlk (wa.alloc (.cells #[.int .i64 come, .slice A3 (pc p come).length c3] 69)) bi = rowBlk wa bi := rowBlk_touch (Touch.of_below ((Below.refl wa.heap.size wa).alloc (Nat.le_refl _) _)) HWa.out.pi.low (by have := HWa.out.pi.low; omega)
            have HEB := Lib.hid eb
            clear eb
            go_wp2_with (at_builtin; go_loud (refine wpList_append_queue rfl (.tmp 74) (.tmp 78) 67 rfl M 69 i0 (.agg #[.int .i64 0, .slice none 0 0]) 32 Try.underlying67 hi hz0 hz1 hz2 rfl (.slice A8 l.length c8) l.length (qcells l) rfl HWb.out.qu ⟨wa.heap.size, 0, none⟩ 1 [.int .i64 come, .slice A3 (pc p come).length c3] rfl rfl (cells2 (c_new rfl rfl) (c_new rfl rfl)) (by intro u hu; simp at hu; rcases hu with rfl | rfl <;> rfl) (by omega) (by omega) (by simp; omega) ?_; intro v5 w5 hq5 ht5 hl5; have HP5 := Lib.hid (HWb.out.push (sv := .slice A3 (pc p come).length c3) hq5 ht5 hl5 (by omega) (own_mono (HO.out.alloc _) hMr) (by rw [HEB.out]; exact HSX.out)); obtain ⟨A9, c9, hv9⟩ := hq5.form; subst hv9; clear hq5 ht5 hl5))
            go_roundw
            case rel => exact ⟨k + 1, come, a, l ++ [(come, .slice A3 (pc p come).length c3)], by omega, by go_num, by simp; omega, Lib.hid (far_fate hkF), by simpa using HP5⟩
            case measure => simp [intOf]; omega
          · have d2 : (f == 2) = false := by rw [beq_eq_false_iff_ne]; exact hf2
            by_cases hf0 : f = 0
            · have d0 : (f == 0) = true := by subst hf0; rfl
              clear hf1 hf2 hf0
              go_wp2_with fail
              refine (stepTake HWa.out hp come (by omega) _ (.slice A3 (pc p come).length c3) HO.out).mono ?_
              rintro e V0 ⟨rfl, hpa, ht0⟩
              have hs0 := ht0.size
              obtain ⟨a1, ha1⟩ : ∃ z, z = took p a come := ⟨_, rfl⟩
              rw [← ha1] at hpa
              rw [← ha1]
              have HA1 : Hid (a1 = if come = a then a + min 512 (p.length - a) else a) := Lib.hid (by rw [ha1]; rfl)
              clear ha1 ht0
              have HV0 := Lib.hid hpa
              clear hpa
              go_wp2_with fail
              obtain ⟨rr0, hack0⟩ := stepAck HV0.out hp
              refine hack0.mono ?_
              rintro e V ⟨rfl, hpa, ht1⟩
              have HV := Lib.hid hpa
              have hsV := ht1.size
              clear hpa ht1
              cases l with
              | nil =>
                simp only [List.length_nil] at hlk
                go_wp2_with fail
                go_roundw
                case rel => exact ⟨k + 1, a1, a1, [], by omega, by go_num, by simp, Lib.hid (far_fate hkF), HV⟩
                case measure => simp [intOf]; omega
              | cons x0 l0 =>
                obtain ⟨at0, sv0⟩ := x0
                obtain ⟨gq, off, cap, hvf, hcap1, hcap2⟩ := HV.out.qu.form1
                have hvf2 := hvf
                injection hvf with hv1 hv2 hv3
                subst hv1 hv3
                have q0 : V.cell? ⟨gq, off, none⟩ = some (.int .i64 at0) := HV.out.qu.cell (j := 0) rfl
                have q1 : V.cell? ⟨gq, off + 1, none⟩ = some sv0 := HV.out.qu.cell (j := 1) rfl
                obtain ⟨hat0, hso0, hsx0⟩ := HV.out.el (at0, sv0) (by simp)
                have hso := Lib.hid hso0
                have HV1 := HV
                have HQ1 : Hid (¬ (gq = bi ∨ rowBlk V bi = some gq)) := Lib.hid (by
                  rintro (e | e)
                  · exact HV.out.x0 (by rw [e]; rfl)
                  · exact HV.out.x1 gq e rfl)
                have HQ2 : Hid (¬ gq = bo) := Lib.hid (by have h1 := (HV.out.qu.lt gq rfl).1; have h2 := HV.out.bm; omega)
                have hll : (0 : Int) < (l0.length : Int) + 1 := by omega
                have hcc : (1 : Int) ≤ (c8 : Int) := by have := hcap1; omega
                have hcd : (1 : Int) ≤ (l0.length : Int) + 1 := by omega
                simp only [List.length_cons] at hlk
                clear hvf2 hso0 hsx0
                go_wp2_with fail
                refine wp_region_held_drew (S := (fun W => W.cell? ⟨gq, off, none⟩ = some (.int .i64 at0) ∧ W.cell? ⟨gq, off + 1, none⟩ = some sv0)) (by kernel_rfl) ⟨q0, q1⟩ (fun hHeld => ?_)
                refine wpAnyH_take (i := 0) (oi := ⟨some 92, _, _, _, _, _⟩) (v := ?v0a) rfl (by kernel_rfl) (by kernel_rfl) (by kernel_rfl) (fun _ _ _ h => h) (Or.inl ⟨by rfl, ?y0a⟩) (by assumption) ?r0a
                case y0a => (intro w hSw; (try dsimp only at hSw); (try go_split_ands); go_simp); (try with_reducible rfl)
                case r0a =>
                (try simp only [Act.put, List.setIfInBounds_toArray, List.set_cons_zero, List.set_cons_succ])
                refine wpAnyH_take (i := 1) (oi := ⟨some 93, _, _, _, _, _⟩) (v := ?v1a) rfl (by kernel_rfl) (by kernel_rfl) (by kernel_rfl) (fun _ _ _ h => h) (Or.inl ⟨by rfl, ?y1a⟩) (by assumption) ?r1a
                case y1a => (intro w hSw; (try dsimp only at hSw); (try go_split_ands); go_simp); (try with_reducible rfl)
                case r1a =>
                (try simp only [Act.put, List.setIfInBounds_toArray, List.set_cons_zero, List.set_cons_succ])
                refine wpAnyH_take (i := 2) (oi := ⟨some 94, _, _, _, _, _⟩) (v := ?v2a) rfl (by kernel_rfl) (by kernel_rfl) (by kernel_rfl) (fun _ _ _ h => h) (Or.inl ⟨by rfl, ?y2a⟩) (by assumption) ?r2a
                case y2a => (intro w hSw; (try dsimp only at hSw); (try go_split_ands); go_simp); (try with_reducible rfl)
                case r2a =>
                (try simp only [Act.put, List.setIfInBounds_toArray, List.set_cons_zero, List.set_cons_succ])
                refine wpAnyH_take (i := 3) (oi := ⟨some 95, _, _, _, _, _⟩) (v := ?v3a) rfl (by kernel_rfl) (by kernel_rfl) (by kernel_rfl) (fun _ _ _ h => h) (Or.inl ⟨by rfl, ?y3a⟩) (by assumption) ?r3a
                case y3a => (intro w hSw; (try dsimp only at hSw); (try go_split_ands); go_simp); (try with_reducible rfl)
                case r3a =>
                (try simp only [Act.put, List.setIfInBounds_toArray, List.set_cons_zero, List.set_cons_succ])
                refine wpAnyH_take (i := 4) (oi := ⟨some 96, _, _, _, _, _⟩) (v := ?v4a) rfl (by kernel_rfl) (by kernel_rfl) (by kernel_rfl) (fun _ _ _ h => h) (Or.inl ⟨by rfl, ?y4a⟩) (by assumption) ?r4a
                case y4a => (intro w hSw; (try dsimp only at hSw); (try go_split_ands); go_simp); (try with_reducible rfl)
                case r4a =>
                (try simp only [Act.put, List.setIfInBounds_toArray, List.set_cons_zero, List.set_cons_succ])
                refine wpAnyH_take (i := 5) (oi := ⟨some 97, _, _, _, _, _⟩) (v := ?v5a) rfl (by kernel_rfl) (by kernel_rfl) (by kernel_rfl) (fun _ _ _ h => h) (Or.inl ⟨by rfl, ?y5a⟩) (by assumption) ?r5a
                case y5a => (intro w hSw; (try dsimp only at hSw); (try go_split_ands); go_simp); (try with_reducible rfl)
                case r5a =>
                (try simp only [Act.put, List.setIfInBounds_toArray, List.set_cons_zero, List.set_cons_succ])
                refine wpAnyH_take (i := 6) (oi := ⟨some 98, _, _, _, _, _⟩) (v := ?v6a) rfl (by kernel_rfl) (by kernel_rfl) (by kernel_rfl) (fun _ _ _ h => h) (Or.inl ⟨by rfl, ?y6a⟩) (by assumption) ?r6a
                case y6a => (intro w hSw; (try dsimp only at hSw); (try go_split_ands); go_simp); (try with_reducible rfl)
                case r6a =>
                (try simp only [Act.put, List.setIfInBounds_toArray, List.set_cons_zero, List.set_cons_succ])
                refine wpAnyH_take (i := 7) (oi := ⟨some 99, _, _, _, _, _⟩) (v := ?v7a) rfl (by kernel_rfl) (by kernel_rfl) (by kernel_rfl) (fun _ _ _ h => h) (Or.inl ⟨by rfl, ?y7a⟩) (by assumption) ?r7a
                case y7a => (intro w hSw; (try dsimp only at hSw); (try go_split_ands); go_simp); (try with_reducible rfl)
                case r7a =>
                (try simp only [Act.put, List.setIfInBounds_toArray, List.set_cons_zero, List.set_cons_succ])
                refine wpAnyH_take (i := 8) (oi := ⟨some 100, _, _, _, _, _⟩) (v := ?v8a) rfl (by kernel_rfl) (by kernel_rfl) (by kernel_rfl) (fun _ _ _ h => h) (Or.inl ⟨by rfl, ?y8a⟩) (by assumption) ?r8a
                case y8a => (intro w hSw; (try dsimp only at hSw); (try go_split_ands); go_simp); (try with_reducible rfl)
                case r8a =>
                (try simp only [Act.put, List.setIfInBounds_toArray, List.set_cons_zero, List.set_cons_succ])
                refine wpAnyH_take (i := 9) (oi := ⟨some 101, _, _, _, _, _⟩) (v := ?v9a) rfl (by kernel_rfl) (by kernel_rfl) (by kernel_rfl) (fun _ _ _ h => h) (Or.inl ⟨by rfl, ?y9a⟩) (by assumption) ?r9a
                case y9a => (intro w hSw; (try dsimp only at hSw); (try go_split_ands); go_simp); (try with_reducible rfl)
                case r9a =>
                (try simp only [Act.put, List.setIfInBounds_toArray, List.set_cons_zero, List.set_cons_succ])
                refine wpAnyH_ready (rs := [10]) (by kernel_rfl) (by simp) ?_
                refine AllReadyH.cons (o := ⟨some 102, _, _, _, _, _⟩) rfl (fun K hK => ?_) AllReadyH.nil
                go_simp
                refine (stepTake (w := V.drew) (HV1.out.fresh (Below.refl _ _).drew) hp at0 hat0 M sv0 hso.out).mono ?_
                rintro e V2 ⟨rfl, hpa2, ht2⟩
                have e0 := ht2.cell q0 HQ1.out
                have e1 := ht2.cell q1 HQ1.out
                have HV2 := Lib.hid hpa2
                have hs2 := ht2.size
                clear hpa2 ht2
                go_wp2_with fail
                refine hK.out _ _ ⟨e0, e1⟩ (fun hHeld => ?_)
                clear hK K
                (try simp only [Act.put, List.setIfInBounds_toArray, List.set_cons_zero, List.set_cons_succ])
                refine wpAnyH_ready (rs := [11]) (by kernel_rfl) (by simp) ?_
                refine AllReadyH.cons (o := ⟨some 103, _, _, _, _, _⟩) rfl (fun K hK => ?_) AllReadyH.nil
                go_simp
                obtain ⟨rr, hack⟩ := stepAck HV2.out hp
                refine hack.mono ?_
                rintro e V3 ⟨rfl, hpa3, ht3⟩
                replace e0 := ht3.cell e0 HQ2.out
                replace e1 := ht3.cell e1 HQ2.out
                have HV3 := Lib.hid hpa3
                have hs3 := ht3.size
                clear hpa3 ht3
                go_wp2_with fail
                refine hK.out _ _ ⟨e0, e1⟩ (fun hHeld => ?_)
                clear hK K
                (try simp only [Act.put, List.setIfInBounds_toArray, List.set_cons_zero, List.set_cons_succ])
                refine wpAnyH_done (by kernel_rfl) ?_ _
                have HQT := Lib.hid HV3.out.qu.tail
                have hle2 := (took_le (p := p) (at' := at0) HV1.out.al).1
                by_cases hc1 : c8 = 1
                · have hQ := HQT.out
                  rw [if_pos hc1] at hQ
                  have e00 : l0.length = 0 := by omega
                  have HP := Lib.hid (HV3.out.pop (v' := .slice (some ⟨gq, off, none⟩) 0 0) (by rw [hc1, e00] at hQ; rw [e00]; exact hQ) rfl)
                  subst hc1
                  clear hQ HQT e00
                  go_wp2_with fail
                  go_roundw
                  case rel => exact ⟨k + 1, _, _, l0, by omega, by go_num, by omega, Lib.hid (far_fate hkF), HP⟩
                  case measure => simp [intOf]; omega
                · have hQ := HQT.out
                  rw [if_neg hc1] at hQ
                  have HP := Lib.hid (HV3.out.pop (v' := .slice (some ⟨gq, off + 2, none⟩) l0.length (c8 - 1)) hQ rfl)
                  clear hQ HQT
                  go_wp2_with fail
                  go_roundw
                  case rel => exact ⟨k + 1, _, _, l0, by omega, by go_num, by omega, Lib.hid (far_fate hkF), HP⟩
                  case measure => simp [intOf]; omega
            · have d0 : (f == 0) = false := by rw [beq_eq_false_iff_ne]; exact hf0
              clear hf1 hf2 hf0
              go_wp2_with fail
              refine (stepTake HWa.out hp come (by omega) _ (.slice A3 (pc p come).length c3) HO.out).mono ?_
              rintro e V0 ⟨rfl, hpa, ht0⟩
              have hs0 := ht0.size
              obtain ⟨a1, ha1⟩ : ∃ z, z = took p a come := ⟨_, rfl⟩
              rw [← ha1] at hpa
              rw [← ha1]
              have HA1 : Hid (a1 = if come = a then a + min 512 (p.length - a) else a) := Lib.hid (by rw [ha1]; rfl)
              clear ha1 ht0
              obtain ⟨V, hV⟩ : ∃ z, z = V0 := ⟨_, rfl⟩
              rw [← hV] at hpa
              rw [← hV]
              have HV := Lib.hid hpa
              clear hpa hV
              cases l with
              | nil =>
                simp only [List.length_nil] at hlk
                go_wp2_with fail
                go_roundw
                case rel => exact ⟨k + 1, come, a1, [], by omega, by go_num, by simp, Lib.hid (far_fate hkF), HV⟩
                case measure => simp [intOf]; omega
              | cons x0 l0 =>
                obtain ⟨at0, sv0⟩ := x0
                obtain ⟨gq, off, cap, hvf, hcap1, hcap2⟩ := HV.out.qu.form1
                have hvf2 := hvf
                injection hvf with hv1 hv2 hv3
                subst hv1 hv3
                have q0 : V.cell? ⟨gq, off, none⟩ = some (.int .i64 at0) := HV.out.qu.cell (j := 0) rfl
                have q1 : V.cell? ⟨gq, off + 1, none⟩ = some sv0 := HV.out.qu.cell (j := 1) rfl
                obtain ⟨hat0, hso0, hsx0⟩ := HV.out.el (at0, sv0) (by simp)
                have hso := Lib.hid hso0
                have HV1 := HV
                have HQ1 : Hid (¬ (gq = bi ∨ rowBlk V bi = some gq)) := Lib.hid (by
                  rintro (e | e)
                  · exact HV.out.x0 (by rw [e]; rfl)
                  · exact HV.out.x1 gq e rfl)
                have HQ2 : Hid (¬ gq = bo) := Lib.hid (by have h1 := (HV.out.qu.lt gq rfl).1; have h2 := HV.out.bm; omega)
                have hll : (0 : Int) < (l0.length : Int) + 1 := by omega
                have hcc : (1 : Int) ≤ (c8 : Int) := by have := hcap1; omega
                have hcd : (1 : Int) ≤ (l0.length : Int) + 1 := by omega
                simp only [List.length_cons] at hlk
                clear hvf2 hso0 hsx0
                go_wp2_with fail
                refine wp_region_held_drew (S := (fun W => W.cell? ⟨gq, off, none⟩ = some (.int .i64 at0) ∧ W.cell? ⟨gq, off + 1, none⟩ = some sv0)) (by kernel_rfl) ⟨q0, q1⟩ (fun hHeld => ?_)
                refine wpAnyH_take (i := 0) (oi := ⟨some 92, _, _, _, _, _⟩) (v := ?v0b) rfl (by kernel_rfl) (by kernel_rfl) (by kernel_rfl) (fun _ _ _ h => h) (Or.inl ⟨by rfl, ?y0b⟩) (by assumption) ?r0b
                case y0b => (intro w hSw; (try dsimp only at hSw); (try go_split_ands); go_simp); (try with_reducible rfl)
                case r0b =>
                (try simp only [Act.put, List.setIfInBounds_toArray, List.set_cons_zero, List.set_cons_succ])
                refine wpAnyH_take (i := 1) (oi := ⟨some 93, _, _, _, _, _⟩) (v := ?v1b) rfl (by kernel_rfl) (by kernel_rfl) (by kernel_rfl) (fun _ _ _ h => h) (Or.inl ⟨by rfl, ?y1b⟩) (by assumption) ?r1b
                case y1b => (intro w hSw; (try dsimp only at hSw); (try go_split_ands); go_simp); (try with_reducible rfl)
                case r1b =>
                (try simp only [Act.put, List.setIfInBounds_toArray, List.set_cons_zero, List.set_cons_succ])
                refine wpAnyH_take (i := 2) (oi := ⟨some 94, _, _, _, _, _⟩) (v := ?v2b) rfl (by kernel_rfl) (by kernel_rfl) (by kernel_rfl) (fun _ _ _ h => h) (Or.inl ⟨by rfl, ?y2b⟩) (by assumption) ?r2b
                case y2b => (intro w hSw; (try dsimp only at hSw); (try go_split_ands); go_simp); (try with_reducible rfl)
                case r2b =>
                (try simp only [Act.put, List.setIfInBounds_toArray, List.set_cons_zero, List.set_cons_succ])
                refine wpAnyH_take (i := 3) (oi := ⟨some 95, _, _, _, _, _⟩) (v := ?v3b) rfl (by kernel_rfl) (by kernel_rfl) (by kernel_rfl) (fun _ _ _ h => h) (Or.inl ⟨by rfl, ?y3b⟩) (by assumption) ?r3b
                case y3b => (intro w hSw; (try dsimp only at hSw); (try go_split_ands); go_simp); (try with_reducible rfl)
                case r3b =>
                (try simp only [Act.put, List.setIfInBounds_toArray, List.set_cons_zero, List.set_cons_succ])
                refine wpAnyH_take (i := 4) (oi := ⟨some 96, _, _, _, _, _⟩) (v := ?v4b) rfl (by kernel_rfl) (by kernel_rfl) (by kernel_rfl) (fun _ _ _ h => h) (Or.inl ⟨by rfl, ?y4b⟩) (by assumption) ?r4b
                case y4b => (intro w hSw; (try dsimp only at hSw); (try go_split_ands); go_simp); (try with_reducible rfl)
                case r4b =>
                (try simp only [Act.put, List.setIfInBounds_toArray, List.set_cons_zero, List.set_cons_succ])
                refine wpAnyH_take (i := 5) (oi := ⟨some 97, _, _, _, _, _⟩) (v := ?v5b) rfl (by kernel_rfl) (by kernel_rfl) (by kernel_rfl) (fun _ _ _ h => h) (Or.inl ⟨by rfl, ?y5b⟩) (by assumption) ?r5b
                case y5b => (intro w hSw; (try dsimp only at hSw); (try go_split_ands); go_simp); (try with_reducible rfl)
                case r5b =>
                (try simp only [Act.put, List.setIfInBounds_toArray, List.set_cons_zero, List.set_cons_succ])
                refine wpAnyH_take (i := 6) (oi := ⟨some 98, _, _, _, _, _⟩) (v := ?v6b) rfl (by kernel_rfl) (by kernel_rfl) (by kernel_rfl) (fun _ _ _ h => h) (Or.inl ⟨by rfl, ?y6b⟩) (by assumption) ?r6b
                case y6b => (intro w hSw; (try dsimp only at hSw); (try go_split_ands); go_simp); (try with_reducible rfl)
                case r6b =>
                (try simp only [Act.put, List.setIfInBounds_toArray, List.set_cons_zero, List.set_cons_succ])
                refine wpAnyH_take (i := 7) (oi := ⟨some 99, _, _, _, _, _⟩) (v := ?v7b) rfl (by kernel_rfl) (by kernel_rfl) (by kernel_rfl) (fun _ _ _ h => h) (Or.inl ⟨by rfl, ?y7b⟩) (by assumption) ?r7b
                case y7b => (intro w hSw; (try dsimp only at hSw); (try go_split_ands); go_simp); (try with_reducible rfl)
                case r7b =>
                (try simp only [Act.put, List.setIfInBounds_toArray, List.set_cons_zero, List.set_cons_succ])
                refine wpAnyH_take (i := 8) (oi := ⟨some 100, _, _, _, _, _⟩) (v := ?v8b) rfl (by kernel_rfl) (by kernel_rfl) (by kernel_rfl) (fun _ _ _ h => h) (Or.inl ⟨by rfl, ?y8b⟩) (by assumption) ?r8b
                case y8b => (intro w hSw; (try dsimp only at hSw); (try go_split_ands); go_simp); (try with_reducible rfl)
                case r8b =>
                (try simp only [Act.put, List.setIfInBounds_toArray, List.set_cons_zero, List.set_cons_succ])
                refine wpAnyH_take (i := 9) (oi := ⟨some 101, _, _, _, _, _⟩) (v := ?v9b) rfl (by kernel_rfl) (by kernel_rfl) (by kernel_rfl) (fun _ _ _ h => h) (Or.inl ⟨by rfl, ?y9b⟩) (by assumption) ?r9b
                case y9b => (intro w hSw; (try dsimp only at hSw); (try go_split_ands); go_simp); (try with_reducible rfl)
                case r9b =>
                (try simp only [Act.put, List.setIfInBounds_toArray, List.set_cons_zero, List.set_cons_succ])
                refine wpAnyH_ready (rs := [10]) (by kernel_rfl) (by simp) ?_
                refine AllReadyH.cons (o := ⟨some 102, _, _, _, _, _⟩) rfl (fun K hK => ?_) AllReadyH.nil
                go_simp
                refine (stepTake (w := V.drew) (HV1.out.fresh (Below.refl _ _).drew) hp at0 hat0 M sv0 hso.out).mono ?_
                rintro e V2 ⟨rfl, hpa2, ht2⟩
                have e0 := ht2.cell q0 HQ1.out
                have e1 := ht2.cell q1 HQ1.out
                have HV2 := Lib.hid hpa2
                have hs2 := ht2.size
                clear hpa2 ht2
                go_wp2_with fail
                refine hK.out _ _ ⟨e0, e1⟩ (fun hHeld => ?_)
                clear hK K
                (try simp only [Act.put, List.setIfInBounds_toArray, List.set_cons_zero, List.set_cons_succ])
                refine wpAnyH_ready (rs := [11]) (by kernel_rfl) (by simp) ?_
                refine AllReadyH.cons (o := ⟨some 103, _, _, _, _, _⟩) rfl (fun K hK => ?_) AllReadyH.nil
                go_simp
                obtain ⟨rr, hack⟩ := stepAck HV2.out hp
                refine hack.mono ?_
                rintro e V3 ⟨rfl, hpa3, ht3⟩
                replace e0 := ht3.cell e0 HQ2.out
                replace e1 := ht3.cell e1 HQ2.out
                have HV3 := Lib.hid hpa3
                have hs3 := ht3.size
                clear hpa3 ht3
                go_wp2_with fail
                refine hK.out _ _ ⟨e0, e1⟩ (fun hHeld => ?_)
                clear hK K
                (try simp only [Act.put, List.setIfInBounds_toArray, List.set_cons_zero, List.set_cons_succ])
                refine wpAnyH_done (by kernel_rfl) ?_ _
                have HQT := Lib.hid HV3.out.qu.tail
                have hle2 := (took_le (p := p) (at' := at0) HV1.out.al).1
                by_cases hc1 : c8 = 1
                · have hQ := HQT.out
                  rw [if_pos hc1] at hQ
                  have e00 : l0.length = 0 := by omega
                  have HP := Lib.hid (HV3.out.pop (v' := .slice (some ⟨gq, off, none⟩) 0 0) (by rw [hc1, e00] at hQ; rw [e00]; exact hQ) rfl)
                  subst hc1
                  clear hQ HQT e00
                  go_wp2_with fail
                  go_roundw
                  case rel => exact ⟨k + 1, _, _, l0, by omega, by go_num, by omega, Lib.hid (far_fate hkF), HP⟩
                  case measure => simp [intOf]; omega
                · have hQ := HQT.out
                  rw [if_neg hc1] at hQ
                  have HP := Lib.hid (HV3.out.pop (v' := .slice (some ⟨gq, off + 2, none⟩) l0.length (c8 - 1)) hQ rfl)
                  clear hQ HQT
                  go_wp2_with fail
                  go_roundw
                  case rel => exact ⟨k + 1, _, _, l0, by omega, by go_num, by omega, Lib.hid (far_fate hkF), HP⟩
                  case measure => simp [intOf]; omega
      · have i2 : ¬ (k : Int) < (fate.length : Int) := by omega
        go_wp2_with fail
        refine (stepTake HWa.out hp come (by omega) _ (.slice A3 (pc p come).length c3) HO.out).mono ?_
        rintro e V0 ⟨rfl, hpa, ht0⟩
        have hs0 := ht0.size
        obtain ⟨a1, ha1⟩ : ∃ z, z = took p a come := ⟨_, rfl⟩
        rw [← ha1] at hpa
        rw [← ha1]
        have HA1 : Hid (a1 = if come = a then a + min 512 (p.length - a) else a) := Lib.hid (by rw [ha1]; rfl)
        clear ha1 ht0
        have HV0 := Lib.hid hpa
        clear hpa
        go_wp2_with fail
        obtain ⟨rr0, hack0⟩ := stepAck HV0.out hp
        refine hack0.mono ?_
        rintro e V ⟨rfl, hpa, ht1⟩
        have HV := Lib.hid hpa
        have hsV := ht1.size
        clear hpa ht1
        cases l with
        | nil =>
          simp only [List.length_nil] at hlk
          go_wp2_with fail
          go_roundw
          case rel => exact ⟨k + 1, a1, a1, [], by omega, by go_num, by simp, Lib.hid (far_more HFAR.out (by omega) hal HA1.out (Nat.le_refl _)), HV⟩
          case measure => simp [intOf]; omega
        | cons x0 l0 =>
          obtain ⟨at0, sv0⟩ := x0
          obtain ⟨gq, off, cap, hvf, hcap1, hcap2⟩ := HV.out.qu.form1
          have hvf2 := hvf
          injection hvf with hv1 hv2 hv3
          subst hv1 hv3
          have q0 : V.cell? ⟨gq, off, none⟩ = some (.int .i64 at0) := HV.out.qu.cell (j := 0) rfl
          have q1 : V.cell? ⟨gq, off + 1, none⟩ = some sv0 := HV.out.qu.cell (j := 1) rfl
          obtain ⟨hat0, hso0, hsx0⟩ := HV.out.el (at0, sv0) (by simp)
          have hso := Lib.hid hso0
          have HV1 := HV
          have HQ1 : Hid (¬ (gq = bi ∨ rowBlk V bi = some gq)) := Lib.hid (by
            rintro (e | e)
            · exact HV.out.x0 (by rw [e]; rfl)
            · exact HV.out.x1 gq e rfl)
          have HQ2 : Hid (¬ gq = bo) := Lib.hid (by have h1 := (HV.out.qu.lt gq rfl).1; have h2 := HV.out.bm; omega)
          have hll : (0 : Int) < (l0.length : Int) + 1 := by omega
          have hcc : (1 : Int) ≤ (c8 : Int) := by have := hcap1; omega
          have hcd : (1 : Int) ≤ (l0.length : Int) + 1 := by omega
          simp only [List.length_cons] at hlk
          clear hvf2 hso0 hsx0
          go_wp2_with fail
          refine wp_region_held_drew (S := (fun W => W.cell? ⟨gq, off, none⟩ = some (.int .i64 at0) ∧ W.cell? ⟨gq, off + 1, none⟩ = some sv0)) (by kernel_rfl) ⟨q0, q1⟩ (fun hHeld => ?_)
          refine wpAnyH_take (i := 0) (oi := ⟨some 92, _, _, _, _, _⟩) (v := ?v0c) rfl (by kernel_rfl) (by kernel_rfl) (by kernel_rfl) (fun _ _ _ h => h) (Or.inl ⟨by rfl, ?y0c⟩) (by assumption) ?r0c
          case y0c => (intro w hSw; (try dsimp only at hSw); (try go_split_ands); go_simp); (try with_reducible rfl)
          case r0c =>
          (try simp only [Act.put, List.setIfInBounds_toArray, List.set_cons_zero, List.set_cons_succ])
          refine wpAnyH_take (i := 1) (oi := ⟨some 93, _, _, _, _, _⟩) (v := ?v1c) rfl (by kernel_rfl) (by kernel_rfl) (by kernel_rfl) (fun _ _ _ h => h) (Or.inl ⟨by rfl, ?y1c⟩) (by assumption) ?r1c
          case y1c => (intro w hSw; (try dsimp only at hSw); (try go_split_ands); go_simp); (try with_reducible rfl)
          case r1c =>
          (try simp only [Act.put, List.setIfInBounds_toArray, List.set_cons_zero, List.set_cons_succ])
          refine wpAnyH_take (i := 2) (oi := ⟨some 94, _, _, _, _, _⟩) (v := ?v2c) rfl (by kernel_rfl) (by kernel_rfl) (by kernel_rfl) (fun _ _ _ h => h) (Or.inl ⟨by rfl, ?y2c⟩) (by assumption) ?r2c
          case y2c => (intro w hSw; (try dsimp only at hSw); (try go_split_ands); go_simp); (try with_reducible rfl)
          case r2c =>
          (try simp only [Act.put, List.setIfInBounds_toArray, List.set_cons_zero, List.set_cons_succ])
          refine wpAnyH_take (i := 3) (oi := ⟨some 95, _, _, _, _, _⟩) (v := ?v3c) rfl (by kernel_rfl) (by kernel_rfl) (by kernel_rfl) (fun _ _ _ h => h) (Or.inl ⟨by rfl, ?y3c⟩) (by assumption) ?r3c
          case y3c => (intro w hSw; (try dsimp only at hSw); (try go_split_ands); go_simp); (try with_reducible rfl)
          case r3c =>
          (try simp only [Act.put, List.setIfInBounds_toArray, List.set_cons_zero, List.set_cons_succ])
          refine wpAnyH_take (i := 4) (oi := ⟨some 96, _, _, _, _, _⟩) (v := ?v4c) rfl (by kernel_rfl) (by kernel_rfl) (by kernel_rfl) (fun _ _ _ h => h) (Or.inl ⟨by rfl, ?y4c⟩) (by assumption) ?r4c
          case y4c => (intro w hSw; (try dsimp only at hSw); (try go_split_ands); go_simp); (try with_reducible rfl)
          case r4c =>
          (try simp only [Act.put, List.setIfInBounds_toArray, List.set_cons_zero, List.set_cons_succ])
          refine wpAnyH_take (i := 5) (oi := ⟨some 97, _, _, _, _, _⟩) (v := ?v5c) rfl (by kernel_rfl) (by kernel_rfl) (by kernel_rfl) (fun _ _ _ h => h) (Or.inl ⟨by rfl, ?y5c⟩) (by assumption) ?r5c
          case y5c => (intro w hSw; (try dsimp only at hSw); (try go_split_ands); go_simp); (try with_reducible rfl)
          case r5c =>
          (try simp only [Act.put, List.setIfInBounds_toArray, List.set_cons_zero, List.set_cons_succ])
          refine wpAnyH_take (i := 6) (oi := ⟨some 98, _, _, _, _, _⟩) (v := ?v6c) rfl (by kernel_rfl) (by kernel_rfl) (by kernel_rfl) (fun _ _ _ h => h) (Or.inl ⟨by rfl, ?y6c⟩) (by assumption) ?r6c
          case y6c => (intro w hSw; (try dsimp only at hSw); (try go_split_ands); go_simp); (try with_reducible rfl)
          case r6c =>
          (try simp only [Act.put, List.setIfInBounds_toArray, List.set_cons_zero, List.set_cons_succ])
          refine wpAnyH_take (i := 7) (oi := ⟨some 99, _, _, _, _, _⟩) (v := ?v7c) rfl (by kernel_rfl) (by kernel_rfl) (by kernel_rfl) (fun _ _ _ h => h) (Or.inl ⟨by rfl, ?y7c⟩) (by assumption) ?r7c
          case y7c => (intro w hSw; (try dsimp only at hSw); (try go_split_ands); go_simp); (try with_reducible rfl)
          case r7c =>
          (try simp only [Act.put, List.setIfInBounds_toArray, List.set_cons_zero, List.set_cons_succ])
          refine wpAnyH_take (i := 8) (oi := ⟨some 100, _, _, _, _, _⟩) (v := ?v8c) rfl (by kernel_rfl) (by kernel_rfl) (by kernel_rfl) (fun _ _ _ h => h) (Or.inl ⟨by rfl, ?y8c⟩) (by assumption) ?r8c
          case y8c => (intro w hSw; (try dsimp only at hSw); (try go_split_ands); go_simp); (try with_reducible rfl)
          case r8c =>
          (try simp only [Act.put, List.setIfInBounds_toArray, List.set_cons_zero, List.set_cons_succ])
          refine wpAnyH_take (i := 9) (oi := ⟨some 101, _, _, _, _, _⟩) (v := ?v9c) rfl (by kernel_rfl) (by kernel_rfl) (by kernel_rfl) (fun _ _ _ h => h) (Or.inl ⟨by rfl, ?y9c⟩) (by assumption) ?r9c
          case y9c => (intro w hSw; (try dsimp only at hSw); (try go_split_ands); go_simp); (try with_reducible rfl)
          case r9c =>
          (try simp only [Act.put, List.setIfInBounds_toArray, List.set_cons_zero, List.set_cons_succ])
          refine wpAnyH_ready (rs := [10]) (by kernel_rfl) (by simp) ?_
          refine AllReadyH.cons (o := ⟨some 102, _, _, _, _, _⟩) rfl (fun K hK => ?_) AllReadyH.nil
          go_simp
          refine (stepTake (w := V.drew) (HV1.out.fresh (Below.refl _ _).drew) hp at0 hat0 M sv0 hso.out).mono ?_
          rintro e V2 ⟨rfl, hpa2, ht2⟩
          have e0 := ht2.cell q0 HQ1.out
          have e1 := ht2.cell q1 HQ1.out
          have HV2 := Lib.hid hpa2
          have hs2 := ht2.size
          clear hpa2 ht2
          go_wp2_with fail
          refine hK.out _ _ ⟨e0, e1⟩ (fun hHeld => ?_)
          clear hK K
          (try simp only [Act.put, List.setIfInBounds_toArray, List.set_cons_zero, List.set_cons_succ])
          refine wpAnyH_ready (rs := [11]) (by kernel_rfl) (by simp) ?_
          refine AllReadyH.cons (o := ⟨some 103, _, _, _, _, _⟩) rfl (fun K hK => ?_) AllReadyH.nil
          go_simp
          obtain ⟨rr, hack⟩ := stepAck HV2.out hp
          refine hack.mono ?_
          rintro e V3 ⟨rfl, hpa3, ht3⟩
          replace e0 := ht3.cell e0 HQ2.out
          replace e1 := ht3.cell e1 HQ2.out
          have HV3 := Lib.hid hpa3
          have hs3 := ht3.size
          clear hpa3 ht3
          go_wp2_with fail
          refine hK.out _ _ ⟨e0, e1⟩ (fun hHeld => ?_)
          clear hK K
          (try simp only [Act.put, List.setIfInBounds_toArray, List.set_cons_zero, List.set_cons_succ])
          refine wpAnyH_done (by kernel_rfl) ?_ _
          have HQT := Lib.hid HV3.out.qu.tail
          have hle2 := (took_le (p := p) (at' := at0) HV1.out.al).1
          by_cases hc1 : c8 = 1
          · have hQ := HQT.out
            rw [if_pos hc1] at hQ
            have e00 : l0.length = 0 := by omega
            have HP := Lib.hid (HV3.out.pop (v' := .slice (some ⟨gq, off, none⟩) 0 0) (by rw [hc1, e00] at hQ; rw [e00]; exact hQ) rfl)
            subst hc1
            clear hQ HQT e00
            go_wp2_with fail
            go_roundw
            case rel => exact ⟨k + 1, _, _, l0, by omega, by go_num, by omega, Lib.hid (far_more HFAR.out (by omega) hal HA1.out hle2), HP⟩
            case measure => simp [intOf]; omega
          · have hQ := HQT.out
            rw [if_neg hc1] at hQ
            have HP := Lib.hid (HV3.out.pop (v' := .slice (some ⟨gq, off + 2, none⟩) l0.length (c8 - 1)) hQ rfl)
            clear hQ HQT
            go_wp2_with fail
            go_roundw
            case rel => exact ⟨k + 1, _, _, l0, by omega, by go_num, by omega, Lib.hid (far_more HFAR.out (by omega) hal HA1.out hle2), HP⟩
            case measure => simp [intOf]; omega
    · have hke : k = fate.length + p.length / 512 + 3 := by omega
      have i1 : ¬ (k : Int) < (fate.length : Int) + (p.length : Int) / 512 + 3 := by omega
      have hfe := HFAR.out
      rw [hke] at hfe
      obtain ⟨e1, e2⟩ := far_end hfe hal
      have HW2 : Hid (PA w wr bo bi w.heap.size M p p.length p.length (.slice A8 l.length c8) l) := Lib.hid (by have h := HW.out; rw [e1, e2] at h; exact h)
      have HT : Hid (p.take p.length = p) := Lib.hid (List.take_length)
      clear hfe e1 e2 hke hkK hk hca hal HW HFAR
      go_wp2_with fail
      refine (poWholeB bo _ p p.length true _ HW2.out.po (by simp)).mono ?_
      rintro e wa ⟨rfl, hba⟩
      have HWa := Lib.hid (HW2.out.fresh hba)
      have hsa := hba.size
      go_wp2_with fail
      refine (piWholeB bi _ _ p.length true _ HWa.out.pi (by rw [HT.out]; simp)).mono ?_
      rintro e wb ⟨rfl, hbb⟩
      have HWb := Lib.hid (HWa.out.fresh hbb)
      have hsb := hbb.size
      go_wp2_with fail
      have hpi := HWb.out.pi
      rw [HT.out] at hpi
      refine (piBytes bi _ p p.length _ hpi (by omega)).mono ?_
      rintro e wc ⟨vc, rfl, hownc, hbc⟩
      have hsc := hbc.size
      obtain ⟨Ac, cc, rfl, _, _, hxc⟩ := row_cells hownc
      have HXC := Lib.hid hxc
      have HXP := Lib.hid (cells_keep HX.out (HWb.out.be.trans (hbc.mono HWb.out.be.size)) (Nat.le_refl _))
      clear hownc hxc hpi
      go_wp2_with fail
      refine (lawSame Ac (some ad) cc c _ _ p _ (by omega) HXC.out HXP.out).mono ?_
      rintro e wd ⟨rfl, htd⟩
      have hbd := htd.none_below (Nat.le_refl _)
      have HWd := Lib.hid ((HWb.out.fresh hbc).fresh hbd)
      clear htd hbd
      go_wp2_with fail
      refine (knownPiece _).mono ?_
      rintro e we ⟨rfl, hbe⟩
      go_wp2_with fail
      go_ret
      exact ⟨rfl, HWd.out.be.trans (hbe.mono HWd.out.be.size)⟩

theorem walkPieceAll (A A2 : Option Addr) (c c2 : Nat) (p : List Nat) (fate : List Int) (w : World) (hpc : p.length ≤ c) (hcm : c ≤ maxLen) (hx : Cells w w.heap.size A p.length c 1 (flatU p)) (hl : Ints w w.heap.size A2 fate) (hlc : fate.length ≤ c2) (hcm2 : c2 ≤ maxLen) :
    Calls Try.prog 10 #[.slice A p.length c, .slice A2 fate.length c2] w fun e w' => e = .returned (.bool true) ∧ Below w.heap.size w w' := by
  by_cases h1 : p.length < 1
  · have j1 : (p.length : Int) < 1 := by omega
    clear hx hl
    go_enter Try.func10, Try.ntmps10
    go_wp2_with fail
    go_ret
    exact ⟨rfl, Below.refl _ _⟩
  · have j1 : ¬ (p.length : Int) < 1 := by omega
    by_cases h2 : 3000 < p.length
    · have j2 : (3000 : Int) < (p.length : Int) := by omega
      clear hx hl h2
      go_enter Try.func10, Try.ntmps10
      go_wp2_with fail
      go_ret
      exact ⟨rfl, Below.refl _ _⟩
    · have j2 : ¬ (3000 : Int) < (p.length : Int) := by omega
      by_cases h3 : 60 < fate.length
      · have j3 : (60 : Int) < (fate.length : Int) := by omega
        clear hx hl h3
        go_enter Try.func10, Try.ntmps10
        go_wp2_with fail
        go_ret
        exact ⟨rfl, Below.refl _ _⟩
      · cases A with
        | none => have := (hx.2.1 rfl).1; omega
        | some ad => exact walkPieceAll1 ad A2 c c2 p fate w (by omega) (by omega) (by omega) hpc hcm hx hl hlc hcm2

end Go.Proofs.Ytliljfncbljfpaa
