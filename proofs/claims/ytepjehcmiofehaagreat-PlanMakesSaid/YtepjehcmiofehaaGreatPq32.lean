/- plan: move. -/
import Derived.Test.YtepjehcmiofehaaGreatPq31
namespace Go.Proofs.YtepjehcmiofehaaGreat
open Go.RowKit
set_option linter.unusedVariables false
set_option linter.unusedSimpArgs false
structure Most (hs : List Int) (ps : List Pz) (g1 g2 : Int) : Prop where
  m1 : g1 ∈ hs
  m2 : g2 ∈ hs
  a1 : ∀ g ∈ hs, keyR (-1) (rankOf ps g1) ≤ keyR (-1) (rankOf ps g)
  a2 : ∀ g ∈ hs, keyR 1 (rankOf ps g2) ≤ keyR 1 (rankOf ps g)
/-- the zone that goes, from whom, to whom -/
def Goes (hs : List Int) (ps : List Pz) (g1 g2 : Int) (r : Option Nat) : Prop := Most hs ps g1 g2 ∧ ∃ π, ByI ps π ∧ r = π.foldl (bestStep (rankOf ps g1) (rankOf ps g2) ps) none
def gone (p : Pz) (g : Int) : Pz := ⟨p.z, p.hits, p.mid, false, g⟩
inductive MoveR (hs : List Int) (ps : List Pz) (cs : List Ch) : List Pz → List Ch → Nat → Prop
  | nil : MoveR hs ps cs ps cs 0
  | snoc {qs : List Pz} {ds : List Ch} {n : Nat} {g1 g2 : Int} {k : Nat} (h : MoveR hs ps cs qs ds n) (hg : Goes hs qs g1 g2 (some k)) (hk : k < qs.length) : MoveR hs ps cs (qs.set k (gone qs[k] g2)) (ds ++ [⟨3, qs[k].z.id, 0, g2, ⟨#[]⟩⟩]) (n + 1)
theorem SameZ.hits {a b : List Pz} (h : SameZ a b) (hb : HitsOk b) : HitsOk a := fun p hp => by
  obtain ⟨i, hi, rfl⟩ := List.getElem_of_mem hp
  have hi2 : i < b.length := by rw [← h.1]; exact hi
  rw [(h.2 i hi hi2).2.1]
  exact hb _ (List.getElem_mem hi2)
theorem PlH.drew {w : World} {B b : Nat} {zv hv cv : Value} {ps : List Pz} {cs : List Ch} (h : PlH w B b zv hv cv ps cs) : PlH w.drew B b zv hv cv ps cs := h.keep (D := fun _ => False) (Touch.drewP (Touch.refl _ _)) (fun _ _ h => h)
set_option maxHeartbeats 8000000 in
set_option maxRecDepth 10000 in
theorem plMove (B b gz c : Nat) (Ah : Option Addr) (ch : Nat) (cv : Value) (ps : List Pz) (cs : List Ch) (hs : List Int) (w : World) (h : PlH w B b (.slice (some ⟨gz, 0, none⟩) ps.length c) (.slice Ah hs.length ch) cv ps cs) (hB : B ≤ w.heap.size) (hx : Cells w B Ah hs.length ch 1 (intsV hs)) (hh0 : 0 < hs.length) (hl6 : hs.length ≤ 100) (h0 : 0 < ps.length) (hl : ps.length ≤ 16) (hnd : (ps.map fun p => p.z.id).Nodup) (hhit : HitsOk ps) (hho : ∀ g ∈ hs, HostOk g) (hcl : cs.length ≤ 1000) :
    Calls Tryz.prog 17 #[.pointer (some ⟨b, 0, none⟩)] w fun e w' => e = .returned (.tuple #[]) ∧ ∃ cv' qs ds n, MoveR hs ps cs qs ds n ∧ (2 ≤ pdN 3 ps + n ∨ ∃ g1 g2, Goes hs qs g1 g2 none) ∧ SameZ qs ps ∧ PlH w' B b (.slice (some ⟨gz, 0, none⟩) ps.length c) (.slice Ah hs.length ch) cv' qs ds ∧ (ds.length ≤ cs.length + 2 ∧ (n = 0 ∨ pdN 3 ps + n ≤ 2)) ∧ Touch (Fp b (.slice (some ⟨gz, 0, none⟩) ps.length c) cv) w w' ∧ (∀ k, Fp b (.slice (some ⟨gz, 0, none⟩) ps.length c) cv' k → Fp b (.slice (some ⟨gz, 0, none⟩) ps.length c) cv k ∨ w.heap.size ≤ k) := by
  obtain ⟨i0, hi, hz0, hz1, hz2⟩ := info_parts Tryz.infoPchange
  have HP := Lib.hid h
  have HX := Lib.hid hx
  have hbl := h.blk.low
  have HND := Lib.hid hnd
  have HH := Lib.hid hhit
  have HO0 := Lib.hid hho
  have hpd := pdN_le 3 ps
  clear h hx hnd hhit hho
  go_enter Tryz.func17, Tryz.ntmps17
  go_wp2_with (first
    | (go_at_call 31; go_loud (refine (plPending B b _ (.slice Ah hs.length ch) cv ps cs 3 _ HP.out (by omega)).mono ?_; rintro e w1 ⟨rfl, hb1⟩; have HB1 := Lib.hid hb1; have hs1 := hb1.size; clear hb1))
    | fail)
  obtain ⟨m0, hm0⟩ : ∃ m, m = pdN 3 ps := ⟨_, rfl⟩
  rw [← hm0] at hpd
  rw [← hm0]
  have HM0 := Lib.hid hm0
  clear hm0
  go_loopw [2] (fun nv wr => ∃ (n0 : Nat) (cv1 : Value) (qs : List Pz) (cs1 : List Ch), nv = .int .i64 ((m0 + n0 : Nat) : Int) ∧ PlH wr B b (.slice (some ⟨gz, 0, none⟩) ps.length c) (.slice Ah hs.length ch) cv1 qs cs1 ∧ MoveR hs ps cs qs cs1 n0 ∧ SameZ qs ps ∧ Touch (Fp b (.slice (some ⟨gz, 0, none⟩) ps.length c) cv) w wr ∧ (∀ k, Fp b (.slice (some ⟨gz, 0, none⟩) ps.length c) cv1 k → Fp b (.slice (some ⟨gz, 0, none⟩) ps.length c) cv k ∨ w.heap.size ≤ k) ∧ (cs1.length ≤ cs.length + min n0 2 ∧ (n0 = 0 ∨ m0 + n0 ≤ 2))) (fun nv _ => 2 - (intOf nv).toNat)
  case atStart => exact ⟨0, cv, ps, cs, rfl, HP.out.below HB1.out, MoveR.nil, SameZ.refl _, Touch.of_below' HB1.out, fun k hk => .inl hk, by omega⟩
  case round =>
    obtain ⟨n0, cv1, qs, cs1, rfl, hP3, hMv, hSZ, hT3, hF3, hcl1⟩ := hrel
    have HP3 := Lib.hid hP3
    have HMV := Lib.hid hMv
    have HSZ := Lib.hid hSZ
    have HT3 := Lib.hid hT3
    have HF3 := Lib.hid hF3
    have hsr := hT3.size
    have hql := hSZ.1
    have HXr := Lib.hid (cells_keep HX.out (hT3.below hB (fun k hk => (HP.out.lows k hk).1)) (show B ≤ wr.heap.size by omega))
    clear hP3 hMv hSZ hT3 hF3
    by_cases hlt : m0 + n0 < 2
    case neg =>
      go_wp2_with fail
      exact bodyPost_end (v := .tuple #[]) (by simp [results, Tryz.results17, go_sem]) rfl ⟨rfl, cv1, qs, cs1, n0, HMV.out, .inl (by have := HM0.out; omega), HSZ.out, HP3.out, (by have := HM0.out; omega), HT3.out, HF3.out⟩
    have q3 : ((m0 + n0 : Nat) : Int) < 2 := by omega
    have hqn : (qs.map fun p => p.z.id).Nodup := by rw [HSZ.out.ids]; exact HND.out
    have HQN := Lib.hid hqn
    have HQH := Lib.hid (HSZ.out.hits HH.out)
    have hP3' : PlH wr B b (.slice (some ⟨gz, 0, none⟩) qs.length c) (.slice Ah hs.length ch) cv1 qs cs1 := by rw [hql]; exact HP3.out
    have HP3' := Lib.hid hP3'
    clear hqn hP3'
    have arm := True.intro
    go_upto_region 4 with (first
      | (go_at_call 34; go_loud (refine (plExtremes B b gz c Ah hs.length ch cv1 qs cs1 hs _ HP3'.out HXr.out hh0 hl6 (by omega) HQH.out HO0.out).mono ?_; rintro e w2 ⟨g1, g2, hm1, hm2, ha1, ha2, rfl, hb2⟩; have HMO := Lib.hid (show Most hs qs g1 g2 from ⟨hm1, hm2, ha1, ha2⟩); have HB2 := Lib.hid hb2; have hs2 := hb2.size; clear hm1 hm2 ha1 ha2 hb2))
      | fail)
    obtain ⟨L1, hL1⟩ : ∃ l, l = loadP qs g1 := ⟨_, rfl⟩
    obtain ⟨L2, hL2⟩ : ∃ l, l = loadP qs g2 := ⟨_, rfl⟩
    rw [← hL1, ← hL2]
    obtain ⟨N3, hN3⟩ : ∃ n, n = w2.heap.size := ⟨_, rfl⟩
    obtain ⟨N4, hN4⟩ : ∃ n, n = w2.heap.size + 1 := ⟨_, rfl⟩
    have hV : Below w2.heap.size w2 ((w2.alloc (.cells #[.int .i64 g1, .int .i64 L1] 84)).alloc (.cells #[.int .i64 g2, .int .i64 L2] 84)) := ((Below.refl _ _).alloc (Nat.le_refl _) _).alloc (by simp) _
    have hW3 : Whl ((w2.alloc (.cells #[.int .i64 g1, .int .i64 L1] 84)).alloc (.cells #[.int .i64 g2, .int .i64 L2] 84)) N3 84 #[.int .i64 g1, .int .i64 L1] := (Whl.new hN3).alloc _
    have hW4 : Whl ((w2.alloc (.cells #[.int .i64 g1, .int .i64 L1] 84)).alloc (.cells #[.int .i64 g2, .int .i64 L2] 84)) N4 84 #[.int .i64 g2, .int .i64 L2] := Whl.new (by rw [hN4]; simp)
    rw [← hN4, ← hN3]
    generalize ((w2.alloc (.cells #[.int .i64 g1, .int .i64 L1] 84)).alloc (.cells #[.int .i64 g2, .int .i64 L2] 84)) = V at *
    have HV := Lib.hid (HB2.out.trans (hV.mono hs2))
    have hsV := hV.size
    have HPV := Lib.hid (HP3'.out.below HV.out)
    have x0 := hW3.cell 0
    have x1 := hW3.cell 1
    have y0 := hW4.cell 0
    have y1 := hW4.cell 1
    simp only [List.getElem?_toArray, List.getElem?_cons_succ, List.getElem?_cons_zero] at x0 x1 y0 y1
    have HW4 := Lib.hid hW4
    have hN4w : w2.heap.size ≤ N4 := by omega
    have hN4l := hW4.low
    have hlb := loadP_bound qs g2 HQH.out
    have hL2b : 0 ≤ L2 ∧ L2 ≤ 35184372088832 := by rw [hL2]; omega
    have HL1 := Lib.hid hL1
    have HL2 := Lib.hid hL2
    clear hL1 hL2 hN3 hN4 hV hW3 hW4 hlb
    go_upto_region 5 with (first
      | (go_at_call 35; go_loud (refine (plBest B b gz c (.slice Ah hs.length ch) cv1 qs cs1 ⟨g1, L1⟩ ⟨g2, L2⟩ _ HPV.out (by omega) (by omega) HQN.out HQH.out hL2b).mono ?_; rintro e w5 ⟨π, acc, rfl, hπ, hacc, hb5⟩; have HPI := Lib.hid hπ; have HACC := Lib.hid hacc; have HB5 := Lib.hid (HV.out.trans (hb5.mono HV.out.size)); have HW45 := Lib.hid (HW4.out.below hb5 HW4.out.low); have hs5 := hb5.size; clear hπ hacc hb5))
      | fail)
    have hgo : Goes hs qs g1 g2 acc := ⟨HMO.out, π, HPI.out, by rw [HACC.out, HL1.out, HL2.out]; rfl⟩
    have HGO := Lib.hid hgo
    clear x0 x1 y0 y1 hgo
    cases acc with
    | none =>
      unfold bestV
      go_wp2_with fail
      refine bodyPost_ret (v := .tuple #[]) (by simp [results, Tryz.results17, go_sem]) rfl ⟨rfl, cv1, qs, cs1, n0, HMV.out, .inr ⟨g1, g2, HGO.out⟩, HSZ.out, HP3.out.below HB5.out, (by have := HM0.out; omega), HT3.out.trans (Touch.of_below' HB5.out) (fun x _ hd => hd), HF3.out⟩
    | some k =>
      obtain ⟨p0, hp0, hbo⟩ := best_ok _ none (fun k e => by cases e) k (HACC.out.symm)
      obtain ⟨hk, hpk⟩ := List.getElem?_eq_some_iff.1 hp0
      obtain ⟨p, hp⟩ : ∃ p, p = qs[k] := ⟨_, rfl⟩
      have HPP := Lib.hid hp
      have hP5 := HP3.out.below HB5.out
      obtain ⟨a0, a1, a2, a3, a4, a5, a6, a7, a8, a9, a10, a11, a12⟩ := rowP_at2 hP5.row hk
      rw [← hp] at a0 a1 a2 a3 a4 a5 a6 a7 a8 a9 a10 a11 a12
      have ff := fun j => rowP_free hP5.row j
      have hgz := (hP5.row.lt gz rfl).2
      have e4 := HW45.out.cell 0
      simp only [List.getElem?_toArray, List.getElem?_cons_succ, List.getElem?_cons_zero] at e4
      have hne : gz ≠ N4 := by have := (HP3.out.row.lt gz rfl).2; omega
      have hMR := MoveR.snoc HMV.out HGO.out hk
      rw [← hp] at hMR
      have HP5 := Lib.hid hP5
      clear hp hpk hp0 hbo hP5 a0 a1 a2 a3 a4 a5 a6 a7 a8 a9 a10
      unfold bestV zptr
      go_upto_region 6 with fail
      go_region
      go_upto_region 7 with fail
      obtain ⟨V8, hV8⟩ : ∃ V, V = ((w5.setCell ⟨gz, k * 13 + 11, none⟩ (.bool false)).setCell ⟨gz, k * 13 + 12, none⟩ (.int .i64 g2)).drew := ⟨_, rfl⟩
      rw [← hV8]
      have hP8 : PlH V8 B b (.slice (some ⟨gz, 0, none⟩) ps.length c) (.slice Ah hs.length ch) cv1 (qs.set k (gone p g2)) cs1 := by
        rw [hV8]
        have h1 := HP5.out.setcell hk (k := 11) (by decide) (z := ⟨p.z, p.hits, p.mid, false, p.nd⟩) (v := .bool false) (by rw [← HPP.out]; rfl)
        have h2 := h1.setcell (j := k) (by simpa using hk) (k := 12) (by decide) (z := gone p g2) (v := .int .i64 g2) (by rw [List.getElem_set_self]; rfl)
        rw [List.set_set] at h2
        exact h2.drew
      have hT8 : Touch (Fp b (.slice (some ⟨gz, 0, none⟩) ps.length c) cv1) wr V8 := by
        rw [hV8]
        exact Touch.drewP (((Touch.of_below' HB5.out).set (fun _ => .inr (.inl rfl))).set (fun _ => .inr (.inl rfl)))
      have e4 : V8.cell? ⟨N4, 0, none⟩ = some (.int .i64 g2) := by
        rw [hV8]
        have hw : Whl ((w5.setCell ⟨gz, k * 13 + 11, none⟩ (.bool false)).setCell ⟨gz, k * 13 + 12, none⟩ (.int .i64 g2)).drew N4 84 #[.int .i64 g2, .int .i64 L2] := ((HW45.out.far (fun e => hne e.symm)).far (fun e => hne e.symm)).drew
        exact hw.cell 0
      have hk3 : k < (qs.set k (gone p g2)).length := by simpa using hk
      obtain ⟨d0, d1, d2, d3, d4, d5, d6, d7, d8, d9, d10, d11, d12⟩ := rowP_at2 hP8.row hk3
      rw [List.getElem_set_self] at d0
      change V8.cell? ⟨gz, k * 13, none⟩ = some (.int .i64 p.z.id) at d0
      have hsz8 : SameZ (qs.set k (gone p g2)) ps := (SameZ.set hk ⟨by rw [← HPP.out]; rfl, by rw [← HPP.out]; rfl, by rw [← HPP.out]; rfl⟩).trans HSZ.out
      have HSZ8 := Lib.hid hsz8
      have k0 := hP8.blk.cell 2
      simp only [List.getElem?_toArray, List.getElem?_cons_succ, List.getElem?_cons_zero] at k0
      obtain ⟨n, hn⟩ : ∃ n, n = cs1.length := ⟨_, rfl⟩
      have HO := Lib.hid hP8.crow
      rw [← hn] at HO
      have HW := Lib.hid hP8.blk
      have hfarv := hP8.ca
      have hbl8 := hP8.blk.low
      have hbase : B ≤ V8.heap.size := by have := hP8.low; have := hP8.blk.low; omega
      have hn10 : n ≤ 10000 := by omega
      have HP8 := Lib.hid hP8
      have HT8 := Lib.hid hT8
      clear hV8 hP8 hT8 hsz8 a11 a12 ff d1 d2 d3 d4 d5 d6 d7 d8 d9 d10 d11 d12
      refine wp_region_held_drew (S := (fun _ => True)) (by kernel_rfl) trivial (fun hHeld => ?_)
      refine wpAnyH_take (i := 0) (oi := ⟨some 31, _, _, _, _, _⟩) (v := ?v0B_1) rfl (by kernel_rfl) (by kernel_rfl) (by kernel_rfl) (fun _ _ _ h => h) (Or.inl ⟨by rfl, ?y0B_1⟩) (by assumption) ?r0B_1
      case y0B_1 => (intro w hSw; (try dsimp only at hSw); (try go_split_ands); go_simp); (try with_reducible rfl)
      case r0B_1 =>
      (try simp only [Act.put, List.setIfInBounds_toArray, List.set_cons_zero, List.set_cons_succ])
      refine wpAnyH_take (i := 1) (oi := ⟨some 32, _, _, _, _, _⟩) (v := ?v1B_4) rfl (by kernel_rfl) (by kernel_rfl) (by kernel_rfl) (fun _ _ _ h => h) (Or.inl ⟨by rfl, ?y1B_4⟩) (by assumption) ?r1B_4
      case y1B_4 => (intro w hSw; (try dsimp only at hSw); (try go_split_ands); go_simp); (try with_reducible rfl)
      case r1B_4 =>
      (try simp only [Act.put, List.setIfInBounds_toArray, List.set_cons_zero, List.set_cons_succ])
      refine wpAnyH_take (i := 2) (oi := ⟨some 33, _, _, _, _, _⟩) (v := ?v2B_7) rfl (by kernel_rfl) (by kernel_rfl) (by kernel_rfl) (fun _ _ _ h => h) (Or.inl ⟨by rfl, ?y2B_7⟩) (by assumption) ?r2B_7
      case y2B_7 => (intro w hSw; (try dsimp only at hSw); (try go_split_ands); go_simp); (try with_reducible rfl)
      case r2B_7 =>
      (try simp only [Act.put, List.setIfInBounds_toArray, List.set_cons_zero, List.set_cons_succ])
      refine wpAnyH_take (i := 3) (oi := ⟨some 34, _, _, _, _, _⟩) (v := ?v3B_10) rfl (by kernel_rfl) (by kernel_rfl) (by kernel_rfl) (fun _ _ _ h => h) (Or.inl ⟨by rfl, ?y3B_10⟩) (by assumption) ?r3B_10
      case y3B_10 => (intro w hSw; (try dsimp only at hSw); (try go_split_ands); go_simp); (try with_reducible rfl)
      case r3B_10 =>
      (try simp only [Act.put, List.setIfInBounds_toArray, List.set_cons_zero, List.set_cons_succ])
      refine wpAnyH_take (i := 5) (oi := ⟨some 36, _, _, _, _, _⟩) (v := ?v5B_13) rfl (by kernel_rfl) (by kernel_rfl) (by kernel_rfl) (fun _ _ _ h => h) (Or.inl ⟨by rfl, ?y5B_13⟩) (by assumption) ?r5B_13
      case y5B_13 => (intro w hSw; (try dsimp only at hSw); (try go_split_ands); go_simp); (try with_reducible rfl)
      case r5B_13 =>
      (try simp only [Act.put, List.setIfInBounds_toArray, List.set_cons_zero, List.set_cons_succ])
      refine wpAnyH_take (i := 6) (oi := ⟨some 37, _, _, _, _, _⟩) (v := ?v6B_16) rfl (by kernel_rfl) (by kernel_rfl) (by kernel_rfl) (fun _ _ _ h => h) (Or.inl ⟨by rfl, ?y6B_16⟩) (by assumption) ?r6B_16
      case y6B_16 => (intro w hSw; (try dsimp only at hSw); (try go_split_ands); go_simp); (try with_reducible rfl)
      case r6B_16 =>
      (try simp only [Act.put, List.setIfInBounds_toArray, List.set_cons_zero, List.set_cons_succ])
      refine wpAnyH_take (i := 7) (oi := ⟨some 38, _, _, _, _, _⟩) (v := ?v7B_19) rfl (by kernel_rfl) (by kernel_rfl) (by kernel_rfl) (fun _ _ _ h => h) (Or.inl ⟨by rfl, ?y7B_19⟩) (by assumption) ?r7B_19
      case y7B_19 => (intro w hSw; (try dsimp only at hSw); (try go_split_ands); go_simp); (try with_reducible rfl)
      case r7B_19 =>
      (try simp only [Act.put, List.setIfInBounds_toArray, List.set_cons_zero, List.set_cons_succ])
      refine wpAnyH_take (i := 8) (oi := ⟨some 39, _, _, _, _, _⟩) (v := ?v8B_22) rfl (by kernel_rfl) (by kernel_rfl) (by kernel_rfl) (fun _ _ _ h => h) (Or.inl ⟨by rfl, ?y8B_22⟩) (by assumption) ?r8B_22
      case y8B_22 => (intro w hSw; (try dsimp only at hSw); (try go_split_ands); go_simp); (try with_reducible rfl)
      case r8B_22 =>
      (try simp only [Act.put, List.setIfInBounds_toArray, List.set_cons_zero, List.set_cons_succ])
      refine wpAnyH_take (i := 10) (oi := ⟨some 41, _, _, _, _, _⟩) (v := ?v10B_25) rfl (by kernel_rfl) (by kernel_rfl) (by kernel_rfl) (fun _ _ _ h => h) (Or.inl ⟨by rfl, ?y10B_25⟩) (by assumption) ?r10B_25
      case y10B_25 => (intro w hSw; (try dsimp only at hSw); (try go_split_ands); go_simp); (try with_reducible rfl)
      case r10B_25 =>
      (try simp only [Act.put, List.setIfInBounds_toArray, List.set_cons_zero, List.set_cons_succ])
      refine wpAnyH_ready (rs := [4, 9, 11]) (by kernel_rfl) (by simp) ?_
      refine AllReadyH.cons (o := ⟨some 35, _, _, _, _, _⟩) rfl (fun K hK => ?_) (AllReadyH.cons (o := ⟨some 40, _, _, _, _, _⟩) rfl (fun K hK => ?_) (AllReadyH.cons (o := ⟨some 42, _, _, _, _, _⟩) rfl (fun K hK => ?_) AllReadyH.nil))
      · have k9 : V8.drew.cell? ⟨b, 2, none⟩ = some cv1 := k0
        go_simp
        refine hK.out _ _ trivial (fun hHeld => ?_)
        clear hK K
        (try simp only [Act.put, List.setIfInBounds_toArray, List.set_cons_zero, List.set_cons_succ])
        refine wpAnyH_ready (rs := [9, 11]) (by kernel_rfl) (by simp) ?_
        refine AllReadyH.cons (o := ⟨some 40, _, _, _, _, _⟩) rfl (fun K hK => ?_) (AllReadyH.cons (o := ⟨some 42, _, _, _, _, _⟩) rfl (fun K hK => ?_) AllReadyH.nil)
        · have e0 : V8.drew.cell? ⟨gz, k * 13, none⟩ = _ := d0
          go_simp
          refine hK.out _ _ trivial (fun hHeld => ?_)
          clear hK K
          (try simp only [Act.put, List.setIfInBounds_toArray, List.set_cons_zero, List.set_cons_succ])
          refine wpAnyH_ready (rs := [11]) (by kernel_rfl) (by simp) ?_
          refine AllReadyH.cons (o := ⟨some 42, _, _, _, _, _⟩) rfl (fun K hK => ?_) AllReadyH.nil
          have e0 : V8.drew.cell? ⟨N4, 0, none⟩ = _ := e4
          go_simp
          refine hK.out _ _ trivial (fun hHeld => ?_)
          clear hK K
          (try simp only [Act.put, List.setIfInBounds_toArray, List.set_cons_zero, List.set_cons_succ])
          refine wpAnyH_take (i := 12) (oi := ⟨some 43, _, _, _, _, _⟩) (v := ?v12B_49) rfl (by kernel_rfl) (by kernel_rfl) (by kernel_rfl) (fun _ _ _ h => h) (Or.inl ⟨by rfl, ?y12B_49⟩) (by assumption) ?r12B_49
          case y12B_49 => (intro w hSw; (try dsimp only at hSw); (try go_split_ands); go_simp); (try with_reducible rfl)
          case r12B_49 =>
          (try simp only [Act.put, List.setIfInBounds_toArray, List.set_cons_zero, List.set_cons_succ])
          refine wpAnyH_ready (rs := [13]) (by kernel_rfl) (by simp) ?_
          refine AllReadyH.cons (o := ⟨some 44, _, _, _, _, _⟩) rfl (fun K hK => ?_) AllReadyH.nil
          go_simp
          have hb3 : Below V8.heap.size V8 (V8.drew.alloc (.cells #[.int .i64 3, .int .i64 p.z.id, .int .i64 0, .int .i64 g2, .string ⟨#[]⟩] 58)) := (Below.refl _ _).drew.alloc (Nat.le_refl _) _
          have hbase6 : B ≤ (V8.drew.alloc (.cells #[.int .i64 3, .int .i64 p.z.id, .int .i64 0, .int .i64 g2, .string ⟨#[]⟩] 58)).heap.size := by simp; omega
          have ho3 : (V8.drew.alloc (.cells #[.int .i64 3, .int .i64 p.z.id, .int .i64 0, .int .i64 g2, .string ⟨#[]⟩] 58)).ownsRow B 58 5 cv1 n (cs1.flatMap chV) := (Touch.of_below hb3).own HO.out (fun g hg hd => by have := (HO.out.lt g hg).2; omega)
          refine hK.out _ _ trivial (fun hHeld => ?_)
          clear hK K
          (try simp only [Act.put, List.setIfInBounds_toArray, List.set_cons_zero, List.set_cons_succ])
          refine wpAnyH_ready (rs := [14]) (by kernel_rfl) (by simp) ?_
          refine AllReadyH.cons (o := ⟨some 45, _, _, _, _, _⟩) rfl (fun K hK => ?_) AllReadyH.nil
          refine step_append_cells rfl (.tmp 35) (.tmp 44) 31 rfl B 58 i0 (.agg #[.int .i64 0, .int .i64 0, .int .i64 0, .int .i64 0, .string ⟨#[]⟩]) 5 48 Tryz.underlying31 hi hz0 hz1 hz2 rfl (by decide) (cv1) n (cs1.flatMap chV) rfl ho3 _ _ 1 1 [.int .i64 3, .int .i64 p.z.id, .int .i64 0, .int .i64 g2, .string ⟨#[]⟩] rfl (cells_new (w := V8.drew) (e := 58) rfl rfl) (chV_one ⟨3, p.z.id, 0, g2, ⟨#[]⟩⟩) (by unfold maxLen; omega) (by omega) hbase6 ?_
          intro v5 w5 hown5 ht5 hb5
          have hT5 : Touch (fun x => (cv1).ownBlock = some x) V8 w5 := ((Touch.refl _ _).trans (Touch.of_below hb3) (fun x hx hd => absurd hd (by omega))).trans ht5 (fun x _ hx => hx)
          have hs5 := hT5.size
          have hW5 : Whl w5 (b) 52 #[.slice (some ⟨gz, 0, none⟩) ps.length c, .slice Ah hs.length ch, cv1] := (hT5.block (b) HW.out.low (fun e => hfarv e)).trans HW.out
          have hb5' : v5.ownBlock = (cv1).ownBlock ∨ v5.ownBlock = some (V8.heap.size + 1) := by simpa using hb5
          clear hb5
          obtain ⟨g5, c5, rfl, _, _, _, _⟩ := own_form hown5 (Nat.succ_pos _)
          have HO5 := Lib.hid hown5
          have HT5 := Lib.hid hT5
          have HW5 := Lib.hid hW5
          
          clear hown5 ht5 hT5 hW5
          refine hK.out _ _ trivial (fun hHeld => ?_)
          clear hK K
          (try simp only [Act.put, List.setIfInBounds_toArray, List.set_cons_zero, List.set_cons_succ])
          refine wpAnyH_take (i := 15) (oi := ⟨some 46, _, _, _, _, _⟩) (v := ?v15B_79) rfl (by kernel_rfl) (by kernel_rfl) (by kernel_rfl) (fun _ _ _ h => h) (Or.inl ⟨by rfl, ?y15B_79⟩) (by assumption) ?r15B_79
          case y15B_79 => (intro w hSw; (try dsimp only at hSw); (try go_split_ands); go_simp); (try with_reducible rfl)
          case r15B_79 =>
          (try simp only [Act.put, List.setIfInBounds_toArray, List.set_cons_zero, List.set_cons_succ])
          refine wpAnyH_take (i := 16) (oi := ⟨some 47, _, _, _, _, _⟩) (v := ?v16B_82) rfl (by kernel_rfl) (by kernel_rfl) (by kernel_rfl) (fun _ _ _ h => h) (Or.inl ⟨by rfl, ?y16B_82⟩) (by assumption) ?r16B_82
          case y16B_82 => (intro w hSw; (try dsimp only at hSw); (try go_split_ands); go_simp); (try with_reducible rfl)
          case r16B_82 =>
          (try simp only [Act.put, List.setIfInBounds_toArray, List.set_cons_zero, List.set_cons_succ])
          refine wpAnyH_ready (rs := [17]) (by kernel_rfl) (by simp) ?_
          refine AllReadyH.cons (o := ⟨none, _, _, _, _, _⟩) rfl (fun K hK => ?_) AllReadyH.nil
          have k7 : w5.cell? ⟨b, 2, none⟩ = some (cv1) := (HW5.out.cell 2).trans rfl
          have f7 := HW5.out.free 2
          go_simp
          refine hK.out _ _ trivial (fun hHeld => ?_)
          clear hK K
          (try simp only [Act.put, List.setIfInBounds_toArray, List.set_cons_zero, List.set_cons_succ])
          refine wpAnyH_done (by kernel_rfl) ?_ _
          go_wp2_with fail
          subst hn
          obtain ⟨hF, hTF, hFF⟩ := HP8.out.pushedC (c := ⟨3, p.z.id, 0, g2, ⟨#[]⟩⟩) HO5.out rfl HT5.out (hb5'.imp_right fun e => ⟨_, e, Nat.le_succ _⟩)
          have hTT := HT8.out.trans hTF (fun x _ hx => hx)
          have hs8 := HT8.out.size
          refine ⟨⟨n0 + 1, _, _, _, by go_num, hF, hMR, HSZ8.out, HT3.out.trans hTT (fun x hx hd => (HF3.out x hd).elim (fun h => h) (fun h => by omega)), fun x hx => (hFF x hx).elim (fun h => HF3.out x h) (fun h => .inr (by omega)), by rw [List.length_append, List.length_singleton]; omega⟩, by simp [intOf]; omega⟩
        · have e0 : V8.drew.cell? ⟨N4, 0, none⟩ = _ := e4
          go_simp
          refine hK.out _ _ trivial (fun hHeld => ?_)
          clear hK K
          (try simp only [Act.put, List.setIfInBounds_toArray, List.set_cons_zero, List.set_cons_succ])
          refine wpAnyH_ready (rs := [9]) (by kernel_rfl) (by simp) ?_
          refine AllReadyH.cons (o := ⟨some 40, _, _, _, _, _⟩) rfl (fun K hK => ?_) AllReadyH.nil
          have e0 : V8.drew.cell? ⟨gz, k * 13, none⟩ = _ := d0
          go_simp
          refine hK.out _ _ trivial (fun hHeld => ?_)
          clear hK K
          (try simp only [Act.put, List.setIfInBounds_toArray, List.set_cons_zero, List.set_cons_succ])
          refine wpAnyH_take (i := 12) (oi := ⟨some 43, _, _, _, _, _⟩) (v := ?v12B_112) rfl (by kernel_rfl) (by kernel_rfl) (by kernel_rfl) (fun _ _ _ h => h) (Or.inl ⟨by rfl, ?y12B_112⟩) (by assumption) ?r12B_112
          case y12B_112 => (intro w hSw; (try dsimp only at hSw); (try go_split_ands); go_simp); (try with_reducible rfl)
          case r12B_112 =>
          (try simp only [Act.put, List.setIfInBounds_toArray, List.set_cons_zero, List.set_cons_succ])
          refine wpAnyH_ready (rs := [13]) (by kernel_rfl) (by simp) ?_
          refine AllReadyH.cons (o := ⟨some 44, _, _, _, _, _⟩) rfl (fun K hK => ?_) AllReadyH.nil
          go_simp
          have hb3 : Below V8.heap.size V8 (V8.drew.alloc (.cells #[.int .i64 3, .int .i64 p.z.id, .int .i64 0, .int .i64 g2, .string ⟨#[]⟩] 58)) := (Below.refl _ _).drew.alloc (Nat.le_refl _) _
          have hbase6 : B ≤ (V8.drew.alloc (.cells #[.int .i64 3, .int .i64 p.z.id, .int .i64 0, .int .i64 g2, .string ⟨#[]⟩] 58)).heap.size := by simp; omega
          have ho3 : (V8.drew.alloc (.cells #[.int .i64 3, .int .i64 p.z.id, .int .i64 0, .int .i64 g2, .string ⟨#[]⟩] 58)).ownsRow B 58 5 cv1 n (cs1.flatMap chV) := (Touch.of_below hb3).own HO.out (fun g hg hd => by have := (HO.out.lt g hg).2; omega)
          refine hK.out _ _ trivial (fun hHeld => ?_)
          clear hK K
          (try simp only [Act.put, List.setIfInBounds_toArray, List.set_cons_zero, List.set_cons_succ])
          refine wpAnyH_ready (rs := [14]) (by kernel_rfl) (by simp) ?_
          refine AllReadyH.cons (o := ⟨some 45, _, _, _, _, _⟩) rfl (fun K hK => ?_) AllReadyH.nil
          refine step_append_cells rfl (.tmp 35) (.tmp 44) 31 rfl B 58 i0 (.agg #[.int .i64 0, .int .i64 0, .int .i64 0, .int .i64 0, .string ⟨#[]⟩]) 5 48 Tryz.underlying31 hi hz0 hz1 hz2 rfl (by decide) (cv1) n (cs1.flatMap chV) rfl ho3 _ _ 1 1 [.int .i64 3, .int .i64 p.z.id, .int .i64 0, .int .i64 g2, .string ⟨#[]⟩] rfl (cells_new (w := V8.drew) (e := 58) rfl rfl) (chV_one ⟨3, p.z.id, 0, g2, ⟨#[]⟩⟩) (by unfold maxLen; omega) (by omega) hbase6 ?_
          intro v5 w5 hown5 ht5 hb5
          have hT5 : Touch (fun x => (cv1).ownBlock = some x) V8 w5 := ((Touch.refl _ _).trans (Touch.of_below hb3) (fun x hx hd => absurd hd (by omega))).trans ht5 (fun x _ hx => hx)
          have hs5 := hT5.size
          have hW5 : Whl w5 (b) 52 #[.slice (some ⟨gz, 0, none⟩) ps.length c, .slice Ah hs.length ch, cv1] := (hT5.block (b) HW.out.low (fun e => hfarv e)).trans HW.out
          have hb5' : v5.ownBlock = (cv1).ownBlock ∨ v5.ownBlock = some (V8.heap.size + 1) := by simpa using hb5
          clear hb5
          obtain ⟨g5, c5, rfl, _, _, _, _⟩ := own_form hown5 (Nat.succ_pos _)
          have HO5 := Lib.hid hown5
          have HT5 := Lib.hid hT5
          have HW5 := Lib.hid hW5
          
          clear hown5 ht5 hT5 hW5
          refine hK.out _ _ trivial (fun hHeld => ?_)
          clear hK K
          (try simp only [Act.put, List.setIfInBounds_toArray, List.set_cons_zero, List.set_cons_succ])
          refine wpAnyH_take (i := 15) (oi := ⟨some 46, _, _, _, _, _⟩) (v := ?v15B_142) rfl (by kernel_rfl) (by kernel_rfl) (by kernel_rfl) (fun _ _ _ h => h) (Or.inl ⟨by rfl, ?y15B_142⟩) (by assumption) ?r15B_142
          case y15B_142 => (intro w hSw; (try dsimp only at hSw); (try go_split_ands); go_simp); (try with_reducible rfl)
          case r15B_142 =>
          (try simp only [Act.put, List.setIfInBounds_toArray, List.set_cons_zero, List.set_cons_succ])
          refine wpAnyH_take (i := 16) (oi := ⟨some 47, _, _, _, _, _⟩) (v := ?v16B_145) rfl (by kernel_rfl) (by kernel_rfl) (by kernel_rfl) (fun _ _ _ h => h) (Or.inl ⟨by rfl, ?y16B_145⟩) (by assumption) ?r16B_145
          case y16B_145 => (intro w hSw; (try dsimp only at hSw); (try go_split_ands); go_simp); (try with_reducible rfl)
          case r16B_145 =>
          (try simp only [Act.put, List.setIfInBounds_toArray, List.set_cons_zero, List.set_cons_succ])
          refine wpAnyH_ready (rs := [17]) (by kernel_rfl) (by simp) ?_
          refine AllReadyH.cons (o := ⟨none, _, _, _, _, _⟩) rfl (fun K hK => ?_) AllReadyH.nil
          have k7 : w5.cell? ⟨b, 2, none⟩ = some (cv1) := (HW5.out.cell 2).trans rfl
          have f7 := HW5.out.free 2
          go_simp
          refine hK.out _ _ trivial (fun hHeld => ?_)
          clear hK K
          (try simp only [Act.put, List.setIfInBounds_toArray, List.set_cons_zero, List.set_cons_succ])
          refine wpAnyH_done (by kernel_rfl) ?_ _
          go_wp2_with fail
          subst hn
          obtain ⟨hF, hTF, hFF⟩ := HP8.out.pushedC (c := ⟨3, p.z.id, 0, g2, ⟨#[]⟩⟩) HO5.out rfl HT5.out (hb5'.imp_right fun e => ⟨_, e, Nat.le_succ _⟩)
          have hTT := HT8.out.trans hTF (fun x _ hx => hx)
          have hs8 := HT8.out.size
          refine ⟨⟨n0 + 1, _, _, _, by go_num, hF, hMR, HSZ8.out, HT3.out.trans hTT (fun x hx hd => (HF3.out x hd).elim (fun h => h) (fun h => by omega)), fun x hx => (hFF x hx).elim (fun h => HF3.out x h) (fun h => .inr (by omega)), by rw [List.length_append, List.length_singleton]; omega⟩, by simp [intOf]; omega⟩
      · have e0 : V8.drew.cell? ⟨gz, k * 13, none⟩ = _ := d0
        go_simp
        refine hK.out _ _ trivial (fun hHeld => ?_)
        clear hK K
        (try simp only [Act.put, List.setIfInBounds_toArray, List.set_cons_zero, List.set_cons_succ])
        refine wpAnyH_ready (rs := [4, 11]) (by kernel_rfl) (by simp) ?_
        refine AllReadyH.cons (o := ⟨some 35, _, _, _, _, _⟩) rfl (fun K hK => ?_) (AllReadyH.cons (o := ⟨some 42, _, _, _, _, _⟩) rfl (fun K hK => ?_) AllReadyH.nil)
        · have k9 : V8.drew.cell? ⟨b, 2, none⟩ = some cv1 := k0
          go_simp
          refine hK.out _ _ trivial (fun hHeld => ?_)
          clear hK K
          (try simp only [Act.put, List.setIfInBounds_toArray, List.set_cons_zero, List.set_cons_succ])
          refine wpAnyH_ready (rs := [11]) (by kernel_rfl) (by simp) ?_
          refine AllReadyH.cons (o := ⟨some 42, _, _, _, _, _⟩) rfl (fun K hK => ?_) AllReadyH.nil
          have e0 : V8.drew.cell? ⟨N4, 0, none⟩ = _ := e4
          go_simp
          refine hK.out _ _ trivial (fun hHeld => ?_)
          clear hK K
          (try simp only [Act.put, List.setIfInBounds_toArray, List.set_cons_zero, List.set_cons_succ])
          refine wpAnyH_take (i := 12) (oi := ⟨some 43, _, _, _, _, _⟩) (v := ?v12B_182) rfl (by kernel_rfl) (by kernel_rfl) (by kernel_rfl) (fun _ _ _ h => h) (Or.inl ⟨by rfl, ?y12B_182⟩) (by assumption) ?r12B_182
          case y12B_182 => (intro w hSw; (try dsimp only at hSw); (try go_split_ands); go_simp); (try with_reducible rfl)
          case r12B_182 =>
          (try simp only [Act.put, List.setIfInBounds_toArray, List.set_cons_zero, List.set_cons_succ])
          refine wpAnyH_ready (rs := [13]) (by kernel_rfl) (by simp) ?_
          refine AllReadyH.cons (o := ⟨some 44, _, _, _, _, _⟩) rfl (fun K hK => ?_) AllReadyH.nil
          go_simp
          have hb3 : Below V8.heap.size V8 (V8.drew.alloc (.cells #[.int .i64 3, .int .i64 p.z.id, .int .i64 0, .int .i64 g2, .string ⟨#[]⟩] 58)) := (Below.refl _ _).drew.alloc (Nat.le_refl _) _
          have hbase6 : B ≤ (V8.drew.alloc (.cells #[.int .i64 3, .int .i64 p.z.id, .int .i64 0, .int .i64 g2, .string ⟨#[]⟩] 58)).heap.size := by simp; omega
          have ho3 : (V8.drew.alloc (.cells #[.int .i64 3, .int .i64 p.z.id, .int .i64 0, .int .i64 g2, .string ⟨#[]⟩] 58)).ownsRow B 58 5 cv1 n (cs1.flatMap chV) := (Touch.of_below hb3).own HO.out (fun g hg hd => by have := (HO.out.lt g hg).2; omega)
          refine hK.out _ _ trivial (fun hHeld => ?_)
          clear hK K
          (try simp only [Act.put, List.setIfInBounds_toArray, List.set_cons_zero, List.set_cons_succ])
          refine wpAnyH_ready (rs := [14]) (by kernel_rfl) (by simp) ?_
          refine AllReadyH.cons (o := ⟨some 45, _, _, _, _, _⟩) rfl (fun K hK => ?_) AllReadyH.nil
          refine step_append_cells rfl (.tmp 35) (.tmp 44) 31 rfl B 58 i0 (.agg #[.int .i64 0, .int .i64 0, .int .i64 0, .int .i64 0, .string ⟨#[]⟩]) 5 48 Tryz.underlying31 hi hz0 hz1 hz2 rfl (by decide) (cv1) n (cs1.flatMap chV) rfl ho3 _ _ 1 1 [.int .i64 3, .int .i64 p.z.id, .int .i64 0, .int .i64 g2, .string ⟨#[]⟩] rfl (cells_new (w := V8.drew) (e := 58) rfl rfl) (chV_one ⟨3, p.z.id, 0, g2, ⟨#[]⟩⟩) (by unfold maxLen; omega) (by omega) hbase6 ?_
          intro v5 w5 hown5 ht5 hb5
          have hT5 : Touch (fun x => (cv1).ownBlock = some x) V8 w5 := ((Touch.refl _ _).trans (Touch.of_below hb3) (fun x hx hd => absurd hd (by omega))).trans ht5 (fun x _ hx => hx)
          have hs5 := hT5.size
          have hW5 : Whl w5 (b) 52 #[.slice (some ⟨gz, 0, none⟩) ps.length c, .slice Ah hs.length ch, cv1] := (hT5.block (b) HW.out.low (fun e => hfarv e)).trans HW.out
          have hb5' : v5.ownBlock = (cv1).ownBlock ∨ v5.ownBlock = some (V8.heap.size + 1) := by simpa using hb5
          clear hb5
          obtain ⟨g5, c5, rfl, _, _, _, _⟩ := own_form hown5 (Nat.succ_pos _)
          have HO5 := Lib.hid hown5
          have HT5 := Lib.hid hT5
          have HW5 := Lib.hid hW5
          
          clear hown5 ht5 hT5 hW5
          refine hK.out _ _ trivial (fun hHeld => ?_)
          clear hK K
          (try simp only [Act.put, List.setIfInBounds_toArray, List.set_cons_zero, List.set_cons_succ])
          refine wpAnyH_take (i := 15) (oi := ⟨some 46, _, _, _, _, _⟩) (v := ?v15B_212) rfl (by kernel_rfl) (by kernel_rfl) (by kernel_rfl) (fun _ _ _ h => h) (Or.inl ⟨by rfl, ?y15B_212⟩) (by assumption) ?r15B_212
          case y15B_212 => (intro w hSw; (try dsimp only at hSw); (try go_split_ands); go_simp); (try with_reducible rfl)
          case r15B_212 =>
          (try simp only [Act.put, List.setIfInBounds_toArray, List.set_cons_zero, List.set_cons_succ])
          refine wpAnyH_take (i := 16) (oi := ⟨some 47, _, _, _, _, _⟩) (v := ?v16B_215) rfl (by kernel_rfl) (by kernel_rfl) (by kernel_rfl) (fun _ _ _ h => h) (Or.inl ⟨by rfl, ?y16B_215⟩) (by assumption) ?r16B_215
          case y16B_215 => (intro w hSw; (try dsimp only at hSw); (try go_split_ands); go_simp); (try with_reducible rfl)
          case r16B_215 =>
          (try simp only [Act.put, List.setIfInBounds_toArray, List.set_cons_zero, List.set_cons_succ])
          refine wpAnyH_ready (rs := [17]) (by kernel_rfl) (by simp) ?_
          refine AllReadyH.cons (o := ⟨none, _, _, _, _, _⟩) rfl (fun K hK => ?_) AllReadyH.nil
          have k7 : w5.cell? ⟨b, 2, none⟩ = some (cv1) := (HW5.out.cell 2).trans rfl
          have f7 := HW5.out.free 2
          go_simp
          refine hK.out _ _ trivial (fun hHeld => ?_)
          clear hK K
          (try simp only [Act.put, List.setIfInBounds_toArray, List.set_cons_zero, List.set_cons_succ])
          refine wpAnyH_done (by kernel_rfl) ?_ _
          go_wp2_with fail
          subst hn
          obtain ⟨hF, hTF, hFF⟩ := HP8.out.pushedC (c := ⟨3, p.z.id, 0, g2, ⟨#[]⟩⟩) HO5.out rfl HT5.out (hb5'.imp_right fun e => ⟨_, e, Nat.le_succ _⟩)
          have hTT := HT8.out.trans hTF (fun x _ hx => hx)
          have hs8 := HT8.out.size
          refine ⟨⟨n0 + 1, _, _, _, by go_num, hF, hMR, HSZ8.out, HT3.out.trans hTT (fun x hx hd => (HF3.out x hd).elim (fun h => h) (fun h => by omega)), fun x hx => (hFF x hx).elim (fun h => HF3.out x h) (fun h => .inr (by omega)), by rw [List.length_append, List.length_singleton]; omega⟩, by simp [intOf]; omega⟩
        · have e0 : V8.drew.cell? ⟨N4, 0, none⟩ = _ := e4
          go_simp
          refine hK.out _ _ trivial (fun hHeld => ?_)
          clear hK K
          (try simp only [Act.put, List.setIfInBounds_toArray, List.set_cons_zero, List.set_cons_succ])
          refine wpAnyH_take (i := 12) (oi := ⟨some 43, _, _, _, _, _⟩) (v := ?v12B_238) rfl (by kernel_rfl) (by kernel_rfl) (by kernel_rfl) (fun _ _ _ h => h) (Or.inl ⟨by rfl, ?y12B_238⟩) (by assumption) ?r12B_238
          case y12B_238 => (intro w hSw; (try dsimp only at hSw); (try go_split_ands); go_simp); (try with_reducible rfl)
          case r12B_238 =>
          (try simp only [Act.put, List.setIfInBounds_toArray, List.set_cons_zero, List.set_cons_succ])
          refine wpAnyH_ready (rs := [4, 13]) (by kernel_rfl) (by simp) ?_
          refine AllReadyH.cons (o := ⟨some 35, _, _, _, _, _⟩) rfl (fun K hK => ?_) (AllReadyH.cons (o := ⟨some 44, _, _, _, _, _⟩) rfl (fun K hK => ?_) AllReadyH.nil)
          · have k9 : V8.drew.cell? ⟨b, 2, none⟩ = some cv1 := k0
            go_simp
            refine hK.out _ _ trivial (fun hHeld => ?_)
            clear hK K
            (try simp only [Act.put, List.setIfInBounds_toArray, List.set_cons_zero, List.set_cons_succ])
            refine wpAnyH_ready (rs := [13]) (by kernel_rfl) (by simp) ?_
            refine AllReadyH.cons (o := ⟨some 44, _, _, _, _, _⟩) rfl (fun K hK => ?_) AllReadyH.nil
            go_simp
            have hb3 : Below V8.heap.size V8 (V8.drew.alloc (.cells #[.int .i64 3, .int .i64 p.z.id, .int .i64 0, .int .i64 g2, .string ⟨#[]⟩] 58)) := (Below.refl _ _).drew.alloc (Nat.le_refl _) _
            have hbase6 : B ≤ (V8.drew.alloc (.cells #[.int .i64 3, .int .i64 p.z.id, .int .i64 0, .int .i64 g2, .string ⟨#[]⟩] 58)).heap.size := by simp; omega
            have ho3 : (V8.drew.alloc (.cells #[.int .i64 3, .int .i64 p.z.id, .int .i64 0, .int .i64 g2, .string ⟨#[]⟩] 58)).ownsRow B 58 5 cv1 n (cs1.flatMap chV) := (Touch.of_below hb3).own HO.out (fun g hg hd => by have := (HO.out.lt g hg).2; omega)
            refine hK.out _ _ trivial (fun hHeld => ?_)
            clear hK K
            (try simp only [Act.put, List.setIfInBounds_toArray, List.set_cons_zero, List.set_cons_succ])
            refine wpAnyH_ready (rs := [14]) (by kernel_rfl) (by simp) ?_
            refine AllReadyH.cons (o := ⟨some 45, _, _, _, _, _⟩) rfl (fun K hK => ?_) AllReadyH.nil
            refine step_append_cells rfl (.tmp 35) (.tmp 44) 31 rfl B 58 i0 (.agg #[.int .i64 0, .int .i64 0, .int .i64 0, .int .i64 0, .string ⟨#[]⟩]) 5 48 Tryz.underlying31 hi hz0 hz1 hz2 rfl (by decide) (cv1) n (cs1.flatMap chV) rfl ho3 _ _ 1 1 [.int .i64 3, .int .i64 p.z.id, .int .i64 0, .int .i64 g2, .string ⟨#[]⟩] rfl (cells_new (w := V8.drew) (e := 58) rfl rfl) (chV_one ⟨3, p.z.id, 0, g2, ⟨#[]⟩⟩) (by unfold maxLen; omega) (by omega) hbase6 ?_
            intro v5 w5 hown5 ht5 hb5
            have hT5 : Touch (fun x => (cv1).ownBlock = some x) V8 w5 := ((Touch.refl _ _).trans (Touch.of_below hb3) (fun x hx hd => absurd hd (by omega))).trans ht5 (fun x _ hx => hx)
            have hs5 := hT5.size
            have hW5 : Whl w5 (b) 52 #[.slice (some ⟨gz, 0, none⟩) ps.length c, .slice Ah hs.length ch, cv1] := (hT5.block (b) HW.out.low (fun e => hfarv e)).trans HW.out
            have hb5' : v5.ownBlock = (cv1).ownBlock ∨ v5.ownBlock = some (V8.heap.size + 1) := by simpa using hb5
            clear hb5
            obtain ⟨g5, c5, rfl, _, _, _, _⟩ := own_form hown5 (Nat.succ_pos _)
            have HO5 := Lib.hid hown5
            have HT5 := Lib.hid hT5
            have HW5 := Lib.hid hW5
            
            clear hown5 ht5 hT5 hW5
            refine hK.out _ _ trivial (fun hHeld => ?_)
            clear hK K
            (try simp only [Act.put, List.setIfInBounds_toArray, List.set_cons_zero, List.set_cons_succ])
            refine wpAnyH_take (i := 15) (oi := ⟨some 46, _, _, _, _, _⟩) (v := ?v15B_275) rfl (by kernel_rfl) (by kernel_rfl) (by kernel_rfl) (fun _ _ _ h => h) (Or.inl ⟨by rfl, ?y15B_275⟩) (by assumption) ?r15B_275
            case y15B_275 => (intro w hSw; (try dsimp only at hSw); (try go_split_ands); go_simp); (try with_reducible rfl)
            case r15B_275 =>
            (try simp only [Act.put, List.setIfInBounds_toArray, List.set_cons_zero, List.set_cons_succ])
            refine wpAnyH_take (i := 16) (oi := ⟨some 47, _, _, _, _, _⟩) (v := ?v16B_278) rfl (by kernel_rfl) (by kernel_rfl) (by kernel_rfl) (fun _ _ _ h => h) (Or.inl ⟨by rfl, ?y16B_278⟩) (by assumption) ?r16B_278
            case y16B_278 => (intro w hSw; (try dsimp only at hSw); (try go_split_ands); go_simp); (try with_reducible rfl)
            case r16B_278 =>
            (try simp only [Act.put, List.setIfInBounds_toArray, List.set_cons_zero, List.set_cons_succ])
            refine wpAnyH_ready (rs := [17]) (by kernel_rfl) (by simp) ?_
            refine AllReadyH.cons (o := ⟨none, _, _, _, _, _⟩) rfl (fun K hK => ?_) AllReadyH.nil
            have k7 : w5.cell? ⟨b, 2, none⟩ = some (cv1) := (HW5.out.cell 2).trans rfl
            have f7 := HW5.out.free 2
            go_simp
            refine hK.out _ _ trivial (fun hHeld => ?_)
            clear hK K
            (try simp only [Act.put, List.setIfInBounds_toArray, List.set_cons_zero, List.set_cons_succ])
            refine wpAnyH_done (by kernel_rfl) ?_ _
            go_wp2_with fail
            subst hn
            obtain ⟨hF, hTF, hFF⟩ := HP8.out.pushedC (c := ⟨3, p.z.id, 0, g2, ⟨#[]⟩⟩) HO5.out rfl HT5.out (hb5'.imp_right fun e => ⟨_, e, Nat.le_succ _⟩)
            have hTT := HT8.out.trans hTF (fun x _ hx => hx)
            have hs8 := HT8.out.size
            refine ⟨⟨n0 + 1, _, _, _, by go_num, hF, hMR, HSZ8.out, HT3.out.trans hTT (fun x hx hd => (HF3.out x hd).elim (fun h => h) (fun h => by omega)), fun x hx => (hFF x hx).elim (fun h => HF3.out x h) (fun h => .inr (by omega)), by rw [List.length_append, List.length_singleton]; omega⟩, by simp [intOf]; omega⟩
          · go_simp
            have hb3 : Below V8.heap.size V8 (V8.drew.alloc (.cells #[.int .i64 3, .int .i64 p.z.id, .int .i64 0, .int .i64 g2, .string ⟨#[]⟩] 58)) := (Below.refl _ _).drew.alloc (Nat.le_refl _) _
            have hbase6 : B ≤ (V8.drew.alloc (.cells #[.int .i64 3, .int .i64 p.z.id, .int .i64 0, .int .i64 g2, .string ⟨#[]⟩] 58)).heap.size := by simp; omega
            have ho3 : (V8.drew.alloc (.cells #[.int .i64 3, .int .i64 p.z.id, .int .i64 0, .int .i64 g2, .string ⟨#[]⟩] 58)).ownsRow B 58 5 cv1 n (cs1.flatMap chV) := (Touch.of_below hb3).own HO.out (fun g hg hd => by have := (HO.out.lt g hg).2; omega)
            refine hK.out _ _ trivial (fun hHeld => ?_)
            clear hK K
            (try simp only [Act.put, List.setIfInBounds_toArray, List.set_cons_zero, List.set_cons_succ])
            refine wpAnyH_ready (rs := [4]) (by kernel_rfl) (by simp) ?_
            refine AllReadyH.cons (o := ⟨some 35, _, _, _, _, _⟩) rfl (fun K hK => ?_) AllReadyH.nil
            have k9 := bkeep hb3 k0 (by have := HW.out.low; omega)
            have k10 : V8.cell? ⟨b, 2, none⟩ = some cv1 := k0
            go_simp
            refine hK.out _ _ trivial (fun hHeld => ?_)
            clear hK K
            (try simp only [Act.put, List.setIfInBounds_toArray, List.set_cons_zero, List.set_cons_succ])
            refine wpAnyH_ready (rs := [14]) (by kernel_rfl) (by simp) ?_
            refine AllReadyH.cons (o := ⟨some 45, _, _, _, _, _⟩) rfl (fun K hK => ?_) AllReadyH.nil
            refine step_append_cells rfl (.tmp 35) (.tmp 44) 31 rfl B 58 i0 (.agg #[.int .i64 0, .int .i64 0, .int .i64 0, .int .i64 0, .string ⟨#[]⟩]) 5 48 Tryz.underlying31 hi hz0 hz1 hz2 rfl (by decide) (cv1) n (cs1.flatMap chV) rfl ho3 _ _ 1 1 [.int .i64 3, .int .i64 p.z.id, .int .i64 0, .int .i64 g2, .string ⟨#[]⟩] rfl (cells_new (w := V8.drew) (e := 58) rfl rfl) (chV_one ⟨3, p.z.id, 0, g2, ⟨#[]⟩⟩) (by unfold maxLen; omega) (by omega) hbase6 ?_
            intro v5 w5 hown5 ht5 hb5
            have hT5 : Touch (fun x => (cv1).ownBlock = some x) V8 w5 := ((Touch.refl _ _).trans (Touch.of_below hb3) (fun x hx hd => absurd hd (by omega))).trans ht5 (fun x _ hx => hx)
            have hs5 := hT5.size
            have hW5 : Whl w5 (b) 52 #[.slice (some ⟨gz, 0, none⟩) ps.length c, .slice Ah hs.length ch, cv1] := (hT5.block (b) HW.out.low (fun e => hfarv e)).trans HW.out
            have hb5' : v5.ownBlock = (cv1).ownBlock ∨ v5.ownBlock = some (V8.heap.size + 1) := by simpa using hb5
            clear hb5
            obtain ⟨g5, c5, rfl, _, _, _, _⟩ := own_form hown5 (Nat.succ_pos _)
            have HO5 := Lib.hid hown5
            have HT5 := Lib.hid hT5
            have HW5 := Lib.hid hW5
            
            clear hown5 ht5 hT5 hW5
            refine hK.out _ _ trivial (fun hHeld => ?_)
            clear hK K
            (try simp only [Act.put, List.setIfInBounds_toArray, List.set_cons_zero, List.set_cons_succ])
            refine wpAnyH_take (i := 15) (oi := ⟨some 46, _, _, _, _, _⟩) (v := ?v15B_329) rfl (by kernel_rfl) (by kernel_rfl) (by kernel_rfl) (fun _ _ _ h => h) (Or.inl ⟨by rfl, ?y15B_329⟩) (by assumption) ?r15B_329
            case y15B_329 => (intro w hSw; (try dsimp only at hSw); (try go_split_ands); go_simp); (try with_reducible rfl)
            case r15B_329 =>
            (try simp only [Act.put, List.setIfInBounds_toArray, List.set_cons_zero, List.set_cons_succ])
            refine wpAnyH_take (i := 16) (oi := ⟨some 47, _, _, _, _, _⟩) (v := ?v16B_332) rfl (by kernel_rfl) (by kernel_rfl) (by kernel_rfl) (fun _ _ _ h => h) (Or.inl ⟨by rfl, ?y16B_332⟩) (by assumption) ?r16B_332
            case y16B_332 => (intro w hSw; (try dsimp only at hSw); (try go_split_ands); go_simp); (try with_reducible rfl)
            case r16B_332 =>
            (try simp only [Act.put, List.setIfInBounds_toArray, List.set_cons_zero, List.set_cons_succ])
            refine wpAnyH_ready (rs := [17]) (by kernel_rfl) (by simp) ?_
            refine AllReadyH.cons (o := ⟨none, _, _, _, _, _⟩) rfl (fun K hK => ?_) AllReadyH.nil
            have k7 : w5.cell? ⟨b, 2, none⟩ = some (cv1) := (HW5.out.cell 2).trans rfl
            have f7 := HW5.out.free 2
            go_simp
            refine hK.out _ _ trivial (fun hHeld => ?_)
            clear hK K
            (try simp only [Act.put, List.setIfInBounds_toArray, List.set_cons_zero, List.set_cons_succ])
            refine wpAnyH_done (by kernel_rfl) ?_ _
            go_wp2_with fail
            subst hn
            obtain ⟨hF, hTF, hFF⟩ := HP8.out.pushedC (c := ⟨3, p.z.id, 0, g2, ⟨#[]⟩⟩) HO5.out rfl HT5.out (hb5'.imp_right fun e => ⟨_, e, Nat.le_succ _⟩)
            have hTT := HT8.out.trans hTF (fun x _ hx => hx)
            have hs8 := HT8.out.size
            refine ⟨⟨n0 + 1, _, _, _, by go_num, hF, hMR, HSZ8.out, HT3.out.trans hTT (fun x hx hd => (HF3.out x hd).elim (fun h => h) (fun h => by omega)), fun x hx => (hFF x hx).elim (fun h => HF3.out x h) (fun h => .inr (by omega)), by rw [List.length_append, List.length_singleton]; omega⟩, by simp [intOf]; omega⟩
      · have e0 : V8.drew.cell? ⟨N4, 0, none⟩ = _ := e4
        go_simp
        refine hK.out _ _ trivial (fun hHeld => ?_)
        clear hK K
        (try simp only [Act.put, List.setIfInBounds_toArray, List.set_cons_zero, List.set_cons_succ])
        refine wpAnyH_ready (rs := [4, 9]) (by kernel_rfl) (by simp) ?_
        refine AllReadyH.cons (o := ⟨some 35, _, _, _, _, _⟩) rfl (fun K hK => ?_) (AllReadyH.cons (o := ⟨some 40, _, _, _, _, _⟩) rfl (fun K hK => ?_) AllReadyH.nil)
        · have k9 : V8.drew.cell? ⟨b, 2, none⟩ = some cv1 := k0
          go_simp
          refine hK.out _ _ trivial (fun hHeld => ?_)
          clear hK K
          (try simp only [Act.put, List.setIfInBounds_toArray, List.set_cons_zero, List.set_cons_succ])
          refine wpAnyH_ready (rs := [9]) (by kernel_rfl) (by simp) ?_
          refine AllReadyH.cons (o := ⟨some 40, _, _, _, _, _⟩) rfl (fun K hK => ?_) AllReadyH.nil
          have e0 : V8.drew.cell? ⟨gz, k * 13, none⟩ = _ := d0
          go_simp
          refine hK.out _ _ trivial (fun hHeld => ?_)
          clear hK K
          (try simp only [Act.put, List.setIfInBounds_toArray, List.set_cons_zero, List.set_cons_succ])
          refine wpAnyH_take (i := 12) (oi := ⟨some 43, _, _, _, _, _⟩) (v := ?v12B_369) rfl (by kernel_rfl) (by kernel_rfl) (by kernel_rfl) (fun _ _ _ h => h) (Or.inl ⟨by rfl, ?y12B_369⟩) (by assumption) ?r12B_369
          case y12B_369 => (intro w hSw; (try dsimp only at hSw); (try go_split_ands); go_simp); (try with_reducible rfl)
          case r12B_369 =>
          (try simp only [Act.put, List.setIfInBounds_toArray, List.set_cons_zero, List.set_cons_succ])
          refine wpAnyH_ready (rs := [13]) (by kernel_rfl) (by simp) ?_
          refine AllReadyH.cons (o := ⟨some 44, _, _, _, _, _⟩) rfl (fun K hK => ?_) AllReadyH.nil
          go_simp
          have hb3 : Below V8.heap.size V8 (V8.drew.alloc (.cells #[.int .i64 3, .int .i64 p.z.id, .int .i64 0, .int .i64 g2, .string ⟨#[]⟩] 58)) := (Below.refl _ _).drew.alloc (Nat.le_refl _) _
          have hbase6 : B ≤ (V8.drew.alloc (.cells #[.int .i64 3, .int .i64 p.z.id, .int .i64 0, .int .i64 g2, .string ⟨#[]⟩] 58)).heap.size := by simp; omega
          have ho3 : (V8.drew.alloc (.cells #[.int .i64 3, .int .i64 p.z.id, .int .i64 0, .int .i64 g2, .string ⟨#[]⟩] 58)).ownsRow B 58 5 cv1 n (cs1.flatMap chV) := (Touch.of_below hb3).own HO.out (fun g hg hd => by have := (HO.out.lt g hg).2; omega)
          refine hK.out _ _ trivial (fun hHeld => ?_)
          clear hK K
          (try simp only [Act.put, List.setIfInBounds_toArray, List.set_cons_zero, List.set_cons_succ])
          refine wpAnyH_ready (rs := [14]) (by kernel_rfl) (by simp) ?_
          refine AllReadyH.cons (o := ⟨some 45, _, _, _, _, _⟩) rfl (fun K hK => ?_) AllReadyH.nil
          refine step_append_cells rfl (.tmp 35) (.tmp 44) 31 rfl B 58 i0 (.agg #[.int .i64 0, .int .i64 0, .int .i64 0, .int .i64 0, .string ⟨#[]⟩]) 5 48 Tryz.underlying31 hi hz0 hz1 hz2 rfl (by decide) (cv1) n (cs1.flatMap chV) rfl ho3 _ _ 1 1 [.int .i64 3, .int .i64 p.z.id, .int .i64 0, .int .i64 g2, .string ⟨#[]⟩] rfl (cells_new (w := V8.drew) (e := 58) rfl rfl) (chV_one ⟨3, p.z.id, 0, g2, ⟨#[]⟩⟩) (by unfold maxLen; omega) (by omega) hbase6 ?_
          intro v5 w5 hown5 ht5 hb5
          have hT5 : Touch (fun x => (cv1).ownBlock = some x) V8 w5 := ((Touch.refl _ _).trans (Touch.of_below hb3) (fun x hx hd => absurd hd (by omega))).trans ht5 (fun x _ hx => hx)
          have hs5 := hT5.size
          have hW5 : Whl w5 (b) 52 #[.slice (some ⟨gz, 0, none⟩) ps.length c, .slice Ah hs.length ch, cv1] := (hT5.block (b) HW.out.low (fun e => hfarv e)).trans HW.out
          have hb5' : v5.ownBlock = (cv1).ownBlock ∨ v5.ownBlock = some (V8.heap.size + 1) := by simpa using hb5
          clear hb5
          obtain ⟨g5, c5, rfl, _, _, _, _⟩ := own_form hown5 (Nat.succ_pos _)
          have HO5 := Lib.hid hown5
          have HT5 := Lib.hid hT5
          have HW5 := Lib.hid hW5
          
          clear hown5 ht5 hT5 hW5
          refine hK.out _ _ trivial (fun hHeld => ?_)
          clear hK K
          (try simp only [Act.put, List.setIfInBounds_toArray, List.set_cons_zero, List.set_cons_succ])
          refine wpAnyH_take (i := 15) (oi := ⟨some 46, _, _, _, _, _⟩) (v := ?v15B_399) rfl (by kernel_rfl) (by kernel_rfl) (by kernel_rfl) (fun _ _ _ h => h) (Or.inl ⟨by rfl, ?y15B_399⟩) (by assumption) ?r15B_399
          case y15B_399 => (intro w hSw; (try dsimp only at hSw); (try go_split_ands); go_simp); (try with_reducible rfl)
          case r15B_399 =>
          (try simp only [Act.put, List.setIfInBounds_toArray, List.set_cons_zero, List.set_cons_succ])
          refine wpAnyH_take (i := 16) (oi := ⟨some 47, _, _, _, _, _⟩) (v := ?v16B_402) rfl (by kernel_rfl) (by kernel_rfl) (by kernel_rfl) (fun _ _ _ h => h) (Or.inl ⟨by rfl, ?y16B_402⟩) (by assumption) ?r16B_402
          case y16B_402 => (intro w hSw; (try dsimp only at hSw); (try go_split_ands); go_simp); (try with_reducible rfl)
          case r16B_402 =>
          (try simp only [Act.put, List.setIfInBounds_toArray, List.set_cons_zero, List.set_cons_succ])
          refine wpAnyH_ready (rs := [17]) (by kernel_rfl) (by simp) ?_
          refine AllReadyH.cons (o := ⟨none, _, _, _, _, _⟩) rfl (fun K hK => ?_) AllReadyH.nil
          have k7 : w5.cell? ⟨b, 2, none⟩ = some (cv1) := (HW5.out.cell 2).trans rfl
          have f7 := HW5.out.free 2
          go_simp
          refine hK.out _ _ trivial (fun hHeld => ?_)
          clear hK K
          (try simp only [Act.put, List.setIfInBounds_toArray, List.set_cons_zero, List.set_cons_succ])
          refine wpAnyH_done (by kernel_rfl) ?_ _
          go_wp2_with fail
          subst hn
          obtain ⟨hF, hTF, hFF⟩ := HP8.out.pushedC (c := ⟨3, p.z.id, 0, g2, ⟨#[]⟩⟩) HO5.out rfl HT5.out (hb5'.imp_right fun e => ⟨_, e, Nat.le_succ _⟩)
          have hTT := HT8.out.trans hTF (fun x _ hx => hx)
          have hs8 := HT8.out.size
          refine ⟨⟨n0 + 1, _, _, _, by go_num, hF, hMR, HSZ8.out, HT3.out.trans hTT (fun x hx hd => (HF3.out x hd).elim (fun h => h) (fun h => by omega)), fun x hx => (hFF x hx).elim (fun h => HF3.out x h) (fun h => .inr (by omega)), by rw [List.length_append, List.length_singleton]; omega⟩, by simp [intOf]; omega⟩
        · have e0 : V8.drew.cell? ⟨gz, k * 13, none⟩ = _ := d0
          go_simp
          refine hK.out _ _ trivial (fun hHeld => ?_)
          clear hK K
          (try simp only [Act.put, List.setIfInBounds_toArray, List.set_cons_zero, List.set_cons_succ])
          refine wpAnyH_take (i := 12) (oi := ⟨some 43, _, _, _, _, _⟩) (v := ?v12B_425) rfl (by kernel_rfl) (by kernel_rfl) (by kernel_rfl) (fun _ _ _ h => h) (Or.inl ⟨by rfl, ?y12B_425⟩) (by assumption) ?r12B_425
          case y12B_425 => (intro w hSw; (try dsimp only at hSw); (try go_split_ands); go_simp); (try with_reducible rfl)
          case r12B_425 =>
          (try simp only [Act.put, List.setIfInBounds_toArray, List.set_cons_zero, List.set_cons_succ])
          refine wpAnyH_ready (rs := [4, 13]) (by kernel_rfl) (by simp) ?_
          refine AllReadyH.cons (o := ⟨some 35, _, _, _, _, _⟩) rfl (fun K hK => ?_) (AllReadyH.cons (o := ⟨some 44, _, _, _, _, _⟩) rfl (fun K hK => ?_) AllReadyH.nil)
          · have k9 : V8.drew.cell? ⟨b, 2, none⟩ = some cv1 := k0
            go_simp
            refine hK.out _ _ trivial (fun hHeld => ?_)
            clear hK K
            (try simp only [Act.put, List.setIfInBounds_toArray, List.set_cons_zero, List.set_cons_succ])
            refine wpAnyH_ready (rs := [13]) (by kernel_rfl) (by simp) ?_
            refine AllReadyH.cons (o := ⟨some 44, _, _, _, _, _⟩) rfl (fun K hK => ?_) AllReadyH.nil
            go_simp
            have hb3 : Below V8.heap.size V8 (V8.drew.alloc (.cells #[.int .i64 3, .int .i64 p.z.id, .int .i64 0, .int .i64 g2, .string ⟨#[]⟩] 58)) := (Below.refl _ _).drew.alloc (Nat.le_refl _) _
            have hbase6 : B ≤ (V8.drew.alloc (.cells #[.int .i64 3, .int .i64 p.z.id, .int .i64 0, .int .i64 g2, .string ⟨#[]⟩] 58)).heap.size := by simp; omega
            have ho3 : (V8.drew.alloc (.cells #[.int .i64 3, .int .i64 p.z.id, .int .i64 0, .int .i64 g2, .string ⟨#[]⟩] 58)).ownsRow B 58 5 cv1 n (cs1.flatMap chV) := (Touch.of_below hb3).own HO.out (fun g hg hd => by have := (HO.out.lt g hg).2; omega)
            refine hK.out _ _ trivial (fun hHeld => ?_)
            clear hK K
            (try simp only [Act.put, List.setIfInBounds_toArray, List.set_cons_zero, List.set_cons_succ])
            refine wpAnyH_ready (rs := [14]) (by kernel_rfl) (by simp) ?_
            refine AllReadyH.cons (o := ⟨some 45, _, _, _, _, _⟩) rfl (fun K hK => ?_) AllReadyH.nil
            refine step_append_cells rfl (.tmp 35) (.tmp 44) 31 rfl B 58 i0 (.agg #[.int .i64 0, .int .i64 0, .int .i64 0, .int .i64 0, .string ⟨#[]⟩]) 5 48 Tryz.underlying31 hi hz0 hz1 hz2 rfl (by decide) (cv1) n (cs1.flatMap chV) rfl ho3 _ _ 1 1 [.int .i64 3, .int .i64 p.z.id, .int .i64 0, .int .i64 g2, .string ⟨#[]⟩] rfl (cells_new (w := V8.drew) (e := 58) rfl rfl) (chV_one ⟨3, p.z.id, 0, g2, ⟨#[]⟩⟩) (by unfold maxLen; omega) (by omega) hbase6 ?_
            intro v5 w5 hown5 ht5 hb5
            have hT5 : Touch (fun x => (cv1).ownBlock = some x) V8 w5 := ((Touch.refl _ _).trans (Touch.of_below hb3) (fun x hx hd => absurd hd (by omega))).trans ht5 (fun x _ hx => hx)
            have hs5 := hT5.size
            have hW5 : Whl w5 (b) 52 #[.slice (some ⟨gz, 0, none⟩) ps.length c, .slice Ah hs.length ch, cv1] := (hT5.block (b) HW.out.low (fun e => hfarv e)).trans HW.out
            have hb5' : v5.ownBlock = (cv1).ownBlock ∨ v5.ownBlock = some (V8.heap.size + 1) := by simpa using hb5
            clear hb5
            obtain ⟨g5, c5, rfl, _, _, _, _⟩ := own_form hown5 (Nat.succ_pos _)
            have HO5 := Lib.hid hown5
            have HT5 := Lib.hid hT5
            have HW5 := Lib.hid hW5
            
            clear hown5 ht5 hT5 hW5
            refine hK.out _ _ trivial (fun hHeld => ?_)
            clear hK K
            (try simp only [Act.put, List.setIfInBounds_toArray, List.set_cons_zero, List.set_cons_succ])
            refine wpAnyH_take (i := 15) (oi := ⟨some 46, _, _, _, _, _⟩) (v := ?v15B_462) rfl (by kernel_rfl) (by kernel_rfl) (by kernel_rfl) (fun _ _ _ h => h) (Or.inl ⟨by rfl, ?y15B_462⟩) (by assumption) ?r15B_462
            case y15B_462 => (intro w hSw; (try dsimp only at hSw); (try go_split_ands); go_simp); (try with_reducible rfl)
            case r15B_462 =>
            (try simp only [Act.put, List.setIfInBounds_toArray, List.set_cons_zero, List.set_cons_succ])
            refine wpAnyH_take (i := 16) (oi := ⟨some 47, _, _, _, _, _⟩) (v := ?v16B_465) rfl (by kernel_rfl) (by kernel_rfl) (by kernel_rfl) (fun _ _ _ h => h) (Or.inl ⟨by rfl, ?y16B_465⟩) (by assumption) ?r16B_465
            case y16B_465 => (intro w hSw; (try dsimp only at hSw); (try go_split_ands); go_simp); (try with_reducible rfl)
            case r16B_465 =>
            (try simp only [Act.put, List.setIfInBounds_toArray, List.set_cons_zero, List.set_cons_succ])
            refine wpAnyH_ready (rs := [17]) (by kernel_rfl) (by simp) ?_
            refine AllReadyH.cons (o := ⟨none, _, _, _, _, _⟩) rfl (fun K hK => ?_) AllReadyH.nil
            have k7 : w5.cell? ⟨b, 2, none⟩ = some (cv1) := (HW5.out.cell 2).trans rfl
            have f7 := HW5.out.free 2
            go_simp
            refine hK.out _ _ trivial (fun hHeld => ?_)
            clear hK K
            (try simp only [Act.put, List.setIfInBounds_toArray, List.set_cons_zero, List.set_cons_succ])
            refine wpAnyH_done (by kernel_rfl) ?_ _
            go_wp2_with fail
            subst hn
            obtain ⟨hF, hTF, hFF⟩ := HP8.out.pushedC (c := ⟨3, p.z.id, 0, g2, ⟨#[]⟩⟩) HO5.out rfl HT5.out (hb5'.imp_right fun e => ⟨_, e, Nat.le_succ _⟩)
            have hTT := HT8.out.trans hTF (fun x _ hx => hx)
            have hs8 := HT8.out.size
            refine ⟨⟨n0 + 1, _, _, _, by go_num, hF, hMR, HSZ8.out, HT3.out.trans hTT (fun x hx hd => (HF3.out x hd).elim (fun h => h) (fun h => by omega)), fun x hx => (hFF x hx).elim (fun h => HF3.out x h) (fun h => .inr (by omega)), by rw [List.length_append, List.length_singleton]; omega⟩, by simp [intOf]; omega⟩
          · go_simp
            have hb3 : Below V8.heap.size V8 (V8.drew.alloc (.cells #[.int .i64 3, .int .i64 p.z.id, .int .i64 0, .int .i64 g2, .string ⟨#[]⟩] 58)) := (Below.refl _ _).drew.alloc (Nat.le_refl _) _
            have hbase6 : B ≤ (V8.drew.alloc (.cells #[.int .i64 3, .int .i64 p.z.id, .int .i64 0, .int .i64 g2, .string ⟨#[]⟩] 58)).heap.size := by simp; omega
            have ho3 : (V8.drew.alloc (.cells #[.int .i64 3, .int .i64 p.z.id, .int .i64 0, .int .i64 g2, .string ⟨#[]⟩] 58)).ownsRow B 58 5 cv1 n (cs1.flatMap chV) := (Touch.of_below hb3).own HO.out (fun g hg hd => by have := (HO.out.lt g hg).2; omega)
            refine hK.out _ _ trivial (fun hHeld => ?_)
            clear hK K
            (try simp only [Act.put, List.setIfInBounds_toArray, List.set_cons_zero, List.set_cons_succ])
            refine wpAnyH_ready (rs := [4]) (by kernel_rfl) (by simp) ?_
            refine AllReadyH.cons (o := ⟨some 35, _, _, _, _, _⟩) rfl (fun K hK => ?_) AllReadyH.nil
            have k9 := bkeep hb3 k0 (by have := HW.out.low; omega)
            have k10 : V8.cell? ⟨b, 2, none⟩ = some cv1 := k0
            go_simp
            refine hK.out _ _ trivial (fun hHeld => ?_)
            clear hK K
            (try simp only [Act.put, List.setIfInBounds_toArray, List.set_cons_zero, List.set_cons_succ])
            refine wpAnyH_ready (rs := [14]) (by kernel_rfl) (by simp) ?_
            refine AllReadyH.cons (o := ⟨some 45, _, _, _, _, _⟩) rfl (fun K hK => ?_) AllReadyH.nil
            refine step_append_cells rfl (.tmp 35) (.tmp 44) 31 rfl B 58 i0 (.agg #[.int .i64 0, .int .i64 0, .int .i64 0, .int .i64 0, .string ⟨#[]⟩]) 5 48 Tryz.underlying31 hi hz0 hz1 hz2 rfl (by decide) (cv1) n (cs1.flatMap chV) rfl ho3 _ _ 1 1 [.int .i64 3, .int .i64 p.z.id, .int .i64 0, .int .i64 g2, .string ⟨#[]⟩] rfl (cells_new (w := V8.drew) (e := 58) rfl rfl) (chV_one ⟨3, p.z.id, 0, g2, ⟨#[]⟩⟩) (by unfold maxLen; omega) (by omega) hbase6 ?_
            intro v5 w5 hown5 ht5 hb5
            have hT5 : Touch (fun x => (cv1).ownBlock = some x) V8 w5 := ((Touch.refl _ _).trans (Touch.of_below hb3) (fun x hx hd => absurd hd (by omega))).trans ht5 (fun x _ hx => hx)
            have hs5 := hT5.size
            have hW5 : Whl w5 (b) 52 #[.slice (some ⟨gz, 0, none⟩) ps.length c, .slice Ah hs.length ch, cv1] := (hT5.block (b) HW.out.low (fun e => hfarv e)).trans HW.out
            have hb5' : v5.ownBlock = (cv1).ownBlock ∨ v5.ownBlock = some (V8.heap.size + 1) := by simpa using hb5
            clear hb5
            obtain ⟨g5, c5, rfl, _, _, _, _⟩ := own_form hown5 (Nat.succ_pos _)
            have HO5 := Lib.hid hown5
            have HT5 := Lib.hid hT5
            have HW5 := Lib.hid hW5
            
            clear hown5 ht5 hT5 hW5
            refine hK.out _ _ trivial (fun hHeld => ?_)
            clear hK K
            (try simp only [Act.put, List.setIfInBounds_toArray, List.set_cons_zero, List.set_cons_succ])
            refine wpAnyH_take (i := 15) (oi := ⟨some 46, _, _, _, _, _⟩) (v := ?v15B_516) rfl (by kernel_rfl) (by kernel_rfl) (by kernel_rfl) (fun _ _ _ h => h) (Or.inl ⟨by rfl, ?y15B_516⟩) (by assumption) ?r15B_516
            case y15B_516 => (intro w hSw; (try dsimp only at hSw); (try go_split_ands); go_simp); (try with_reducible rfl)
            case r15B_516 =>
            (try simp only [Act.put, List.setIfInBounds_toArray, List.set_cons_zero, List.set_cons_succ])
            refine wpAnyH_take (i := 16) (oi := ⟨some 47, _, _, _, _, _⟩) (v := ?v16B_519) rfl (by kernel_rfl) (by kernel_rfl) (by kernel_rfl) (fun _ _ _ h => h) (Or.inl ⟨by rfl, ?y16B_519⟩) (by assumption) ?r16B_519
            case y16B_519 => (intro w hSw; (try dsimp only at hSw); (try go_split_ands); go_simp); (try with_reducible rfl)
            case r16B_519 =>
            (try simp only [Act.put, List.setIfInBounds_toArray, List.set_cons_zero, List.set_cons_succ])
            refine wpAnyH_ready (rs := [17]) (by kernel_rfl) (by simp) ?_
            refine AllReadyH.cons (o := ⟨none, _, _, _, _, _⟩) rfl (fun K hK => ?_) AllReadyH.nil
            have k7 : w5.cell? ⟨b, 2, none⟩ = some (cv1) := (HW5.out.cell 2).trans rfl
            have f7 := HW5.out.free 2
            go_simp
            refine hK.out _ _ trivial (fun hHeld => ?_)
            clear hK K
            (try simp only [Act.put, List.setIfInBounds_toArray, List.set_cons_zero, List.set_cons_succ])
            refine wpAnyH_done (by kernel_rfl) ?_ _
            go_wp2_with fail
            subst hn
            obtain ⟨hF, hTF, hFF⟩ := HP8.out.pushedC (c := ⟨3, p.z.id, 0, g2, ⟨#[]⟩⟩) HO5.out rfl HT5.out (hb5'.imp_right fun e => ⟨_, e, Nat.le_succ _⟩)
            have hTT := HT8.out.trans hTF (fun x _ hx => hx)
            have hs8 := HT8.out.size
            refine ⟨⟨n0 + 1, _, _, _, by go_num, hF, hMR, HSZ8.out, HT3.out.trans hTT (fun x hx hd => (HF3.out x hd).elim (fun h => h) (fun h => by omega)), fun x hx => (hFF x hx).elim (fun h => HF3.out x h) (fun h => .inr (by omega)), by rw [List.length_append, List.length_singleton]; omega⟩, by simp [intOf]; omega⟩
end Go.Proofs.YtepjehcmiofehaaGreat
