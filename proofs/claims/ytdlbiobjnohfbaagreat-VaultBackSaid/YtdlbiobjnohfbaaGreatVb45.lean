/- vault: the code's takeOrders. -/
import Derived.Test.YtdlbiobjnohfbaaGreatVb44
namespace Go.Proofs.YtdlbiobjnohfbaaGreat
open Go.RowKit Go.ChangeMaps Go.MapKept
set_option linter.unusedVariables false
set_option linter.unusedSimpArgs false
theorem RV.touch {w0 w w' : World} {vb rb : Nat} {p : Value} {l : Pm} {s s' : Rs} {D : Nat → Prop} (h : RV w0 w vb rb p l s) (ht : Touch D w w') (hD : ∀ k, D k → k = rb ∨ (rb < k ∧ mb p ≠ some k)) (hr : RS w' rb s') : RV w0 w' vb rb p l s' :=
 ⟨h.vt.keep ht (fun k hk e => by
  have := h.lt
  rcases hD k e with e1 | e1 <;> rcases h.fv hk with e2 | e2
  · omega
  · omega
  · omega
  · exact e1.2 e2.2), hr, h.lt, h.mp, h.low, h.bel.trans (ht.below h.bel.size (fun k hk => by have := h.lt; have := h.low; rcases hD k hk with e | e <;> omega))⟩
theorem noU8_od (a : Int) (b : ByteArray) (c : Bool) (d e f : Int) : noU8 #[.int .i64 a, .string b, .bool c, .int .i64 d, .int .i64 e, .int .i64 f] := by
 intro i x h
 match i with
 | 0 => cases h
 | 1 => cases h
 | 2 => cases h
 | 3 => cases h
 | 4 => cases h
 | 5 => cases h
 | n + 6 => simp at h
theorem noU8_1 (a : Int) : noU8 #[.int .i64 a] := by
 intro i x h
 match i with
 | 0 => cases h
 | n + 1 => simp at h
theorem own_cellsF {w : World} {base e size n c : Nat} {A : Option Addr} {xs : List Value} (h : w.ownsRow base e size (.slice A n c) n xs) : Cells w w.heap.size A n c size xs := by
 obtain ⟨A2, c2, e2, _, _, h2⟩ := row_cells h
 injection e2 with e3 e4 e5
 subst e3 e5
 exact h2
theorem flatO_snoc (L : List Od) (o : Od) : flatO (L ++ [o]) = flatO L ++ odV o := by simp [flatO]
theorem odV_oneC (o : Od) : ∀ u ∈ odV o, u.oneCell' = true := by
 intro u hu
 simp only [odV, List.mem_cons, List.not_mem_nil, or_false] at hu
 rcases hu with rfl | rfl | rfl | rfl | rfl | rfl <;> rfl
theorem odC (w : World) (a : Int) (b : ByteArray) (c : Bool) (d e f : Int) : Cells (w.alloc (.cells #[.int .i64 a, .string b, .bool c, .int .i64 d, .int .i64 e, .int .i64 f] 38)) (w.heap.size + 1) (some ⟨w.heap.size, 0, none⟩) 1 1 6 (odV ⟨a, b, c, d, e, f⟩) :=
 ⟨rfl, (fun e => by cases e), fun k u hu => ⟨_, _, rfl, by omega, by rw [Nat.zero_add, (Whl.new rfl).cell]; simpa [odV] using hu⟩⟩
set_option maxHeartbeats 12000000 in
set_option maxRecDepth 10000 in
theorem vtTakeOrders (w0 : World) (vb rb : Nat) (p : Value) (l : Pm) (s : Rs) (w : World) (h : RV w0 w vb rb p l s) :
    Calls Tryz.prog 33 #[.pointer (some ⟨vb, 0, none⟩), .pointer (some ⟨rb, 0, none⟩)] w fun e w' => ∃ last : Int, e = .returned (.int .i64 last) ∧
      ((¬ ((oS (nx s).1 (nx s).2).2 ≠ none ∧ OfK (oS (nx s).1 (nx s).2).1) ∧ RV w0 w' vb rb p l none) ∨
       ((oS (nx s).1 (nx s).2).2 ≠ none ∧ OfK (oS (nx s).1 (nx s).2).1 ∧ last = lastOf (oS (nx s).1 (nx s).2).1 ∧ ∃ (S : Nat → List Od) (v : Nat → Value), VtH w' vb p v S l last 0 ∧ RelS S (oS (nx s).1 (nx s).2).1 ∧ Bk (oS (nx s).1 (nx s).2).1 last ∧ RS w' rb (oS (nx s).1 (nx s).2).2 ∧ (∀ k, Fv vb p v k → k ≠ rb ∧ w0.heap.size ≤ k) ∧ Below w0.heap.size w0 w')) := by
  obtain ⟨i0, hi, hz0, hz1, hz2⟩ := info_parts Tryz.infoOrder
  have HV := Lib.hid h
  obtain ⟨R, hR⟩ : ∃ R, R = oS (nx s).1 (nx s).2 := ⟨_, rfl⟩
  rw [← hR]
  have HR := Lib.hid hR
  clear h hR
  go_enter Tryz.func33, Tryz.ntmps33
  go_wp2_with fail
  refine (octNxT rb s _ HV.out.rs).mono ?_
  rintro e w1 ⟨rfl, hrs, ht⟩
  have hv1 := HV.out.read ht hrs
  have hnl := nx_le s
  clear hrs ht HV
  obtain ⟨N, hN⟩ : ∃ N, N = (nx s).1 := ⟨_, rfl⟩
  obtain ⟨s1, hs1⟩ : ∃ t, t = (nx s).2 := ⟨_, rfl⟩
  replace HR : Hid (R = oS N s1) := Lib.hid (by rw [hN, hs1]; exact HR.out)
  rw [← hN] at hnl ⊢
  rw [← hs1] at hv1
  clear hN hs1
  have hrl1 := hv1.rs.low
  have HPL : Hid (∀ k, mb p = some k → k < w1.heap.size) := Lib.hid hv1.vt.pu.lows
  have HV1 := Lib.hid hv1
  clear hv1
  obtain ⟨M, hM⟩ : ∃ M, M = (s1.getD []).length := ⟨_, rfl⟩
  have hM2 : M ≤ 100000 := by rw [hM]; exact HV1.out.rs.len
  go_wp2_with fail
  go_loopw [7, 5, 6] (fun nv lv zv wr => ∃ (k : Nat) (t : Rs) (xs : List Od) (lst : Int), nv = .int .i64 k ∧ zv = .int .i64 lst ∧ k ≤ N ∧ RV w0 wr vb rb p l t ∧ wr.ownsRow w1.heap.size 38 6 lv xs.length (flatO xs) ∧ w1.heap.size ≤ wr.heap.size ∧ R.2 = (oS k t).2 ∧ (t ≠ none → R.1 = xs ++ (oS k t).1 ∧ lst = lastOf xs ∧ 6 * xs.length + (t.getD []).length ≤ M) ∧ 6 * xs.length ≤ M + 6) (fun nv _ _ _ => (intOf nv).toNat)
  case atStart => exact ⟨N, s1, [], 0, rfl, rfl, Nat.le_refl _, HV1.out, World.ownsRow_nil _ _ _ _, Nat.le_refl _, by rw [HR.out], fun _ => ⟨by rw [HR.out]; rfl, lastOf_nil.symm, by rw [hM]; simp⟩, by simp⟩
  case round =>
    obtain ⟨k, t, xs, lst, rfl, rfl, hk, hv, hown, hsz, hq1, hq2, hxl⟩ := hrel
    have HV := Lib.hid hv
    have HQ1 := Lib.hid hq1
    have HQ2 := Lib.hid hq2
    have HO := Lib.hid hown
    obtain ⟨Al, cl, rfl, hc1, hc2, hc3⟩ := own_slice hown
    clear hv hq1 hq2 HV1 hown hc1 hc2 hc3
    cases k with
    | zero =>
      cases t with
      | none =>
        go_wp2_with (first
          | (go_at_call 77; refine (octGoodV rb none _ HV.out.rs).mono ?_; rintro e wq ⟨rfl, rfl⟩)
          | fail)
        refine bodyPost_ret (v := .int .i64 lst) (by simp [results, Tryz.results33, go_sem]) rfl ⟨lst, rfl, .inl ⟨fun hc => hc.1 (by rw [HQ1.out, oS_none]), HV.out⟩⟩
      | some r =>
        obtain ⟨hr1, hls, _⟩ := HQ2.out (by simp)
        have hr1 : R.1 = xs := by rw [hr1]; simp [oS]
        have hr2 : R.2 = some r := by rw [HQ1.out]; rfl
        have HR1 := Lib.hid hr1
        have HR2 := Lib.hid hr2
        have HLS := Lib.hid hls
        have HX := Lib.hid (own_cellsF HO.out)
        have hxm : xs.length ≤ 20000 := by omega
        have hvb := HV.out.vt.bk.whl.low
        have hrb := HV.out.rs.low
        clear hr1 hr2 hls
        by_cases hof : OfK xs
        · have HOF := Lib.hid hof
          clear hof
          go_wp2_with (first
            | (go_at_call 77; refine (octGoodV rb (some r) _ HV.out.rs).mono ?_; rintro e wq ⟨rfl, rfl⟩)
            | fail)
          refine (bkOf _ Al cl xs _ HX.out (Nat.le_refl _) hxm).mono ?_
          rintro e w5 ⟨hb5, h5⟩
          obtain ⟨bb, v, rfl, hbk, hfr⟩ := (h5.resolve_right (fun h => h.1 HOF.out)).2
          obtain ⟨S, hbk, hrel, hbkk, h32⟩ := hbk
          have hs5 := hb5.size
          have c0 := hbk.whl.cell 0
          have c1 := hbk.whl.cell 1
          have c2 := hbk.whl.cell 2
          have c3 := hbk.whl.cell 3
          have c4 := hbk.whl.cell 4
          have c5 := hbk.whl.cell 5
          have c6 := hbk.whl.cell 6
          have c7 := hbk.whl.cell 7
          have c8 := hbk.whl.cell 8
          simp only [lay0, List.getElem?_toArray, List.getElem?_cons_succ, List.getElem?_cons_zero] at c0 c1 c2 c3 c4 c5 c6 c7 c8
          have hv5 := HV.out.below hb5
          obtain ⟨m, rfl⟩ : ∃ m, p = .map m := by rcases hv5.vt.pu with ⟨rfl, _⟩ | ⟨m, rfl, _⟩ <;> exact ⟨_, rfl⟩
          have hw := hv5.vt.bk.whl
          obtain ⟨A0, k0, e0, _, _, _⟩ := own_slice (hbk.own 0 (by decide))
          rw [e0] at c0
          have E0 := Lib.hid e0
          have fr1 := hw.free 1
          obtain ⟨A1, k1, e1, _, _, _⟩ := own_slice (hbk.own 1 (by decide))
          rw [e1] at c1
          have E1 := Lib.hid e1
          have fr2 := hw.free 2
          obtain ⟨A2, k2, e2, _, _, _⟩ := own_slice (hbk.own 2 (by decide))
          rw [e2] at c2
          have E2 := Lib.hid e2
          have fr3 := hw.free 3
          obtain ⟨A3, k3, e3, _, _, _⟩ := own_slice (hbk.own 3 (by decide))
          rw [e3] at c3
          have E3 := Lib.hid e3
          have fr4 := hw.free 4
          obtain ⟨A4, k4, e4, _, _, _⟩ := own_slice (hbk.own 4 (by decide))
          rw [e4] at c4
          have E4 := Lib.hid e4
          have fr5 := hw.free 5
          obtain ⟨A5, k5, e5, _, _, _⟩ := own_slice (hbk.own 5 (by decide))
          rw [e5] at c5
          have E5 := Lib.hid e5
          have fr6 := hw.free 6
          obtain ⟨A6, k6, e6, _, _, _⟩ := own_slice (hbk.own 6 (by decide))
          rw [e6] at c6
          have E6 := Lib.hid e6
          have fr7 := hw.free 7
          obtain ⟨A7, k7, e7, _, _, _⟩ := own_slice (hbk.own 7 (by decide))
          rw [e7] at c7
          have E7 := Lib.hid e7
          have fr8 := hw.free 8
          have fr9 := hw.free 9
          have v1 := hw.cell 1
          have v2 := hw.cell 2
          have v3 := hw.cell 3
          have v4 := hw.cell 4
          have v5 := hw.cell 5
          have v6 := hw.cell 6
          have v7 := hw.cell 7
          have v8 := hw.cell 8
          have v9 := hw.cell 9
          simp only [lay1, List.getElem?_toArray, List.getElem?_cons_succ, List.getElem?_cons_zero] at v1 v2 v3 v4 v5 v6 v7 v8 v9
          have HBK := Lib.hid hbk
          have HFR := Lib.hid hfr
          have HV5 := Lib.hid hv5
          have HW := Lib.hid hw
          have HREL := Lib.hid hrel
          have HBKK := Lib.hid hbkk
          clear h5 hbk hfr hv5 hw hrel hbkk e0 e1 e2 e3 e4 e5 e6 e7
          go_wp2_with fail
          have g0 : Whl w5 vb 80 #[.map m, .slice none 0 0, .slice none 0 0, .slice none 0 0, .slice none 0 0, .slice none 0 0, .slice none 0 0, .slice none 0 0, .slice none 0 0, .int .i64 0, .int .i64 0] := HW.out
          have T0 : Touch (fun k => k = vb) w5 w5 := Touch.refl _ _
          obtain ⟨W1, hW1⟩ : ∃ z, z = w5.setCell ⟨vb, 1, none⟩ (.slice A0 (S 0).length k0) := ⟨_, rfl⟩
          have g1 : Whl W1 vb 80 #[.map m, .slice A0 (S 0).length k0, .slice none 0 0, .slice none 0 0, .slice none 0 0, .slice none 0 0, .slice none 0 0, .slice none 0 0, .slice none 0 0, .int .i64 0, .int .i64 0] := by rw [hW1]; exact Whl.set g0 1 (.slice A0 (S 0).length k0)
          have T1 : Touch (fun k => k = vb) w5 W1 := by rw [hW1]; exact T0.set (fun _ => rfl)
          clear g0 T0
          obtain ⟨W2, hW2⟩ : ∃ z, z = W1.setCell ⟨vb, 2, none⟩ (.slice A1 (S 1).length k1) := ⟨_, rfl⟩
          have g2 : Whl W2 vb 80 #[.map m, .slice A0 (S 0).length k0, .slice A1 (S 1).length k1, .slice none 0 0, .slice none 0 0, .slice none 0 0, .slice none 0 0, .slice none 0 0, .slice none 0 0, .int .i64 0, .int .i64 0] := by rw [hW2]; exact Whl.set g1 2 (.slice A1 (S 1).length k1)
          have T2 : Touch (fun k => k = vb) w5 W2 := by rw [hW2]; exact T1.set (fun _ => rfl)
          clear g1 T1
          obtain ⟨W3, hW3⟩ : ∃ z, z = W2.setCell ⟨vb, 3, none⟩ (.slice A2 (S 2).length k2) := ⟨_, rfl⟩
          have g3 : Whl W3 vb 80 #[.map m, .slice A0 (S 0).length k0, .slice A1 (S 1).length k1, .slice A2 (S 2).length k2, .slice none 0 0, .slice none 0 0, .slice none 0 0, .slice none 0 0, .slice none 0 0, .int .i64 0, .int .i64 0] := by rw [hW3]; exact Whl.set g2 3 (.slice A2 (S 2).length k2)
          have T3 : Touch (fun k => k = vb) w5 W3 := by rw [hW3]; exact T2.set (fun _ => rfl)
          clear g2 T2
          obtain ⟨W4, hW4⟩ : ∃ z, z = W3.setCell ⟨vb, 4, none⟩ (.slice A3 (S 3).length k3) := ⟨_, rfl⟩
          have g4 : Whl W4 vb 80 #[.map m, .slice A0 (S 0).length k0, .slice A1 (S 1).length k1, .slice A2 (S 2).length k2, .slice A3 (S 3).length k3, .slice none 0 0, .slice none 0 0, .slice none 0 0, .slice none 0 0, .int .i64 0, .int .i64 0] := by rw [hW4]; exact Whl.set g3 4 (.slice A3 (S 3).length k3)
          have T4 : Touch (fun k => k = vb) w5 W4 := by rw [hW4]; exact T3.set (fun _ => rfl)
          clear g3 T3
          obtain ⟨W5, hW5⟩ : ∃ z, z = W4.setCell ⟨vb, 5, none⟩ (.slice A4 (S 4).length k4) := ⟨_, rfl⟩
          have g5 : Whl W5 vb 80 #[.map m, .slice A0 (S 0).length k0, .slice A1 (S 1).length k1, .slice A2 (S 2).length k2, .slice A3 (S 3).length k3, .slice A4 (S 4).length k4, .slice none 0 0, .slice none 0 0, .slice none 0 0, .int .i64 0, .int .i64 0] := by rw [hW5]; exact Whl.set g4 5 (.slice A4 (S 4).length k4)
          have T5 : Touch (fun k => k = vb) w5 W5 := by rw [hW5]; exact T4.set (fun _ => rfl)
          clear g4 T4
          obtain ⟨W6, hW6⟩ : ∃ z, z = W5.setCell ⟨vb, 6, none⟩ (.slice A5 (S 5).length k5) := ⟨_, rfl⟩
          have g6 : Whl W6 vb 80 #[.map m, .slice A0 (S 0).length k0, .slice A1 (S 1).length k1, .slice A2 (S 2).length k2, .slice A3 (S 3).length k3, .slice A4 (S 4).length k4, .slice A5 (S 5).length k5, .slice none 0 0, .slice none 0 0, .int .i64 0, .int .i64 0] := by rw [hW6]; exact Whl.set g5 6 (.slice A5 (S 5).length k5)
          have T6 : Touch (fun k => k = vb) w5 W6 := by rw [hW6]; exact T5.set (fun _ => rfl)
          clear g5 T5
          obtain ⟨W7, hW7⟩ : ∃ z, z = W6.setCell ⟨vb, 7, none⟩ (.slice A6 (S 6).length k6) := ⟨_, rfl⟩
          have g7 : Whl W7 vb 80 #[.map m, .slice A0 (S 0).length k0, .slice A1 (S 1).length k1, .slice A2 (S 2).length k2, .slice A3 (S 3).length k3, .slice A4 (S 4).length k4, .slice A5 (S 5).length k5, .slice A6 (S 6).length k6, .slice none 0 0, .int .i64 0, .int .i64 0] := by rw [hW7]; exact Whl.set g6 7 (.slice A6 (S 6).length k6)
          have T7 : Touch (fun k => k = vb) w5 W7 := by rw [hW7]; exact T6.set (fun _ => rfl)
          clear g6 T6
          obtain ⟨W8, hW8⟩ : ∃ z, z = W7.setCell ⟨vb, 8, none⟩ (.slice A7 (S 7).length k7) := ⟨_, rfl⟩
          have g8 : Whl W8 vb 80 #[.map m, .slice A0 (S 0).length k0, .slice A1 (S 1).length k1, .slice A2 (S 2).length k2, .slice A3 (S 3).length k3, .slice A4 (S 4).length k4, .slice A5 (S 5).length k5, .slice A6 (S 6).length k6, .slice A7 (S 7).length k7, .int .i64 0, .int .i64 0] := by rw [hW8]; exact Whl.set g7 8 (.slice A7 (S 7).length k7)
          have T8 : Touch (fun k => k = vb) w5 W8 := by rw [hW8]; exact T7.set (fun _ => rfl)
          clear g7 T7
          obtain ⟨W9, hW9⟩ : ∃ z, z = W8.setCell ⟨vb, 9, none⟩ (.int .i64 (lastOf xs)) := ⟨_, rfl⟩
          have g9 : Whl W9 vb 80 #[.map m, .slice A0 (S 0).length k0, .slice A1 (S 1).length k1, .slice A2 (S 2).length k2, .slice A3 (S 3).length k3, .slice A4 (S 4).length k4, .slice A5 (S 5).length k5, .slice A6 (S 6).length k6, .slice A7 (S 7).length k7, .int .i64 (lastOf xs), .int .i64 0] := by rw [hW9]; exact Whl.set g8 9 (.int .i64 (lastOf xs))
          have T9 : Touch (fun k => k = vb) w5 W9 := by rw [hW9]; exact T8.set (fun _ => rfl)
          clear g8 T8
          rw [← hW1, ← hW2, ← hW3, ← hW4, ← hW5, ← hW6, ← hW7, ← hW8, ← hW9]
          clear hW1 hW2 hW3 hW4 hW5 hW6 hW7 hW8 hW9
          have hX : Whl W9 vb 80 ((lay1 (.map m) (.int .i64 0)).C v (lastOf xs)) := by
            simp only [lay1, E0.out, E1.out, E2.out, E3.out, E4.out, E5.out, E6.out, E7.out]
            exact g9
          obtain ⟨W, hW⟩ : ∃ z, z = W9 := ⟨_, rfl⟩
          rw [← hW] at T9 hX ⊢
          have hT := T9
          clear hW g9 T9
          go_wp2_with fail
          have hlows := HV.out.vt.pu.lows
          have hvl := HV.out.vt.bk.whl.low
          have hne := HV5.out.vt.ne
          have hvt : VtH W vb (.map m) v S l (lastOf xs) 0 := by
            refine ⟨⟨hX, fun i hi => hT.own (HBK.out.own i hi) (fun g hg e => ?_), fun i hi e => ?_, HBK.out.apart⟩, HV5.out.vt.pu.keep hT (fun x hx e => hne (by rw [hx, e])), HV5.out.vt.ok, hne, fun i hi x hx e => ?_⟩
            · have := HFR.out g (.inr ⟨i, hi, hg⟩)
              have e2 : g = vb := e
              omega
            · have := HFR.out vb (.inr ⟨i, hi, e⟩); omega
            · have h1 := HFR.out x (.inr ⟨i, hi, hx⟩)
              have h2 := hlows x e
              omega
          have hrs : RS W rb (some r) := HV5.out.rs.touchV hT (fun k hk => by
            have e2 : k = vb := hk
            subst e2
            exact ⟨by have := HV5.out.lt; omega, HV5.out.novb⟩)
          have hlt := HV5.out.lt
          have hlw := HV5.out.low
          refine bodyPost_ret (v := .int .i64 lst) (by simp [results, Tryz.results33, go_sem]) rfl ⟨lst, rfl, .inr ⟨by rw [HR2.out]; simp, by rw [HR1.out]; exact HOF.out, by rw [HR1.out]; exact HLS.out, S, v, by rw [HLS.out]; exact hvt, by rw [HR1.out]; exact HREL.out, by rw [HR1.out, HLS.out]; exact HBKK.out, by rw [HR2.out]; exact hrs, fun k hk => ?_, HV5.out.bel.trans (hT.below HV5.out.bel.size (fun k hk => by have e2 : k = vb := hk; omega))⟩⟩
          rcases hk with (rfl | ⟨i, hi, e⟩) | e
          · omega
          · have := HFR.out k (.inr ⟨i, hi, e⟩)
            have := HV.out.bel.size
            omega
          · have := HV5.out.mp k e
            omega
        · have HOF := Lib.hid hof
          clear hof
          go_wp2_with (first
            | (go_at_call 77; refine (octGoodV rb (some r) _ HV.out.rs).mono ?_; rintro e wq ⟨rfl, rfl⟩)
            | (go_at_call 40; refine (bkOf _ Al cl xs _ HX.out (Nat.le_refl _) hxm).mono ?_; rintro e w5 ⟨hb5, h5⟩; obtain ⟨_, rfl⟩ := h5.resolve_left (fun h => HOF.out h.1); have HV5 := Lib.hid (HV.out.below hb5); clear hb5 h5)
            | (go_at_call 79; refine (octBadV rb (some r) _ HV5.out.rs).mono ?_; rintro e w6 ⟨rfl, hrs, ht⟩; have HV6 := Lib.hid (HV5.out.read ht hrs); clear hrs ht)
            | fail)
          refine bodyPost_ret (v := .int .i64 lst) (by simp [results, Tryz.results33, go_sem]) rfl ⟨lst, rfl, .inl ⟨fun hc => HOF.out (by rw [← HR1.out]; exact hc.2), HV6.out⟩⟩
    | succ k =>
      have q0 : (0 : Int) < ((k + 1 : Nat) : Int) := by omega
      cases t with
      | none =>
        go_wp2_with (first
          | (go_at_call 77; refine (octGoodV rb none _ HV.out.rs).mono ?_; rintro e wq ⟨rfl, rfl⟩)
          | fail)
        refine bodyPost_ret (v := .int .i64 lst) (by simp [results, Tryz.results33, go_sem]) rfl ⟨lst, rfl, .inl ⟨fun hc => hc.1 (by rw [HQ1.out, oS_none]), HV.out⟩⟩
      | some r =>
        have hlr := (HQ2.out (by simp)).2.2
        simp only [Option.getD_some] at hlr
        have X : Whl (wr.alloc (.cells #[.int .i64 0, .string ⟨#[]⟩, .bool false, .int .i64 0, .int .i64 0, .int .i64 0] 38)) wr.heap.size 38 #[.int .i64 0, .string ⟨#[]⟩, .bool false, .int .i64 0, .int .i64 0, .int .i64 0] := Whl.new rfl
        have hv3 := HV.out.alloc (.cells #[.int .i64 0, .string ⟨#[]⟩, .bool false, .int .i64 0, .int .i64 0, .int .i64 0] 38)
        have F : Touch (fun k => k = rb) wr (wr.alloc (.cells #[.int .i64 0, .string ⟨#[]⟩, .bool false, .int .i64 0, .int .i64 0, .int .i64 0] 38)) := (Touch.refl _ _).alloc _
        obtain ⟨ob, hob⟩ : ∃ z, z = wr.heap.size := ⟨_, rfl⟩
        have hnm : mb p ≠ some ob := fun e => by have := HPL.out _ e; omega
        rw [← hob] at X
        have HV3 := Lib.hid hv3
        have hrl : rb < ob := by omega
        clear hv3
        go_wp2_with (first
          | (go_at_call 77; refine (octGoodV rb (some r) _ HV.out.rs).mono ?_; rintro e wq ⟨rfl, rfl⟩)
          | fail)
        rw [← hob]
        have hob3 : wr.heap.size ≤ ob := by omega
        clear hob
        generalize (wr.alloc (.cells #[.int .i64 0, .string ⟨#[]⟩, .bool false, .int .i64 0, .int .i64 0, .int .i64 0] 38)) = x0 at *
        refine (octNxT rb (some r) _ HV3.out.rs).mono ?_
        rintro e y0 ⟨rfl, hrs, ht⟩
        have hw0 := HV3.out.read ht hrs
        replace X := X.tch ht (by omega)
        replace F := F.trans ht.touch (D := fun k => k = rb) (fun n _ e => e)
        obtain ⟨n0, hn0⟩ : ∃ z : Int, z = ((nx (some r)).1 : Int) := ⟨_, rfl⟩
        obtain ⟨t1, ht1⟩ : ∃ z, z = (nx (some r)).2 := ⟨_, rfl⟩
        rw [← hn0]
        rw [← ht1] at hw0
        have HN0 := Lib.hid hn0
        have HT1 := Lib.hid ht1
        have ck := X.cell 0
        have fk := X.free 0
        simp only [List.getElem?_toArray, List.getElem?_cons_succ, List.getElem?_cons_zero] at ck
        have XN : Whl (y0.setCell ⟨ob, 0, none⟩ (.int .i64 n0)) ob 38 #[.int .i64 n0, .string ⟨#[]⟩, .bool false, .int .i64 0, .int .i64 0, .int .i64 0] := Whl.set X 0 (.int .i64 n0)
        have FN : Touch (fun k => k = rb) wr (y0.setCell ⟨ob, 0, none⟩ (.int .i64 n0)) := F.set (fun hlt => by simp only at hlt; omega)
        have HV4 := Lib.hid (hw0.far (i := 0) X (noU8_od _ _ _ _ _ _) (by omega) hnm (.int .i64 n0))
        clear hrs ht hn0 ht1 hw0 HV3 X F
        go_wp2_with fail
        generalize (y0.setCell ⟨ob, 0, none⟩ (.int .i64 n0)) = x1 at *
        have X := XN
        have F := FN
        clear ck fk XN FN
        refine (octNbT rb t1 _ HV4.out.rs).mono ?_
        rintro e y1 ⟨v1, rfl, hown1, hrs, ht⟩
        have hw1 := HV4.out.read ht hrs
        replace X := X.tch ht (by omega)
        replace F := F.trans ht.touch (D := fun k => k = rb) (fun n _ e => e)
        have cv := conv_own hown1
        obtain ⟨sw, hsw⟩ : ∃ z : ByteArray, z = strU (nb t1).1 := ⟨_, rfl⟩
        obtain ⟨t2, ht2⟩ : ∃ z, z = (nb t1).2 := ⟨_, rfl⟩
        rw [← hsw] at cv
        rw [← ht2] at hw1
        have HSW := Lib.hid hsw
        have HT2 := Lib.hid ht2
        have ck := X.cell 1
        have fk := X.free 1
        simp only [List.getElem?_toArray, List.getElem?_cons_succ, List.getElem?_cons_zero] at ck
        have X1 : Whl (y1.setCell ⟨ob, 1, none⟩ (.string sw)) ob 38 #[.int .i64 n0, .string sw, .bool false, .int .i64 0, .int .i64 0, .int .i64 0] := Whl.set X 1 (.string sw)
        have F1 : Touch (fun k => k = rb) wr (y1.setCell ⟨ob, 1, none⟩ (.string sw)) := F.set (fun hlt => by simp only at hlt; omega)
        have hv5 := hw1.far (i := 1) X (noU8_od _ _ _ _ _ _) (by omega) hnm (.string sw)
        clear hown1 hrs ht hsw ht2 hw1 HV4 X F
        obtain ⟨bb, hbb⟩ : ∃ z, z = y1.heap.size := ⟨_, rfl⟩
        have hbs : bb = (y1.setCell ⟨ob, 1, none⟩ (.string sw)).heap.size := by rw [hbb]; simp [World.setCell]
        have hob2 : ob < bb := by rw [hbs]; exact X1.low
        obtain ⟨W5, hW5⟩ : ∃ z, z = (y1.setCell ⟨ob, 1, none⟩ (.string sw)).alloc (.cells #[.int .i64 0] 3) := ⟨_, rfl⟩
        obtain ⟨pb, hpb⟩ : ∃ z, z = W5.heap.size := ⟨_, rfl⟩
        have hpb2 : pb = bb + 1 := by rw [hpb, hW5, hbb]; simp [World.setCell]
        have BX : Whl W5 bb 3 #[.int .i64 0] := by
          rw [hW5]
          exact Whl.new hbs
        have OX : Whl W5 ob 38 #[.int .i64 n0, .string sw, .bool false, .int .i64 0, .int .i64 0, .int .i64 0] := by
          rw [hW5]
          exact X1.alloc _
        have FX : Touch (fun k => k = rb) wr W5 := by
          rw [hW5]
          exact F1.alloc _
        have hnb : mb p ≠ some bb := fun e => by have := HPL.out _ e; omega
        have hv5b : RV w0 W5 vb rb p l t2 := by
          rw [hW5]
          exact hv5.alloc _
        have PX : Whl (W5.alloc (.cells #[.pointer (some ⟨bb, 0, none⟩), .pointer (some ⟨ob, 3, none⟩), .pointer (some ⟨ob, 4, none⟩), .pointer (some ⟨ob, 5, none⟩)] 141)) pb 141 #[.pointer (some ⟨bb, 0, none⟩), .pointer (some ⟨ob, 3, none⟩), .pointer (some ⟨ob, 4, none⟩), .pointer (some ⟨ob, 5, none⟩)] := Whl.new hpb
        replace BX := BX.alloc (.cells #[.pointer (some ⟨bb, 0, none⟩), .pointer (some ⟨ob, 3, none⟩), .pointer (some ⟨ob, 4, none⟩), .pointer (some ⟨ob, 5, none⟩)] 141)
        replace OX := OX.alloc (.cells #[.pointer (some ⟨bb, 0, none⟩), .pointer (some ⟨ob, 3, none⟩), .pointer (some ⟨ob, 4, none⟩), .pointer (some ⟨ob, 5, none⟩)] 141)
        replace FX := FX.alloc (.cells #[.pointer (some ⟨bb, 0, none⟩), .pointer (some ⟨ob, 3, none⟩), .pointer (some ⟨ob, 4, none⟩), .pointer (some ⟨ob, 5, none⟩)] 141)
        replace hv5b := hv5b.alloc (.cells #[.pointer (some ⟨bb, 0, none⟩), .pointer (some ⟨ob, 3, none⟩), .pointer (some ⟨ob, 4, none⟩), .pointer (some ⟨ob, 5, none⟩)] 141)
        have HV5 := Lib.hid hv5b
        have hpb3 : y1.heap.size + 1 = pb := by omega
        have HW5 := Lib.hid hW5
        have HP3 := Lib.hid hpb3
        have HBB := Lib.hid hbb
        have hbb3 : wr.heap.size ≤ bb := by omega
        clear X1 F1 hv5 hv5b hW5 hbb hpb hpb3 hbs
        go_wp2_with fail
        rw [← HW5.out, HP3.out, ← HBB.out]
        generalize (W5.alloc (.cells #[.pointer (some ⟨bb, 0, none⟩), .pointer (some ⟨ob, 3, none⟩), .pointer (some ⟨ob, 4, none⟩), .pointer (some ⟨ob, 5, none⟩)] 141)) = x2 at *
        clear HW5 HP3 HBB ck fk cv
        refine (octNumsV rb pb bb ob 0 3 4 5 _ _ _ _ _ t2 x2 HV5.out.rs PX BX (noU8_1 _) OX (noU8_od _ _ _ _ _ _) (by simp) (by simp) (by simp) (by simp) (by omega) (by omega) (by omega) (by omega) (by omega) (by omega)).mono ?_
        rintro e x3 ⟨rfl, hrs, BX2, OX2, ht⟩
        have hit : itR t2 = (((nx t2).1 : Int), ((nx (nx t2).2).1 : Int), ((nx (nx (nx t2).2).2).1 : Int), ((nx (nx (nx (nx t2).2).2).2).1 : Int)) := rfl
        obtain ⟨n2, hn2⟩ : ∃ z : Int, z = ((nx t2).1 : Int) := ⟨_, rfl⟩
        obtain ⟨n3, hn3⟩ : ∃ z : Int, z = ((nx (nx t2).2).1 : Int) := ⟨_, rfl⟩
        obtain ⟨n4, hn4⟩ : ∃ z : Int, z = ((nx (nx (nx t2).2).2).1 : Int) := ⟨_, rfl⟩
        obtain ⟨n5, hn5⟩ : ∃ z : Int, z = ((nx (nx (nx (nx t2).2).2).2).1 : Int) := ⟨_, rfl⟩
        obtain ⟨t3, ht3⟩ : ∃ z, z = (nx (nx (nx (nx t2).2).2).2).2 := ⟨_, rfl⟩
        rw [← hn2, ← hn3, ← hn4, ← hn5] at hit
        rw [← ht3] at hrs
        have HIT := Lib.hid hit
        have HT3 : Hid (t3 = itE t2) := Lib.hid ht3
        replace BX : Whl x3 bb 3 #[.int .i64 n2] := by rw [hn2]; exact BX2
        replace OX : Whl x3 ob 38 #[.int .i64 n0, .string sw, .bool false, .int .i64 n3, .int .i64 n4, .int .i64 n5] := by rw [hn3, hn4, hn5]; exact OX2
        have hv6 := HV5.out.touch ht (fun k hk => by
          rcases hk with rfl | rfl | rfl
          · exact .inl rfl
          · exact .inr ⟨by omega, hnb⟩
          · exact .inr ⟨by omega, hnm⟩) hrs
        have FX2 : Touch (fun k => k = rb) wr x3 := FX.trans ht (fun n hn hd => by rcases hd with e | e | e <;> omega)
        have b0 := BX.cell 0
        have ck := OX.cell 2
        have fk := OX.free 2
        simp only [List.getElem?_toArray, List.getElem?_cons_succ, List.getElem?_cons_zero] at b0 ck
        obtain ⟨bu, hbu⟩ : ∃ z : Bool, z = decide (n2 = 1) := ⟨_, rfl⟩
        have HBU := Lib.hid hbu
        have hbe : (n2 == 1) = bu := by rw [hbu]; rfl
        have XN : Whl (x3.setCell ⟨ob, 2, none⟩ (.bool bu)) ob 38 #[.int .i64 n0, .string sw, .bool bu, .int .i64 n3, .int .i64 n4, .int .i64 n5] := Whl.set OX 2 (.bool bu)
        have FN : Touch (fun k => k = rb) wr (x3.setCell ⟨ob, 2, none⟩ (.bool bu)) := FX2.set (fun hlt => by simp only at hlt; omega)
        have B6 : (x3.setCell ⟨ob, 2, none⟩ (.bool bu)).cell? ⟨bb, 0, none⟩ = some (.int .i64 n2) := c_set_other (Or.inl (by simp; omega)) b0
        have HV6 := Lib.hid (hv6.far (i := 2) OX (noU8_od _ _ _ _ _ _) (by omega) hnm (.bool bu))
        clear hn2 hn3 hn4 hn5 ht3 hit hrs BX2 OX2 ht BX OX hv6 FX FX2 PX HV5 hbu
        have hodr : odR (some r) = ⟨n0, sw, bu, n3, n4, n5⟩ := by unfold odR; rw [← HT1.out, ← HT2.out, ← HN0.out, ← HSW.out, HIT.out, ← HBU.out]
        have hode : odE (some r) = t3 := by unfold odE; rw [← HT1.out, ← HT2.out]; exact HT3.out.symm
        have hodf : odF (some r) = n2 := by unfold odF; rw [← HT1.out, ← HT2.out, HIT.out]
        have HODR := Lib.hid hodr
        have HODE := Lib.hid hode
        have HODF := Lib.hid hodf
        clear hodr hode hodf HT1 HT2 HN0 HSW HIT HBU HT3
        by_cases hfl : 1 < n2
        · go_wp2_with (first
            | (go_at_call 79; go_loud (refine (octBadV rb t3 _ HV6.out.rs).mono ?_; rintro e x5 ⟨rfl, hrs, ht⟩; have HV7 := Lib.hid (HV6.out.read ht hrs); have X5 := XN.tch ht (show ob ≠ rb by omega); have F5 := FN.trans ht.touch (D := fun k => k = rb) (fun n _ e => e); clear hrs ht; have e0 := X5.cell 0; have e1 := X5.cell 1; have e2 := X5.cell 2; have e3 := X5.cell 3; have e4 := X5.cell 4; have e5 := X5.cell 5; simp only [List.getElem?_toArray, List.getElem?_cons_succ, List.getElem?_cons_zero] at e0 e1 e2 e3 e4 e5; have HEA : Hid ((x5.alloc (.cells #[.int .i64 n0, .string sw, .bool bu, .int .i64 n3, .int .i64 n4, .int .i64 n5] 38)).cell? ⟨ob, 0, none⟩ = some (.int .i64 n0)) := Lib.hid ((X5.alloc (.cells #[.int .i64 n0, .string sw, .bool bu, .int .i64 n3, .int .i64 n4, .int .i64 n5] 38)).cell 0); have HOA := Lib.hid ((F5.alloc (.cells #[.int .i64 n0, .string sw, .bool bu, .int .i64 n3, .int .i64 n4, .int .i64 n5] 38)).own HO.out (fun g hg e => by have := (HO.out.lt g hg).1; have e2 : g = rb := e; omega)); have hbz : x5.heap.size = x5.heap.size := (by simp [World.setCell]); have hco := odC x5 n0 sw bu n3 n4 n5; (try rw [hbz] at hco); have HCO := Lib.hid hco; have hsz5 : wr.heap.size ≤ x5.heap.size := F5.size; have hsz6 : w1.heap.size ≤ (x5.alloc (.cells #[.int .i64 n0, .string sw, .bool bu, .int .i64 n3, .int .i64 n4, .int .i64 n5] 38)).heap.size := Nat.le_trans hsz (Nat.le_trans hsz5 (by simp)); clear hbz hco hsz5))
            | (at_builtin; go_must (refine wpList_append_touch rfl (.tmp 42) (.tmp 44) 57 rfl w1.heap.size 38 i0 (.agg #[.int .i64 0, .string ⟨#[]⟩, .bool false, .int .i64 0, .int .i64 0, .int .i64 0]) 6 56 Tryz.underlying57 hi hz0 hz1 hz2 rfl (by decide) (.slice Al xs.length cl) xs.length (flatO xs) rfl HOA.out (x5.heap.size + 1) (some ⟨x5.heap.size, 0, none⟩) 1 1 (odV ⟨n0, sw, bu, n3, n4, n5⟩) rfl HCO.out (odV_oneC _) (by unfold maxLen; omega) (by omega) hsz6 ?_); intro v8 w8 ho8 ht8 hv8; go_loud (have d0 := ht8.cell HEA.out (fun e => by have := (HO.out.lt _ e).2; omega); have HV9 := Lib.hid ((HV7.out.alloc (.cells #[.int .i64 n0, .string sw, .bool bu, .int .i64 n3, .int .i64 n4, .int .i64 n5] 38)).touch ht8 (fun k hk => .inr ⟨by have := (HO.out.lt k hk).1; omega, fun e => by have := (HO.out.lt k hk).1; have := HPL.out k e; omega⟩) ((HV7.out.alloc (.cells #[.int .i64 n0, .string sw, .bool bu, .int .i64 n3, .int .i64 n4, .int .i64 n5] 38)).rs.below (ht8.below hsz6 (fun k hk => (HO.out.lt k hk).1)) hrl1)); have hsz8 := Nat.le_trans hsz6 ht8.size; obtain ⟨A8, c8, rfl, _, _, _⟩ := own_slice ho8; have HO9 := Lib.hid ho8; clear ho8 ht8 hv8))
            | fail)
          refine ⟨⟨k, none, xs ++ [⟨n0, sw, bu, n3, n4, n5⟩], n0, by go_num, rfl, by omega, HV9.out, by rw [flatO_snoc, List.length_append]; exact HO9.out, by omega, ?_, fun hn => absurd rfl hn, by simp only [List.length_append, List.length_cons, List.length_nil]; omega⟩, by simp [intOf]⟩
          rw [HQ1.out, oS_none, oS, if_neg (fun hc => by have := hc.2.2; rw [HODF.out] at this; omega)]
        · have e0 := XN.cell 0
          have e1 := XN.cell 1
          have e2 := XN.cell 2
          have e3 := XN.cell 3
          have e4 := XN.cell 4
          have e5 := XN.cell 5
          simp only [List.getElem?_toArray, List.getElem?_cons_succ, List.getElem?_cons_zero] at e0 e1 e2 e3 e4 e5
          have HEA : Hid (((x3.setCell ⟨ob, 2, none⟩ (.bool bu)).alloc (.cells #[.int .i64 n0, .string sw, .bool bu, .int .i64 n3, .int .i64 n4, .int .i64 n5] 38)).cell? ⟨ob, 0, none⟩ = some (.int .i64 n0)) := Lib.hid ((XN.alloc (.cells #[.int .i64 n0, .string sw, .bool bu, .int .i64 n3, .int .i64 n4, .int .i64 n5] 38)).cell 0)
          have HOA := Lib.hid ((FN.alloc (.cells #[.int .i64 n0, .string sw, .bool bu, .int .i64 n3, .int .i64 n4, .int .i64 n5] 38)).own HO.out (fun g hg e => by have := (HO.out.lt g hg).1; have e2 : g = rb := e; omega))
          have hbz : (x3.setCell ⟨ob, 2, none⟩ (.bool bu)).heap.size = x3.heap.size := (by simp [World.setCell])
          have hco := odC (x3.setCell ⟨ob, 2, none⟩ (.bool bu)) n0 sw bu n3 n4 n5
          (try rw [hbz] at hco)
          have HCO := Lib.hid hco
          have hsz5 : wr.heap.size ≤ (x3.setCell ⟨ob, 2, none⟩ (.bool bu)).heap.size := FN.size
          have hsz6 : w1.heap.size ≤ ((x3.setCell ⟨ob, 2, none⟩ (.bool bu)).alloc (.cells #[.int .i64 n0, .string sw, .bool bu, .int .i64 n3, .int .i64 n4, .int .i64 n5] 38)).heap.size := Nat.le_trans hsz (Nat.le_trans hsz5 (by simp))
          clear hbz hco hsz5
          go_wp2_with (first
            | (at_builtin; go_must (refine wpList_append_touch rfl (.tmp 42) (.tmp 44) 57 rfl w1.heap.size 38 i0 (.agg #[.int .i64 0, .string ⟨#[]⟩, .bool false, .int .i64 0, .int .i64 0, .int .i64 0]) 6 56 Tryz.underlying57 hi hz0 hz1 hz2 rfl (by decide) (.slice Al xs.length cl) xs.length (flatO xs) rfl HOA.out (x3.heap.size + 1) (some ⟨x3.heap.size, 0, none⟩) 1 1 (odV ⟨n0, sw, bu, n3, n4, n5⟩) rfl HCO.out (odV_oneC _) (by unfold maxLen; omega) (by omega) hsz6 ?_); intro v8 w8 ho8 ht8 hv8; go_loud (have d0 := ht8.cell HEA.out (fun e => by have := (HO.out.lt _ e).2; omega); have HV9 := Lib.hid ((HV6.out.alloc (.cells #[.int .i64 n0, .string sw, .bool bu, .int .i64 n3, .int .i64 n4, .int .i64 n5] 38)).touch ht8 (fun k hk => .inr ⟨by have := (HO.out.lt k hk).1; omega, fun e => by have := (HO.out.lt k hk).1; have := HPL.out k e; omega⟩) ((HV6.out.alloc (.cells #[.int .i64 n0, .string sw, .bool bu, .int .i64 n3, .int .i64 n4, .int .i64 n5] 38)).rs.below (ht8.below hsz6 (fun k hk => (HO.out.lt k hk).1)) hrl1)); have hsz8 := Nat.le_trans hsz6 ht8.size; obtain ⟨A8, c8, rfl, _, _, _⟩ := own_slice ho8; have HO9 := Lib.hid ho8; clear ho8 ht8 hv8))
            | fail)
          refine ⟨⟨k, t3, xs ++ [⟨n0, sw, bu, n3, n4, n5⟩], n0, by go_num, rfl, by omega, HV9.out, by rw [flatO_snoc, List.length_append]; exact HO9.out, by omega, ?_, fun hn => ?_, by simp only [List.length_append, List.length_cons, List.length_nil]; omega⟩, by simp [intOf]⟩
          · rw [HQ1.out]
            by_cases hn : t3 = none
            · rw [hn, oS_none, oS, if_neg (fun hc => hc.2.1 (by rw [HODE.out]; exact hn))]
            · rw [oS, if_pos ⟨by simp, by rw [HODE.out]; exact hn, by rw [HODF.out]; omega⟩, HODE.out]
          · obtain ⟨h1, h2, h3⟩ := HQ2.out (by simp)
            have h4 := odE_ne (s := some r) (by rw [HODE.out]; exact hn)
            rw [HODE.out] at h4
            simp only [Option.getD_some] at h3 h4
            refine ⟨?_, (lastOf_snoc xs ⟨n0, sw, bu, n3, n4, n5⟩).symm, by simp only [List.length_append, List.length_cons, List.length_nil]; omega⟩
            rw [h1, oS, if_pos ⟨by simp, by rw [HODE.out]; exact hn, by rw [HODF.out]; omega⟩, HODE.out, HODR.out]
            simp
end Go.Proofs.YtdlbiobjnohfbaaGreat
