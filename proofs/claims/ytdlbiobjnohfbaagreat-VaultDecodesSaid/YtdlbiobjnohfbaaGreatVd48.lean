/- The document's Decode. -/
import Derived.Test.YtdlbiobjnohfbaaGreatVd43
import Derived.Test.YtdlbiobjnohfbaaGreatVd46
import Derived.Test.YtdlbiobjnohfbaaGreatVd47
namespace Go.Proofs.YtdlbiobjnohfbaaGreat
open Go.RowKit Go.ChangeMaps Go.MapKept
set_option linter.unusedVariables false
set_option linter.unusedSimpArgs false
/-- a Reader about a row as it is -/
theorem RS.newD {w : World} {A : Option Addr} {c : Nat} {xs : List Nat} (hx : Cells w w.heap.size A xs.length c 1 (flatU xs)) (hc : xs.length ≤ c) (hm : c ≤ maxLen) (h256 : ∀ x ∈ xs, x < 256) (hn : xs.length ≤ 100000) :
    RS (w.alloc (.cells #[.slice A xs.length c, .bool false] 111)) w.heap.size (some xs) := by
  have h : Whl (w.alloc (.cells #[.slice A xs.length c, .bool false] 111)) w.heap.size 111 #[.slice A xs.length c, .bool false] := Whl.new rfl
  exact ⟨⟨⟨A, c, h.cell 0, hc, hm, cells_keep hx ((Below.refl _ _).alloc (Nat.le_refl _) _) (Nat.le_refl _)⟩, h.cell 1, fun j => h.free j, h.low⟩, hn, h256⟩
theorem noU8_vd (a : Value) (x : Nat) (n : Int) (h : ∀ z : Int, a ≠ .int .u8 z) : noU8 #[a, .pointer (some ⟨x, 0, none⟩), .int .i64 n] := by
  intro i z e
  match i with
  | 0 => simp only [List.getElem?_toArray, List.getElem?_cons_zero, Option.some.injEq] at e; exact h z e
  | 1 => cases e
  | 2 => cases e
  | n + 3 => simp at e
set_option maxHeartbeats 16000000 in
set_option maxRecDepth 10000 in
theorem refVDecode (A : Option Addr) (c : Nat) (xs : List Nat) (w : World) (hx : Cells w w.heap.size A xs.length c 1 (flatU xs)) (hc : xs.length ≤ c) (hm : c ≤ maxLen) (h256 : ∀ x ∈ xs, x < 256) (hn : xs.length ≤ 100000) :
    Calls Tryz.prog 14 #[.slice A xs.length c] w fun e w' => Below w.heap.size w w' ∧ ((vOk xs ∧ ∃ (d x : Nat) (u u2 : Value), e = .returned (.tuple #[.pointer (some ⟨d, 0, none⟩), .int .i64 0]) ∧ RvH w' w.heap.size d x u u2 (vR xs).1 (vO xs).1 (vN xs - 1) (vN xs)) ∨ (¬ vOk xs ∧ e = .returned (.tuple #[.pointer none, .int .i64 3]))) := by
  obtain ⟨i0, hi, hz0, hz1, hz2⟩ := info_parts Tryz.infoOrder
  have hrs := RS.newD hx hc hm h256 hn
  have HB1 : Hid (Below w.heap.size w (w.alloc (.cells #[.slice A xs.length c, .bool false] 111))) := Lib.hid ((Below.refl _ _).alloc (Nat.le_refl _) _)
  have HS1 := Lib.hid hrs
  clear hx hc hm h256 hrs
  go_enter Tryz.func14, Tryz.ntmps14
  go_wp2_with fail
  have hsz1 := HB1.out.size
  have hrl1 := HS1.out.low
  generalize (w.alloc (.cells #[.slice A xs.length c, .bool false] 111)) = w1 at *
  obtain ⟨rb, hrb⟩ : ∃ z, z = w.heap.size := ⟨_, rfl⟩
  rw [← hrb] at HS1 hrl1 ⊢
  have hrw : w.heap.size ≤ rb := by omega
  clear hrb
  refine (refNew _).mono ?_
  rintro e w2 ⟨rfl, hv2, hb2⟩
  have hs2 := hb2.size
  have HS2 := Lib.hid (HS1.out.fresh hb2)
  have HB2 := Lib.hid (HB1.out.trans (hb2.mono hsz1))
  obtain ⟨x0, hx0⟩ : ∃ z, z = w1.heap.size := ⟨_, rfl⟩
  rw [← hx0] at hv2 ⊢
  have hrx : rb < x0 := by omega
  have hd2 := hv2.whl.low
  have DW2 := hv2.whl
  have HV2 := Lib.hid hv2
  clear hv2 hb2 HS1 HB1 hx0
  go_wp2_with fail
  refine (refPurses rb (some xs) _ HS2.out).mono ?_
  rintro e w3 ⟨v3, l3, rfl, hown3, hrs3, hl3, ht3⟩
  have hs3 := ht3.size
  have DW3 := DW2.tch ht3 (by omega)
  obtain ⟨A3, c3, rfl, _, _, _⟩ := own_slice hown3
  have HO3 := Lib.hid hown3
  have HL3 : Hid ((vR xs).2 ≠ none → l3 = (vR xs).1) := Lib.hid hl3
  have hrs3 : RS w3 rb (vR xs).2 := hrs3
  have hB3 : Below w.heap.size w w3 := HB2.out.trans (ht3.below hrw HB2.out.size)
  have k0 := DW3.cell 0
  have f0 := DW3.free 0
  simp only [List.getElem?_toArray, List.getElem?_cons_succ, List.getElem?_cons_zero] at k0
  have DW4 : Whl (w3.setCell ⟨x0 + 1, 0, none⟩ (.slice A3 l3.length c3)) (x0 + 1) 65 #[.slice A3 l3.length c3, .pointer (some ⟨x0, 0, none⟩), .int .i64 1] := Whl.set DW3 0 _
  have HS4 : Hid (RS (w3.setCell ⟨x0 + 1, 0, none⟩ (.slice A3 l3.length c3)) rb (vR xs).2) := Lib.hid (hrs3.setBlk (i := 0) DW3 (noU8_vd _ _ _ (fun z e => by cases e)) (by omega) _)
  have HO4 : Hid ((w3.setCell ⟨x0 + 1, 0, none⟩ (.slice A3 l3.length c3)).ownsRow w2.heap.size 85 5 (.slice A3 l3.length c3) l3.length (flatH l3)) := Lib.hid (own_set_ne HO3.out (fun g hg => by have := (HO3.out.lt g hg).1; simp only; omega))
  have HB4 : Hid (Below w.heap.size w (w3.setCell ⟨x0 + 1, 0, none⟩ (.slice A3 l3.length c3))) := Lib.hid (hB3.trans ⟨rfl, rfl, rfl, by simp [World.setCell], fun k hk => Below.heap_setCell _ _ _ _ (by simp; omega)⟩)
  have HZ4 : Hid (w3.heap.size = (w3.setCell ⟨x0 + 1, 0, none⟩ (.slice A3 l3.length c3)).heap.size) := Lib.hid (by simp [World.setCell])
  clear hown3 hrs3 hl3 ht3 DW3 hB3 HO3 HS2 HB2 DW2 HV2
  go_wp2_with fail
  have hs4 := HZ4.out
  generalize (w3.setCell ⟨x0 + 1, 0, none⟩ (.slice A3 l3.length c3)) = w4 at *
  have HD4 := Lib.hid DW4
  clear k0 f0 DW4 HZ4
  refine (rfNxT rb (vR xs).2 _ HS4.out).mono ?_
  rintro e w5 ⟨rfl, hrs5, ht5⟩
  have hs5 := ht5.size
  have hnl := nx_le (vR xs).2
  have HD5 := Lib.hid (HD4.out.tch ht5 (by omega))
  have HO5 := Lib.hid (ht5.touch.own HO4.out (fun g hg e => by have := (HO4.out.lt g hg).1; have e2 : g = rb := e; omega))
  have HB5 := Lib.hid (HB4.out.trans (ht5.below hrw HB4.out.size))
  obtain ⟨R, hR⟩ : ∃ R, R = vO xs := ⟨_, rfl⟩
  obtain ⟨N, hN⟩ : ∃ N, N = (nx (vR xs).2).1 := ⟨_, rfl⟩
  obtain ⟨s1, hs1⟩ : ∃ t, t = (nx (vR xs).2).2 := ⟨_, rfl⟩
  have HR : Hid (R = oS N s1) := Lib.hid (by rw [hR, hN, hs1]; rfl)
  have HRV := Lib.hid hR
  rw [← hN] at hnl ⊢
  rw [← hs1] at hrs5
  have HS5 := Lib.hid hrs5
  have HS1N : Hid (s1 ≠ none → (vR xs).2 ≠ none) := Lib.hid (fun h e => h (by rw [hs1, e]; rfl))
  clear hR hN hs1 hrs5 ht5 HD4 HO4 HS4 HB4
  obtain ⟨M, hM⟩ : ∃ M, M = (s1.getD []).length := ⟨_, rfl⟩
  have hM2 : M ≤ 100000 := by rw [hM]; exact HS5.out.len
  have HM := Lib.hid hM
  clear hM
  go_wp2_with fail
  go_loopw [8, 7] (fun iv lv wr => ∃ (i k : Nat) (t : Rs) (ys : List Od), iv = .int .i64 i ∧ i + k = N ∧ RS wr rb t ∧ wr.ownsRow w5.heap.size 38 6 lv ys.length (flatO ys) ∧ ys.length = i ∧ Touch (fun q => q = rb) w5 wr ∧ (t ≠ none → R.2 = (oS k t).2 ∧ R.1 = ys ++ (oS k t).1 ∧ 6 * ys.length + (t.getD []).length ≤ M ∧ ys.length ≤ 32) ∧ (t = none → R.2 = none ∨ 32 < N) ∧ 6 * ys.length ≤ M + 6) (fun iv _ _ => N - (intOf iv).toNat)
  case atStart => exact ⟨0, N, s1, [], rfl, by omega, HS5.out, World.ownsRow_nil _ _ _ _, rfl, Touch.refl _ _, fun _ => ⟨by rw [HR.out], by rw [HR.out]; rfl, by rw [HM.out]; simp, by simp⟩, fun h => .inl (by rw [HR.out, h, oS_none]), by simp⟩
  case round =>
    obtain ⟨i, k, t, ys, rfl, hik, hrs, hown, hll, htc, hq1, hq2, hxl⟩ := hrel
    subst hll
    have HS := Lib.hid hrs
    have HO := Lib.hid hown
    have HT := Lib.hid htc
    have HQ1 := Lib.hid hq1
    have HQ2 := Lib.hid hq2
    have hsz := htc.size
    obtain ⟨Al, cl, rfl, _, _, _⟩ := own_slice hown
    have e1 : wr.cell? ⟨rb, 1, none⟩ = some (.bool t.isNone) := hrs.rd.flag
    clear hrs hq1 hq2 hown htc HS5 HM
    cases t with
    | none =>
      have e1 : wr.cell? ⟨rb, 1, none⟩ = some (.bool true) := e1
      have hnot : ¬ vOk xs := fun hk => by
        have hne : (vO xs).2 ≠ none := fun e => by have h := hk.1; rw [e] at h; cases h
        rcases HQ2.out rfl with h | h
        · exact hne (by rw [← HRV.out]; exact h)
        · have e2 : vO xs = oS N s1 := by rw [← HRV.out]; exact HR.out
          have h1 := oS_len N s1 (by rw [← e2]; exact hne)
          have h2 := hk.2.1.1
          rw [e2] at h2
          omega
      have HNOT := Lib.hid hnot
      clear hnot
      cases k with
      | zero =>
        have hNl : N = ys.length := by omega
        subst hNl
        go_wp2_with fail
        refine (rfNxT rb none _ HS.out).mono ?_
        rintro e w7 ⟨rfl, hrs7, ht7⟩
        have DW7 := (HD5.out.tou HT.out (show ¬ x0 + 1 = rb by omega)).tch ht7 (by omega)
        have k2 := DW7.cell 2
        have f2 := DW7.free 2
        simp only [List.getElem?_toArray, List.getElem?_cons_succ, List.getElem?_cons_zero] at k2
        have HS8 := Lib.hid ((show RS w7 rb none from hrs7).setBlk (i := 2) DW7 (noU8_vd _ _ _ (fun z e => by cases e)) (by omega) (.int .i64 0))
        have hb8 : Below w.heap.size w w7 := HB5.out.trans ((HT.out.trans ht7.touch (D := fun q => q = rb) (fun n _ e => e)).below HB5.out.size (fun q hq => by have e2 : q = rb := hq; omega))
        have HB8 : Hid (Below w.heap.size w (w7.setCell ⟨x0 + 1, 2, none⟩ (.int .i64 0))) := Lib.hid (hb8.trans ⟨rfl, rfl, rfl, by simp [World.setCell], fun q hq => Below.heap_setCell _ _ _ _ (by simp; omega)⟩)
        clear hrs7 ht7 DW7 hb8
        simp only [nx]
        go_wp2_with fail
        refine (rfAll rb none _ HS8.out).mono ?_
        rintro e w9 ⟨rfl, rfl⟩
        simp only [allOf]
        go_wp2_with fail
        refine bodyPost_ret (v := .tuple #[.pointer none, .int .i64 3]) (by simp [results, Tryz.results14, go_sem]) rfl ⟨HB8.out, .inr ⟨HNOT.out, rfl⟩⟩
      | succ k =>
        have q0 : (ys.length : Int) < (N : Int) := by omega
        go_wp2_with fail
        refine (rfNxT rb none _ HS.out).mono ?_
        rintro e w7 ⟨rfl, hrs7, ht7⟩
        have DW7 := (HD5.out.tou HT.out (show ¬ x0 + 1 = rb by omega)).tch ht7 (by omega)
        have k2 := DW7.cell 2
        have f2 := DW7.free 2
        simp only [List.getElem?_toArray, List.getElem?_cons_succ, List.getElem?_cons_zero] at k2
        have HS8 := Lib.hid ((show RS w7 rb none from hrs7).setBlk (i := 2) DW7 (noU8_vd _ _ _ (fun z e => by cases e)) (by omega) (.int .i64 0))
        have hb8 : Below w.heap.size w w7 := HB5.out.trans ((HT.out.trans ht7.touch (D := fun q => q = rb) (fun n _ e => e)).below HB5.out.size (fun q hq => by have e2 : q = rb := hq; omega))
        have HB8 : Hid (Below w.heap.size w (w7.setCell ⟨x0 + 1, 2, none⟩ (.int .i64 0))) := Lib.hid (hb8.trans ⟨rfl, rfl, rfl, by simp [World.setCell], fun q hq => Below.heap_setCell _ _ _ _ (by simp; omega)⟩)
        clear hrs7 ht7 DW7 hb8
        simp only [nx]
        go_wp2_with fail
        refine (rfAll rb none _ HS8.out).mono ?_
        rintro e w9 ⟨rfl, rfl⟩
        simp only [allOf]
        go_wp2_with fail
        refine bodyPost_ret (v := .tuple #[.pointer none, .int .i64 3]) (by simp [results, Tryz.results14, go_sem]) rfl ⟨HB8.out, .inr ⟨HNOT.out, rfl⟩⟩
    | some r =>
      have e1 : wr.cell? ⟨rb, 1, none⟩ = some (.bool false) := e1
      cases k with
      | zero =>
        have hNl : N = ys.length := by omega
        subst hNl
        obtain ⟨h1, h2, h3, h4⟩ := HQ1.out (by simp)
        have hv2 : (vO xs).2 = some r := by rw [← HRV.out, h1]; rfl
        have hv1 : (vO xs).1 = ys := by rw [← HRV.out, h2]; simp [oS]
        have hne5 : (vR xs).2 ≠ none := vO_ne (by rw [hv2]; simp)
        have hl3 := HL3.out hne5
        have HV1 := Lib.hid hv1
        have HV2 := Lib.hid hv2
        have HL := Lib.hid hl3
        clear h1 h2 h3 hv1 hv2 hne5 hl3 HL3
        go_wp2_with fail
        refine (rfNxT rb (some r) _ HS.out).mono ?_
        rintro e w7 ⟨rfl, hrs7, ht7⟩
        obtain ⟨Q, hQ⟩ : ∃ Q, Q = vN xs := ⟨_, rfl⟩
        have hQ2 : ((nx (some r)).1 : Int) = Q := by rw [hQ]; unfold vN; rw [HV2.out]
        rw [hQ2]
        have hQ0 : 0 ≤ Q := by omega
        have hQ1 : Q ≤ 4611686018427387904 := by have := nx_le (some r); omega
        have HQ := Lib.hid hQ
        have FT := HT.out.trans ht7.touch (D := fun q => q = rb) (fun n _ e => e)
        have DW7 := (HD5.out.tou HT.out (show ¬ x0 + 1 = rb by omega)).tch ht7 (by omega)
        have k2 := DW7.cell 2
        have f2 := DW7.free 2
        simp only [List.getElem?_toArray, List.getElem?_cons_succ, List.getElem?_cons_zero] at k2
        have hs7 := FT.size
        have HS8 := Lib.hid (hrs7.setBlk (i := 2) DW7 (noU8_vd _ _ _ (fun z e => by cases e)) (by omega) (.int .i64 Q))
        have DW8 : Whl (w7.setCell ⟨x0 + 1, 2, none⟩ (.int .i64 Q)) (x0 + 1) 65 #[.slice A3 l3.length c3, .pointer (some ⟨x0, 0, none⟩), .int .i64 Q] := Whl.set DW7 2 _
        have hb7 : Below w.heap.size w w7 := HB5.out.trans (FT.below HB5.out.size (fun q hq => by have e2 : q = rb := hq; omega))
        have HB8 : Hid (Below w.heap.size w (w7.setCell ⟨x0 + 1, 2, none⟩ (.int .i64 Q))) := Lib.hid (hb7.trans ⟨rfl, rfl, rfl, by simp [World.setCell], fun q hq => Below.heap_setCell _ _ _ _ (by simp; omega)⟩)
        have HO8 : Hid ((w7.setCell ⟨x0 + 1, 2, none⟩ (.int .i64 Q)).ownsRow w2.heap.size 85 5 (.slice A3 l3.length c3) l3.length (flatH l3)) := Lib.hid (own_set_ne (FT.own HO5.out (fun g hg e => by have := (HO5.out.lt g hg).1; have e2 : g = rb := e; omega)) (fun g hg => by have := (HO5.out.lt g hg).1; simp only; omega))
        have HY8 : Hid ((w7.setCell ⟨x0 + 1, 2, none⟩ (.int .i64 Q)).ownsRow w5.heap.size 38 6 (.slice Al ys.length cl) ys.length (flatO ys)) := Lib.hid (own_set_ne (ht7.touch.own HO.out (fun g hg e => by have := (HO.out.lt g hg).1; have e2 : g = rb := e; omega)) (fun g hg => by have := (HO.out.lt g hg).1; simp only; omega))
        have HZ8 : Hid (w7.heap.size = (w7.setCell ⟨x0 + 1, 2, none⟩ (.int .i64 Q)).heap.size) := Lib.hid (by simp [World.setCell])
        clear hrs7 ht7 DW7 hb7 FT hQ hQ2 HT HO HO5 HB5
        go_wp2_with fail
        have hs8 := HZ8.out
        generalize (w7.setCell ⟨x0 + 1, 2, none⟩ (.int .i64 Q)) = w8 at *
        have HD8 := Lib.hid DW8
        clear k2 f2 DW8 HZ8
        refine (rfAll rb _ _ HS8.out).mono ?_
        rintro e w9 ⟨rfl, rfl⟩
        cases hall : allOf (nx (some r)).2 with
        | false =>
          have hnot : ¬ vOk xs := fun hk => by have h := hk.1; rw [HV2.out, hall] at h; cases h
          have HNOT := Lib.hid hnot
          clear hnot hall
          go_wp2_with fail
          refine bodyPost_ret (v := .tuple #[.pointer none, .int .i64 3]) (by simp [results, Tryz.results14, go_sem]) rfl ⟨HB8.out, .inr ⟨HNOT.out, rfl⟩⟩
        | true =>
          have HALL := Lib.hid hall
          clear hall
          go_wp2_with fail
          refine (refOf _ Al cl ys _ (own_cellsF HY8.out) (Nat.le_refl _) (by omega)).mono ?_
          rintro e w10 ⟨hb10, h10⟩
          have HB10 := Lib.hid (HB8.out.trans (hb10.mono HB8.out.size))
          have D10 := HD8.out.below hb10 HD8.out.low
          have c0 := D10.cell 0
          have c1 := D10.cell 1
          have c2 := D10.cell 2
          simp only [List.getElem?_toArray, List.getElem?_cons_succ, List.getElem?_cons_zero] at c0 c1 c2
          rcases h10 with ⟨hof, x, u, rfl, hrf⟩ | ⟨hno, rfl⟩
          · have g1 := hrf.blk.cell 1
            simp only [List.getElem?_toArray, List.getElem?_cons_succ, List.getElem?_cons_zero] at g1
            have HRF := Lib.hid hrf
            have HOF := Lib.hid hof
            have HB10' := Lib.hid hb10
            have HD10 := Lib.hid D10
            have hlz : 0 ≤ lastOf ys := (hof.2.bk (Nat.le_refl _)).zero |> fun h => by rw [List.take_length] at h; exact h
            clear hrf hof hb10 D10
            by_cases hok : lastOf ys < Q ∧ Q ≤ 1099511627777
            · obtain ⟨p1, p2⟩ := hok
              have q1 : decide (Q ≤ lastOf ys) = false := decide_eq_false (by omega)
              have q2 : decide (Q < 1) = false := decide_eq_false (by omega)
              have q3 : decide (1099511627777 < Q) = false := decide_eq_false (by omega)
              go_wp2_with fail
              go_quiet (fail)
              have D11 : Whl (w10.drewN nq) (x0 + 1) 65 #[.slice A3 l3.length c3, .pointer (some ⟨x0, 0, none⟩), .int .i64 Q] := HD10.out
              have hb11 : Below w10.heap.size w10 (w10.drewN nq) := b_drewN (Below.refl _ _)
              have B11 := HRF.out.below hb11
              have r11 := row_belowR (row_belowR HO8.out HB10'.out) hb11
              have HB11 := Lib.hid (HB10.out.trans (hb11.mono HB10.out.size))
              have hx8 : w8.heap.size ≤ x := HRF.out.low
              have hvok : vOk xs := ⟨by rw [HV2.out]; exact HALL.out, by rw [HV1.out]; exact HOF.out, by rw [HV1.out, ← HQ.out]; exact p1, by rw [← HQ.out]; exact p2⟩
              have HVOK := Lib.hid hvok
              clear hvok c0 c1 c2 g1 q1 q2 q3 hb11 HD10 HRF HB10 HB10'
              generalize w10.drewN nq = w11 at *
              have k1 := D11.cell 1
              have f1 := D11.free 1
              simp only [List.getElem?_toArray, List.getElem?_cons_succ, List.getElem?_cons_zero] at k1
              have D12 : Whl (w11.setCell ⟨x0 + 1, 1, none⟩ (.pointer (some ⟨x, 0, none⟩))) (x0 + 1) 65 #[.slice A3 l3.length c3, .pointer (some ⟨x, 0, none⟩), .int .i64 Q] := Whl.set D11 1 _
              have hud : ∀ g, u.ownBlock = some g → w8.heap.size ≤ g := fun g hg => (B11.row.lt g hg).1
              have h3d : ∀ g, (Value.slice A3 l3.length c3).ownBlock = some g → w2.heap.size ≤ g ∧ g < w8.heap.size := fun g hg => HO8.out.lt g hg
              have HT12 : Hid (Touch (fun q => q = x0 + 1) w11 (w11.setCell ⟨x0 + 1, 1, none⟩ (.pointer (some ⟨x, 0, none⟩)))) := Lib.hid ((Touch.refl _ _).set (fun _ => rfl))
              have B12 := B11.keep HT12.out (fun q hq e => by rcases hq with rfl | hq; (have e2 : q = x0 + 1 := e; omega); have := hud q hq; have e2 : q = x0 + 1 := e; omega)
              have r12 := HT12.out.own r11 (fun g hg e => by have := h3d g hg; have e2 : g = x0 + 1 := e; omega)
              have HB12 := Lib.hid (HB11.out.trans (HT12.out.below HB11.out.size (fun q hq => by have e2 : q = x0 + 1 := hq; omega)))
              have HDD := Lib.hid D12
              have HBB := Lib.hid B12
              have HRR := Lib.hid r12
              have HUD := Lib.hid hud
              have H3D := Lib.hid h3d
              clear D11 B11 r11 D12 B12 r12 hud h3d HT12 HB11
              go_wp2_with fail
              generalize (w11.setCell ⟨x0 + 1, 1, none⟩ (.pointer (some ⟨x, 0, none⟩))) = w12 at *
              clear k1 f1
              have k1 := HDD.out.cell 1
              have k2 := HDD.out.cell 2
              have k3 := HBB.out.blk.cell 1
              have f3 := HBB.out.blk.free 1
              have hlx := HBB.out.blk.low
              simp only [List.getElem?_toArray, List.getElem?_cons_succ, List.getElem?_cons_zero] at k1 k2 k3
              have hw1 : IntKind.i64.wrap (Q - 1) = Q - 1 := by rw [IntKind.wrap_i64]; omega
              go_still_tail 10, (by kernel_rfl)
              change wpList _ _ _ _ _ w12.drew
              have D13 : Whl w12.drew (x0 + 1) 65 #[.slice A3 l3.length c3, .pointer (some ⟨x, 0, none⟩), .int .i64 Q] := HDD.out
              have hb13 : Below w12.heap.size w12 w12.drew := (Below.refl _ _).drew
              have B13 := HBB.out.below hb13
              have r13 := row_belowR HRR.out hb13
              have HB13 := Lib.hid (HB12.out.trans (hb13.mono HB12.out.size))
              clear k1 k2 k3 f3 hlx hb13
              generalize w12.drew = w13 at *
              have k1 := D13.cell 1
              have k2 := D13.cell 2
              have k3 := B13.blk.cell 1
              have f3 := B13.blk.free 1
              simp only [List.getElem?_toArray, List.getElem?_cons_succ, List.getElem?_cons_zero] at k1 k2 k3
              have D14 := Lib.hid (D13.far (a := ⟨x, 1, none⟩) (v := .int .i64 (Q - 1)) (by simp; omega))
              have B14 := Lib.hid (B13.setlast (Q - 1))
              have r14 := Lib.hid (own_set_ne (a := ⟨x, 1, none⟩) (u := .int .i64 (Q - 1)) r13 (fun g hg => by have := H3D.out g hg; simp only; omega))
              have hw0 := HB13.out.size
              have HB14 := Lib.hid (HB13.out.trans (⟨rfl, rfl, rfl, by simp [World.setCell], fun q hq => Below.heap_setCell _ _ _ _ (by simp; omega)⟩ : Below w.heap.size w13 (w13.setCell ⟨x, 1, none⟩ (.int .i64 (Q - 1)))))
              clear D13 B13 r13 HB13 HDD HBB HRR HB12
              go_wp2_with fail
              refine bodyPost_ret (v := .tuple #[.pointer (some ⟨x0 + 1, 0, none⟩), .int .i64 0]) (by simp [results, Tryz.results14, go_sem]) rfl ⟨HB14.out, .inl ⟨HVOK.out, x0 + 1, x, .slice A3 l3.length c3, u, rfl, ?_⟩⟩
              rw [← HL.out, HV1.out, ← HQ.out]
              have hwb := HB8.out.size
              refine ⟨D14.out, Go.World.ownsRow.mono r14.out (by omega), ⟨B14.out.blk, Go.World.ownsRow.mono B14.out.row hwb, B14.out.apart, by omega⟩, by omega, by omega, fun e => ?_, fun e => ?_, fun e => ?_, fun g hg e => ?_⟩
              · have := H3D.out _ e; omega
              · have := H3D.out _ e; omega
              · have := HUD.out _ e; omega
              · have h1 := H3D.out _ hg
                have h2 := HUD.out _ e
                omega
            · have hnot : ¬ vOk xs := fun hk => hok ⟨by have h := hk.2.2.1; rw [HV1.out, ← HQ.out] at h; exact h, by have h := hk.2.2.2; rw [← HQ.out] at h; exact h⟩
              have HNOT := Lib.hid hnot
              clear hnot
              by_cases q1 : Q ≤ lastOf ys
              · have q1 : decide (Q ≤ lastOf ys) = true := decide_eq_true q1
                clear hok
                go_wp2_with fail
                go_quiet (fail)
                go_wp2_with fail
                refine bodyPost_ret (v := .tuple #[.pointer none, .int .i64 3]) (by simp [results, Tryz.results14, go_sem]) rfl ⟨b_drewN HB10.out, .inr ⟨HNOT.out, rfl⟩⟩
              · have q1 : decide (Q ≤ lastOf ys) = false := decide_eq_false q1
                have q2 : decide (Q < 1) = false := decide_eq_false (by omega)
                have q3 : decide (1099511627777 < Q) = true := decide_eq_true (by omega)
                clear hok
                go_wp2_with fail
                go_quiet (fail)
                go_wp2_with fail
                refine bodyPost_ret (v := .tuple #[.pointer none, .int .i64 3]) (by simp [results, Tryz.results14, go_sem]) rfl ⟨b_drewN HB10.out, .inr ⟨HNOT.out, rfl⟩⟩
          · have hnot : ¬ vOk xs := fun hk => hno (by rw [← HV1.out]; exact hk.2.1)
            have HNOT := Lib.hid hnot
            clear hnot hno hb10 D10
            go_wp2_with fail
            go_quiet (fail)
            go_wp2_with fail
            refine bodyPost_ret (v := .tuple #[.pointer none, .int .i64 3]) (by simp [results, Tryz.results14, go_sem]) rfl ⟨b_drewN HB10.out, .inr ⟨HNOT.out, rfl⟩⟩
      | succ k =>
        have q0 : (ys.length : Int) < (N : Int) := by omega
        obtain ⟨h1, h2, h3, h4⟩ := HQ1.out (by simp)
        simp only [Option.getD_some] at h3
        have HR2 := Lib.hid h1
        have HR1 := Lib.hid h2
        clear h1 h2
        go_wp2_with fail
        refine (rfNxT rb (some r) _ HS.out).mono ?_
        rintro e y0 ⟨rfl, hrs, ht⟩
        have F := (Touch.refl (fun q => q = rb) wr).trans ht.touch (D := fun q => q = rb) (fun n _ e => e)
        obtain ⟨n0, hn0⟩ : ∃ z : Int, z = ((nx (some r)).1 : Int) := ⟨_, rfl⟩
        obtain ⟨t1, ht1⟩ : ∃ z, z = (nx (some r)).2 := ⟨_, rfl⟩
        rw [← hn0]
        rw [← ht1] at hrs
        have HN0 := Lib.hid hn0
        have HT1 := Lib.hid ht1
        have HS1 := Lib.hid hrs
        clear hn0 ht1 hrs ht
        go_wp2_with fail
        refine (rfNb rb t1 _ HS1.out).mono ?_
        rintro e y1 ⟨v1, rfl, hown1, hrs, ht⟩
        replace F := F.trans ht.touch (D := fun q => q = rb) (fun n _ e => e)
        have cv := conv_own hown1
        obtain ⟨sw, hsw⟩ : ∃ z : ByteArray, z = strU (nb t1).1 := ⟨_, rfl⟩
        obtain ⟨t2, ht2⟩ : ∃ z, z = (nb t1).2 := ⟨_, rfl⟩
        rw [← hsw] at cv
        rw [← ht2] at hrs
        have HSW := Lib.hid hsw
        have HT2 := Lib.hid ht2
        have hsy : wr.heap.size ≤ y1.heap.size := F.size
        have X : Whl (y1.alloc (.cells #[.int .i64 n0, .string sw, .bool false, .int .i64 0, .int .i64 0, .int .i64 0] 38)) y1.heap.size 38 #[.int .i64 n0, .string sw, .bool false, .int .i64 0, .int .i64 0, .int .i64 0] := Whl.new rfl
        have HS2 := Lib.hid (hrs.alloc (.cells #[.int .i64 n0, .string sw, .bool false, .int .i64 0, .int .i64 0, .int .i64 0] 38))
        replace F := F.alloc (.cells #[.int .i64 n0, .string sw, .bool false, .int .i64 0, .int .i64 0, .int .i64 0] 38)
        obtain ⟨ob, hob⟩ : ∃ z, z = y1.heap.size := ⟨_, rfl⟩
        have HOB := Lib.hid hob
        have hwo : wr.heap.size ≤ ob := by omega
        have hro : rb < ob := by omega
        rw [← hob] at X
        clear hown1 hsw ht2 hrs ht HS1 hob
        go_wp2_with fail
        rw [← HOB.out]
        clear cv
        generalize (y1.alloc (.cells #[.int .i64 n0, .string sw, .bool false, .int .i64 0, .int .i64 0, .int .i64 0] 38)) = x1 at *
        clear HOB
        refine (rfNxT rb t2 _ HS2.out).mono ?_
        rintro e y2 ⟨rfl, hrs, ht⟩
        replace X := X.tch ht (by omega)
        replace F := F.trans ht.touch (D := fun q => q = rb) (fun n _ e => e)
        obtain ⟨n2, hn2⟩ : ∃ z : Int, z = ((nx t2).1 : Int) := ⟨_, rfl⟩
        obtain ⟨t3, ht3⟩ : ∃ z, z = (nx t2).2 := ⟨_, rfl⟩
        rw [← hn2]
        rw [← ht3] at hrs
        have HN2 := Lib.hid hn2
        have HT3 := Lib.hid ht3
        obtain ⟨bu, hbu⟩ : ∃ z : Bool, z = decide (n2 = 1) := ⟨_, rfl⟩
        have HBU := Lib.hid hbu
        have hbe : (n2 == 1) = bu := by rw [hbu]; rfl
        have ck := X.cell 2
        have fk := X.free 2
        simp only [List.getElem?_toArray, List.getElem?_cons_succ, List.getElem?_cons_zero] at ck
        have XN : Whl (y2.setCell ⟨ob, 2, none⟩ (.bool bu)) ob 38 #[.int .i64 n0, .string sw, .bool bu, .int .i64 0, .int .i64 0, .int .i64 0] := Whl.set X 2 (.bool bu)
        have FN : Touch (fun q => q = rb) wr (y2.setCell ⟨ob, 2, none⟩ (.bool bu)) := F.set (fun hlt => by simp only at hlt; omega)
        have HS3 := Lib.hid (hrs.setBlk (i := 2) X (noU8_od _ _ _ _ _ _) (by omega) (.bool bu))
        clear hn2 ht3 hrs ht HS2 hbu X F
        go_wp2_with fail
        generalize (y2.setCell ⟨ob, 2, none⟩ (.bool bu)) = x2 at *
        have X := XN
        have F := FN
        clear ck fk XN FN hbe
        refine (rfNxT rb t3 _ HS3.out).mono ?_
        rintro e y3 ⟨rfl, hrs, ht⟩
        replace X := X.tch ht (by omega)
        replace F := F.trans ht.touch (D := fun q => q = rb) (fun n _ e => e)
        obtain ⟨n3, hn3⟩ : ∃ z : Int, z = ((nx t3).1 : Int) := ⟨_, rfl⟩
        obtain ⟨t4, ht4⟩ : ∃ z, z = (nx t3).2 := ⟨_, rfl⟩
        rw [← hn3]
        rw [← ht4] at hrs
        have HN3 := Lib.hid hn3
        have HT4 := Lib.hid ht4
        have HS4 := Lib.hid hrs
        clear hn3 ht4 hrs ht HS3
        go_wp2_with fail
        refine (rfNxT rb t4 _ HS4.out).mono ?_
        rintro e y4 ⟨rfl, hrs, ht⟩
        replace X := X.tch ht (by omega)
        replace F := F.trans ht.touch (D := fun q => q = rb) (fun n _ e => e)
        obtain ⟨n4, hn4⟩ : ∃ z : Int, z = ((nx t4).1 : Int) := ⟨_, rfl⟩
        obtain ⟨t5, ht5'⟩ : ∃ z, z = (nx t4).2 := ⟨_, rfl⟩
        rw [← hn4]
        rw [← ht5'] at hrs
        have HN4 := Lib.hid hn4
        have HT5 := Lib.hid ht5'
        have HS5 := Lib.hid hrs
        clear hn4 ht5' hrs ht HS4
        go_wp2_with fail
        refine (rfNxT rb t5 _ HS5.out).mono ?_
        rintro e y5 ⟨rfl, hrs, ht⟩
        replace X := X.tch ht (by omega)
        replace F := F.trans ht.touch (D := fun q => q = rb) (fun n _ e => e)
        obtain ⟨n5, hn5⟩ : ∃ z : Int, z = ((nx t5).1 : Int) := ⟨_, rfl⟩
        obtain ⟨t6, ht6⟩ : ∃ z, z = (nx t5).2 := ⟨_, rfl⟩
        rw [← hn5]
        rw [← ht6] at hrs
        have HN5 := Lib.hid hn5
        have HT6 := Lib.hid ht6
        have c3' := X.cell 3
        have c4' := X.cell 4
        have c5' := X.cell 5
        have f3' := X.free 3
        have f4' := X.free 4
        have f5' := X.free 5
        simp only [List.getElem?_toArray, List.getElem?_cons_succ, List.getElem?_cons_zero] at c3' c4' c5'
        have XA : Whl (y5.setCell ⟨ob, 3, none⟩ (.int .i64 n3)) ob 38 #[.int .i64 n0, .string sw, .bool bu, .int .i64 n3, .int .i64 0, .int .i64 0] := Whl.set X 3 (.int .i64 n3)
        have XB : Whl ((y5.setCell ⟨ob, 3, none⟩ (.int .i64 n3)).setCell ⟨ob, 4, none⟩ (.int .i64 n4)) ob 38 #[.int .i64 n0, .string sw, .bool bu, .int .i64 n3, .int .i64 n4, .int .i64 0] := Whl.set XA 4 (.int .i64 n4)
        have XC : Whl (((y5.setCell ⟨ob, 3, none⟩ (.int .i64 n3)).setCell ⟨ob, 4, none⟩ (.int .i64 n4)).setCell ⟨ob, 5, none⟩ (.int .i64 n5)) ob 38 #[.int .i64 n0, .string sw, .bool bu, .int .i64 n3, .int .i64 n4, .int .i64 n5] := Whl.set XB 5 (.int .i64 n5)
        have FC : Touch (fun q => q = rb) wr (((y5.setCell ⟨ob, 3, none⟩ (.int .i64 n3)).setCell ⟨ob, 4, none⟩ (.int .i64 n4)).setCell ⟨ob, 5, none⟩ (.int .i64 n5)) := ((F.set (fun hlt => by simp only at hlt; omega)).set (fun hlt => by simp only at hlt; omega)).set (fun hlt => by simp only at hlt; omega)
        have HS6 := Lib.hid (((hrs.setBlk (i := 3) X (noU8_od _ _ _ _ _ _) (by omega) (.int .i64 n3)).setBlk (i := 4) XA (noU8_od _ _ _ _ _ _) (by omega) (.int .i64 n4)).setBlk (i := 5) XB (noU8_od _ _ _ _ _ _) (by omega) (.int .i64 n5))
        have HX6 := Lib.hid XC
        have HF6 := Lib.hid FC
        have hit : itR t2 = (n2, n3, n4, n5) := by unfold itR; rw [HN2.out, HN3.out, HN4.out, HN5.out, HT5.out, HT4.out, HT3.out]
        have hie : itE t2 = t6 := by unfold itE; rw [HT6.out, HT5.out, HT4.out, HT3.out]
        have hodr : odR (some r) = ⟨n0, sw, bu, n3, n4, n5⟩ := by unfold odR; rw [← HT1.out, ← HT2.out, ← HN0.out, ← HSW.out, hit, ← HBU.out]
        have hode : odE (some r) = t6 := by unfold odE; rw [← HT1.out, ← HT2.out]; exact hie
        have hodf : odF (some r) = n2 := by unfold odF; rw [← HT1.out, ← HT2.out, hit]
        have HODR := Lib.hid hodr
        have HODE := Lib.hid hode
        have HODF := Lib.hid hodf
        clear hn5 ht6 hrs ht HS5 X F XA XB XC FC hit hie hodr hode hodf HT1 HT2 HT3 HT4 HT5 HT6 HN0 HN2 HN3 HN4 HN5 HSW HBU
        by_cases hbad : 1 < n2 ∨ 32 ≤ (ys.length : Int)
        · have HBAD := Lib.hid hbad
          rcases hbad with hb1 | hb2
          · go_wp2_with fail
            refine (rfBadST rb t6 _ HS6.out).mono ?_
            rintro e x7 ⟨rfl, hrs7, ht7⟩
            have HX7 := Lib.hid (HX6.out.tch ht7 (by omega))
            have HF7' := Lib.hid (HF6.out.trans ht7.touch (D := fun q => q = rb) (fun n _ e => e))
            have HS7 := Lib.hid hrs7
            clear hrs7 ht7
            have XQ := HX7.out
            have g0 := XQ.cell 0
            have g1 := XQ.cell 1
            have g2 := XQ.cell 2
            have g3 := XQ.cell 3
            have g4 := XQ.cell 4
            have g5 := XQ.cell 5
            simp only [List.getElem?_toArray, List.getElem?_cons_succ, List.getElem?_cons_zero] at g0 g1 g2 g3 g4 g5
            have FQ := HF7'.out
            have HOA := Lib.hid ((FQ.alloc (.cells #[.int .i64 n0, .string sw, .bool bu, .int .i64 n3, .int .i64 n4, .int .i64 n5] 38)).own HO.out (fun g hg e => by have := (HO.out.lt g hg).1; have e2 : g = rb := e; omega))
            have hbz : x7.heap.size = x7.heap.size := by simp [World.setCell]
            have hco := odC x7 n0 sw bu n3 n4 n5
            (try rw [hbz] at hco)
            have HCO := Lib.hid hco
            have hsz7 : wr.heap.size ≤ x7.heap.size := FQ.size
            have hsz6 : w5.heap.size ≤ (x7.alloc (.cells #[.int .i64 n0, .string sw, .bool bu, .int .i64 n3, .int .i64 n4, .int .i64 n5] 38)).heap.size := Nat.le_trans hsz (Nat.le_trans hsz7 (by simp))
            have HF7 := Lib.hid (FQ.alloc (.cells #[.int .i64 n0, .string sw, .bool bu, .int .i64 n3, .int .i64 n4, .int .i64 n5] 38))
            have HS8 := Lib.hid (HS7.out.alloc (.cells #[.int .i64 n0, .string sw, .bool bu, .int .i64 n3, .int .i64 n4, .int .i64 n5] 38))
            clear XQ FQ hsz7 hbz hco
            go_wp2_with (first
              | (at_builtin; go_must (refine wpList_append_touch rfl (.tmp 64) (.tmp 66) 57 rfl w5.heap.size 38 i0 (.agg #[.int .i64 0, .string ⟨#[]⟩, .bool false, .int .i64 0, .int .i64 0, .int .i64 0]) 6 56 Tryz.underlying57 hi hz0 hz1 hz2 rfl (by decide) (.slice Al ys.length cl) ys.length (flatO ys) rfl HOA.out (x7.heap.size + 1) (some ⟨x7.heap.size, 0, none⟩) 1 1 (odV ⟨n0, sw, bu, n3, n4, n5⟩) rfl HCO.out (odV_oneC _) (by unfold maxLen; omega) (by omega) hsz6 ?_); intro v8 w8 ho8 ht8 hv8; go_loud (have HT9 := Lib.hid (HT.out.trans ((HF7.out.mono (D' := fun q => q = rb ∨ (Value.slice Al ys.length cl).ownBlock = some q) (fun _ e => .inl e)).trans ht8 (fun n _ e => .inr e)) (D := fun q => q = rb) (fun n hn e => by rcases e with e | e; exact e; have := (HO.out.lt n e).1; omega)); have HS9 := Lib.hid (HS8.out.below (ht8.below hsz6 (fun q hq => (HO.out.lt q hq).1)) (by omega)); obtain ⟨A8, c8, rfl, _, _, _⟩ := own_slice ho8; have HO9 := Lib.hid ho8; clear ho8 ht8 hv8))
              | fail)
            refine ⟨⟨ys.length + 1, k, none, ys ++ [⟨n0, sw, bu, n3, n4, n5⟩], by go_num, by omega, HS9.out, by rw [flatO_snoc, List.length_append]; exact HO9.out, by simp, HT9.out, fun hn => absurd rfl hn, fun _ => ?_, by simp only [List.length_append, List.length_cons, List.length_nil]; omega⟩, by simp [intOf]; omega⟩
            rcases HBAD.out with h | h
            · exact .inl (by rw [HR2.out, oS, if_neg (fun hc => by have := hc.2.2; rw [HODF.out] at this; omega)])
            · exact .inr (by omega)
          · by_cases hb1 : 1 < n2
            · go_wp2_with fail
              refine (rfBadST rb t6 _ HS6.out).mono ?_
              rintro e x7 ⟨rfl, hrs7, ht7⟩
              have HX7 := Lib.hid (HX6.out.tch ht7 (by omega))
              have HF7' := Lib.hid (HF6.out.trans ht7.touch (D := fun q => q = rb) (fun n _ e => e))
              have HS7 := Lib.hid hrs7
              clear hrs7 ht7
              have XQ := HX7.out
              have g0 := XQ.cell 0
              have g1 := XQ.cell 1
              have g2 := XQ.cell 2
              have g3 := XQ.cell 3
              have g4 := XQ.cell 4
              have g5 := XQ.cell 5
              simp only [List.getElem?_toArray, List.getElem?_cons_succ, List.getElem?_cons_zero] at g0 g1 g2 g3 g4 g5
              have FQ := HF7'.out
              have HOA := Lib.hid ((FQ.alloc (.cells #[.int .i64 n0, .string sw, .bool bu, .int .i64 n3, .int .i64 n4, .int .i64 n5] 38)).own HO.out (fun g hg e => by have := (HO.out.lt g hg).1; have e2 : g = rb := e; omega))
              have hbz : x7.heap.size = x7.heap.size := by simp [World.setCell]
              have hco := odC x7 n0 sw bu n3 n4 n5
              (try rw [hbz] at hco)
              have HCO := Lib.hid hco
              have hsz7 : wr.heap.size ≤ x7.heap.size := FQ.size
              have hsz6 : w5.heap.size ≤ (x7.alloc (.cells #[.int .i64 n0, .string sw, .bool bu, .int .i64 n3, .int .i64 n4, .int .i64 n5] 38)).heap.size := Nat.le_trans hsz (Nat.le_trans hsz7 (by simp))
              have HF7 := Lib.hid (FQ.alloc (.cells #[.int .i64 n0, .string sw, .bool bu, .int .i64 n3, .int .i64 n4, .int .i64 n5] 38))
              have HS8 := Lib.hid (HS7.out.alloc (.cells #[.int .i64 n0, .string sw, .bool bu, .int .i64 n3, .int .i64 n4, .int .i64 n5] 38))
              clear XQ FQ hsz7 hbz hco
              go_wp2_with (first
                | (at_builtin; go_must (refine wpList_append_touch rfl (.tmp 64) (.tmp 66) 57 rfl w5.heap.size 38 i0 (.agg #[.int .i64 0, .string ⟨#[]⟩, .bool false, .int .i64 0, .int .i64 0, .int .i64 0]) 6 56 Tryz.underlying57 hi hz0 hz1 hz2 rfl (by decide) (.slice Al ys.length cl) ys.length (flatO ys) rfl HOA.out (x7.heap.size + 1) (some ⟨x7.heap.size, 0, none⟩) 1 1 (odV ⟨n0, sw, bu, n3, n4, n5⟩) rfl HCO.out (odV_oneC _) (by unfold maxLen; omega) (by omega) hsz6 ?_); intro v8 w8 ho8 ht8 hv8; go_loud (have HT9 := Lib.hid (HT.out.trans ((HF7.out.mono (D' := fun q => q = rb ∨ (Value.slice Al ys.length cl).ownBlock = some q) (fun _ e => .inl e)).trans ht8 (fun n _ e => .inr e)) (D := fun q => q = rb) (fun n hn e => by rcases e with e | e; exact e; have := (HO.out.lt n e).1; omega)); have HS9 := Lib.hid (HS8.out.below (ht8.below hsz6 (fun q hq => (HO.out.lt q hq).1)) (by omega)); obtain ⟨A8, c8, rfl, _, _, _⟩ := own_slice ho8; have HO9 := Lib.hid ho8; clear ho8 ht8 hv8))
                | fail)
              refine ⟨⟨ys.length + 1, k, none, ys ++ [⟨n0, sw, bu, n3, n4, n5⟩], by go_num, by omega, HS9.out, by rw [flatO_snoc, List.length_append]; exact HO9.out, by simp, HT9.out, fun hn => absurd rfl hn, fun _ => ?_, by simp only [List.length_append, List.length_cons, List.length_nil]; omega⟩, by simp [intOf]; omega⟩
              rcases HBAD.out with h | h
              · exact .inl (by rw [HR2.out, oS, if_neg (fun hc => by have := hc.2.2; rw [HODF.out] at this; omega)])
              · exact .inr (by omega)
            · go_wp2_with fail
              refine (rfBadST rb t6 _ HS6.out).mono ?_
              rintro e x7 ⟨rfl, hrs7, ht7⟩
              have HX7 := Lib.hid (HX6.out.tch ht7 (by omega))
              have HF7' := Lib.hid (HF6.out.trans ht7.touch (D := fun q => q = rb) (fun n _ e => e))
              have HS7 := Lib.hid hrs7
              clear hrs7 ht7
              have XQ := HX7.out
              have g0 := XQ.cell 0
              have g1 := XQ.cell 1
              have g2 := XQ.cell 2
              have g3 := XQ.cell 3
              have g4 := XQ.cell 4
              have g5 := XQ.cell 5
              simp only [List.getElem?_toArray, List.getElem?_cons_succ, List.getElem?_cons_zero] at g0 g1 g2 g3 g4 g5
              have FQ := HF7'.out
              have HOA := Lib.hid ((FQ.alloc (.cells #[.int .i64 n0, .string sw, .bool bu, .int .i64 n3, .int .i64 n4, .int .i64 n5] 38)).own HO.out (fun g hg e => by have := (HO.out.lt g hg).1; have e2 : g = rb := e; omega))
              have hbz : x7.heap.size = x7.heap.size := by simp [World.setCell]
              have hco := odC x7 n0 sw bu n3 n4 n5
              (try rw [hbz] at hco)
              have HCO := Lib.hid hco
              have hsz7 : wr.heap.size ≤ x7.heap.size := FQ.size
              have hsz6 : w5.heap.size ≤ (x7.alloc (.cells #[.int .i64 n0, .string sw, .bool bu, .int .i64 n3, .int .i64 n4, .int .i64 n5] 38)).heap.size := Nat.le_trans hsz (Nat.le_trans hsz7 (by simp))
              have HF7 := Lib.hid (FQ.alloc (.cells #[.int .i64 n0, .string sw, .bool bu, .int .i64 n3, .int .i64 n4, .int .i64 n5] 38))
              have HS8 := Lib.hid (HS7.out.alloc (.cells #[.int .i64 n0, .string sw, .bool bu, .int .i64 n3, .int .i64 n4, .int .i64 n5] 38))
              clear XQ FQ hsz7 hbz hco
              go_wp2_with (first
                | (at_builtin; go_must (refine wpList_append_touch rfl (.tmp 64) (.tmp 66) 57 rfl w5.heap.size 38 i0 (.agg #[.int .i64 0, .string ⟨#[]⟩, .bool false, .int .i64 0, .int .i64 0, .int .i64 0]) 6 56 Tryz.underlying57 hi hz0 hz1 hz2 rfl (by decide) (.slice Al ys.length cl) ys.length (flatO ys) rfl HOA.out (x7.heap.size + 1) (some ⟨x7.heap.size, 0, none⟩) 1 1 (odV ⟨n0, sw, bu, n3, n4, n5⟩) rfl HCO.out (odV_oneC _) (by unfold maxLen; omega) (by omega) hsz6 ?_); intro v8 w8 ho8 ht8 hv8; go_loud (have HT9 := Lib.hid (HT.out.trans ((HF7.out.mono (D' := fun q => q = rb ∨ (Value.slice Al ys.length cl).ownBlock = some q) (fun _ e => .inl e)).trans ht8 (fun n _ e => .inr e)) (D := fun q => q = rb) (fun n hn e => by rcases e with e | e; exact e; have := (HO.out.lt n e).1; omega)); have HS9 := Lib.hid (HS8.out.below (ht8.below hsz6 (fun q hq => (HO.out.lt q hq).1)) (by omega)); obtain ⟨A8, c8, rfl, _, _, _⟩ := own_slice ho8; have HO9 := Lib.hid ho8; clear ho8 ht8 hv8))
                | fail)
              refine ⟨⟨ys.length + 1, k, none, ys ++ [⟨n0, sw, bu, n3, n4, n5⟩], by go_num, by omega, HS9.out, by rw [flatO_snoc, List.length_append]; exact HO9.out, by simp, HT9.out, fun hn => absurd rfl hn, fun _ => ?_, by simp only [List.length_append, List.length_cons, List.length_nil]; omega⟩, by simp [intOf]; omega⟩
              rcases HBAD.out with h | h
              · exact .inl (by rw [HR2.out, oS, if_neg (fun hc => by have := hc.2.2; rw [HODF.out] at this; omega)])
              · exact .inr (by omega)
        · have hb1 : ¬ 1 < n2 := fun h => hbad (.inl h)
          have hb2 : ¬ 32 ≤ (ys.length : Int) := fun h => hbad (.inr h)
          clear hbad
          have XQ := HX6.out
          have g0 := XQ.cell 0
          have g1 := XQ.cell 1
          have g2 := XQ.cell 2
          have g3 := XQ.cell 3
          have g4 := XQ.cell 4
          have g5 := XQ.cell 5
          simp only [List.getElem?_toArray, List.getElem?_cons_succ, List.getElem?_cons_zero] at g0 g1 g2 g3 g4 g5
          have FQ := HF6.out
          have HOA := Lib.hid ((FQ.alloc (.cells #[.int .i64 n0, .string sw, .bool bu, .int .i64 n3, .int .i64 n4, .int .i64 n5] 38)).own HO.out (fun g hg e => by have := (HO.out.lt g hg).1; have e2 : g = rb := e; omega))
          have hbz : (((y5.setCell ⟨ob, 3, none⟩ (.int .i64 n3)).setCell ⟨ob, 4, none⟩ (.int .i64 n4)).setCell ⟨ob, 5, none⟩ (.int .i64 n5)).heap.size = y5.heap.size := by simp [World.setCell]
          have hco := odC (((y5.setCell ⟨ob, 3, none⟩ (.int .i64 n3)).setCell ⟨ob, 4, none⟩ (.int .i64 n4)).setCell ⟨ob, 5, none⟩ (.int .i64 n5)) n0 sw bu n3 n4 n5
          (try rw [hbz] at hco)
          have HCO := Lib.hid hco
          have hsz7 : wr.heap.size ≤ (((y5.setCell ⟨ob, 3, none⟩ (.int .i64 n3)).setCell ⟨ob, 4, none⟩ (.int .i64 n4)).setCell ⟨ob, 5, none⟩ (.int .i64 n5)).heap.size := FQ.size
          have hsz6 : w5.heap.size ≤ ((((y5.setCell ⟨ob, 3, none⟩ (.int .i64 n3)).setCell ⟨ob, 4, none⟩ (.int .i64 n4)).setCell ⟨ob, 5, none⟩ (.int .i64 n5)).alloc (.cells #[.int .i64 n0, .string sw, .bool bu, .int .i64 n3, .int .i64 n4, .int .i64 n5] 38)).heap.size := Nat.le_trans hsz (Nat.le_trans hsz7 (by simp))
          have HF7 := Lib.hid (FQ.alloc (.cells #[.int .i64 n0, .string sw, .bool bu, .int .i64 n3, .int .i64 n4, .int .i64 n5] 38))
          have HS8 := Lib.hid (HS6.out.alloc (.cells #[.int .i64 n0, .string sw, .bool bu, .int .i64 n3, .int .i64 n4, .int .i64 n5] 38))
          clear XQ FQ hsz7 hbz hco
          go_wp2_with (first
            | (at_builtin; go_must (refine wpList_append_touch rfl (.tmp 64) (.tmp 66) 57 rfl w5.heap.size 38 i0 (.agg #[.int .i64 0, .string ⟨#[]⟩, .bool false, .int .i64 0, .int .i64 0, .int .i64 0]) 6 56 Tryz.underlying57 hi hz0 hz1 hz2 rfl (by decide) (.slice Al ys.length cl) ys.length (flatO ys) rfl HOA.out (y5.heap.size + 1) (some ⟨y5.heap.size, 0, none⟩) 1 1 (odV ⟨n0, sw, bu, n3, n4, n5⟩) rfl HCO.out (odV_oneC _) (by unfold maxLen; omega) (by omega) hsz6 ?_); intro v8 w8 ho8 ht8 hv8; go_loud (have HT9 := Lib.hid (HT.out.trans ((HF7.out.mono (D' := fun q => q = rb ∨ (Value.slice Al ys.length cl).ownBlock = some q) (fun _ e => .inl e)).trans ht8 (fun n _ e => .inr e)) (D := fun q => q = rb) (fun n hn e => by rcases e with e | e; exact e; have := (HO.out.lt n e).1; omega)); have HS9 := Lib.hid (HS8.out.below (ht8.below hsz6 (fun q hq => (HO.out.lt q hq).1)) (by omega)); obtain ⟨A8, c8, rfl, _, _, _⟩ := own_slice ho8; have HO9 := Lib.hid ho8; clear ho8 ht8 hv8))
            | fail)
          refine ⟨⟨ys.length + 1, k, t6, ys ++ [⟨n0, sw, bu, n3, n4, n5⟩], by go_num, by omega, HS9.out, by rw [flatO_snoc, List.length_append]; exact HO9.out, by simp, HT9.out, fun hn => ?_, fun hn => .inl ?_, by simp only [List.length_append, List.length_cons, List.length_nil]; omega⟩, by simp [intOf]; omega⟩
          · have h5 := odE_ne (s := some r) (by rw [HODE.out]; exact hn)
            rw [HODE.out] at h5
            simp only [Option.getD_some] at h5
            have hc : oS (k + 1) (some r) = (⟨n0, sw, bu, n3, n4, n5⟩ :: (oS k t6).1, (oS k t6).2) := by
              rw [oS, if_pos ⟨by simp, by rw [HODE.out]; exact hn, by rw [HODF.out]; omega⟩, HODE.out, HODR.out]
            exact ⟨by rw [HR2.out, hc], by rw [HR1.out, hc]; simp, by simp only [List.length_append, List.length_cons, List.length_nil]; omega, by simp only [List.length_append, List.length_cons, List.length_nil]; omega⟩
          · rw [HR2.out, oS, if_neg (fun hc => hc.2.1 (by rw [HODE.out]; exact hn))]
end Go.Proofs.YtdlbiobjnohfbaaGreat
