/- plan: merge. -/
import Derived.Test.YtepjehcmiofehaaGreatPq32
namespace Go.Proofs.YtepjehcmiofehaaGreat
open Go.RowKit
set_option linter.unusedVariables false
set_option linter.unusedSimpArgs false
theorem wrap_small {z : Int} (h0 : 0 ≤ z) (h1 : z ≤ 4000000000000000) : wrap64 z = z := by unfold wrap64; omega
structure MS where
  ps : List Pz
  cs : List Ch
def mergeOk (cold : Int) (x y : Pz) : Bool := x.fr && y.fr && decide (x.z.ow = y.z.ow) && decide (x.hits + y.hits < cold)
def mergeStep (cold : Int) (st : MS) (j : Nat) : MS := match st.ps[j]?, st.ps[j + 1]? with
  | some x, some y => if mergeOk cold x y = true then ⟨(st.ps.set j (taken x)).set (j + 1) (taken y), st.cs ++ [⟨2, x.z.id, 0, 0, ⟨#[]⟩⟩]⟩ else st
  | _, _ => st
def mergeF (cold : Int) (ps : List Pz) (cs : List Ch) : MS := (List.range (ps.length - 1)).foldl (mergeStep cold) ⟨ps, cs⟩
theorem mergeStep_same (cold : Int) (st : MS) (j : Nat) : SameZ (mergeStep cold st j).ps st.ps := by
  unfold mergeStep
  split
  · rename_i x y hx hy
    split
    · obtain ⟨hi, e⟩ := List.getElem?_eq_some_iff.1 hx
      obtain ⟨hi2, e2⟩ := List.getElem?_eq_some_iff.1 hy
      have h1 : SameZ (st.ps.set j (taken x)) st.ps := SameZ.set hi ⟨by rw [e]; rfl, by rw [e]; rfl, by rw [e]; rfl⟩
      have hi3 : j + 1 < (st.ps.set j (taken x)).length := by simpa using hi2
      have e3 : (st.ps.set j (taken x))[j + 1] = y := by rw [List.getElem_set_ne (by omega)]; exact e2
      exact (SameZ.set hi3 ⟨by rw [e3]; rfl, by rw [e3]; rfl, by rw [e3]; rfl⟩).trans h1
    · exact SameZ.refl _
  · exact SameZ.refl _
theorem mergeFold_same (cold : Int) : ∀ (l : List Nat) (st : MS), SameZ (l.foldl (mergeStep cold) st).ps st.ps
  | [], st => SameZ.refl _
  | i :: l, st => (mergeFold_same cold l (mergeStep cold st i)).trans (mergeStep_same cold st i)
set_option maxHeartbeats 8000000 in
set_option maxRecDepth 10000 in
theorem plMerge (B b gz c : Nat) (hv cv : Value) (ps : List Pz) (cs : List Ch) (cold : Int) (w : World) (h : PlH w B b (.slice (some ⟨gz, 0, none⟩) ps.length c) hv cv ps cs) (h0 : 0 < ps.length) (hl : ps.length ≤ 16) (hhit : HitsOk ps) (hcl : cs.length ≤ 1000) :
    Calls Tryz.prog 18 #[.pointer (some ⟨b, 0, none⟩), .int .i64 cold] w fun e w' => e = .returned (.tuple #[]) ∧ ∃ cv', PlH w' B b (.slice (some ⟨gz, 0, none⟩) ps.length c) hv cv' (mergeF cold ps cs).ps (mergeF cold ps cs).cs ∧ Touch (Fp b (.slice (some ⟨gz, 0, none⟩) ps.length c) cv) w w' ∧ (∀ k, Fp b (.slice (some ⟨gz, 0, none⟩) ps.length c) cv' k → Fp b (.slice (some ⟨gz, 0, none⟩) ps.length c) cv k ∨ w.heap.size ≤ k) := by
  obtain ⟨i0, hi, hz0, hz1, hz2⟩ := info_parts Tryz.infoPchange
  have HP := Lib.hid h
  have hbl := h.blk.low
  have HH := Lib.hid hhit
  clear h hhit
  go_enter Tryz.func18, Tryz.ntmps18
  go_wp2_with fail
  go_loopw [4] (fun iv wr => ∃ (j : Nat) (cv1 : Value) (st : MS), j + 1 ≤ ps.length ∧ iv = .int .i64 ((j : Int) + 1) ∧ st = (List.range j).foldl (mergeStep cold) ⟨ps, cs⟩ ∧ PlH wr B b (.slice (some ⟨gz, 0, none⟩) ps.length c) hv cv1 st.ps st.cs ∧ SameZ st.ps ps ∧ Touch (Fp b (.slice (some ⟨gz, 0, none⟩) ps.length c) cv) w wr ∧ (∀ k, Fp b (.slice (some ⟨gz, 0, none⟩) ps.length c) cv1 k → Fp b (.slice (some ⟨gz, 0, none⟩) ps.length c) cv k ∨ w.heap.size ≤ k) ∧ st.cs.length ≤ cs.length + j) (fun iv _ => ps.length - (intOf iv).toNat)
  case atStart => exact ⟨0, cv, ⟨ps, cs⟩, by omega, rfl, rfl, HP.out, SameZ.refl _, Touch.refl _ _, fun k hk => .inl hk, by simp⟩
  case round =>
    obtain ⟨j, cv1, st, hjl, rfl, hst, hP3, hSZ, hT3, hF3, hcl1⟩ := hrel
    have HST := Lib.hid hst
    have HP3 := Lib.hid hP3
    have HSZ := Lib.hid hSZ
    have HT3 := Lib.hid hT3
    have HF3 := Lib.hid hF3
    have hsr := hT3.size
    have hql := hSZ.1
    have k0 := hP3.blk.cell 0
    simp only [List.getElem?_toArray, List.getElem?_cons_succ, List.getElem?_cons_zero] at k0
    clear hst hP3 hSZ hT3 hF3
    by_cases hlt : j + 1 < ps.length
    case neg =>
      have hj : ps.length - 1 = j := by omega
      have q3 : ¬ ((j : Int) + 1 < (ps.length : Int)) := by omega
      have hst2 : st = mergeF cold ps cs := by unfold mergeF; rw [hj]; exact HST.out
      have HST2 := Lib.hid hst2
      clear hst2 hj
      go_wp2_with fail
      exact bodyPost_end (v := .tuple #[]) (by simp [results, Tryz.results18, go_sem]) rfl ⟨rfl, cv1, by rw [← HST2.out]; exact HP3.out, HT3.out, HF3.out⟩
    have q3 : (j : Int) + 1 < (ps.length : Int) := by omega
    have q4 : (j : Int) < (ps.length : Int) := by omega
    have hj1 : j < st.ps.length := by omega
    have hj2 : j + 1 < st.ps.length := by omega
    have hstep : (List.range (j + 1)).foldl (mergeStep cold) ⟨ps, cs⟩ = mergeStep cold st j := by
      rw [List.range_succ, List.foldl_append, ← HST.out]; rfl
    obtain ⟨x, hx⟩ : ∃ x, x = st.ps[j] := ⟨_, rfl⟩
    obtain ⟨y, hy⟩ : ∃ y, y = st.ps[j + 1] := ⟨_, rfl⟩
    have hss : mergeStep cold st j = if mergeOk cold x y = true then ⟨(st.ps.set j (taken x)).set (j + 1) (taken y), st.cs ++ [⟨2, x.z.id, 0, 0, ⟨#[]⟩⟩]⟩ else st := by
      unfold mergeStep
      rw [List.getElem?_eq_getElem hj1, List.getElem?_eq_getElem hj2, hx, hy]
    rw [hss] at hstep
    have HSTEP := Lib.hid hstep
    have hqh := HSZ.out.hits HH.out
    have bx := hqh _ (List.getElem_mem hj1)
    have by_ := hqh _ (List.getElem_mem hj2)
    rw [← hx] at bx
    rw [← hy] at by_
    obtain ⟨a0, a1, a2, a3, a4, a5, a6, a7, a8, a9, a10, a11, a12⟩ := rowP_at2 HP3.out.row hj1
    rw [← hx] at a0 a1 a2 a3 a4 a5 a6 a7 a8 a9 a10 a11 a12
    obtain ⟨b0, b1, b2, b3, b4, b5, b6, b7, b8, b9, b10, b11, b12⟩ := rowP_at2 HP3.out.row hj2
    rw [← hy] at b0 b1 b2 b3 b4 b5 b6 b7 b8 b9 b10 b11 b12
    have HXX := Lib.hid hx
    have HYY := Lib.hid hy
    have hgz := (HP3.out.row.lt gz rfl).2
    have z1 : wrap64 (x.hits + y.hits) = x.hits + y.hits := wrap_small (by omega) (by omega)
    clear hstep hss hqh hx hy
    go_upto_region 3 with fail
    go_cut [5, 6] (fun pa pb wx => pa = .pointer (some ⟨gz, j * 13, none⟩) ∧ pb = .pointer (some ⟨gz, (j + 1) * 13, none⟩) ∧ Below wr.heap.size wr wx)
    case first =>
      go_quiet (fail)
      go_wp2_with fail
      go_meet
      exact ⟨rfl, rfl, b_drewN (Below.refl _ _)⟩
    case rest =>
      obtain ⟨rfl, rfl, hB4⟩ := hcut
      have HB4 := Lib.hid hB4
      have hs4 := hB4.size
      have x3 := bkeep hB4 a3 hgz
      have x9 := bkeep hB4 a9 hgz
      have x11 := bkeep hB4 a11 hgz
      have y3 := bkeep hB4 b3 hgz
      have y9 := bkeep hB4 b9 hgz
      have y11 := bkeep hB4 b11 hgz
      clear hB4 a0 a1 a2 a3 a4 a5 a6 a7 a8 a9 a10 a11 a12 b0 b1 b2 b3 b4 b5 b6 b7 b8 b9 b10 b11 b12
      go_upto_region 4 with fail
      cases c1 : x.fr with
      | false =>
        rw [c1] at x11
        have HS : Hid (¬ (mergeOk cold x y = true)) := Lib.hid (by unfold mergeOk; rw [c1]; simp)
        go_quiet (fail)
        go_wp2_with fail
        exact ⟨⟨j + 1, cv1, st, by omega, by go_num, by rw [HSTEP.out, if_neg HS.out], HP3.out.keep (D := fun _ => False) (Touch.of_below' (b_drewN HB4.out)) (fun _ _ h => h), HSZ.out, HT3.out.trans (Touch.of_below' (b_drewN HB4.out)) (fun x _ hd => hd), HF3.out, by omega⟩, by simp [intOf]; omega⟩
      | true =>
      rw [c1] at x11
      cases c2 : y.fr with
      | false =>
        rw [c2] at y11
        have HS : Hid (¬ (mergeOk cold x y = true)) := Lib.hid (by unfold mergeOk; rw [c2]; simp)
        go_quiet (fail)
        go_wp2_with fail
        exact ⟨⟨j + 1, cv1, st, by omega, by go_num, by rw [HSTEP.out, if_neg HS.out], HP3.out.keep (D := fun _ => False) (Touch.of_below' (b_drewN HB4.out)) (fun _ _ h => h), HSZ.out, HT3.out.trans (Touch.of_below' (b_drewN HB4.out)) (fun x _ hd => hd), HF3.out, by omega⟩, by simp [intOf]; omega⟩
      | true =>
      rw [c2] at y11
      by_cases c3 : x.z.ow = y.z.ow
      case neg =>
        have q5 : (x.z.ow != y.z.ow) = true := by rw [bne_iff_ne]; exact c3
        have HS : Hid (¬ (mergeOk cold x y = true)) := Lib.hid (by unfold mergeOk; rw [decide_eq_false c3]; simp)
        clear c3
        go_quiet (fail)
        go_wp2_with fail
        exact ⟨⟨j + 1, cv1, st, by omega, by go_num, by rw [HSTEP.out, if_neg HS.out], HP3.out.keep (D := fun _ => False) (Touch.of_below' (b_drewN HB4.out)) (fun _ _ h => h), HSZ.out, HT3.out.trans (Touch.of_below' (b_drewN HB4.out)) (fun x _ hd => hd), HF3.out, by omega⟩, by simp [intOf]; omega⟩
      have q5 : (x.z.ow != y.z.ow) = false := by rw [bne_eq_false_iff_eq]; exact c3
      by_cases c4 : x.hits + y.hits < cold
      case neg =>
        have q6 : decide (cold ≤ x.hits + y.hits) = true := decide_eq_true (by omega)
        have HS : Hid (¬ (mergeOk cold x y = true)) := Lib.hid (by unfold mergeOk; rw [decide_eq_false c4]; simp)
        have C3 := Lib.hid c3
        clear c3 c4
        go_quiet (fail)
        go_wp2_with fail
        exact ⟨⟨j + 1, cv1, st, by omega, by go_num, by rw [HSTEP.out, if_neg HS.out], HP3.out.keep (D := fun _ => False) (Touch.of_below' (b_drewN HB4.out)) (fun _ _ h => h), HSZ.out, HT3.out.trans (Touch.of_below' (b_drewN HB4.out)) (fun x _ hd => hd), HF3.out, by omega⟩, by simp [intOf]; omega⟩
      have q6 : decide (cold ≤ x.hits + y.hits) = false := decide_eq_false (by omega)
      have HS : Hid (mergeOk cold x y = true) := Lib.hid (by unfold mergeOk; rw [c1, c2, decide_eq_true c3, decide_eq_true c4]; rfl)
      have C3 := Lib.hid c3
      clear c3 c4
      have hP5 := HP3.out.below HB4.out
      have ff := fun i => rowP_free hP5.row i
      have HP5 := Lib.hid hP5
      clear hP5
      go_quiet (fail)
      go_upto_region 5 with fail
      obtain ⟨W, hW⟩ : ∃ W, W = wc.drewN nq := ⟨_, rfl⟩
      rw [← hW]
      have u11 : W.cell? ⟨gz, j * 13 + 11, none⟩ = some (.bool true) := by rw [hW]; exact x11
      have v11 : W.cell? ⟨gz, (j + 1) * 13 + 11, none⟩ = some (.bool true) := by rw [hW]; exact y11
      have fw : ∀ i, W.frozen? ⟨gz, i, none⟩ = false := by rw [hW]; exact ff
      have hPW : PlH W B b (.slice (some ⟨gz, 0, none⟩) ps.length c) hv cv1 st.ps st.cs := by rw [hW]; exact HP5.out.keep (D := fun _ => False) ((Touch.refl _ _).drewN nq) (fun _ _ h => h)
      have hTW : Touch (Fp b (.slice (some ⟨gz, 0, none⟩) ps.length c) cv1) wr W := by rw [hW]; exact (Touch.of_below' HB4.out).drewN nq
      have HPW := Lib.hid hPW
      have HTW := Lib.hid hTW
      clear hW hPW hTW x3 x9 x11 y3 y9 y11 ff
      go_upto_region 6 with fail
      obtain ⟨V8, hV8⟩ : ∃ V, V = (W.setCell ⟨gz, j * 13 + 11, none⟩ (.bool false)).setCell ⟨gz, (j + 1) * 13 + 11, none⟩ (.bool false) := ⟨_, rfl⟩
      rw [← hV8]
      have hP8 : PlH V8 B b (.slice (some ⟨gz, 0, none⟩) ps.length c) hv cv1 ((st.ps.set j (taken x)).set (j + 1) (taken y)) st.cs := by
        rw [hV8]
        have h1 := HPW.out.setcell hj1 (k := 11) (by decide) (z := taken x) (v := .bool false) (by rw [← HXX.out]; rfl)
        exact h1.setcell (j := j + 1) (by simpa using hj2) (k := 11) (by decide) (z := taken y) (v := .bool false) (by rw [List.getElem_set_ne (by omega), ← HYY.out]; rfl)
      have hT8 : Touch (Fp b (.slice (some ⟨gz, 0, none⟩) ps.length c) cv1) wr V8 := by
        rw [hV8]
        exact Touch.set (a := ⟨gz, (j + 1) * 13 + 11, none⟩) (Touch.set (a := ⟨gz, j * 13 + 11, none⟩) HTW.out (fun _ => .inr (.inl rfl))) (fun _ => .inr (.inl rfl))
      have hsz8 : SameZ ((st.ps.set j (taken x)).set (j + 1) (taken y)) ps := by
        refine SameZ.trans ?_ HSZ.out
        have h1 : SameZ (st.ps.set j (taken x)) st.ps := SameZ.set hj1 ⟨by rw [← HXX.out]; rfl, by rw [← HXX.out]; rfl, by rw [← HXX.out]; rfl⟩
        have hi3 : j + 1 < (st.ps.set j (taken x)).length := by simpa using hj2
        have e3 : (st.ps.set j (taken x))[j + 1] = y := by rw [List.getElem_set_ne (by omega), ← HYY.out]
        exact (SameZ.set hi3 ⟨by rw [e3]; rfl, by rw [e3]; rfl, by rw [e3]; rfl⟩).trans h1
      have hk3 : j < ((st.ps.set j (taken x)).set (j + 1) (taken y)).length := by simpa using hj1
      obtain ⟨d0, d1, d2, d3, d4, d5, d6, d7, d8, d9, d10, d11, d12⟩ := rowP_at2 hP8.row hk3
      rw [List.getElem_set_ne (by omega), List.getElem_set_self] at d0
      change V8.cell? ⟨gz, j * 13, none⟩ = some (.int .i64 x.z.id) at d0
      have HSZ8 := Lib.hid hsz8
      have k2 := hP8.blk.cell 2
      simp only [List.getElem?_toArray, List.getElem?_cons_succ, List.getElem?_cons_zero] at k2
      have k0 := k2
      obtain ⟨n, hn⟩ : ∃ n, n = st.cs.length := ⟨_, rfl⟩
      have HO := Lib.hid hP8.crow
      rw [← hn] at HO
      have HW := Lib.hid hP8.blk
      have hfarv := hP8.ca
      have hbl8 := hP8.blk.low
      have hbase : B ≤ V8.heap.size := by have := hP8.low; have := hP8.blk.low; omega
      have hn10 : n ≤ 10000 := by omega
      have HP8 := Lib.hid hP8
      have HT8 := Lib.hid hT8
      clear hV8 hP8 hT8 hsz8 u11 v11 fw k2 d1 d2 d3 d4 d5 d6 d7 d8 d9 d10 d11 d12
      refine wp_region_held_drew (S := (fun _ => True)) (by kernel_rfl) trivial (fun hHeld => ?_)
      refine wpAnyH_take (i := 0) (oi := ⟨some 73, _, _, _, _, _⟩) (v := ?v0B_1) rfl (by kernel_rfl) (by kernel_rfl) (by kernel_rfl) (fun _ _ _ h => h) (Or.inl ⟨by rfl, ?y0B_1⟩) (by assumption) ?r0B_1
      case y0B_1 => (intro w hSw; (try dsimp only at hSw); (try go_split_ands); go_simp); (try with_reducible rfl)
      case r0B_1 =>
      (try simp only [Act.put, List.setIfInBounds_toArray, List.set_cons_zero, List.set_cons_succ])
      refine wpAnyH_take (i := 1) (oi := ⟨some 74, _, _, _, _, _⟩) (v := ?v1B_4) rfl (by kernel_rfl) (by kernel_rfl) (by kernel_rfl) (fun _ _ _ h => h) (Or.inl ⟨by rfl, ?y1B_4⟩) (by assumption) ?r1B_4
      case y1B_4 => (intro w hSw; (try dsimp only at hSw); (try go_split_ands); go_simp); (try with_reducible rfl)
      case r1B_4 =>
      (try simp only [Act.put, List.setIfInBounds_toArray, List.set_cons_zero, List.set_cons_succ])
      refine wpAnyH_take (i := 2) (oi := ⟨some 75, _, _, _, _, _⟩) (v := ?v2B_7) rfl (by kernel_rfl) (by kernel_rfl) (by kernel_rfl) (fun _ _ _ h => h) (Or.inl ⟨by rfl, ?y2B_7⟩) (by assumption) ?r2B_7
      case y2B_7 => (intro w hSw; (try dsimp only at hSw); (try go_split_ands); go_simp); (try with_reducible rfl)
      case r2B_7 =>
      (try simp only [Act.put, List.setIfInBounds_toArray, List.set_cons_zero, List.set_cons_succ])
      refine wpAnyH_take (i := 3) (oi := ⟨some 76, _, _, _, _, _⟩) (v := ?v3B_10) rfl (by kernel_rfl) (by kernel_rfl) (by kernel_rfl) (fun _ _ _ h => h) (Or.inl ⟨by rfl, ?y3B_10⟩) (by assumption) ?r3B_10
      case y3B_10 => (intro w hSw; (try dsimp only at hSw); (try go_split_ands); go_simp); (try with_reducible rfl)
      case r3B_10 =>
      (try simp only [Act.put, List.setIfInBounds_toArray, List.set_cons_zero, List.set_cons_succ])
      refine wpAnyH_take (i := 5) (oi := ⟨some 78, _, _, _, _, _⟩) (v := ?v5B_13) rfl (by kernel_rfl) (by kernel_rfl) (by kernel_rfl) (fun _ _ _ h => h) (Or.inl ⟨by rfl, ?y5B_13⟩) (by assumption) ?r5B_13
      case y5B_13 => (intro w hSw; (try dsimp only at hSw); (try go_split_ands); go_simp); (try with_reducible rfl)
      case r5B_13 =>
      (try simp only [Act.put, List.setIfInBounds_toArray, List.set_cons_zero, List.set_cons_succ])
      refine wpAnyH_take (i := 6) (oi := ⟨some 79, _, _, _, _, _⟩) (v := ?v6B_16) rfl (by kernel_rfl) (by kernel_rfl) (by kernel_rfl) (fun _ _ _ h => h) (Or.inl ⟨by rfl, ?y6B_16⟩) (by assumption) ?r6B_16
      case y6B_16 => (intro w hSw; (try dsimp only at hSw); (try go_split_ands); go_simp); (try with_reducible rfl)
      case r6B_16 =>
      (try simp only [Act.put, List.setIfInBounds_toArray, List.set_cons_zero, List.set_cons_succ])
      refine wpAnyH_take (i := 7) (oi := ⟨some 80, _, _, _, _, _⟩) (v := ?v7B_19) rfl (by kernel_rfl) (by kernel_rfl) (by kernel_rfl) (fun _ _ _ h => h) (Or.inl ⟨by rfl, ?y7B_19⟩) (by assumption) ?r7B_19
      case y7B_19 => (intro w hSw; (try dsimp only at hSw); (try go_split_ands); go_simp); (try with_reducible rfl)
      case r7B_19 =>
      (try simp only [Act.put, List.setIfInBounds_toArray, List.set_cons_zero, List.set_cons_succ])
      refine wpAnyH_take (i := 8) (oi := ⟨some 81, _, _, _, _, _⟩) (v := ?v8B_22) rfl (by kernel_rfl) (by kernel_rfl) (by kernel_rfl) (fun _ _ _ h => h) (Or.inl ⟨by rfl, ?y8B_22⟩) (by assumption) ?r8B_22
      case y8B_22 => (intro w hSw; (try dsimp only at hSw); (try go_split_ands); go_simp); (try with_reducible rfl)
      case r8B_22 =>
      (try simp only [Act.put, List.setIfInBounds_toArray, List.set_cons_zero, List.set_cons_succ])
      refine wpAnyH_ready (rs := [4, 9]) (by kernel_rfl) (by simp) ?_
      refine AllReadyH.cons (o := ⟨some 77, _, _, _, _, _⟩) rfl (fun K hK => ?_) (AllReadyH.cons (o := ⟨some 82, _, _, _, _, _⟩) rfl (fun K hK => ?_) AllReadyH.nil)
      · have k9 : V8.drew.cell? ⟨b, 2, none⟩ = some cv1 := k0
        go_simp
        refine hK.out _ _ trivial (fun hHeld => ?_)
        clear hK K
        (try simp only [Act.put, List.setIfInBounds_toArray, List.set_cons_zero, List.set_cons_succ])
        refine wpAnyH_ready (rs := [9]) (by kernel_rfl) (by simp) ?_
        refine AllReadyH.cons (o := ⟨some 82, _, _, _, _, _⟩) rfl (fun K hK => ?_) AllReadyH.nil
        have e0 : V8.drew.cell? ⟨gz, j * 13, none⟩ = _ := d0
        go_simp
        refine hK.out _ _ trivial (fun hHeld => ?_)
        clear hK K
        (try simp only [Act.put, List.setIfInBounds_toArray, List.set_cons_zero, List.set_cons_succ])
        refine wpAnyH_take (i := 10) (oi := ⟨some 83, _, _, _, _, _⟩) (v := ?v10B_39) rfl (by kernel_rfl) (by kernel_rfl) (by kernel_rfl) (fun _ _ _ h => h) (Or.inl ⟨by rfl, ?y10B_39⟩) (by assumption) ?r10B_39
        case y10B_39 => (intro w hSw; (try dsimp only at hSw); (try go_split_ands); go_simp); (try with_reducible rfl)
        case r10B_39 =>
        (try simp only [Act.put, List.setIfInBounds_toArray, List.set_cons_zero, List.set_cons_succ])
        refine wpAnyH_ready (rs := [11]) (by kernel_rfl) (by simp) ?_
        refine AllReadyH.cons (o := ⟨some 84, _, _, _, _, _⟩) rfl (fun K hK => ?_) AllReadyH.nil
        go_simp
        have hb3 : Below V8.heap.size V8 (V8.drew.alloc (.cells #[.int .i64 2, .int .i64 x.z.id, .int .i64 0, .int .i64 0, .string ⟨#[]⟩] 58)) := (Below.refl _ _).drew.alloc (Nat.le_refl _) _
        have hbase6 : B ≤ (V8.drew.alloc (.cells #[.int .i64 2, .int .i64 x.z.id, .int .i64 0, .int .i64 0, .string ⟨#[]⟩] 58)).heap.size := by simp; omega
        have ho3 : (V8.drew.alloc (.cells #[.int .i64 2, .int .i64 x.z.id, .int .i64 0, .int .i64 0, .string ⟨#[]⟩] 58)).ownsRow B 58 5 cv1 n (st.cs.flatMap chV) := (Touch.of_below hb3).own HO.out (fun g hg hd => by have := (HO.out.lt g hg).2; omega)
        refine hK.out _ _ trivial (fun hHeld => ?_)
        clear hK K
        (try simp only [Act.put, List.setIfInBounds_toArray, List.set_cons_zero, List.set_cons_succ])
        refine wpAnyH_ready (rs := [12]) (by kernel_rfl) (by simp) ?_
        refine AllReadyH.cons (o := ⟨some 85, _, _, _, _, _⟩) rfl (fun K hK => ?_) AllReadyH.nil
        refine step_append_cells rfl (.tmp 77) (.tmp 84) 31 rfl B 58 i0 (.agg #[.int .i64 0, .int .i64 0, .int .i64 0, .int .i64 0, .string ⟨#[]⟩]) 5 48 Tryz.underlying31 hi hz0 hz1 hz2 rfl (by decide) (cv1) n (st.cs.flatMap chV) rfl ho3 _ _ 1 1 [.int .i64 2, .int .i64 x.z.id, .int .i64 0, .int .i64 0, .string ⟨#[]⟩] rfl (cells_new (w := V8.drew) (e := 58) rfl rfl) (chV_one ⟨2, x.z.id, 0, 0, ⟨#[]⟩⟩) (by unfold maxLen; omega) (by omega) hbase6 ?_
        intro v5 w5 hown5 ht5 hb5
        have hT5 : Touch (fun x => (cv1).ownBlock = some x) V8 w5 := ((Touch.refl _ _).trans (Touch.of_below hb3) (fun x hx hd => absurd hd (by omega))).trans ht5 (fun x _ hx => hx)
        have hs5 := hT5.size
        have hW5 : Whl w5 (b) 52 #[.slice (some ⟨gz, 0, none⟩) ps.length c, hv, cv1] := (hT5.block (b) HW.out.low (fun e => hfarv e)).trans HW.out
        have hb5' : v5.ownBlock = (cv1).ownBlock ∨ v5.ownBlock = some (V8.heap.size + 1) := by simpa using hb5
        clear hb5
        obtain ⟨g5, c5, rfl, _, _, _, _⟩ := own_form hown5 (Nat.succ_pos _)
        have HO5 := Lib.hid hown5
        have HT5 := Lib.hid hT5
        have HW5 := Lib.hid hW5
        
        clear hown5 ht5 hT5 hW5
        refine hK.out _ _ trivial (fun hHeld => ?_)
        clear hK K
        (try simp only [Act.put, List.setIfInBounds_toArray, List.set_cons_zero, List.set_cons_succ])
        refine wpAnyH_take (i := 13) (oi := ⟨some 86, _, _, _, _, _⟩) (v := ?v13B_69) rfl (by kernel_rfl) (by kernel_rfl) (by kernel_rfl) (fun _ _ _ h => h) (Or.inl ⟨by rfl, ?y13B_69⟩) (by assumption) ?r13B_69
        case y13B_69 => (intro w hSw; (try dsimp only at hSw); (try go_split_ands); go_simp); (try with_reducible rfl)
        case r13B_69 =>
        (try simp only [Act.put, List.setIfInBounds_toArray, List.set_cons_zero, List.set_cons_succ])
        refine wpAnyH_take (i := 14) (oi := ⟨some 87, _, _, _, _, _⟩) (v := ?v14B_72) rfl (by kernel_rfl) (by kernel_rfl) (by kernel_rfl) (fun _ _ _ h => h) (Or.inl ⟨by rfl, ?y14B_72⟩) (by assumption) ?r14B_72
        case y14B_72 => (intro w hSw; (try dsimp only at hSw); (try go_split_ands); go_simp); (try with_reducible rfl)
        case r14B_72 =>
        (try simp only [Act.put, List.setIfInBounds_toArray, List.set_cons_zero, List.set_cons_succ])
        refine wpAnyH_ready (rs := [15]) (by kernel_rfl) (by simp) ?_
        refine AllReadyH.cons (o := ⟨none, _, _, _, _, _⟩) rfl (fun K hK => ?_) AllReadyH.nil
        have k7 : w5.cell? ⟨b, 2, none⟩ = some (cv1) := (HW5.out.cell 2).trans rfl
        have f7 := HW5.out.free 2
        go_simp
        refine hK.out _ _ trivial (fun hHeld => ?_)
        clear hK K
        (try simp only [Act.put, List.setIfInBounds_toArray, List.set_cons_zero, List.set_cons_succ])
        refine wpAnyH_done (by kernel_rfl) ?_ _
        go_wp2_with fail
        subst hn
        obtain ⟨hF, hTF, hFF⟩ := HP8.out.pushedC (c := ⟨2, x.z.id, 0, 0, ⟨#[]⟩⟩) HO5.out rfl HT5.out (hb5'.imp_right fun e => ⟨_, e, Nat.le_succ _⟩)
        have hTT := HT8.out.trans hTF (fun x _ hx => hx)
        have hs8 := HT8.out.size
        refine ⟨⟨j + 1, _, _, by omega, by go_num, by rw [HSTEP.out, if_pos HS.out], hF, HSZ8.out, HT3.out.trans hTT (fun x hx hd => (HF3.out x hd).elim (fun h => h) (fun h => by omega)), fun x hx => (hFF x hx).elim (fun h => HF3.out x h) (fun h => .inr (by omega)), ?_⟩, by simp [intOf]; omega⟩
        show (st.cs ++ [_]).length ≤ _
        rw [List.length_append, List.length_singleton]; omega
      · have e0 : V8.drew.cell? ⟨gz, j * 13, none⟩ = _ := d0
        go_simp
        refine hK.out _ _ trivial (fun hHeld => ?_)
        clear hK K
        (try simp only [Act.put, List.setIfInBounds_toArray, List.set_cons_zero, List.set_cons_succ])
        refine wpAnyH_take (i := 10) (oi := ⟨some 83, _, _, _, _, _⟩) (v := ?v10B_97) rfl (by kernel_rfl) (by kernel_rfl) (by kernel_rfl) (fun _ _ _ h => h) (Or.inl ⟨by rfl, ?y10B_97⟩) (by assumption) ?r10B_97
        case y10B_97 => (intro w hSw; (try dsimp only at hSw); (try go_split_ands); go_simp); (try with_reducible rfl)
        case r10B_97 =>
        (try simp only [Act.put, List.setIfInBounds_toArray, List.set_cons_zero, List.set_cons_succ])
        refine wpAnyH_ready (rs := [4, 11]) (by kernel_rfl) (by simp) ?_
        refine AllReadyH.cons (o := ⟨some 77, _, _, _, _, _⟩) rfl (fun K hK => ?_) (AllReadyH.cons (o := ⟨some 84, _, _, _, _, _⟩) rfl (fun K hK => ?_) AllReadyH.nil)
        · have k9 : V8.drew.cell? ⟨b, 2, none⟩ = some cv1 := k0
          go_simp
          refine hK.out _ _ trivial (fun hHeld => ?_)
          clear hK K
          (try simp only [Act.put, List.setIfInBounds_toArray, List.set_cons_zero, List.set_cons_succ])
          refine wpAnyH_ready (rs := [11]) (by kernel_rfl) (by simp) ?_
          refine AllReadyH.cons (o := ⟨some 84, _, _, _, _, _⟩) rfl (fun K hK => ?_) AllReadyH.nil
          go_simp
          have hb3 : Below V8.heap.size V8 (V8.drew.alloc (.cells #[.int .i64 2, .int .i64 x.z.id, .int .i64 0, .int .i64 0, .string ⟨#[]⟩] 58)) := (Below.refl _ _).drew.alloc (Nat.le_refl _) _
          have hbase6 : B ≤ (V8.drew.alloc (.cells #[.int .i64 2, .int .i64 x.z.id, .int .i64 0, .int .i64 0, .string ⟨#[]⟩] 58)).heap.size := by simp; omega
          have ho3 : (V8.drew.alloc (.cells #[.int .i64 2, .int .i64 x.z.id, .int .i64 0, .int .i64 0, .string ⟨#[]⟩] 58)).ownsRow B 58 5 cv1 n (st.cs.flatMap chV) := (Touch.of_below hb3).own HO.out (fun g hg hd => by have := (HO.out.lt g hg).2; omega)
          refine hK.out _ _ trivial (fun hHeld => ?_)
          clear hK K
          (try simp only [Act.put, List.setIfInBounds_toArray, List.set_cons_zero, List.set_cons_succ])
          refine wpAnyH_ready (rs := [12]) (by kernel_rfl) (by simp) ?_
          refine AllReadyH.cons (o := ⟨some 85, _, _, _, _, _⟩) rfl (fun K hK => ?_) AllReadyH.nil
          refine step_append_cells rfl (.tmp 77) (.tmp 84) 31 rfl B 58 i0 (.agg #[.int .i64 0, .int .i64 0, .int .i64 0, .int .i64 0, .string ⟨#[]⟩]) 5 48 Tryz.underlying31 hi hz0 hz1 hz2 rfl (by decide) (cv1) n (st.cs.flatMap chV) rfl ho3 _ _ 1 1 [.int .i64 2, .int .i64 x.z.id, .int .i64 0, .int .i64 0, .string ⟨#[]⟩] rfl (cells_new (w := V8.drew) (e := 58) rfl rfl) (chV_one ⟨2, x.z.id, 0, 0, ⟨#[]⟩⟩) (by unfold maxLen; omega) (by omega) hbase6 ?_
          intro v5 w5 hown5 ht5 hb5
          have hT5 : Touch (fun x => (cv1).ownBlock = some x) V8 w5 := ((Touch.refl _ _).trans (Touch.of_below hb3) (fun x hx hd => absurd hd (by omega))).trans ht5 (fun x _ hx => hx)
          have hs5 := hT5.size
          have hW5 : Whl w5 (b) 52 #[.slice (some ⟨gz, 0, none⟩) ps.length c, hv, cv1] := (hT5.block (b) HW.out.low (fun e => hfarv e)).trans HW.out
          have hb5' : v5.ownBlock = (cv1).ownBlock ∨ v5.ownBlock = some (V8.heap.size + 1) := by simpa using hb5
          clear hb5
          obtain ⟨g5, c5, rfl, _, _, _, _⟩ := own_form hown5 (Nat.succ_pos _)
          have HO5 := Lib.hid hown5
          have HT5 := Lib.hid hT5
          have HW5 := Lib.hid hW5
          
          clear hown5 ht5 hT5 hW5
          refine hK.out _ _ trivial (fun hHeld => ?_)
          clear hK K
          (try simp only [Act.put, List.setIfInBounds_toArray, List.set_cons_zero, List.set_cons_succ])
          refine wpAnyH_take (i := 13) (oi := ⟨some 86, _, _, _, _, _⟩) (v := ?v13B_134) rfl (by kernel_rfl) (by kernel_rfl) (by kernel_rfl) (fun _ _ _ h => h) (Or.inl ⟨by rfl, ?y13B_134⟩) (by assumption) ?r13B_134
          case y13B_134 => (intro w hSw; (try dsimp only at hSw); (try go_split_ands); go_simp); (try with_reducible rfl)
          case r13B_134 =>
          (try simp only [Act.put, List.setIfInBounds_toArray, List.set_cons_zero, List.set_cons_succ])
          refine wpAnyH_take (i := 14) (oi := ⟨some 87, _, _, _, _, _⟩) (v := ?v14B_137) rfl (by kernel_rfl) (by kernel_rfl) (by kernel_rfl) (fun _ _ _ h => h) (Or.inl ⟨by rfl, ?y14B_137⟩) (by assumption) ?r14B_137
          case y14B_137 => (intro w hSw; (try dsimp only at hSw); (try go_split_ands); go_simp); (try with_reducible rfl)
          case r14B_137 =>
          (try simp only [Act.put, List.setIfInBounds_toArray, List.set_cons_zero, List.set_cons_succ])
          refine wpAnyH_ready (rs := [15]) (by kernel_rfl) (by simp) ?_
          refine AllReadyH.cons (o := ⟨none, _, _, _, _, _⟩) rfl (fun K hK => ?_) AllReadyH.nil
          have k7 : w5.cell? ⟨b, 2, none⟩ = some (cv1) := (HW5.out.cell 2).trans rfl
          have f7 := HW5.out.free 2
          go_simp
          refine hK.out _ _ trivial (fun hHeld => ?_)
          clear hK K
          (try simp only [Act.put, List.setIfInBounds_toArray, List.set_cons_zero, List.set_cons_succ])
          refine wpAnyH_done (by kernel_rfl) ?_ _
          go_wp2_with fail
          subst hn
          obtain ⟨hF, hTF, hFF⟩ := HP8.out.pushedC (c := ⟨2, x.z.id, 0, 0, ⟨#[]⟩⟩) HO5.out rfl HT5.out (hb5'.imp_right fun e => ⟨_, e, Nat.le_succ _⟩)
          have hTT := HT8.out.trans hTF (fun x _ hx => hx)
          have hs8 := HT8.out.size
          refine ⟨⟨j + 1, _, _, by omega, by go_num, by rw [HSTEP.out, if_pos HS.out], hF, HSZ8.out, HT3.out.trans hTT (fun x hx hd => (HF3.out x hd).elim (fun h => h) (fun h => by omega)), fun x hx => (hFF x hx).elim (fun h => HF3.out x h) (fun h => .inr (by omega)), ?_⟩, by simp [intOf]; omega⟩
          show (st.cs ++ [_]).length ≤ _
          rw [List.length_append, List.length_singleton]; omega
        · go_simp
          have hb3 : Below V8.heap.size V8 (V8.drew.alloc (.cells #[.int .i64 2, .int .i64 x.z.id, .int .i64 0, .int .i64 0, .string ⟨#[]⟩] 58)) := (Below.refl _ _).drew.alloc (Nat.le_refl _) _
          have hbase6 : B ≤ (V8.drew.alloc (.cells #[.int .i64 2, .int .i64 x.z.id, .int .i64 0, .int .i64 0, .string ⟨#[]⟩] 58)).heap.size := by simp; omega
          have ho3 : (V8.drew.alloc (.cells #[.int .i64 2, .int .i64 x.z.id, .int .i64 0, .int .i64 0, .string ⟨#[]⟩] 58)).ownsRow B 58 5 cv1 n (st.cs.flatMap chV) := (Touch.of_below hb3).own HO.out (fun g hg hd => by have := (HO.out.lt g hg).2; omega)
          refine hK.out _ _ trivial (fun hHeld => ?_)
          clear hK K
          (try simp only [Act.put, List.setIfInBounds_toArray, List.set_cons_zero, List.set_cons_succ])
          refine wpAnyH_ready (rs := [4]) (by kernel_rfl) (by simp) ?_
          refine AllReadyH.cons (o := ⟨some 77, _, _, _, _, _⟩) rfl (fun K hK => ?_) AllReadyH.nil
          have k9 := bkeep hb3 k0 (by have := HW.out.low; omega)
          have k10 : V8.cell? ⟨b, 2, none⟩ = some cv1 := k0
          go_simp
          refine hK.out _ _ trivial (fun hHeld => ?_)
          clear hK K
          (try simp only [Act.put, List.setIfInBounds_toArray, List.set_cons_zero, List.set_cons_succ])
          refine wpAnyH_ready (rs := [12]) (by kernel_rfl) (by simp) ?_
          refine AllReadyH.cons (o := ⟨some 85, _, _, _, _, _⟩) rfl (fun K hK => ?_) AllReadyH.nil
          refine step_append_cells rfl (.tmp 77) (.tmp 84) 31 rfl B 58 i0 (.agg #[.int .i64 0, .int .i64 0, .int .i64 0, .int .i64 0, .string ⟨#[]⟩]) 5 48 Tryz.underlying31 hi hz0 hz1 hz2 rfl (by decide) (cv1) n (st.cs.flatMap chV) rfl ho3 _ _ 1 1 [.int .i64 2, .int .i64 x.z.id, .int .i64 0, .int .i64 0, .string ⟨#[]⟩] rfl (cells_new (w := V8.drew) (e := 58) rfl rfl) (chV_one ⟨2, x.z.id, 0, 0, ⟨#[]⟩⟩) (by unfold maxLen; omega) (by omega) hbase6 ?_
          intro v5 w5 hown5 ht5 hb5
          have hT5 : Touch (fun x => (cv1).ownBlock = some x) V8 w5 := ((Touch.refl _ _).trans (Touch.of_below hb3) (fun x hx hd => absurd hd (by omega))).trans ht5 (fun x _ hx => hx)
          have hs5 := hT5.size
          have hW5 : Whl w5 (b) 52 #[.slice (some ⟨gz, 0, none⟩) ps.length c, hv, cv1] := (hT5.block (b) HW.out.low (fun e => hfarv e)).trans HW.out
          have hb5' : v5.ownBlock = (cv1).ownBlock ∨ v5.ownBlock = some (V8.heap.size + 1) := by simpa using hb5
          clear hb5
          obtain ⟨g5, c5, rfl, _, _, _, _⟩ := own_form hown5 (Nat.succ_pos _)
          have HO5 := Lib.hid hown5
          have HT5 := Lib.hid hT5
          have HW5 := Lib.hid hW5
          
          clear hown5 ht5 hT5 hW5
          refine hK.out _ _ trivial (fun hHeld => ?_)
          clear hK K
          (try simp only [Act.put, List.setIfInBounds_toArray, List.set_cons_zero, List.set_cons_succ])
          refine wpAnyH_take (i := 13) (oi := ⟨some 86, _, _, _, _, _⟩) (v := ?v13B_190) rfl (by kernel_rfl) (by kernel_rfl) (by kernel_rfl) (fun _ _ _ h => h) (Or.inl ⟨by rfl, ?y13B_190⟩) (by assumption) ?r13B_190
          case y13B_190 => (intro w hSw; (try dsimp only at hSw); (try go_split_ands); go_simp); (try with_reducible rfl)
          case r13B_190 =>
          (try simp only [Act.put, List.setIfInBounds_toArray, List.set_cons_zero, List.set_cons_succ])
          refine wpAnyH_take (i := 14) (oi := ⟨some 87, _, _, _, _, _⟩) (v := ?v14B_193) rfl (by kernel_rfl) (by kernel_rfl) (by kernel_rfl) (fun _ _ _ h => h) (Or.inl ⟨by rfl, ?y14B_193⟩) (by assumption) ?r14B_193
          case y14B_193 => (intro w hSw; (try dsimp only at hSw); (try go_split_ands); go_simp); (try with_reducible rfl)
          case r14B_193 =>
          (try simp only [Act.put, List.setIfInBounds_toArray, List.set_cons_zero, List.set_cons_succ])
          refine wpAnyH_ready (rs := [15]) (by kernel_rfl) (by simp) ?_
          refine AllReadyH.cons (o := ⟨none, _, _, _, _, _⟩) rfl (fun K hK => ?_) AllReadyH.nil
          have k7 : w5.cell? ⟨b, 2, none⟩ = some (cv1) := (HW5.out.cell 2).trans rfl
          have f7 := HW5.out.free 2
          go_simp
          refine hK.out _ _ trivial (fun hHeld => ?_)
          clear hK K
          (try simp only [Act.put, List.setIfInBounds_toArray, List.set_cons_zero, List.set_cons_succ])
          refine wpAnyH_done (by kernel_rfl) ?_ _
          go_wp2_with fail
          subst hn
          obtain ⟨hF, hTF, hFF⟩ := HP8.out.pushedC (c := ⟨2, x.z.id, 0, 0, ⟨#[]⟩⟩) HO5.out rfl HT5.out (hb5'.imp_right fun e => ⟨_, e, Nat.le_succ _⟩)
          have hTT := HT8.out.trans hTF (fun x _ hx => hx)
          have hs8 := HT8.out.size
          refine ⟨⟨j + 1, _, _, by omega, by go_num, by rw [HSTEP.out, if_pos HS.out], hF, HSZ8.out, HT3.out.trans hTT (fun x hx hd => (HF3.out x hd).elim (fun h => h) (fun h => by omega)), fun x hx => (hFF x hx).elim (fun h => HF3.out x h) (fun h => .inr (by omega)), ?_⟩, by simp [intOf]; omega⟩
          show (st.cs ++ [_]).length ≤ _
          rw [List.length_append, List.length_singleton]; omega
end Go.Proofs.YtepjehcmiofehaaGreat
