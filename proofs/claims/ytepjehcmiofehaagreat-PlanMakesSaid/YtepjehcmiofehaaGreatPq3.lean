/- The directory: clones; Map; New. -/
import Derived.Lib.SliceRun
import Derived.Test.YtepjehcmiofehaaGreatPq2
namespace Go.Proofs.YtepjehcmiofehaaGreat
open Go.RowKit
set_option linter.unusedVariables false
set_option linter.unusedSimpArgs false
theorem Tryz.infoI64 : (Tryz.prog.info? 3).map (fun i => (i.zero, i.size, i.bytes)) = some (some (.int .i64 0), 1, 8) := by kernel_rfl
theorem own_mono {w : World} {base base' : Nat} {e : TypeId} {size n : Nat} {v : Value} {xs : List Value} (h : w.ownsRow base e size v n xs) (hb : base' ≤ base) : w.ownsRow base' e size v n xs := by
  refine ⟨h.1, ?_⟩
  rcases h.2 with hn | ⟨g, cap, cur, hv, hg, rest⟩
  · exact .inl hn
  · exact .inr ⟨g, cap, cur, hv, by omega, rest⟩
theorem intsV_one (l : List Int) : ∀ u ∈ intsV l, u.oneCell' = true := by
  intro u hu
  obtain ⟨z, _, rfl⟩ := List.mem_map.1 hu
  rfl
set_option maxHeartbeats 4000000 in
set_option maxRecDepth 10000 in
theorem drCloneI (B : Nat) (v : Value) (l : List Int) (w : World) (h : w.ownsRow B 3 1 v l.length (intsV l)) (hl : l.length ≤ 1000) :
    Calls Tryz.prog 25 #[v] w fun e w' => ∃ v', e = .returned v' ∧ w'.ownsRow w.heap.size 3 1 v' l.length (intsV l) ∧ Below w.heap.size w w' := by
  obtain ⟨i0, hi0, hz0, hz1, hz2⟩ := info_parts Tryz.infoI64
  have qn : ∀ (w : World) (a : Option Addr) (n c n' c' : Nat), (binOp .eql 25 (.slice a n c) (.slice none n' c')).run Tryz.prog w = .ok (.bool a.isNone) w := fun w a n c n' c' => Lib.run_eql_slice_nil w _ _ a n c n' c' Tryz.underlying25
  rcases h.2 with ⟨rfl, h0⟩ | ⟨g, cap, cur, rfl, hB, hg, hnc, hcm, hcs, htake⟩
  · have hl0 : l = [] := List.length_eq_zero_iff.1 h0
    subst hl0
    clear h
    go_enter Tryz.func25, Tryz.ntmps25
    go_wp2_with fail
    go_ret
    exact ⟨_, rfl, World.ownsRow_nil _ _ _ _, by ((repeat (first | (with_reducible exact Below.refl _ _) | (with_reducible assumption) | ((with_reducible refine b_set ?_ ?_); · (first | omega | (simp; done) | (simp; omega))) | ((with_reducible refine b_alloc ?_ ?_); · (first | omega | (simp; done) | (simp; omega))) | (with_reducible refine Below.drew ?_) | (with_reducible refine b_drewN ?_) | ((with_reducible refine b_call (by assumption) ?_ ?_); · (first | omega | (simp; done) | (simp; omega))))); done)⟩
  · have hlw := (Array.getElem?_eq_some_iff.1 hg).1
    have hC : Cells w w.heap.size (some ⟨g, 0, none⟩) l.length cap 1 (intsV l) := by
      refine ⟨h.1, (fun h => nomatch h), fun j u hj => ⟨g, 0, rfl, hlw, ?_⟩⟩
      rw [Nat.zero_add, h.cellAt j (by have := (List.getElem?_eq_some_iff.1 hj).1; have h1 := h.1; omega)]
      exact hj
    have HC := Lib.hid hC
    clear hC h htake hg hcs
    go_enter Tryz.func25, Tryz.ntmps25
    go_wp2_with (first
      | (at_builtin; refine wpList_append_row rfl (.tmp 5) (.tmp 6) 25 rfl w.heap.size 3 i0 _ 1 8 Tryz.underlying25 hi0 hz0 hz1 hz2 rfl (by decide) (.slice (some ⟨w.heap.size, 0, none⟩) 0 0) 0 [] rfl (owns_lit0 rfl (Nat.le_refl _)) w.heap.size (some ⟨g, 0, none⟩) l.length cap (intsV l) rfl (cells_keep HC.out ((Below.refl _ _).alloc (Nat.le_refl _) _) (Nat.le_refl _)) (intsV_one l) (by unfold maxLen; omega) (by omega) (by simp) ?_; intro v5 w5 ho5 hb5; have HO5 := Lib.hid ho5; have HB5 := Lib.hid hb5; clear ho5 hb5)
      | fail)
    go_ret
    have h5 := HO5.out
    rw [Nat.zero_add, List.nil_append] at h5
    exact ⟨v5, rfl, h5, ((Below.refl _ _).alloc (Nat.le_refl _) _).trans (HB5.out.mono (by simp))⟩
/-- hosts, behind a number -/
def okFrom : Int → List Int → Bool
  | _, [] => true
  | a, h :: r => decide (a < h) && decide (h < 14) && okFrom h r
def hostsB (l : List Int) : Bool := decide (1 ≤ l.length) && decide (l.length ≤ 6) && okFrom 7 l
set_option maxHeartbeats 4000000 in
set_option maxRecDepth 10000 in
theorem drAreHosts (B : Nat) (hv : Value) (l : List Int) (w : World) (h : w.ownsRow B 3 1 hv l.length (intsV l)) (hl : l.length ≤ 100000) :
    Calls Tryz.prog 24 #[hv] w fun e w' => e = .returned (.bool (hostsB l)) ∧ Below w.heap.size w w' := by
  have HR := Lib.hid h
  obtain ⟨A, cc, hzv, _, hnc, hcm⟩ := own_slice h
  subst hzv
  clear h
  by_cases h1 : 1 ≤ l.length
  case neg =>
    have h0 : l.length = 0 := by omega
    have hb : hostsB l = false := by unfold hostsB; rw [decide_eq_false h1]; rfl
    go_enter Tryz.func24, Tryz.ntmps24
    go_wp2_with fail
    go_ret
    exact ⟨ret_bool (by rw [hb]), by ((repeat (first | (with_reducible exact Below.refl _ _) | (with_reducible assumption) | ((with_reducible refine b_set ?_ ?_); · (first | omega | (simp; done) | (simp; omega))) | ((with_reducible refine b_alloc ?_ ?_); · (first | omega | (simp; done) | (simp; omega))) | (with_reducible refine Below.drew ?_) | (with_reducible refine b_drewN ?_) | ((with_reducible refine b_call (by assumption) ?_ ?_); · (first | omega | (simp; done) | (simp; omega))))); done)⟩
  by_cases h6 : l.length ≤ 6
  case neg =>
    have hb : hostsB l = false := by unfold hostsB; rw [decide_eq_false h6, Bool.and_false]; rfl
    go_enter Tryz.func24, Tryz.ntmps24
    go_wp2_with fail
    go_ret
    exact ⟨ret_bool (by rw [hb]), by ((repeat (first | (with_reducible exact Below.refl _ _) | (with_reducible assumption) | ((with_reducible refine b_set ?_ ?_); · (first | omega | (simp; done) | (simp; omega))) | ((with_reducible refine b_alloc ?_ ?_); · (first | omega | (simp; done) | (simp; omega))) | (with_reducible refine Below.drew ?_) | (with_reducible refine b_drewN ?_) | ((with_reducible refine b_call (by assumption) ?_ ?_); · (first | omega | (simp; done) | (simp; omega))))); done)⟩
  have hb : hostsB l = okFrom 7 l := by unfold hostsB; rw [decide_eq_true h1, decide_eq_true h6]; rfl
  have HHB := Lib.hid hb
  clear hb
  go_enter Tryz.func24, Tryz.ntmps24
  go_wp2_with fail
  go_loopw [3, 5, 16] (fun av hv iv wr => ∃ (i : Nat) (a : Int), i ≤ l.length ∧ iv = .int .i64 i ∧ av = .int .i64 a ∧ okFrom 7 l = okFrom a (l.drop i) ∧ Below w.heap.size w wr) (fun _ _ iv _ => l.length - (intOf iv).toNat)
  case atStart => exact ⟨0, 7, Nat.zero_le _, rfl, rfl, rfl, by ((repeat (first | (with_reducible exact Below.refl _ _) | (with_reducible assumption) | ((with_reducible refine b_set ?_ ?_); · (first | omega | (simp; done) | (simp; omega))) | ((with_reducible refine b_alloc ?_ ?_); · (first | omega | (simp; done) | (simp; omega))) | (with_reducible refine Below.drew ?_) | (with_reducible refine b_drewN ?_) | ((with_reducible refine b_call (by assumption) ?_ ?_); · (first | omega | (simp; done) | (simp; omega))))); done)⟩
  case round =>
    obtain ⟨i, a, hil, rfl, rfl, hok, hBw⟩ := hrel
    have HBW := Lib.hid hBw
    have HOK := Lib.hid hok
    by_cases hlt : i < l.length
    · have q3 : (i : Int) < (l.length : Int) := by omega
      have hr := row_belowZ HR.out hBw
      obtain ⟨gu, ku, e5, _, hgu, _, _⟩ := own_form hr (by omega)
      injection e5 with e5 e6 e7
      subst e5 e7
      have a0 := (hr.cellAt i (by omega)).trans (intsV_at hlt)
      obtain ⟨z, hz⟩ : ∃ z, z = l[i] := ⟨_, rfl⟩
      rw [← hz] at a0
      have hdr : l.drop i = z :: l.drop (i + 1) := by rw [hz]; exact List.drop_eq_getElem_cons hlt
      have HDR := Lib.hid hdr
      clear hr hBw hz hok hdr
      by_cases hk : a < z
      · by_cases hk2 : z < 14
        · go_wp2_with fail
          refine ⟨⟨i + 1, z, hlt, by go_num, rfl, ?_, HBW.out⟩, measZ hlt⟩
          rw [HOK.out, HDR.out]
          show (decide (a < z) && decide (z < 14) && okFrom z (l.drop (i + 1))) = _
          rw [decide_eq_true hk, decide_eq_true hk2]; rfl
        · go_wp2_with fail
          go_ret
          refine ⟨ret_bool ?_, HBW.out⟩
          rw [HHB.out, HOK.out, HDR.out]
          show _ = (decide (a < z) && decide (z < 14) && okFrom z (l.drop (i + 1)))
          rw [decide_eq_false (show ¬ z < 14 by omega), Bool.and_false]; rfl
      · go_wp2_with fail
        go_ret
        refine ⟨ret_bool ?_, HBW.out⟩
        rw [HHB.out, HOK.out, HDR.out]
        show _ = (decide (a < z) && decide (z < 14) && okFrom z (l.drop (i + 1)))
        rw [decide_eq_false (show ¬ a < z by omega)]; rfl
    · obtain rfl : l.length = i := by omega
      go_wp2_with fail
      go_ret
      refine ⟨ret_bool ?_, HBW.out⟩
      rw [HHB.out, HOK.out, List.drop_length]; rfl
def mp1 (l : List Int) : Mp := ⟨1, 2, [⟨1, ⟨#[]⟩, ⟨#[]⟩, l.headD 0, 1, 0, 0, ⟨#[]⟩, 0⟩]⟩
theorem mp1_flat {l : List Int} (h : 1 ≤ l.length) : flatZ (mp1 l).zs = (#[.int .i64 1, .string ⟨#[]⟩, .string ⟨#[]⟩, .int .i64 l[0], .int .i64 1, .int .i64 0, .int .i64 0, .string ⟨#[]⟩, .int .i64 0] : Array Value).toList := by
  rcases l with _ | ⟨a, r⟩
  · simp at h
  · rfl
theorem row_below2 {w w' : World} {n : Nat} {b e sz k g c : Nat} {xs : List Value} (hb : Below n w w') (hg : g < n) (h : w.ownsRow b e sz (.slice (some ⟨g, 0, none⟩) k c) k xs) : w'.ownsRow b e sz (.slice (some ⟨g, 0, none⟩) k c) k xs :=
  (Touch.of_below hb).own h (fun q hq hd => by have : g = q := (by simpa [Value.ownBlock] using hq); omega)
theorem mkDr (b0 : Nat) (W : World) (d : Nat) (hv zv : Value) (l : List Int) (hd : d = W.heap.size) (h1 : W.ownsRow b0 3 1 hv l.length (intsV l)) (h2 : W.ownsRow b0 56 9 zv 1 (flatZ (mp1 l).zs)) (hne : ∀ g, hv.ownBlock = some g → zv.ownBlock ≠ some g) (hb : b0 ≤ W.heap.size) :
    DrH (W.alloc (.cells #[hv, .int .i64 1, .int .i64 2, zv] 67)) b0 d hv zv l (mp1 l) := by
  subst hd
  refine ⟨Whl.new rfl, h1.alloc _, h2.alloc _, fun g hg => ?_, fun g hg => ?_, hne, hb⟩
  · have := (h1.lt g hg).2; omega
  · have := (h2.lt g hg).2; omega
set_option maxHeartbeats 4000000 in
set_option maxRecDepth 10000 in
theorem drNew0 (B : Nat) (hv : Value) (l : List Int) (w : World) (h : w.ownsRow B 3 1 hv l.length (intsV l)) (hl : l.length ≤ 100000) (hb : hostsB l = false) :
    Calls Tryz.prog 13 #[hv] w fun e w' => e = .returned (.tuple #[.pointer none, .int .i64 1]) ∧ Below w.heap.size w w' := by
  have HR := Lib.hid h
  have HHB := Lib.hid hb
  clear h hb
  go_enter Tryz.func13, Tryz.ntmps13
  go_wp2_with (first
    | (go_at_call 24; go_loud (refine (drAreHosts B hv l _ HR.out hl).mono ?_; rintro e w2 ⟨rfl, hb2⟩; rw [HHB.out]; have HB2 := Lib.hid hb2; clear hb2))
    | fail)
  refine bodyPost_ret (v := .tuple #[.pointer none, .int .i64 1]) (by simp [results, Tryz.results13, go_sem]) rfl ⟨rfl, HB2.out⟩
set_option maxHeartbeats 4000000 in
set_option maxRecDepth 10000 in
theorem drNew1 (B : Nat) (hv : Value) (l : List Int) (w : World) (h : w.ownsRow B 3 1 hv l.length (intsV l)) (hb : hostsB l = true) :
    Calls Tryz.prog 13 #[hv] w fun e w' => ∃ (d : Nat) (hv' zv : Value), e = .returned (.tuple #[.pointer (some ⟨d, 0, none⟩), .int .i64 0]) ∧ DrH w' w.heap.size d hv' zv l (mp1 l) ∧ Below w.heap.size w w' := by
  have HR := Lib.hid h
  have HHB := Lib.hid hb
  have h1 : 1 ≤ l.length ∧ l.length ≤ 6 := by
    unfold hostsB at hb
    simp only [Bool.and_eq_true, decide_eq_true_eq] at hb
    exact hb.1
  obtain ⟨g, cc, rfl, _, hg, hnc, hcm⟩ := own_form h (by omega)
  have a0 := (h.cellAt 0 (by omega)).trans (intsV_at (show 0 < l.length by omega))
  have q1 : (1 : Int) ≤ (l.length : Int) := by omega
  have q0 : (0 : Int) < (l.length : Int) := by omega
  clear h hb
  go_enter Tryz.func13, Tryz.ntmps13
  go_upto_region 4 with (first
    | (go_at_call 24; go_loud (refine (drAreHosts B _ l _ HR.out (by omega)).mono ?_; rintro e w2 ⟨rfl, hb2⟩; rw [HHB.out]; have HB2 := Lib.hid hb2; have a2 := bkeep hb2 a0 hg; clear hb2))
    | fail)
  have HBV : Hid (Below w.heap.size w (w2.alloc (.cells #[.int .i64 1, .string ⟨#[]⟩, .string ⟨#[]⟩, .int .i64 l[0], .int .i64 1, .int .i64 0, .int .i64 0, .string ⟨#[]⟩, .int .i64 0] 56))) := Lib.hid (HB2.out.alloc HB2.out.size _)
  have hP : Whl (w2.alloc (.cells #[.int .i64 1, .string ⟨#[]⟩, .string ⟨#[]⟩, .int .i64 l[0], .int .i64 1, .int .i64 0, .int .i64 0, .string ⟨#[]⟩, .int .i64 0] 56)) w2.heap.size 56 #[.int .i64 1, .string ⟨#[]⟩, .string ⟨#[]⟩, .int .i64 l[0], .int .i64 1, .int .i64 0, .int .i64 0, .string ⟨#[]⟩, .int .i64 0] := Whl.new rfl
  have p0 := hP.cell 0
  have p1 := hP.cell 1
  have p2 := hP.cell 2
  have p3 := hP.cell 3
  have p4 := hP.cell 4
  have p5 := hP.cell 5
  have p6 := hP.cell 6
  have p7 := hP.cell 7
  have p8 := hP.cell 8
  simp only [List.getElem?_toArray, List.getElem?_cons_succ, List.getElem?_cons_zero] at p0 p1 p2 p3 p4 p5 p6 p7 p8
  have hrow : ∀ W, Below w.heap.size w W → W.ownsRow B 3 1 (.slice (some ⟨g, 0, none⟩) l.length cc) l.length (intsV l) := fun W hW => row_belowZ HR.out hW
  have hpl := hP.low
  have hs2 := HB2.out.size
  have hh : l.headD 0 = l[0] := by
    rcases l with _ | ⟨a, r⟩
    · simp at h1
    · rfl
  have HH := Lib.hid hh
  clear hP a2 hh
  obtain ⟨N, hN⟩ : ∃ n, n = w2.heap.size := ⟨_, rfl⟩
  rw [← hN] at p0 p1 p2 p3 p4 p5 p6 p7 p8 hpl hs2 ⊢
  clear hN
  generalize (w2.alloc (.cells #[.int .i64 1, .string ⟨#[]⟩, .string ⟨#[]⟩, .int .i64 l[0], .int .i64 1, .int .i64 0, .int .i64 0, .string ⟨#[]⟩, .int .i64 0] 56)) = V at *
  go_region_with (first
    | (go_at_call 25; go_loud (refine (drCloneI B _ l _ (hrow _ (by have h9 := HBV.out; ((repeat (first | (with_reducible exact Below.refl _ _) | (with_reducible assumption) | ((with_reducible refine b_set ?_ ?_); · (first | omega | (simp; done) | (simp; omega))) | ((with_reducible refine b_alloc ?_ ?_); · (first | omega | (simp; done) | (simp; omega))) | (with_reducible refine Below.drew ?_) | (with_reducible refine b_drewN ?_) | ((with_reducible refine b_call (by assumption) ?_ ?_); · (first | omega | (simp; done) | (simp; omega))))); done))) (by omega)).mono ?_; rintro e w5 ⟨v', rfl, ho5, hb5⟩; obtain ⟨g5, c5, hv5, hg5, hg5l, hn5, hc5⟩ := own_form ho5 (by omega); subst hv5; obtain ⟨hc6, hf6⟩ := bcell hb5; have hs6 := hb5.size; (try simp at hs6); have HO5 := Lib.hid ho5; have HB5 := Lib.hid hb5; clear ho5 hb5))
    | fail)
  all_goals go_wp2_with fail
  all_goals have hsV := HBV.out.size
  all_goals have hb5 := HB5.out
  all_goals have hs7 := hb5.size
  all_goals simp at hs7 hg5
  rotate_left 2
  · have hBW : Below w.heap.size w w5 := Below.trans (by have h9 := HBV.out; ((repeat (first | (with_reducible exact Below.refl _ _) | (with_reducible assumption) | ((with_reducible refine b_set ?_ ?_); · (first | omega | (simp; done) | (simp; omega))) | ((with_reducible refine b_alloc ?_ ?_); · (first | omega | (simp; done) | (simp; omega))) | (with_reducible refine Below.drew ?_) | (with_reducible refine b_drewN ?_) | ((with_reducible refine b_call (by assumption) ?_ ?_); · (first | omega | (simp; done) | (simp; omega))))); done)) (hb5.mono (by simp; omega))
    refine bodyPost_ret (v := .tuple #[.pointer (some ⟨w5.heap.size, 0, none⟩), .int .i64 0]) (by simp [results, Tryz.results13, go_sem]) rfl ⟨w5.heap.size, .slice (some ⟨g5, 0, none⟩) l.length c5, .slice (some ⟨V.heap.size, 0, none⟩) 1 1, rfl, ?_, hBW.alloc (by omega) _⟩
    refine mkDr _ w5 _ _ _ l rfl (own_mono HO5.out (by simp; omega)) ?_ (fun g hg e => ?_) (by omega)
    · refine row_below2 (Below.mono hb5 (Nat.le_refl _)) (by simp) ?_
      have h9 := World.ownsRow_lit (base := w.heap.size) (e := 56) (size := 9) V #[.int .i64 1, .string ⟨#[]⟩, .string ⟨#[]⟩, .int .i64 l[0], .int .i64 1, .int .i64 0, .int .i64 0, .string ⟨#[]⟩, .int .i64 0] 1 (by omega) (by unfold maxLen; omega) rfl
      rw [mp1_flat h1.1]
      exact h9
    · have e1 : g5 = g := by simpa [Value.ownBlock] using hg
      have e2 : V.heap.size = g := by simpa [Value.ownBlock] using e
      omega
  all_goals
    have hBW : Below w.heap.size w w5 := Below.trans (by have h9 := HBV.out; ((repeat (first | (with_reducible exact Below.refl _ _) | (with_reducible assumption) | ((with_reducible refine b_set ?_ ?_); · (first | omega | (simp; done) | (simp; omega))) | ((with_reducible refine b_alloc ?_ ?_); · (first | omega | (simp; done) | (simp; omega))) | (with_reducible refine Below.drew ?_) | (with_reducible refine b_drewN ?_) | ((with_reducible refine b_call (by assumption) ?_ ?_); · (first | omega | (simp; done) | (simp; omega))))); done)) (hb5.mono (by simp; omega))
    refine bodyPost_ret (v := .tuple #[.pointer (some ⟨w5.heap.size + 1, 0, none⟩), .int .i64 0]) (by simp [results, Tryz.results13, go_sem]) rfl ⟨w5.heap.size + 1, .slice (some ⟨g5, 0, none⟩) l.length c5, .slice (some ⟨w5.heap.size, 0, none⟩) 1 1, rfl, ?_, Below.alloc (hBW.alloc (by omega) _) (by simp; omega) _⟩
    refine mkDr _ (w5.alloc (.cells #[.int .i64 1, .string ⟨#[]⟩, .string ⟨#[]⟩, .int .i64 l[0], .int .i64 1, .int .i64 0, .int .i64 0, .string ⟨#[]⟩, .int .i64 0] 56)) _ _ _ l (by simp) ((own_mono HO5.out (by simp; omega)).alloc _) ?_ (fun g hg e => ?_) (by simp; omega)
    · have h9 := World.ownsRow_lit (base := w.heap.size) (e := 56) (size := 9) w5 #[.int .i64 1, .string ⟨#[]⟩, .string ⟨#[]⟩, .int .i64 l[0], .int .i64 1, .int .i64 0, .int .i64 0, .string ⟨#[]⟩, .int .i64 0] 1 (by omega) (by unfold maxLen; omega) rfl
      rw [mp1_flat h1.1]
      exact h9
    · have e1 : g5 = g := by simpa [Value.ownBlock] using hg
      have e2 : w5.heap.size = g := by simpa [Value.ownBlock] using e
      omega
end Go.Proofs.YtepjehcmiofehaaGreat
