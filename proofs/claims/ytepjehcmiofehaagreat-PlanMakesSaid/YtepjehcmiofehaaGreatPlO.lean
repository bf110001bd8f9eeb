/- plan: hosts among the arguments; Make. -/
import Derived.Test.YtepjehcmiofehaaGreatPq33
import Derived.Test.YtepjehcmiofehaaGreatPq22
import Derived.Test.YtepjehcmiofehaaGreatPq23
namespace Go.Proofs.YtepjehcmiofehaaGreat
open Go.RowKit
set_option linter.unusedVariables false
set_option linter.unusedSimpArgs false

set_option maxHeartbeats 4000000 in
set_option maxRecDepth 10000 in
theorem drAreHostsC (A : Option Addr) (cc : Nat) (l : List Int) (w : World) (h : Cells w w.heap.size A l.length cc 1 (intsV l)) (hl : l.length ≤ 100000) :
    Calls Tryz.prog 24 #[.slice A l.length cc] w fun e w' => e = .returned (.bool (hostsB l)) ∧ Below w.heap.size w w' := by
  have HR := Lib.hid h
  clear h
  by_cases h1 : 1 ≤ l.length
  case neg =>
    have h0 : l.length = 0 := by omega
    have hb : hostsB l = false := by unfold hostsB; rw [decide_eq_false h1]; rfl
    go_enter Tryz.func24, Tryz.ntmps24
    go_wp2_with fail
    go_ret
    exact ⟨ret_bool (by rw [hb]), by ((repeat (first | (with_reducible exact Below.refl _ _) | (with_reducible assumption) | ((with_reducible refine b_set ?_ ?_); · (first | omega | (simp; done) | (simp; omega))) | ((with_reducible refine b_alloc ?_ ?_); · (first | omega | (simp; done) | (simp; omega))) | (with_reducible refine Below.drew ?_) | (with_reducible refine b_drewN ?_) | ((with_reducible refine b_call (by assumption) ?_ ?_); · (first | omega | (simp; done) | (simp; omega))))); done)⟩
  by_cases h6 : l.length ≤ 6
  case neg =>
    have hb : hostsB l = false := by unfold hostsB; rw [decide_eq_false h6, Bool.and_false]; rfl
    go_enter Tryz.func24, Tryz.ntmps24
    go_wp2_with fail
    go_ret
    exact ⟨ret_bool (by rw [hb]), by ((repeat (first | (with_reducible exact Below.refl _ _) | (with_reducible assumption) | ((with_reducible refine b_set ?_ ?_); · (first | omega | (simp; done) | (simp; omega))) | ((with_reducible refine b_alloc ?_ ?_); · (first | omega | (simp; done) | (simp; omega))) | (with_reducible refine Below.drew ?_) | (with_reducible refine b_drewN ?_) | ((with_reducible refine b_call (by assumption) ?_ ?_); · (first | omega | (simp; done) | (simp; omega))))); done)⟩
  have hb : hostsB l = okFrom 7 l := by unfold hostsB; rw [decide_eq_true h1, decide_eq_true h6]; rfl
  have HHB := Lib.hid hb
  clear hb
  go_enter Tryz.func24, Tryz.ntmps24
  go_wp2_with fail
  go_loopw [3, 5, 16] (fun av hv iv wr => ∃ (i : Nat) (a : Int), i ≤ l.length ∧ iv = .int .i64 i ∧ av = .int .i64 a ∧ okFrom 7 l = okFrom a (l.drop i) ∧ Below w.heap.size w wr) (fun _ _ iv _ => l.length - (intOf iv).toNat)
  case atStart => exact ⟨0, 7, Nat.zero_le _, rfl, rfl, rfl, by ((repeat (first | (with_reducible exact Below.refl _ _) | (with_reducible assumption) | ((with_reducible refine b_set ?_ ?_); · (first | omega | (simp; done) | (simp; omega))) | ((with_reducible refine b_alloc ?_ ?_); · (first | omega | (simp; done) | (simp; omega))) | (with_reducible refine Below.drew ?_) | (with_reducible refine b_drewN ?_) | ((with_reducible refine b_call (by assumption) ?_ ?_); · (first | omega | (simp; done) | (simp; omega))))); done)⟩
  case round =>
    obtain ⟨i, a, hil, rfl, rfl, hok, hBw⟩ := hrel
    have HBW := Lib.hid hBw
    have HOK := Lib.hid hok
    by_cases hlt : i < l.length
    · have q3 : (i : Int) < (l.length : Int) := by omega
      obtain ⟨gu, ou, e5, hgu, a0⟩ := (cells_keep HR.out hBw hBw.size).2.2 i _ (intsV_at hlt)
      subst e5
      obtain ⟨z, hz⟩ : ∃ z, z = l[i] := ⟨_, rfl⟩
      rw [← hz] at a0
      have hdr : l.drop i = z :: l.drop (i + 1) := by rw [hz]; exact List.drop_eq_getElem_cons hlt
      have HDR := Lib.hid hdr
      clear hBw hz hok hdr
      by_cases hk : a < z
      · by_cases hk2 : z < 14
        · go_wp2_with fail
          refine ⟨⟨i + 1, z, hlt, by go_num, rfl, ?_, HBW.out⟩, measZ hlt⟩
          rw [HOK.out, HDR.out]
          show (decide (a < z) && decide (z < 14) && okFrom z (l.drop (i + 1))) = _
          rw [decide_eq_true hk, decide_eq_true hk2]; rfl
        · go_wp2_with fail
          go_ret
          refine ⟨ret_bool ?_, HBW.out⟩
          rw [HHB.out, HOK.out, HDR.out]
          show _ = (decide (a < z) && decide (z < 14) && okFrom z (l.drop (i + 1)))
          rw [decide_eq_false (show ¬ z < 14 by omega), Bool.and_false]; rfl
      · go_wp2_with fail
        go_ret
        refine ⟨ret_bool ?_, HBW.out⟩
        rw [HHB.out, HOK.out, HDR.out]
        show _ = (decide (a < z) && decide (z < 14) && okFrom z (l.drop (i + 1)))
        rw [decide_eq_false (show ¬ a < z by omega)]; rfl
    · obtain rfl : l.length = i := by omega
      go_wp2_with fail
      go_ret
      refine ⟨ret_bool ?_, HBW.out⟩
      rw [HHB.out, HOK.out, List.drop_length]; rfl

set_option maxHeartbeats 4000000 in
set_option maxRecDepth 10000 in
theorem drCloneIC (g o cap : Nat) (l : List Int) (w : World) (hC : Cells w w.heap.size (some ⟨g, o, none⟩) l.length cap 1 (intsV l)) (hl : l.length ≤ 1000) :
    Calls Tryz.prog 25 #[.slice (some ⟨g, o, none⟩) l.length cap] w fun e w' => ∃ v', e = .returned v' ∧ w'.ownsRow w.heap.size 3 1 v' l.length (intsV l) ∧ Below w.heap.size w w' := by
  obtain ⟨i0, hi0, hz0, hz1, hz2⟩ := info_parts Tryz.infoI64
  have qn : ∀ (w : World) (a : Option Addr) (n c n' c' : Nat), (binOp .eql 25 (.slice a n c) (.slice none n' c')).run Tryz.prog w = .ok (.bool a.isNone) w := fun w a n c n' c' => Lib.run_eql_slice_nil w _ _ a n c n' c' Tryz.underlying25
  have HC := Lib.hid hC
  clear hC
  go_enter Tryz.func25, Tryz.ntmps25
  go_wp2_with (first
    | (at_builtin; refine wpList_append_row rfl (.tmp 5) (.tmp 6) 25 rfl w.heap.size 3 i0 _ 1 8 Tryz.underlying25 hi0 hz0 hz1 hz2 rfl (by decide) (.slice (some ⟨w.heap.size, 0, none⟩) 0 0) 0 [] rfl (owns_lit0 rfl (Nat.le_refl _)) w.heap.size (some ⟨g, o, none⟩) l.length cap (intsV l) rfl (cells_keep HC.out ((Below.refl _ _).alloc (Nat.le_refl _) _) (Nat.le_refl _)) (intsV_one l) (by unfold maxLen; omega) (by omega) (by simp) ?_; intro v5 w5 ho5 hb5; have HO5 := Lib.hid ho5; have HB5 := Lib.hid hb5; clear ho5 hb5)
    | fail)
  go_ret
  have h5 := HO5.out
  rw [Nat.zero_add, List.nil_append] at h5
  exact ⟨v5, rfl, h5, ((Below.refl _ _).alloc (Nat.le_refl _) _).trans (HB5.out.mono (by simp))⟩
set_option maxHeartbeats 4000000 in
set_option maxRecDepth 10000 in
theorem drNewC0 (A : Option Addr) (cc : Nat) (l : List Int) (w : World) (h : Cells w w.heap.size A l.length cc 1 (intsV l)) (hl : l.length ≤ 100000) (hb : hostsB l = false) :
    Calls Tryz.prog 13 #[.slice A l.length cc] w fun e w' => e = .returned (.tuple #[.pointer none, .int .i64 1]) ∧ Below w.heap.size w w' := by
  have HR := Lib.hid h
  have HHB := Lib.hid hb
  clear h hb
  go_enter Tryz.func13, Tryz.ntmps13
  go_wp2_with (first
    | (go_at_call 24; go_loud (refine (drAreHostsC A cc l _ HR.out hl).mono ?_; rintro e w2 ⟨rfl, hb2⟩; rw [HHB.out]; have HB2 := Lib.hid hb2; clear hb2))
    | fail)
  refine bodyPost_ret (v := .tuple #[.pointer none, .int .i64 1]) (by simp [results, Tryz.results13, go_sem]) rfl ⟨rfl, HB2.out⟩
set_option maxHeartbeats 4000000 in
set_option maxRecDepth 10000 in
theorem drNewC1 (A : Option Addr) (cc : Nat) (l : List Int) (w : World) (h : Cells w w.heap.size A l.length cc 1 (intsV l)) (hb : hostsB l = true) :
    Calls Tryz.prog 13 #[.slice A l.length cc] w fun e w' => ∃ d, e = .returned (.tuple #[.pointer (some ⟨d, 0, none⟩), .int .i64 0]) ∧ Below w.heap.size w w' := by
  have HR := Lib.hid h
  have HHB := Lib.hid hb
  have h1 : 1 ≤ l.length ∧ l.length ≤ 6 := by
    unfold hostsB at hb
    simp only [Bool.and_eq_true, decide_eq_true_eq] at hb
    exact hb.1
  obtain ⟨g, o, hA, hg, a0⟩ := h.2.2 0 _ (intsV_at (show 0 < l.length by omega))
  subst hA
  rw [Nat.add_zero] at a0
  have q1 : (1 : Int) ≤ (l.length : Int) := by omega
  have q0 : (0 : Int) < (l.length : Int) := by omega
  obtain ⟨z0, hz0⟩ : ∃ z, z = l[0] := ⟨_, rfl⟩
  rw [← hz0] at a0
  clear h hb hz0
  go_enter Tryz.func13, Tryz.ntmps13
  go_upto_region 4 with (first
    | (go_at_call 24; go_loud (refine (drAreHostsC _ _ l _ HR.out (by omega)).mono ?_; rintro e w2 ⟨rfl, hb2⟩; rw [HHB.out]; have HB2 := Lib.hid hb2; have a2 := bkeep hb2 a0 hg; clear hb2))
    | fail)
  have HBV : Hid (Below w.heap.size w (w2.alloc (.cells #[.int .i64 1, .string ⟨#[]⟩, .string ⟨#[]⟩, .int .i64 z0, .int .i64 1, .int .i64 0, .int .i64 0, .string ⟨#[]⟩, .int .i64 0] 56))) := Lib.hid (HB2.out.alloc HB2.out.size _)
  have hP : Whl (w2.alloc (.cells #[.int .i64 1, .string ⟨#[]⟩, .string ⟨#[]⟩, .int .i64 z0, .int .i64 1, .int .i64 0, .int .i64 0, .string ⟨#[]⟩, .int .i64 0] 56)) w2.heap.size 56 #[.int .i64 1, .string ⟨#[]⟩, .string ⟨#[]⟩, .int .i64 z0, .int .i64 1, .int .i64 0, .int .i64 0, .string ⟨#[]⟩, .int .i64 0] := Whl.new rfl
  have p0 := hP.cell 0
  have p1 := hP.cell 1
  have p2 := hP.cell 2
  have p3 := hP.cell 3
  have p4 := hP.cell 4
  have p5 := hP.cell 5
  have p6 := hP.cell 6
  have p7 := hP.cell 7
  have p8 := hP.cell 8
  simp only [List.getElem?_toArray, List.getElem?_cons_succ, List.getElem?_cons_zero] at p0 p1 p2 p3 p4 p5 p6 p7 p8
  have hcell : ∀ W, Below w.heap.size w W → Cells W W.heap.size (some ⟨g, o, none⟩) l.length cc 1 (intsV l) := fun W hW => cells_keep HR.out hW hW.size
  have hpl := hP.low
  have hs2 := HB2.out.size
  obtain ⟨N, hN⟩ : ∃ n, n = w2.heap.size := ⟨_, rfl⟩
  rw [← hN] at p0 p1 p2 p3 p4 p5 p6 p7 p8 hpl hs2 ⊢
  clear hN hP a2
  generalize (w2.alloc (.cells #[.int .i64 1, .string ⟨#[]⟩, .string ⟨#[]⟩, .int .i64 z0, .int .i64 1, .int .i64 0, .int .i64 0, .string ⟨#[]⟩, .int .i64 0] 56)) = V at *
  go_region_with (first
    | (go_at_call 25; go_loud (refine (drCloneIC g o cc l _ (hcell _ (by have h9 := HBV.out; ((repeat (first | (with_reducible exact Below.refl _ _) | (with_reducible assumption) | ((with_reducible refine b_set ?_ ?_); · (first | omega | (simp; done) | (simp; omega))) | ((with_reducible refine b_alloc ?_ ?_); · (first | omega | (simp; done) | (simp; omega))) | (with_reducible refine Below.drew ?_) | (with_reducible refine b_drewN ?_) | ((with_reducible refine b_call (by assumption) ?_ ?_); · (first | omega | (simp; done) | (simp; omega))))); done))) (by omega)).mono ?_; rintro e w5 ⟨v', rfl, ho5, hb5⟩; obtain ⟨g5, c5, hv5, hg5, hg5l, hn5, hc5⟩ := own_form ho5 (by omega); subst hv5; obtain ⟨hc6, hf6⟩ := bcell hb5; have hs6 := hb5.size; (try simp at hs6); have HO5 := Lib.hid ho5; have HB5 := Lib.hid hb5; clear ho5 hb5))
    | fail)
  all_goals
    go_wp2_with fail
    have hsV := HBV.out.size
    have hb5 := HB5.out
    have hs7 := hb5.size
    simp at hs7
    have hBW : Below w.heap.size w w5 := Below.trans (by have h9 := HBV.out; ((repeat (first | (with_reducible exact Below.refl _ _) | (with_reducible assumption) | ((with_reducible refine b_set ?_ ?_); · (first | omega | (simp; done) | (simp; omega))) | ((with_reducible refine b_alloc ?_ ?_); · (first | omega | (simp; done) | (simp; omega))) | (with_reducible refine Below.drew ?_) | (with_reducible refine b_drewN ?_) | ((with_reducible refine b_call (by assumption) ?_ ?_); · (first | omega | (simp; done) | (simp; omega))))); done)) (hb5.mono (by simp; omega))
    first
      | exact bodyPost_ret (v := .tuple #[.pointer (some ⟨w5.heap.size, 0, none⟩), .int .i64 0]) (by simp [results, Tryz.results13, go_sem]) rfl ⟨w5.heap.size, rfl, hBW.alloc (by omega) _⟩
      | exact bodyPost_ret (v := .tuple #[.pointer (some ⟨w5.heap.size + 1, 0, none⟩), .int .i64 0]) (by simp [results, Tryz.results13, go_sem]) rfl ⟨w5.heap.size + 1, rfl, Below.alloc (hBW.alloc (by omega) _) (by simp; omega) _⟩
/-- what a plan is: its zones and changes behind the three steps -/
structure PlanR (m : Mp) (hs : List Int) (l : List Lr) (hot cold : Int) (cs : List Ch) : Prop where
  run : ∃ π st qs ds n, ByI (begP l m.zs) π ∧ st = π.foldl (splitStep hot) ⟨begP l m.zs, [], 16 - (m.zs.length : Int) - (pdN 1 (begP l m.zs) : Int)⟩ ∧ MoveR hs st.ps st.cs qs ds n ∧ (2 ≤ pdN 3 st.ps + n ∨ ∃ g1 g2, Goes hs qs g1 g2 none) ∧ (n = 0 ∨ pdN 3 st.ps + n ≤ 2) ∧ cs = (mergeF cold qs ds).cs
theorem hm_hits (l : List Lr) (id : Int) : 0 ≤ (hm l id).1 ∧ (hm l id).1 ≤ 1099511627776 := by
  unfold hm
  split
  · simp
  · show 0 ≤ min (max _ 0) _ ∧ min (max _ 0) _ ≤ _; omega
theorem begP_hits (l : List Lr) (zs : List Zn) : HitsOk (begP l zs) := fun p hp => by
  obtain ⟨z, _, rfl⟩ := List.mem_map.1 hp
  exact hm_hits l z.id
theorem begP_len (l : List Lr) (zs : List Zn) : (begP l zs).length = zs.length := by simp [begP]
theorem begP_ids (l : List Lr) (zs : List Zn) : (begP l zs).map (fun p => p.z.id) = zs.map (fun z => z.id) := by
  unfold begP
  rw [List.map_map]
  rfl
theorem split_cs (hot : Int) : ∀ (l : List Nat) (st : PS), (l.foldl (splitStep hot) st).cs.length ≤ st.cs.length + l.length
  | [], st => by simp
  | i :: l, st => by
    have ih := split_cs hot l (splitStep hot st i)
    have h1 : (splitStep hot st i).cs.length ≤ st.cs.length + 1 := by
      unfold splitStep
      split
      · omega
      · split
        · simp
        · omega
    simp only [List.foldl_cons, List.length_cons]
    omega

end Go.Proofs.YtepjehcmiofehaaGreat
