/- plan: the zone that goes. -/
import Derived.Test.YtepjehcmiofehaaGreatPq30
namespace Go.Proofs.YtepjehcmiofehaaGreat
open Go.RowKit
set_option linter.unusedVariables false
set_option linter.unusedSimpArgs false
def bestOk (f t : Rk) (p : Pz) : Bool := p.fr && decide (p.z.ow = f.h) && decide (0 < p.hits) && decide (t.l + p.hits < f.l)
def hitsAt (ps : List Pz) (m : Nat) : Int := ((ps[m]?).map fun p => p.hits).getD 0
def betterB (ps : List Pz) (acc : Option Nat) (p : Pz) : Bool := match acc with
  | none => true
  | some m => decide (hitsAt ps m < p.hits)
def bestStep (f t : Rk) (ps : List Pz) (acc : Option Nat) (k : Nat) : Option Nat := match ps[k]? with
  | none => acc
  | some p => if bestOk f t p && betterB ps acc p then some k else acc
def bestV (gz : Nat) (acc : Option Nat) : Value := match acc with
  | none => .pointer none
  | some k => zptr gz k
theorem best_ok {f t : Rk} {ps : List Pz} : ∀ (l : List Nat) (acc : Option Nat), (∀ k, acc = some k → ∃ p, ps[k]? = some p ∧ bestOk f t p = true) → ∀ k, l.foldl (bestStep f t ps) acc = some k → ∃ p, ps[k]? = some p ∧ bestOk f t p = true
  | [], acc, h, k, e => h k e
  | j :: l, acc, h, k, e => by
    refine best_ok l (bestStep f t ps acc j) ?_ k e
    intro m hm
    unfold bestStep at hm
    split at hm
    · exact h m hm
    · rename_i p hp
      split at hm
      · rename_i hc
        injection hm with hm
        subst hm
        rw [Bool.and_eq_true] at hc
        exact ⟨p, hp, hc.1⟩
      · exact h m hm
set_option maxHeartbeats 8000000 in
set_option maxRecDepth 10000 in
theorem plBest (B b gz c : Nat) (hv cv : Value) (ps : List Pz) (cs : List Ch) (f t : Rk) (w : World) (h : PlH w B b (.slice (some ⟨gz, 0, none⟩) ps.length c) hv cv ps cs) (h0 : 0 < ps.length) (hl : ps.length ≤ 16) (hnd : (ps.map fun p => p.z.id).Nodup) (hhit : HitsOk ps) (htl : 0 ≤ t.l ∧ t.l ≤ 35184372088832) :
    Calls Tryz.prog 35 #[.pointer (some ⟨b, 0, none⟩), .agg #[.int .i64 f.h, .int .i64 f.l], .agg #[.int .i64 t.h, .int .i64 t.l]] w fun e w' => ∃ π acc, e = .returned (bestV gz acc) ∧ ByI ps π ∧ acc = π.foldl (bestStep f t ps) none ∧ Below w.heap.size w w' := by
  have HND := Lib.hid hnd
  have HH := Lib.hid hhit
  have hV : Below w.heap.size w ((w.alloc (.cells #[.int .i64 f.h, .int .i64 f.l] 84)).alloc (.cells #[.int .i64 t.h, .int .i64 t.l] 84)) := ((Below.refl _ _).alloc (Nat.le_refl _) _).alloc (by simp) _
  have hW1 : Whl ((w.alloc (.cells #[.int .i64 f.h, .int .i64 f.l] 84)).alloc (.cells #[.int .i64 t.h, .int .i64 t.l] 84)) w.heap.size 84 #[.int .i64 f.h, .int .i64 f.l] := (Whl.new rfl).alloc _
  have hW2 : Whl ((w.alloc (.cells #[.int .i64 f.h, .int .i64 f.l] 84)).alloc (.cells #[.int .i64 t.h, .int .i64 t.l] 84)) (w.heap.size + 1) 84 #[.int .i64 t.h, .int .i64 t.l] := Whl.new (by simp)
  have HV := Lib.hid hV
  have HW1 := Lib.hid hW1
  have HW2 := Lib.hid hW2
  have HP := Lib.hid (h.below hV)
  clear h hnd hhit hV hW1 hW2
  go_enter Tryz.func35, Tryz.ntmps35
  go_wp2_with (first
    | (go_at_call 32; go_loud (refine (plById B b gz c hv cv ps cs _ HP.out h0 (by omega) HND.out).mono ?_; rintro e w2 ⟨π, v, rfl, hπ, ho2, hb2⟩; have HPI := Lib.hid hπ; obtain ⟨gv, cv2, rfl, hgv, _, _, _⟩ := own_form ho2 h0; have HO2 := Lib.hid ho2; have HB2 := Lib.hid (HV.out.trans (hb2.mono HV.out.size)); have HW1b := Lib.hid (HW1.out.below hb2 HW1.out.low); have HW2b := Lib.hid (HW2.out.below hb2 HW2.out.low); have HPb := Lib.hid (HP.out.below hb2); clear hπ ho2 hb2))
    | fail)
  have hnp := HPI.out.len
  have hs2 := HB2.out.size
  go_loopw [7, 13] (fun bv iv wr => ∃ (i : Nat) (acc : Option Nat), i ≤ ps.length ∧ iv = .int .i64 i ∧ bv = bestV gz acc ∧ acc = (π.take i).foldl (bestStep f t ps) none ∧ Below w2.heap.size w2 wr) (fun _ iv _ => ps.length - (intOf iv).toNat)
  case atStart => exact ⟨0, none, Nat.zero_le _, rfl, rfl, rfl, Below.refl _ _⟩
  case round =>
    obtain ⟨i, acc, hil, rfl, rfl, hacc, hBw⟩ := hrel
    have HBW := Lib.hid hBw
    by_cases hlt : i < ps.length
    case neg =>
      obtain rfl : ps.length = i := by omega
      rw [← hnp, List.take_length] at hacc
      have HACC := Lib.hid hacc
      clear hacc
      go_wp2_with fail
      go_ret
      exact ⟨π, acc, rfl, HPI.out, HACC.out, HB2.out.trans (HBW.out.mono hs2)⟩
    have q3 : (i : Int) < (ps.length : Int) := by omega
    have hip : i < π.length := by omega
    obtain ⟨k, hk⟩ : ∃ k, k = π[i] := ⟨_, rfl⟩
    have hkl : k < ps.length := by rw [hk]; exact HPI.out.lt _ (List.getElem_mem _)
    have hstep := fold_snoc (bestStep f t ps) none hip
    rw [← hk, ← hacc] at hstep
    obtain ⟨p, hp⟩ : ∃ p, p = ps[k] := ⟨_, rfl⟩
    have hpq : ps[k]? = some p := by rw [hp]; exact List.getElem?_eq_getElem hkl
    have hss : bestStep f t ps acc k = if bestOk f t p && betterB ps acc p then some k else acc := by unfold bestStep; rw [hpq]
    rw [hss] at hstep
    have HSTEP := Lib.hid hstep
    have v0 := ((row_belowZ HO2.out hBw).cellAt i (by omega)).trans (ptrs_get hip)
    rw [← hk] at v0
    change wr.cell? ⟨gv, i, none⟩ = some (.pointer (some ⟨gz, k * 13, none⟩)) at v0
    have hPr := HPb.out.below hBw
    obtain ⟨a0, a1, a2, a3, a4, a5, a6, a7, a8, a9, a10, a11, a12⟩ := rowP_at2 hPr.row hkl
    rw [← hp] at a0 a1 a2 a3 a4 a5 a6 a7 a8 a9 a10 a11 a12
    have hgz := (hPr.row.lt gz rfl).2
    have hhp := HH.out _ (List.getElem_mem hkl)
    rw [← hp] at hhp
    have x0 := (HW1b.out.below hBw HW1b.out.low).cell 0
    have x1 := (HW1b.out.below hBw HW1b.out.low).cell 1
    have y1 := (HW2b.out.below hBw HW2b.out.low).cell 1
    simp only [List.getElem?_toArray, List.getElem?_cons_succ, List.getElem?_cons_zero] at x0 x1 y1
    have z1 : wrap64 (t.l + p.hits) = t.l + p.hits := by unfold wrap64; omega
    have HACC := Lib.hid hacc
    have accm : ∀ m, acc = some m → m < ps.length := fun m hm => by
      obtain ⟨q, hq, _⟩ := best_ok _ none (fun k e => by cases e) m (hacc.symm.trans hm)
      exact (List.getElem?_eq_some_iff.1 hq).1
    have HPR := Lib.hid hPr
    have HPP := Lib.hid hp
    clear hstep hss hpq hacc hBw hk hPr hp
    cases c1 : p.fr with
    | false =>
      rw [c1] at a11
      have HNO : Hid (¬ ((bestOk f t p && betterB ps acc p) = true)) := Lib.hid (by unfold bestOk; rw [c1]; simp)
      go_wp2_with fail
      go_quiet (fail)
      go_wp2_with fail
      exact ⟨⟨i + 1, acc, hlt, by go_num, rfl, by rw [HSTEP.out]; exact (if_neg HNO.out).symm, b_drewN HBW.out⟩, measZ hlt⟩
    | true =>
    rw [c1] at a11
    by_cases c2 : p.z.ow = f.h
    case neg =>
      have q5 : (p.z.ow == f.h) = false := by rw [beq_eq_false_iff_ne]; exact c2
      have HNO : Hid (¬ ((bestOk f t p && betterB ps acc p) = true)) := Lib.hid (by unfold bestOk; rw [decide_eq_false c2]; simp)
      clear c2
      go_wp2_with fail
      go_quiet (fail)
      go_wp2_with fail
      exact ⟨⟨i + 1, acc, hlt, by go_num, rfl, by rw [HSTEP.out]; exact (if_neg HNO.out).symm, b_drewN HBW.out⟩, measZ hlt⟩
    have q5 : (p.z.ow == f.h) = true := by rw [beq_iff_eq]; exact c2
    by_cases c3 : 0 < p.hits
    case neg =>
      have q6 : decide (0 < p.hits) = false := decide_eq_false c3
      have HNO : Hid (¬ ((bestOk f t p && betterB ps acc p) = true)) := Lib.hid (by unfold bestOk; rw [decide_eq_false c3]; simp)
      have C2 := Lib.hid c2
      clear c3 c2
      go_wp2_with fail
      go_quiet (fail)
      go_wp2_with fail
      exact ⟨⟨i + 1, acc, hlt, by go_num, rfl, by rw [HSTEP.out]; exact (if_neg HNO.out).symm, b_drewN HBW.out⟩, measZ hlt⟩
    have q6 : decide (0 < p.hits) = true := decide_eq_true c3
    by_cases c4 : t.l + p.hits < f.l
    case neg =>
      have q7 : decide (t.l + p.hits < f.l) = false := decide_eq_false c4
      have HNO : Hid (¬ ((bestOk f t p && betterB ps acc p) = true)) := Lib.hid (by unfold bestOk; rw [decide_eq_false c4]; simp)
      have C2 := Lib.hid c2
      clear c4 c2
      go_wp2_with fail
      go_quiet (fail)
      go_wp2_with fail
      exact ⟨⟨i + 1, acc, hlt, by go_num, rfl, by rw [HSTEP.out]; exact (if_neg HNO.out).symm, b_drewN HBW.out⟩, measZ hlt⟩
    have q7 : decide (t.l + p.hits < f.l) = true := decide_eq_true c4
    have hbo : bestOk f t p = true := by unfold bestOk; rw [c1, decide_eq_true c2, q6, q7]; rfl
    have C2 := Lib.hid c2
    clear c2 c4
    cases acc with
    | none =>
      have HYES : Hid ((bestOk f t p && betterB ps none p) = true) := Lib.hid (by rw [hbo]; rfl)
      unfold bestV
      go_wp2_with fail
      go_quiet (fail)
      go_wp2_with fail
      exact ⟨⟨i + 1, some k, hlt, by go_num, rfl, by rw [HSTEP.out]; exact (if_pos HYES.out).symm, b_drewN HBW.out⟩, measZ hlt⟩
    | some m =>
      have hml := accm m rfl
      obtain ⟨b0, b1, b2, b3, b4, b5, b6, b7, b8, b9, b10, b11, b12⟩ := rowP_at2 HPR.out.row hml
      have hhm : hitsAt ps m = ps[m].hits := by simp [hitsAt, hml]
      obtain ⟨hm, hhm2⟩ : ∃ x, x = ps[m].hits := ⟨_, rfl⟩
      rw [← hhm2] at b9 hhm
      clear b0 b1 b2 b3 b4 b5 b6 b7 b8 b10 b11 b12
      unfold bestV zptr
      by_cases c5 : hm < p.hits
      · have q8 : decide (hm < p.hits) = true := decide_eq_true c5
        have HYES : Hid ((bestOk f t p && betterB ps (some m) p) = true) := Lib.hid (by rw [hbo]; show (true && decide (hitsAt ps m < p.hits)) = true; rw [hhm, q8]; rfl)
        go_wp2_with fail
        go_quiet (fail)
        go_wp2_with fail
        exact ⟨⟨i + 1, some k, hlt, by go_num, rfl, by rw [HSTEP.out]; exact (if_pos HYES.out).symm, b_drewN HBW.out⟩, measZ hlt⟩
      · have q8 : decide (hm < p.hits) = false := decide_eq_false c5
        have HNO : Hid (¬ ((bestOk f t p && betterB ps (some m) p) = true)) := Lib.hid (by rw [hbo]; show ¬ ((true && decide (hitsAt ps m < p.hits)) = true); rw [hhm, q8]; simp)
        go_wp2_with fail
        go_quiet (fail)
        go_wp2_with fail
        exact ⟨⟨i + 1, some m, hlt, by go_num, rfl, by rw [HSTEP.out]; exact (if_neg HNO.out).symm, b_drewN HBW.out⟩, measZ hlt⟩
end Go.Proofs.YtepjehcmiofehaaGreat
