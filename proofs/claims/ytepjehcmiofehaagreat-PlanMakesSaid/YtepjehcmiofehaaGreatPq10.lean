/- The document's May of an argument's map. -/
import Derived.Test.YtepjehcmiofehaaGreatPq9
namespace Go.Proofs.YtepjehcmiofehaaGreat
open Go.RowKit
set_option linter.unusedVariables false
set_option linter.unusedSimpArgs false
/-- an argument's row of zones -/
structure RowZ (w : World) (A : Option Addr) (cc : Nat) (l : List Zn) : Prop where
  cells : Cells w w.heap.size A l.length cc 9 (flatZ l)
  le : l.length ≤ cc
  mx : cc ≤ maxLen
theorem RowZ.below {w w' : World} {A : Option Addr} {cc : Nat} {l : List Zn} (h : RowZ w A cc l) (hb : Below w.heap.size w w') : RowZ w' A cc l := ⟨cells_keep h.cells hb hb.size, h.le, h.mx⟩
theorem RowZ.alloc {w : World} {A : Option Addr} {cc : Nat} {l : List Zn} (h : RowZ w A cc l) (o : Obj) : RowZ (w.alloc o) A cc l := h.below ((Below.refl _ _).alloc (Nat.le_refl _) _)
theorem rowC_at {w : World} {g o cc : Nat} {l : List Zn} (h : RowZ w (some ⟨g, o, none⟩) cc l) {i : Nat} (hi : i < l.length) :
    w.cell? ⟨g, o + i * 9, none⟩ = some (.int .i64 l[i].id) ∧ w.cell? ⟨g, o + i * 9 + 1, none⟩ = some (.string l[i].fr) ∧ w.cell? ⟨g, o + i * 9 + 2, none⟩ = some (.string l[i].tt) ∧ w.cell? ⟨g, o + i * 9 + 3, none⟩ = some (.int .i64 l[i].ow) ∧ w.cell? ⟨g, o + i * 9 + 4, none⟩ = some (.int .i64 l[i].ep) ∧ w.cell? ⟨g, o + i * 9 + 5, none⟩ = some (.int .i64 l[i].pd) ∧ w.cell? ⟨g, o + i * 9 + 6, none⟩ = some (.int .i64 l[i].mv) ∧ w.cell? ⟨g, o + i * 9 + 7, none⟩ = some (.string l[i].ky) ∧ w.cell? ⟨g, o + i * 9 + 8, none⟩ = some (.int .i64 l[i].nw) := by
  obtain ⟨qb, qo, e, _, h⟩ := zn_at h.cells hi
  injection e with e
  injection e with e1 e2
  subst e1 e2
  exact h
set_option maxHeartbeats 4000000 in
set_option maxRecDepth 10000 in
theorem rdFindC (A : Option Addr) (cc : Nat) (l : List Zn) (id : Int) (w : World) (h : RowZ w A cc l) (hl : l.length ≤ 100000) :
    Calls Tryz.prog 59 #[.slice A l.length cc, .int .i64 id] w fun e w' => ∃ k, e = .returned (.int .i64 k) ∧ At l id l.length k ∧ Below w.heap.size w w' := by
  have HR := Lib.hid h
  have hnc := h.le
  have hcm := h.mx
  clear h
  go_enter Tryz.func59, Tryz.ntmps59
  go_wp2_with fail
  go_loopw [5] (fun iv wr => ∃ i : Nat, i ≤ l.length ∧ iv = .int .i64 i ∧ (∀ j (hj : j < l.length), j < i → l[j].id ≠ id) ∧ Below w.heap.size w wr) (fun iv _ => l.length - (intOf iv).toNat)
  case atStart => exact ⟨0, Nat.zero_le _, rfl, fun j hj h => by omega, Below.refl _ _⟩
  case round =>
    obtain ⟨i, hil, rfl, hno, hBw⟩ := hrel
    have HBW := Lib.hid hBw
    have HNO := Lib.hid hno
    by_cases hlt : i < l.length
    · have q3 : (i : Int) < (l.length : Int) := by omega
      have hr := HR.out.below hBw
      obtain ⟨gz, go, hA, hgz, -⟩ := zn_at hr.cells hlt
      subst hA
      obtain ⟨z, hz⟩ : ∃ z, z = l[i] := ⟨_, rfl⟩
      obtain ⟨a0, _⟩ := rowC_at hr hlt
      rw [← hz] at a0
      have HZ := Lib.hid hz
      clear hr hBw hz hno
      by_cases hk : z.id = id
      · go_wp2_with fail
        go_ret
        exact ⟨_, rfl, .inr ⟨i, rfl, hlt, by rw [← HZ.out]; exact hk, HNO.out⟩, HBW.out⟩
      · have hk2 : (z.id == id) = false := by simpa using hk
        go_wp2_with fail
        refine ⟨⟨i + 1, hlt, by go_num, fun j hj h => ?_, HBW.out⟩, measZ hlt⟩
        by_cases e : j = i
        · subst e; rw [← HZ.out]; exact hk
        · exact HNO.out j hj (by omega)
    · obtain rfl : l.length = i := by omega
      go_wp2_with fail
      go_ret
      exact ⟨_, rfl, .inl ⟨rfl, HNO.out⟩, HBW.out⟩
set_option maxHeartbeats 8000000 in
set_option maxRecDepth 10000 in
theorem rdMergesC (i : Nat) (A : Option Addr) (cc : Nat) (l : List Zn) (w : World) (h : RowZ w A cc l) (hl : l.length ≤ 1000) (hi : i < l.length) {b : Bool} (hb : b = true ↔ MgP l i hi) :
    Calls Tryz.prog 61 #[.slice A l.length cc, .int .i64 i] w fun e w' => e = .returned (.bool b) ∧ Below w.heap.size w w' := by
  have HR := Lib.hid h
  have HNB : Hid (¬ MgP l i hi → b = false) := Lib.hid (no_of hb)
  have HYB : Hid (MgP l i hi → b = true) := Lib.hid hb.2
  obtain ⟨gz, go, hA, hgz, -⟩ := zn_at h.cells hi
  have hnc := h.le
  have hcm := h.mx
  subst hA
  have q3 : (i : Int) < (l.length : Int) := by omega
  obtain ⟨z, hz⟩ : ∃ z, z = l[i] := ⟨_, rfl⟩
  obtain ⟨v0, v1, v2, v3, v4, v5, v6, v7, v8⟩ := rowC_at h hi
  rw [← hz] at v0 v1 v2 v3 v4 v5 v6 v7 v8
  have HZ := Lib.hid hz
  have hcast : IntKind.i64.wrap ((i : Int) + 1) = (i : Int) + 1 := by rw [IntKind.wrap_i64]; omega
  have hcast2 : IntKind.i64.wrap ((i : Int) - 1) = (i : Int) - 1 := by rw [IntKind.wrap_i64]; omega
  clear h hz hb
  go_enter Tryz.func61, Tryz.ntmps61
  go_upto_region 3 with (first
    | (go_at_call 59; refine (rdFindC _ _ l z.nw _ (HR.out.alloc _) (by omega)).mono ?_; rintro e w2 ⟨k2, rfl, hk2, hb2⟩; have HAT := Lib.hid hk2; have HB2 := Lib.hid hb2; clear hb2 hk2)
    | fail)
  have HBW : Hid (Below w.heap.size w w2) := Lib.hid (((Below.refl _ _).alloc (Nat.le_refl _) _).trans (HB2.out.mono (by simp)))
  have hPZ : Whl w2 w.heap.size 56 #[.int .i64 z.id, .string z.fr, .string z.tt, .int .i64 z.ow, .int .i64 z.ep, .int .i64 z.pd, .int .i64 z.mv, .string z.ky, .int .i64 z.nw] := (Whl.new rfl).below HB2.out (by simp)
  have p0 := hPZ.cell 0
  have p1 := hPZ.cell 1
  have p2 := hPZ.cell 2
  have p3 := hPZ.cell 3
  have p4 := hPZ.cell 4
  have p5 := hPZ.cell 5
  have p6 := hPZ.cell 6
  have p7 := hPZ.cell 7
  have p8 := hPZ.cell 8
  simp only [List.getElem?_toArray, List.getElem?_cons_succ, List.getElem?_cons_zero] at p0 p1 p2 p3 p4 p5 p6 p7 p8
  have hpl := hPZ.low
  clear hPZ v0 v1 v2 v3 v4 v5 v6 v7 v8
  by_cases c1 : z.mv = 0
  case neg =>
    have f1 : (z.mv != 0) = true := by simpa using c1
    go_quiet (fail)
    go_wp2_with fail
    go_ret
    exact ⟨ret_bool (HNB.out (fun h => c1 (by rw [HZ.out]; exact h.mv))).symm, b_drewN HBW.out⟩
  have f1 : (z.mv != 0) = false := by simpa using c1
  by_cases c2 : z.ky.size = 0
  case neg =>
    obtain ⟨n1, n2, n3, n4⟩ := nil_beq c2
    go_quiet (fail)
    go_wp2_with fail
    go_ret
    exact ⟨ret_bool (HNB.out (fun h => c2 (by rw [HZ.out]; exact h.ky))).symm, b_drewN HBW.out⟩
  have e2 := nil_size.1 c2
  rw [e2] at p7
  rcases HAT.out with ⟨rfl, hno⟩ | ⟨k, rfl, hk, hkd, hkf⟩
  · have f3 : decide ((-1 : Int) < 0) = true := rfl
    go_quiet (fail)
    go_wp2_with fail
    go_ret
    exact ⟨ret_bool (HNB.out (fun h => by obtain ⟨k, hk, e, _⟩ := h.ex; exact hno k hk hk (by rw [HZ.out]; exact e))).symm, b_drewN HBW.out⟩
  rw [HZ.out] at hkd hkf
  have q4 : (k : Int) < (l.length : Int) := by omega
  have f3 : decide ((k : Int) < 0) = false := decide_eq_false (by omega)
  obtain ⟨y, hy⟩ : ∃ y, y = l[k] := ⟨_, rfl⟩
  obtain ⟨u0, u1, u2, u3, u4, u5, u6, u7, u8⟩ := rowC_at (HR.out.below HBW.out) hk
  rw [← hy] at u0 u1 u2 u3 u4 u5 u6 u7 u8
  have HY := Lib.hid hy
  clear hy e2
  by_cases c3 : k = i + 1
  case pos =>
    have f4 : ((k : Int) != (i : Int) + 1) = false := by simp; omega
    have HC3 := Lib.hid c3
    clear c3
    by_cases c0 : y.pd = 2
    case neg =>
      have g1 : (y.pd != 2) = true := by simpa using c0
      go_quiet (fail)
      go_wp2_with fail
      go_ret
      exact ⟨ret_bool (HNB.out (fun h => c0 (by rw [HY.out]; exact (h.of hk hkd hkf).2.1))).symm, b_drewN HBW.out⟩
    have g1 : (y.pd != 2) = false := by simpa using c0
    by_cases c1' : y.nw = z.id
    case neg =>
      have g2 : (y.nw != z.id) = true := by simpa using c1'
      go_quiet (fail)
      go_wp2_with fail
      go_ret
      exact ⟨ret_bool (HNB.out (fun h => c1' (by rw [HY.out, HZ.out]; exact (h.of hk hkd hkf).2.2.1))).symm, b_drewN HBW.out⟩
    have g2 : (y.nw != z.id) = false := by simpa using c1'
    by_cases c2' : y.ow = z.ow
    case neg =>
      have g3 : (y.ow != z.ow) = true := by simpa using c2'
      go_quiet (fail)
      go_wp2_with fail
      go_ret
      exact ⟨ret_bool (HNB.out (fun h => c2' (by rw [HY.out, HZ.out]; exact (h.of hk hkd hkf).2.2.2))).symm, b_drewN HBW.out⟩
    have g3 : (y.ow != z.ow) = false := by simpa using c2'
    go_quiet (fail)
    go_wp2_with fail
    go_ret
    exact ⟨ret_bool (HYB.out (⟨by rw [← HZ.out]; exact c1, by rw [← HZ.out]; exact c2, k, hk, hkd, hkf, .inl HC3.out, by rw [← HY.out]; exact c0, by rw [← HY.out, ← HZ.out]; exact c1', by rw [← HY.out, ← HZ.out]; exact c2'⟩)).symm, b_drewN HBW.out⟩
  have f4 : ((k : Int) != (i : Int) + 1) = true := by simp; omega
  by_cases c4 : k + 1 = i
  case neg =>
    have f5 : ((k : Int) != (i : Int) - 1) = true := by simp; omega
    go_quiet (fail)
    go_wp2_with fail
    go_ret
    exact ⟨ret_bool (HNB.out (fun h => by have := (h.of hk hkd hkf).1; omega)).symm, b_drewN HBW.out⟩
  have f5 : ((k : Int) != (i : Int) - 1) = false := by simp; omega
  have HC4 := Lib.hid c4
  clear c3 c4
  by_cases c0 : y.pd = 2
  case neg =>
    have g1 : (y.pd != 2) = true := by simpa using c0
    go_quiet (fail)
    go_wp2_with fail
    go_ret
    exact ⟨ret_bool (HNB.out (fun h => c0 (by rw [HY.out]; exact (h.of hk hkd hkf).2.1))).symm, b_drewN HBW.out⟩
  have g1 : (y.pd != 2) = false := by simpa using c0
  by_cases c1' : y.nw = z.id
  case neg =>
    have g2 : (y.nw != z.id) = true := by simpa using c1'
    go_quiet (fail)
    go_wp2_with fail
    go_ret
    exact ⟨ret_bool (HNB.out (fun h => c1' (by rw [HY.out, HZ.out]; exact (h.of hk hkd hkf).2.2.1))).symm, b_drewN HBW.out⟩
  have g2 : (y.nw != z.id) = false := by simpa using c1'
  by_cases c2' : y.ow = z.ow
  case neg =>
    have g3 : (y.ow != z.ow) = true := by simpa using c2'
    go_quiet (fail)
    go_wp2_with fail
    go_ret
    exact ⟨ret_bool (HNB.out (fun h => c2' (by rw [HY.out, HZ.out]; exact (h.of hk hkd hkf).2.2.2))).symm, b_drewN HBW.out⟩
  have g3 : (y.ow != z.ow) = false := by simpa using c2'
  go_quiet (fail)
  go_wp2_with fail
  go_ret
  exact ⟨ret_bool (HYB.out (⟨by rw [← HZ.out]; exact c1, by rw [← HZ.out]; exact c2, k, hk, hkd, hkf, .inr HC4.out, by rw [← HY.out]; exact c0, by rw [← HY.out, ← HZ.out]; exact c1', by rw [← HY.out, ← HZ.out]; exact c2'⟩)).symm, b_drewN HBW.out⟩
set_option maxHeartbeats 8000000 in
set_option maxRecDepth 10000 in
theorem rdSplitsC (i : Nat) (A : Option Addr) (cc : Nat) (m : Mp) (w : World) (h : RowZ w A cc m.zs) (hl : m.zs.length ≤ 1000) (hi : i < m.zs.length) {b : Bool} (hb : b = true ↔ SpP m i hi) :
    Calls Tryz.prog 60 #[.agg #[.int .i64 m.ver, .int .i64 m.nxt, .slice A m.zs.length cc], .int .i64 i] w fun e w' => e = .returned (.bool b) ∧ Below w.heap.size w w' := by
  have HR := Lib.hid h
  have HNB : Hid (¬ SpP m i hi → b = false) := Lib.hid (no_of hb)
  have HYB : Hid (SpP m i hi → b = true) := Lib.hid hb.2
  obtain ⟨gz, go, hA, hgz, -⟩ := zn_at h.cells hi
  have hnc := h.le
  have hcm := h.mx
  subst hA
  have q3 : (i : Int) < (m.zs.length : Int) := by omega
  obtain ⟨z, hz⟩ : ∃ z, z = m.zs[i] := ⟨_, rfl⟩
  obtain ⟨v0, v1, v2, v3, v4, v5, v6, v7, v8⟩ := rowC_at h hi
  rw [← hz] at v0 v1 v2 v3 v4 v5 v6 v7 v8
  have HZ := Lib.hid hz
  clear h hz hb
  cases hct : cutB z.fr z.tt z.ky with
  | false =>
    have HCT := Lib.hid hct
    clear hct
    go_enter Tryz.func60, Tryz.ntmps60
    go_wp2_with (first
      | (go_at_call 40; refine (refCut0 _ _ _ _ HCT.out).mono ?_; rintro e w3 ⟨rfl, hb3⟩; have HB3 := Lib.hid (Below.trans (show Below w.heap.size w _ by ((repeat (first | (with_reducible exact Below.refl _ _) | (with_reducible assumption) | ((with_reducible refine b_set ?_ ?_); · (first | omega | (simp; done) | (simp; omega))) | ((with_reducible refine b_alloc ?_ ?_); · (first | omega | (simp; done) | (simp; omega))) | (with_reducible refine Below.drew ?_) | (with_reducible refine b_drewN ?_) | ((with_reducible refine b_call (by assumption) ?_ ?_); · (first | omega | (simp; done) | (simp; omega))))); done)) (hb3.mono (by (first | omega | (simp; done) | (simp; omega))))); have hP3 := (show Whl _ w.heap.size 24 #[.int .i64 m.ver, .int .i64 m.nxt, .slice (some ⟨gz, go, none⟩) m.zs.length cc] from (Whl.new rfl).alloc _).below hb3 (by (first | omega | (simp; done) | (simp; omega))); have hQ3 := (show Whl _ (w.heap.size + 1) 56 #[.int .i64 z.id, .string z.fr, .string z.tt, .int .i64 z.ow, .int .i64 z.ep, .int .i64 z.pd, .int .i64 z.mv, .string z.ky, .int .i64 z.nw] from Whl.new (by (first | omega | (simp; done) | (simp; omega)))).below hb3 (by (first | omega | (simp; done) | (simp; omega))); have y6 := hQ3.cell 6; have y8 := hQ3.cell 8; have x1 := hP3.cell 1; have x2 := hP3.cell 2; simp only [List.getElem?_toArray, List.getElem?_cons_succ, List.getElem?_cons_zero] at y6 y8 x1 x2; have hs3 := hb3.size; (try simp at hs3); clear hb3)
      | fail)
    go_ret
    exact ⟨ret_bool (HNB.out (fun h => by (have := h.cut; rw [← HZ.out, HCT.out] at this; cases this))).symm, (by (have h9 := HB3.out; ((repeat (first | (with_reducible exact Below.refl _ _) | (with_reducible assumption) | ((with_reducible refine b_set ?_ ?_); · (first | omega | (simp; done) | (simp; omega))) | ((with_reducible refine b_alloc ?_ ?_); · (first | omega | (simp; done) | (simp; omega))) | (with_reducible refine Below.drew ?_) | (with_reducible refine b_drewN ?_) | ((with_reducible refine b_call (by assumption) ?_ ?_); · (first | omega | (simp; done) | (simp; omega))))); done)))⟩
  | true =>
  have HCT := Lib.hid hct
  clear hct
  by_cases c1 : z.mv = 0
  case neg =>
    have f1 : (z.mv != 0) = true := by simpa using c1
    have C1 := Lib.hid c1
    clear c1
    go_enter Tryz.func60, Tryz.ntmps60
    go_wp2_with (first
      | (go_at_call 40; refine (refCut1 _ _ _ _ HCT.out).mono ?_; rintro e w3 ⟨rfl, hb3⟩; have HB3 := Lib.hid (Below.trans (show Below w.heap.size w _ by ((repeat (first | (with_reducible exact Below.refl _ _) | (with_reducible assumption) | ((with_reducible refine b_set ?_ ?_); · (first | omega | (simp; done) | (simp; omega))) | ((with_reducible refine b_alloc ?_ ?_); · (first | omega | (simp; done) | (simp; omega))) | (with_reducible refine Below.drew ?_) | (with_reducible refine b_drewN ?_) | ((with_reducible refine b_call (by assumption) ?_ ?_); · (first | omega | (simp; done) | (simp; omega))))); done)) (hb3.mono (by (first | omega | (simp; done) | (simp; omega))))); have hP3 := (show Whl _ w.heap.size 24 #[.int .i64 m.ver, .int .i64 m.nxt, .slice (some ⟨gz, go, none⟩) m.zs.length cc] from (Whl.new rfl).alloc _).below hb3 (by (first | omega | (simp; done) | (simp; omega))); have hQ3 := (show Whl _ (w.heap.size + 1) 56 #[.int .i64 z.id, .string z.fr, .string z.tt, .int .i64 z.ow, .int .i64 z.ep, .int .i64 z.pd, .int .i64 z.mv, .string z.ky, .int .i64 z.nw] from Whl.new (by (first | omega | (simp; done) | (simp; omega)))).below hb3 (by (first | omega | (simp; done) | (simp; omega))); have y6 := hQ3.cell 6; have y8 := hQ3.cell 8; have x1 := hP3.cell 1; have x2 := hP3.cell 2; simp only [List.getElem?_toArray, List.getElem?_cons_succ, List.getElem?_cons_zero] at y6 y8 x1 x2; have hs3 := hb3.size; (try simp at hs3); clear hb3)
      | fail)
    go_ret
    exact ⟨ret_bool (HNB.out (fun h => C1.out (by rw [HZ.out]; exact h.mv))).symm, (by (have h9 := HB3.out; ((repeat (first | (with_reducible exact Below.refl _ _) | (with_reducible assumption) | ((with_reducible refine b_set ?_ ?_); · (first | omega | (simp; done) | (simp; omega))) | ((with_reducible refine b_alloc ?_ ?_); · (first | omega | (simp; done) | (simp; omega))) | (with_reducible refine Below.drew ?_) | (with_reducible refine b_drewN ?_) | ((with_reducible refine b_call (by assumption) ?_ ?_); · (first | omega | (simp; done) | (simp; omega))))); done)))⟩
  have f1 : (z.mv != 0) = false := by simpa using c1
  have C1 := Lib.hid c1
  clear c1
  by_cases c2 : z.nw < 1
  case pos =>
    have C2 := Lib.hid c2
    go_enter Tryz.func60, Tryz.ntmps60
    go_wp2_with (first
      | (go_at_call 40; refine (refCut1 _ _ _ _ HCT.out).mono ?_; rintro e w3 ⟨rfl, hb3⟩; have HB3 := Lib.hid (Below.trans (show Below w.heap.size w _ by ((repeat (first | (with_reducible exact Below.refl _ _) | (with_reducible assumption) | ((with_reducible refine b_set ?_ ?_); · (first | omega | (simp; done) | (simp; omega))) | ((with_reducible refine b_alloc ?_ ?_); · (first | omega | (simp; done) | (simp; omega))) | (with_reducible refine Below.drew ?_) | (with_reducible refine b_drewN ?_) | ((with_reducible refine b_call (by assumption) ?_ ?_); · (first | omega | (simp; done) | (simp; omega))))); done)) (hb3.mono (by (first | omega | (simp; done) | (simp; omega))))); have hP3 := (show Whl _ w.heap.size 24 #[.int .i64 m.ver, .int .i64 m.nxt, .slice (some ⟨gz, go, none⟩) m.zs.length cc] from (Whl.new rfl).alloc _).below hb3 (by (first | omega | (simp; done) | (simp; omega))); have hQ3 := (show Whl _ (w.heap.size + 1) 56 #[.int .i64 z.id, .string z.fr, .string z.tt, .int .i64 z.ow, .int .i64 z.ep, .int .i64 z.pd, .int .i64 z.mv, .string z.ky, .int .i64 z.nw] from Whl.new (by (first | omega | (simp; done) | (simp; omega)))).below hb3 (by (first | omega | (simp; done) | (simp; omega))); have y6 := hQ3.cell 6; have y8 := hQ3.cell 8; have x1 := hP3.cell 1; have x2 := hP3.cell 2; simp only [List.getElem?_toArray, List.getElem?_cons_succ, List.getElem?_cons_zero] at y6 y8 x1 x2; have hs3 := hb3.size; (try simp at hs3); clear hb3)
      | fail)
    go_ret
    exact ⟨ret_bool (HNB.out (fun h => by (have h1 := h.lo; rw [← HZ.out] at h1; have := C2.out; omega))).symm, (by (have h9 := HB3.out; ((repeat (first | (with_reducible exact Below.refl _ _) | (with_reducible assumption) | ((with_reducible refine b_set ?_ ?_); · (first | omega | (simp; done) | (simp; omega))) | ((with_reducible refine b_alloc ?_ ?_); · (first | omega | (simp; done) | (simp; omega))) | (with_reducible refine Below.drew ?_) | (with_reducible refine b_drewN ?_) | ((with_reducible refine b_call (by assumption) ?_ ?_); · (first | omega | (simp; done) | (simp; omega))))); done)))⟩
  by_cases c3 : m.nxt ≤ z.nw
  case pos =>
    have C3 := Lib.hid c3
    go_enter Tryz.func60, Tryz.ntmps60
    go_wp2_with (first
      | (go_at_call 40; refine (refCut1 _ _ _ _ HCT.out).mono ?_; rintro e w3 ⟨rfl, hb3⟩; have HB3 := Lib.hid (Below.trans (show Below w.heap.size w _ by ((repeat (first | (with_reducible exact Below.refl _ _) | (with_reducible assumption) | ((with_reducible refine b_set ?_ ?_); · (first | omega | (simp; done) | (simp; omega))) | ((with_reducible refine b_alloc ?_ ?_); · (first | omega | (simp; done) | (simp; omega))) | (with_reducible refine Below.drew ?_) | (with_reducible refine b_drewN ?_) | ((with_reducible refine b_call (by assumption) ?_ ?_); · (first | omega | (simp; done) | (simp; omega))))); done)) (hb3.mono (by (first | omega | (simp; done) | (simp; omega))))); have hP3 := (show Whl _ w.heap.size 24 #[.int .i64 m.ver, .int .i64 m.nxt, .slice (some ⟨gz, go, none⟩) m.zs.length cc] from (Whl.new rfl).alloc _).below hb3 (by (first | omega | (simp; done) | (simp; omega))); have hQ3 := (show Whl _ (w.heap.size + 1) 56 #[.int .i64 z.id, .string z.fr, .string z.tt, .int .i64 z.ow, .int .i64 z.ep, .int .i64 z.pd, .int .i64 z.mv, .string z.ky, .int .i64 z.nw] from Whl.new (by (first | omega | (simp; done) | (simp; omega)))).below hb3 (by (first | omega | (simp; done) | (simp; omega))); have y6 := hQ3.cell 6; have y8 := hQ3.cell 8; have x1 := hP3.cell 1; have x2 := hP3.cell 2; simp only [List.getElem?_toArray, List.getElem?_cons_succ, List.getElem?_cons_zero] at y6 y8 x1 x2; have hs3 := hb3.size; (try simp at hs3); clear hb3)
      | fail)
    go_ret
    exact ⟨ret_bool (HNB.out (fun h => by (have h1 := h.hi; rw [← HZ.out] at h1; have := C3.out; omega))).symm, (by (have h9 := HB3.out; ((repeat (first | (with_reducible exact Below.refl _ _) | (with_reducible assumption) | ((with_reducible refine b_set ?_ ?_); · (first | omega | (simp; done) | (simp; omega))) | ((with_reducible refine b_alloc ?_ ?_); · (first | omega | (simp; done) | (simp; omega))) | (with_reducible refine Below.drew ?_) | (with_reducible refine b_drewN ?_) | ((with_reducible refine b_call (by assumption) ?_ ?_); · (first | omega | (simp; done) | (simp; omega))))); done)))⟩
  by_cases c4 : ∀ j (hj : j < m.zs.length), m.zs[j].id ≠ z.nw
  case neg =>
    have C4 := Lib.hid c4
    clear c4
    go_enter Tryz.func60, Tryz.ntmps60
    go_wp2_with (first
      | (go_at_call 59; refine (rdFindC _ _ m.zs z.nw _ (HR.out.below (by (have h9 := HB3.out; ((repeat (first | (with_reducible exact Below.refl _ _) | (with_reducible assumption) | ((with_reducible refine b_set ?_ ?_); · (first | omega | (simp; done) | (simp; omega))) | ((with_reducible refine b_alloc ?_ ?_); · (first | omega | (simp; done) | (simp; omega))) | (with_reducible refine Below.drew ?_) | (with_reducible refine b_drewN ?_) | ((with_reducible refine b_call (by assumption) ?_ ?_); · (first | omega | (simp; done) | (simp; omega))))); done)))) (by omega)).mono ?_; rintro e w4 ⟨k2, rfl, hk2, hb4⟩; have hk0 : ¬ (k2 < 0) := (by rcases hk2 with ⟨_, hno⟩ | ⟨j, rfl, _⟩; exact absurd (fun j hj => hno j hj hj) C4.out; omega); clear hk2; have HB4 := Lib.hid (Below.trans (show Below w.heap.size w _ by (have h9 := HB3.out; ((repeat (first | (with_reducible exact Below.refl _ _) | (with_reducible assumption) | ((with_reducible refine b_set ?_ ?_); · (first | omega | (simp; done) | (simp; omega))) | ((with_reducible refine b_alloc ?_ ?_); · (first | omega | (simp; done) | (simp; omega))) | (with_reducible refine Below.drew ?_) | (with_reducible refine b_drewN ?_) | ((with_reducible refine b_call (by assumption) ?_ ?_); · (first | omega | (simp; done) | (simp; omega))))); done))) (hb4.mono (by (have h9 := HB3.out.size); (first | omega | (simp; done) | (simp; omega))))); have hP4 := Whl.below ((hP3.alloc _).alloc _) hb4 (by (have := hP3.low); (first | omega | (simp; done) | (simp; omega))); have hQ4 := Whl.below ((hQ3.alloc _).alloc _) hb4 (by (have := hQ3.low); (first | omega | (simp; done) | (simp; omega))); clear hb4)
      | (go_at_call 40; refine (refCut1 _ _ _ _ HCT.out).mono ?_; rintro e w3 ⟨rfl, hb3⟩; have HB3 := Lib.hid (Below.trans (show Below w.heap.size w _ by ((repeat (first | (with_reducible exact Below.refl _ _) | (with_reducible assumption) | ((with_reducible refine b_set ?_ ?_); · (first | omega | (simp; done) | (simp; omega))) | ((with_reducible refine b_alloc ?_ ?_); · (first | omega | (simp; done) | (simp; omega))) | (with_reducible refine Below.drew ?_) | (with_reducible refine b_drewN ?_) | ((with_reducible refine b_call (by assumption) ?_ ?_); · (first | omega | (simp; done) | (simp; omega))))); done)) (hb3.mono (by (first | omega | (simp; done) | (simp; omega))))); have hP3 := (show Whl _ w.heap.size 24 #[.int .i64 m.ver, .int .i64 m.nxt, .slice (some ⟨gz, go, none⟩) m.zs.length cc] from (Whl.new rfl).alloc _).below hb3 (by (first | omega | (simp; done) | (simp; omega))); have hQ3 := (show Whl _ (w.heap.size + 1) 56 #[.int .i64 z.id, .string z.fr, .string z.tt, .int .i64 z.ow, .int .i64 z.ep, .int .i64 z.pd, .int .i64 z.mv, .string z.ky, .int .i64 z.nw] from Whl.new (by (first | omega | (simp; done) | (simp; omega)))).below hb3 (by (first | omega | (simp; done) | (simp; omega))); have y6 := hQ3.cell 6; have y8 := hQ3.cell 8; have x1 := hP3.cell 1; have x2 := hP3.cell 2; simp only [List.getElem?_toArray, List.getElem?_cons_succ, List.getElem?_cons_zero] at y6 y8 x1 x2; have hs3 := hb3.size; (try simp at hs3); clear hb3)
      | fail)
    go_ret
    exact ⟨ret_bool (HNB.out (fun h => C4.out (fun j hj => by (have := h.no j hj; rw [← HZ.out] at this; exact this)))).symm, HB4.out⟩
  have C2 := Lib.hid c2
  have C3 := Lib.hid c3
  have C4 := Lib.hid c4
  clear c4
  go_enter Tryz.func60, Tryz.ntmps60
  go_wp2_with (first
    | (go_at_call 59; refine (rdFindC _ _ m.zs z.nw _ (HR.out.below (by (have h9 := HB3.out; ((repeat (first | (with_reducible exact Below.refl _ _) | (with_reducible assumption) | ((with_reducible refine b_set ?_ ?_); · (first | omega | (simp; done) | (simp; omega))) | ((with_reducible refine b_alloc ?_ ?_); · (first | omega | (simp; done) | (simp; omega))) | (with_reducible refine Below.drew ?_) | (with_reducible refine b_drewN ?_) | ((with_reducible refine b_call (by assumption) ?_ ?_); · (first | omega | (simp; done) | (simp; omega))))); done)))) (by omega)).mono ?_; rintro e w4 ⟨k2, rfl, hk2, hb4⟩; obtain rfl : k2 = -1 := (by rcases hk2 with ⟨h, _⟩ | ⟨j, _, hj, hjd, _⟩; exact h; exact absurd hjd (C4.out j hj)); clear hk2; have HB4 := Lib.hid (Below.trans (show Below w.heap.size w _ by (have h9 := HB3.out; ((repeat (first | (with_reducible exact Below.refl _ _) | (with_reducible assumption) | ((with_reducible refine b_set ?_ ?_); · (first | omega | (simp; done) | (simp; omega))) | ((with_reducible refine b_alloc ?_ ?_); · (first | omega | (simp; done) | (simp; omega))) | (with_reducible refine Below.drew ?_) | (with_reducible refine b_drewN ?_) | ((with_reducible refine b_call (by assumption) ?_ ?_); · (first | omega | (simp; done) | (simp; omega))))); done))) (hb4.mono (by (have h9 := HB3.out.size); (first | omega | (simp; done) | (simp; omega))))); have hP4 := Whl.below ((hP3.alloc _).alloc _) hb4 (by (have := hP3.low); (first | omega | (simp; done) | (simp; omega))); have hQ4 := Whl.below ((hQ3.alloc _).alloc _) hb4 (by (have := hQ3.low); (first | omega | (simp; done) | (simp; omega))); clear hb4)
    | (go_at_call 40; refine (refCut1 _ _ _ _ HCT.out).mono ?_; rintro e w3 ⟨rfl, hb3⟩; have HB3 := Lib.hid (Below.trans (show Below w.heap.size w _ by ((repeat (first | (with_reducible exact Below.refl _ _) | (with_reducible assumption) | ((with_reducible refine b_set ?_ ?_); · (first | omega | (simp; done) | (simp; omega))) | ((with_reducible refine b_alloc ?_ ?_); · (first | omega | (simp; done) | (simp; omega))) | (with_reducible refine Below.drew ?_) | (with_reducible refine b_drewN ?_) | ((with_reducible refine b_call (by assumption) ?_ ?_); · (first | omega | (simp; done) | (simp; omega))))); done)) (hb3.mono (by (first | omega | (simp; done) | (simp; omega))))); have hP3 := (show Whl _ w.heap.size 24 #[.int .i64 m.ver, .int .i64 m.nxt, .slice (some ⟨gz, go, none⟩) m.zs.length cc] from (Whl.new rfl).alloc _).below hb3 (by (first | omega | (simp; done) | (simp; omega))); have hQ3 := (show Whl _ (w.heap.size + 1) 56 #[.int .i64 z.id, .string z.fr, .string z.tt, .int .i64 z.ow, .int .i64 z.ep, .int .i64 z.pd, .int .i64 z.mv, .string z.ky, .int .i64 z.nw] from Whl.new (by (first | omega | (simp; done) | (simp; omega)))).below hb3 (by (first | omega | (simp; done) | (simp; omega))); have y6 := hQ3.cell 6; have y8 := hQ3.cell 8; have x1 := hP3.cell 1; have x2 := hP3.cell 2; simp only [List.getElem?_toArray, List.getElem?_cons_succ, List.getElem?_cons_zero] at y6 y8 x1 x2; have hs3 := hb3.size; (try simp at hs3); clear hb3)
    | fail)
  have x2 := hP4.cell 2
  have y7 := hQ4.cell 8
  simp only [List.getElem?_toArray, List.getElem?_cons_succ, List.getElem?_cons_zero] at x2 y7
  have hxl := hP4.low
  have hyl := hQ4.low
  clear hs3 hP3 hQ3 hP4 hQ4 v0 v1 v2 v3 v4 v5 v6 v7 v8 y6 y8 x1
  have hs4 := HB4.out.size
  go_loopw [9] (fun kv wk => ∃ k : Nat, k ≤ m.zs.length ∧ kv = .int .i64 k ∧ (∀ j (hj : j < m.zs.length), j < k → j ≠ i → m.zs[j].pd = 1 → m.zs[j].nw ≠ z.nw) ∧ Below w4.heap.size w4 wk) (fun kv _ => m.zs.length - (intOf kv).toNat)
  case atStart => exact ⟨0, Nat.zero_le _, rfl, fun j hj h => absurd h (Nat.not_lt_zero _), Below.refl _ _⟩
  case round =>
    obtain ⟨k, hkl, rfl, hno, hBk⟩ := hrel
    have HNO := Lib.hid hno
    have HBW := Lib.hid (HB4.out.trans (hBk.mono hs4))
    have x2 := bkeep hBk x2 hxl
    have y7 := bkeep hBk y7 hyl
    have hr := HR.out.below HBW.out
    have HBK := Lib.hid hBk
    clear hBk hno
    by_cases hkt : k < m.zs.length
    · have q5 : (k : Int) < (m.zs.length : Int) := by omega
      obtain ⟨y, hy⟩ : ∃ z, z = m.zs[k] := ⟨_, rfl⟩
      obtain ⟨_, _, _, _, _, u5, _, _, u8⟩ := rowC_at hr hkt
      rw [← hy] at u5 u8
      have HY := Lib.hid hy
      clear hy hr
      have go : ∀ (P : k ≠ i → y.pd = 1 → y.nw ≠ z.nw), ∀ j (hj : j < m.zs.length), j < k + 1 → j ≠ i → m.zs[j].pd = 1 → m.zs[j].nw ≠ z.nw := fun P j hj h1 h2 h3 => by
        by_cases e : j = k
        · subst e
          rw [← HY.out] at h3 ⊢
          exact P h2 h3
        · exact HNO.out j hj (by omega) h2 h3
      have GO := Lib.hid go
      clear go
      by_cases hki : k = i
      · have hn1 : ((k : Int) != (i : Int)) = false := by simp; omega
        have HKI := Lib.hid hki
        clear hki
        go_wp2_with fail
        go_quiet (fail)
        go_wp2_with fail
        exact ⟨⟨k + 1, hkt, by go_num, GO.out (fun h => absurd HKI.out h), b_drewN HBK.out⟩, measZ hkt⟩
      · have hn1 : ((k : Int) != (i : Int)) = true := by simp; omega
        by_cases hp1 : y.pd = 1
        · by_cases hne : y.nw = z.nw
          · have hn2 : (y.nw == z.nw) = true := by simpa using hne
            have HNE := Lib.hid hne
            have HP1 := Lib.hid hp1
            clear hne
            go_wp2_with fail
            go_quiet (fail)
            go_wp2_with fail
            go_ret
            exact ⟨ret_bool (HNB.out (fun h => h.one k hkt hki (by rw [← HY.out]; exact HP1.out) (by rw [← HY.out, ← HZ.out]; exact HNE.out))).symm, b_drewN HBW.out⟩
          · have hn2 : (y.nw == z.nw) = false := by simpa using hne
            have HNE := Lib.hid hne
            clear hne
            go_wp2_with fail
            go_quiet (fail)
            go_wp2_with fail
            exact ⟨⟨k + 1, hkt, by go_num, GO.out (fun _ _ => HNE.out), b_drewN HBK.out⟩, measZ hkt⟩
        · have hn2 : (y.pd == 1) = false := by simpa using hp1
          have HP1 := Lib.hid hp1
          go_wp2_with fail
          go_quiet (fail)
          go_wp2_with fail
          exact ⟨⟨k + 1, hkt, by go_num, GO.out (fun _ h => absurd h HP1.out), b_drewN HBK.out⟩, measZ hkt⟩
    · obtain rfl : m.zs.length = k := by omega
      go_wp2_with fail
      go_ret
      refine ⟨ret_bool (HYB.out ⟨by rw [← HZ.out]; exact HCT.out, by rw [← HZ.out]; exact C1.out, by rw [← HZ.out]; (have := C2.out; omega), by rw [← HZ.out]; (have := C3.out; omega), by rw [← HZ.out]; exact C4.out, fun k hk hne hp => ?_⟩).symm, HBW.out⟩
      rw [← HZ.out]
      exact HNO.out k hk hk hne hp
set_option maxHeartbeats 8000000 in
set_option maxRecDepth 10000 in
theorem rdZoneC (i : Nat) (A : Option Addr) (cc : Nat) (m : Mp) (w : World) (h : RowZ w A cc m.zs) (hl : m.zs.length ≤ 1000) (hi : i < m.zs.length) {b : Bool} (hb : b = true ↔ ZP m i hi) :
    Calls Tryz.prog 36 #[.agg #[.int .i64 m.ver, .int .i64 m.nxt, .slice A m.zs.length cc], .int .i64 i] w fun e w' => e = .returned (.bool b) ∧ Below w.heap.size w w' := by
  have HR := Lib.hid h
  have HNB : Hid (¬ ZP m i hi → b = false) := Lib.hid (no_of hb)
  have HYB : Hid (ZP m i hi → b = true) := Lib.hid hb.2
  have HBB := Lib.hid hb
  obtain ⟨gz, go, hA, hgz, -⟩ := zn_at h.cells hi
  have hnc := h.le
  have hcm := h.mx
  subst hA
  have q3 : (i : Int) < (m.zs.length : Int) := by omega
  obtain ⟨z, hz⟩ : ∃ z, z = m.zs[i] := ⟨_, rfl⟩
  obtain ⟨v0, v1, v2, v3, v4, v5, v6, v7, v8⟩ := rowC_at h hi
  rw [← hz] at v0 v1 v2 v3 v4 v5 v6 v7 v8
  have HZ := Lib.hid hz
  have hii : ((i : Int) != (i : Int)) = false := by simp
  clear h hz hb
  by_cases c1 : z.id < 1
  case pos =>
    have C1 := Lib.hid c1
    go_enter Tryz.func36, Tryz.ntmps36
    go_wp2_with (first
      | fail)
    go_ret
    exact ⟨ret_bool (HNB.out (fun h => by (have h1 := h.lo; rw [← HZ.out] at h1; have := C1.out; omega))).symm, by ((repeat (first | (with_reducible exact Below.refl _ _) | (with_reducible assumption) | ((with_reducible refine b_set ?_ ?_); · (first | omega | (simp; done) | (simp; omega))) | ((with_reducible refine b_alloc ?_ ?_); · (first | omega | (simp; done) | (simp; omega))) | (with_reducible refine Below.drew ?_) | (with_reducible refine b_drewN ?_) | ((with_reducible refine b_call (by assumption) ?_ ?_); · (first | omega | (simp; done) | (simp; omega))))); done)⟩
  by_cases c2 : m.nxt ≤ z.id
  case pos =>
    have C2 := Lib.hid c2
    go_enter Tryz.func36, Tryz.ntmps36
    go_wp2_with (first
      | fail)
    go_ret
    exact ⟨ret_bool (HNB.out (fun h => by (have h1 := h.hi; rw [← HZ.out] at h1; have := C2.out; omega))).symm, by ((repeat (first | (with_reducible exact Below.refl _ _) | (with_reducible assumption) | ((with_reducible refine b_set ?_ ?_); · (first | omega | (simp; done) | (simp; omega))) | ((with_reducible refine b_alloc ?_ ?_); · (first | omega | (simp; done) | (simp; omega))) | (with_reducible refine Below.drew ?_) | (with_reducible refine b_drewN ?_) | ((with_reducible refine b_call (by assumption) ?_ ?_); · (first | omega | (simp; done) | (simp; omega))))); done)⟩
  have C1 := Lib.hid c1
  have C2 := Lib.hid c2
  by_cases c3 : ∀ j (hj : j < m.zs.length), j < i → m.zs[j].id ≠ z.id
  case neg =>
    have C3 := Lib.hid c3
    have hat : ∀ k2 : Int, At m.zs z.id m.zs.length k2 → (k2 != (i : Int)) = true := fun k2 h2 => by
      simp only [bne_iff_ne, ne_eq]
      rintro rfl
      rcases h2 with ⟨h, _⟩ | ⟨j, h, hj, hjd, hjf⟩
      · omega
      · have : j = i := by omega
        subst this
        exact C3.out hjf
    have HAT := Lib.hid hat
    clear c3 hat
    go_enter Tryz.func36, Tryz.ntmps36
    go_wp2_with (first
      | (go_at_call 59; refine (rdFindC _ _ m.zs z.id _ (HR.out.below (by ((repeat (first | (with_reducible exact Below.refl _ _) | (with_reducible assumption) | ((with_reducible refine b_set ?_ ?_); · (first | omega | (simp; done) | (simp; omega))) | ((with_reducible refine b_alloc ?_ ?_); · (first | omega | (simp; done) | (simp; omega))) | (with_reducible refine Below.drew ?_) | (with_reducible refine b_drewN ?_) | ((with_reducible refine b_call (by assumption) ?_ ?_); · (first | omega | (simp; done) | (simp; omega))))); done))) (by omega)).mono ?_; rintro e w4 ⟨k2, rfl, hk2, hb4⟩; have hkn := HAT.out k2 hk2; clear hk2; have HW4 := Lib.hid (Below.trans (show Below w.heap.size w _ by ((repeat (first | (with_reducible exact Below.refl _ _) | (with_reducible assumption) | ((with_reducible refine b_set ?_ ?_); · (first | omega | (simp; done) | (simp; omega))) | ((with_reducible refine b_alloc ?_ ?_); · (first | omega | (simp; done) | (simp; omega))) | (with_reducible refine Below.drew ?_) | (with_reducible refine b_drewN ?_) | ((with_reducible refine b_call (by assumption) ?_ ?_); · (first | omega | (simp; done) | (simp; omega))))); done)) (hb4.mono (by (first | omega | (simp; done) | (simp; omega))))); obtain ⟨hc4, hf4⟩ := bcell hb4; have hs4 := hb4.size; (try simp at hs4); clear hb4)
      | fail)
    go_ret
    exact ⟨ret_bool (HNB.out (fun h => C3.out (fun j hj hji => by (have := h.fst j hj hji; rw [← HZ.out] at this; exact this)))).symm, HW4.out⟩
  have C3 := Lib.hid c3
  have hat : ∀ k2 : Int, At m.zs z.id m.zs.length k2 → k2 = (i : Int) := by
    intro k2 h2
    rcases h2 with ⟨_, hno⟩ | ⟨j, rfl, hj, hjd, hjf⟩
    · exact absurd (by rw [HZ.out]) (hno i hi hi)
    · rcases Nat.lt_trichotomy j i with h | h | h
      · exact absurd hjd (C3.out j hj h)
      · rw [h]
      · exact absurd (by rw [HZ.out]) (hjf i hi h)
  have HAT := Lib.hid hat
  clear c3 hat
  by_cases d0 : z.ow < 1
  case pos =>
    have D0 := Lib.hid d0
    go_enter Tryz.func36, Tryz.ntmps36
    go_wp2_with (first
      | (go_at_call 59; refine (rdFindC _ _ m.zs z.id _ (HR.out.below (by ((repeat (first | (with_reducible exact Below.refl _ _) | (with_reducible assumption) | ((with_reducible refine b_set ?_ ?_); · (first | omega | (simp; done) | (simp; omega))) | ((with_reducible refine b_alloc ?_ ?_); · (first | omega | (simp; done) | (simp; omega))) | (with_reducible refine Below.drew ?_) | (with_reducible refine b_drewN ?_) | ((with_reducible refine b_call (by assumption) ?_ ?_); · (first | omega | (simp; done) | (simp; omega))))); done))) (by omega)).mono ?_; rintro e w4 ⟨k2, rfl, hk2, hb4⟩; obtain rfl := HAT.out k2 hk2; clear hk2; have HW4 := Lib.hid (Below.trans (show Below w.heap.size w _ by ((repeat (first | (with_reducible exact Below.refl _ _) | (with_reducible assumption) | ((with_reducible refine b_set ?_ ?_); · (first | omega | (simp; done) | (simp; omega))) | ((with_reducible refine b_alloc ?_ ?_); · (first | omega | (simp; done) | (simp; omega))) | (with_reducible refine Below.drew ?_) | (with_reducible refine b_drewN ?_) | ((with_reducible refine b_call (by assumption) ?_ ?_); · (first | omega | (simp; done) | (simp; omega))))); done)) (hb4.mono (by (first | omega | (simp; done) | (simp; omega))))); obtain ⟨hc4, hf4⟩ := bcell hb4; have hs4 := hb4.size; (try simp at hs4); clear hb4)
      | fail)
    go_ret
    exact ⟨ret_bool (HNB.out (fun h => by (have h1 := h.ow1; rw [← HZ.out] at h1; have := D0.out; omega))).symm, HW4.out⟩
  have D0 := Lib.hid d0
  by_cases d1 : 1048576 < z.ow
  case pos =>
    have D1 := Lib.hid d1
    go_enter Tryz.func36, Tryz.ntmps36
    go_wp2_with (first
      | (go_at_call 59; refine (rdFindC _ _ m.zs z.id _ (HR.out.below (by ((repeat (first | (with_reducible exact Below.refl _ _) | (with_reducible assumption) | ((with_reducible refine b_set ?_ ?_); · (first | omega | (simp; done) | (simp; omega))) | ((with_reducible refine b_alloc ?_ ?_); · (first | omega | (simp; done) | (simp; omega))) | (with_reducible refine Below.drew ?_) | (with_reducible refine b_drewN ?_) | ((with_reducible refine b_call (by assumption) ?_ ?_); · (first | omega | (simp; done) | (simp; omega))))); done))) (by omega)).mono ?_; rintro e w4 ⟨k2, rfl, hk2, hb4⟩; obtain rfl := HAT.out k2 hk2; clear hk2; have HW4 := Lib.hid (Below.trans (show Below w.heap.size w _ by ((repeat (first | (with_reducible exact Below.refl _ _) | (with_reducible assumption) | ((with_reducible refine b_set ?_ ?_); · (first | omega | (simp; done) | (simp; omega))) | ((with_reducible refine b_alloc ?_ ?_); · (first | omega | (simp; done) | (simp; omega))) | (with_reducible refine Below.drew ?_) | (with_reducible refine b_drewN ?_) | ((with_reducible refine b_call (by assumption) ?_ ?_); · (first | omega | (simp; done) | (simp; omega))))); done)) (hb4.mono (by (first | omega | (simp; done) | (simp; omega))))); obtain ⟨hc4, hf4⟩ := bcell hb4; have hs4 := hb4.size; (try simp at hs4); clear hb4)
      | fail)
    go_ret
    exact ⟨ret_bool (HNB.out (fun h => by (have h1 := h.ow2; rw [← HZ.out] at h1; have := D1.out; omega))).symm, HW4.out⟩
  have D1 := Lib.hid d1
  by_cases d2 : z.ep < 1
  case pos =>
    have D2 := Lib.hid d2
    go_enter Tryz.func36, Tryz.ntmps36
    go_wp2_with (first
      | (go_at_call 59; refine (rdFindC _ _ m.zs z.id _ (HR.out.below (by ((repeat (first | (with_reducible exact Below.refl _ _) | (with_reducible assumption) | ((with_reducible refine b_set ?_ ?_); · (first | omega | (simp; done) | (simp; omega))) | ((with_reducible refine b_alloc ?_ ?_); · (first | omega | (simp; done) | (simp; omega))) | (with_reducible refine Below.drew ?_) | (with_reducible refine b_drewN ?_) | ((with_reducible refine b_call (by assumption) ?_ ?_); · (first | omega | (simp; done) | (simp; omega))))); done))) (by omega)).mono ?_; rintro e w4 ⟨k2, rfl, hk2, hb4⟩; obtain rfl := HAT.out k2 hk2; clear hk2; have HW4 := Lib.hid (Below.trans (show Below w.heap.size w _ by ((repeat (first | (with_reducible exact Below.refl _ _) | (with_reducible assumption) | ((with_reducible refine b_set ?_ ?_); · (first | omega | (simp; done) | (simp; omega))) | ((with_reducible refine b_alloc ?_ ?_); · (first | omega | (simp; done) | (simp; omega))) | (with_reducible refine Below.drew ?_) | (with_reducible refine b_drewN ?_) | ((with_reducible refine b_call (by assumption) ?_ ?_); · (first | omega | (simp; done) | (simp; omega))))); done)) (hb4.mono (by (first | omega | (simp; done) | (simp; omega))))); obtain ⟨hc4, hf4⟩ := bcell hb4; have hs4 := hb4.size; (try simp at hs4); clear hb4)
      | fail)
    go_ret
    exact ⟨ret_bool (HNB.out (fun h => by (have h1 := h.ep1; rw [← HZ.out] at h1; have := D2.out; omega))).symm, HW4.out⟩
  have D2 := Lib.hid d2
  by_cases d3 : 1099511627776 < z.ep
  case pos =>
    have D3 := Lib.hid d3
    go_enter Tryz.func36, Tryz.ntmps36
    go_wp2_with (first
      | (go_at_call 59; refine (rdFindC _ _ m.zs z.id _ (HR.out.below (by ((repeat (first | (with_reducible exact Below.refl _ _) | (with_reducible assumption) | ((with_reducible refine b_set ?_ ?_); · (first | omega | (simp; done) | (simp; omega))) | ((with_reducible refine b_alloc ?_ ?_); · (first | omega | (simp; done) | (simp; omega))) | (with_reducible refine Below.drew ?_) | (with_reducible refine b_drewN ?_) | ((with_reducible refine b_call (by assumption) ?_ ?_); · (first | omega | (simp; done) | (simp; omega))))); done))) (by omega)).mono ?_; rintro e w4 ⟨k2, rfl, hk2, hb4⟩; obtain rfl := HAT.out k2 hk2; clear hk2; have HW4 := Lib.hid (Below.trans (show Below w.heap.size w _ by ((repeat (first | (with_reducible exact Below.refl _ _) | (with_reducible assumption) | ((with_reducible refine b_set ?_ ?_); · (first | omega | (simp; done) | (simp; omega))) | ((with_reducible refine b_alloc ?_ ?_); · (first | omega | (simp; done) | (simp; omega))) | (with_reducible refine Below.drew ?_) | (with_reducible refine b_drewN ?_) | ((with_reducible refine b_call (by assumption) ?_ ?_); · (first | omega | (simp; done) | (simp; omega))))); done)) (hb4.mono (by (first | omega | (simp; done) | (simp; omega))))); obtain ⟨hc4, hf4⟩ := bcell hb4; have hs4 := hb4.size; (try simp at hs4); clear hb4)
      | fail)
    go_ret
    exact ⟨ret_bool (HNB.out (fun h => by (have h1 := h.ep2; rw [← HZ.out] at h1; have := D3.out; omega))).symm, HW4.out⟩
  have D3 := Lib.hid d3
  by_cases p0 : z.pd = 0
  case pos =>
    have HP := Lib.hid p0
    rw [p0] at v5
    clear p0
    by_cases s0 : z.mv = 0
    case neg =>
      have S0 := Lib.hid s0
      have f := (show (z.mv == 0) = false by simpa using s0)
      clear s0
      go_enter Tryz.func36, Tryz.ntmps36
      go_wp2_with (first
        | (go_at_call 59; refine (rdFindC _ _ m.zs z.id _ (HR.out.below (by ((repeat (first | (with_reducible exact Below.refl _ _) | (with_reducible assumption) | ((with_reducible refine b_set ?_ ?_); · (first | omega | (simp; done) | (simp; omega))) | ((with_reducible refine b_alloc ?_ ?_); · (first | omega | (simp; done) | (simp; omega))) | (with_reducible refine Below.drew ?_) | (with_reducible refine b_drewN ?_) | ((with_reducible refine b_call (by assumption) ?_ ?_); · (first | omega | (simp; done) | (simp; omega))))); done))) (by omega)).mono ?_; rintro e w4 ⟨k2, rfl, hk2, hb4⟩; obtain rfl := HAT.out k2 hk2; clear hk2; have HW4 := Lib.hid (Below.trans (show Below w.heap.size w _ by ((repeat (first | (with_reducible exact Below.refl _ _) | (with_reducible assumption) | ((with_reducible refine b_set ?_ ?_); · (first | omega | (simp; done) | (simp; omega))) | ((with_reducible refine b_alloc ?_ ?_); · (first | omega | (simp; done) | (simp; omega))) | (with_reducible refine Below.drew ?_) | (with_reducible refine b_drewN ?_) | ((with_reducible refine b_call (by assumption) ?_ ?_); · (first | omega | (simp; done) | (simp; omega))))); done)) (hb4.mono (by (first | omega | (simp; done) | (simp; omega))))); obtain ⟨hc4, hf4⟩ := bcell hb4; have hs4 := hb4.size; (try simp at hs4); clear hb4)
        | fail)
      go_ret
      exact ⟨ret_bool (HNB.out (fun h => by (have hst := h.st; rw [← HZ.out] at hst; have p := HP.out; rcases hst with ⟨e, hs⟩ | ⟨e, hs⟩ | ⟨e, hs⟩ | ⟨e, hs⟩ <;> first | omega | (exact S0.out hs.1)))).symm, HW4.out⟩
    have S0 := Lib.hid s0
    rw [s0] at v6
    clear s0
    by_cases s1 : z.ky.size = 0
    case neg =>
      have S1 := Lib.hid s1
      obtain ⟨n1, n2, n3, n4⟩ := nil_beq s1
      clear s1
      go_enter Tryz.func36, Tryz.ntmps36
      go_wp2_with (first
        | (go_at_call 59; refine (rdFindC _ _ m.zs z.id _ (HR.out.below (by ((repeat (first | (with_reducible exact Below.refl _ _) | (with_reducible assumption) | ((with_reducible refine b_set ?_ ?_); · (first | omega | (simp; done) | (simp; omega))) | ((with_reducible refine b_alloc ?_ ?_); · (first | omega | (simp; done) | (simp; omega))) | (with_reducible refine Below.drew ?_) | (with_reducible refine b_drewN ?_) | ((with_reducible refine b_call (by assumption) ?_ ?_); · (first | omega | (simp; done) | (simp; omega))))); done))) (by omega)).mono ?_; rintro e w4 ⟨k2, rfl, hk2, hb4⟩; obtain rfl := HAT.out k2 hk2; clear hk2; have HW4 := Lib.hid (Below.trans (show Below w.heap.size w _ by ((repeat (first | (with_reducible exact Below.refl _ _) | (with_reducible assumption) | ((with_reducible refine b_set ?_ ?_); · (first | omega | (simp; done) | (simp; omega))) | ((with_reducible refine b_alloc ?_ ?_); · (first | omega | (simp; done) | (simp; omega))) | (with_reducible refine Below.drew ?_) | (with_reducible refine b_drewN ?_) | ((with_reducible refine b_call (by assumption) ?_ ?_); · (first | omega | (simp; done) | (simp; omega))))); done)) (hb4.mono (by (first | omega | (simp; done) | (simp; omega))))); obtain ⟨hc4, hf4⟩ := bcell hb4; have hs4 := hb4.size; (try simp at hs4); clear hb4)
        | fail)
      go_ret
      exact ⟨ret_bool (HNB.out (fun h => by (have hst := h.st; rw [← HZ.out] at hst; have p := HP.out; rcases hst with ⟨e, hs⟩ | ⟨e, hs⟩ | ⟨e, hs⟩ | ⟨e, hs⟩ <;> first | omega | (exact S1.out hs.2.1)))).symm, HW4.out⟩
    have S1 := Lib.hid s1
    rw [nil_size.1 s1] at v7
    clear s1
    by_cases s2 : z.nw = 0
    case neg =>
      have S2 := Lib.hid s2
      have f := (show (z.nw == 0) = false by simpa using s2)
      clear s2
      go_enter Tryz.func36, Tryz.ntmps36
      go_wp2_with (first
        | (go_at_call 59; refine (rdFindC _ _ m.zs z.id _ (HR.out.below (by ((repeat (first | (with_reducible exact Below.refl _ _) | (with_reducible assumption) | ((with_reducible refine b_set ?_ ?_); · (first | omega | (simp; done) | (simp; omega))) | ((with_reducible refine b_alloc ?_ ?_); · (first | omega | (simp; done) | (simp; omega))) | (with_reducible refine Below.drew ?_) | (with_reducible refine b_drewN ?_) | ((with_reducible refine b_call (by assumption) ?_ ?_); · (first | omega | (simp; done) | (simp; omega))))); done))) (by omega)).mono ?_; rintro e w4 ⟨k2, rfl, hk2, hb4⟩; obtain rfl := HAT.out k2 hk2; clear hk2; have HW4 := Lib.hid (Below.trans (show Below w.heap.size w _ by ((repeat (first | (with_reducible exact Below.refl _ _) | (with_reducible assumption) | ((with_reducible refine b_set ?_ ?_); · (first | omega | (simp; done) | (simp; omega))) | ((with_reducible refine b_alloc ?_ ?_); · (first | omega | (simp; done) | (simp; omega))) | (with_reducible refine Below.drew ?_) | (with_reducible refine b_drewN ?_) | ((with_reducible refine b_call (by assumption) ?_ ?_); · (first | omega | (simp; done) | (simp; omega))))); done)) (hb4.mono (by (first | omega | (simp; done) | (simp; omega))))); obtain ⟨hc4, hf4⟩ := bcell hb4; have hs4 := hb4.size; (try simp at hs4); clear hb4)
        | fail)
      go_ret
      exact ⟨ret_bool (HNB.out (fun h => by (have hst := h.st; rw [← HZ.out] at hst; have p := HP.out; rcases hst with ⟨e, hs⟩ | ⟨e, hs⟩ | ⟨e, hs⟩ | ⟨e, hs⟩ <;> first | omega | (exact S2.out hs.2.2)))).symm, HW4.out⟩
    have S2 := Lib.hid s2
    rw [s2] at v8
    clear s2
    go_enter Tryz.func36, Tryz.ntmps36
    go_wp2_with (first
      | (go_at_call 59; refine (rdFindC _ _ m.zs z.id _ (HR.out.below (by ((repeat (first | (with_reducible exact Below.refl _ _) | (with_reducible assumption) | ((with_reducible refine b_set ?_ ?_); · (first | omega | (simp; done) | (simp; omega))) | ((with_reducible refine b_alloc ?_ ?_); · (first | omega | (simp; done) | (simp; omega))) | (with_reducible refine Below.drew ?_) | (with_reducible refine b_drewN ?_) | ((with_reducible refine b_call (by assumption) ?_ ?_); · (first | omega | (simp; done) | (simp; omega))))); done))) (by omega)).mono ?_; rintro e w4 ⟨k2, rfl, hk2, hb4⟩; obtain rfl := HAT.out k2 hk2; clear hk2; have HW4 := Lib.hid (Below.trans (show Below w.heap.size w _ by ((repeat (first | (with_reducible exact Below.refl _ _) | (with_reducible assumption) | ((with_reducible refine b_set ?_ ?_); · (first | omega | (simp; done) | (simp; omega))) | ((with_reducible refine b_alloc ?_ ?_); · (first | omega | (simp; done) | (simp; omega))) | (with_reducible refine Below.drew ?_) | (with_reducible refine b_drewN ?_) | ((with_reducible refine b_call (by assumption) ?_ ?_); · (first | omega | (simp; done) | (simp; omega))))); done)) (hb4.mono (by (first | omega | (simp; done) | (simp; omega))))); obtain ⟨hc4, hf4⟩ := bcell hb4; have hs4 := hb4.size; (try simp at hs4); clear hb4)
      | fail)
    go_ret
    exact ⟨ret_bool (HYB.out (⟨by rw [← HZ.out]; (have := C1.out; omega), by rw [← HZ.out]; (have := C2.out; omega), fun j hj hji => by rw [← HZ.out]; exact C3.out j hj hji, by rw [← HZ.out]; (have := D0.out; omega), by rw [← HZ.out]; (have := D1.out; omega), by rw [← HZ.out]; (have := D2.out; omega), by rw [← HZ.out]; (have := D3.out; omega), .inl (by rw [← HZ.out]; exact ⟨HP.out, S0.out, S1.out, S2.out⟩)⟩)).symm, HW4.out⟩
  have g0 : (z.pd == 0) = false := by simpa using p0
  by_cases p3 : z.pd = 3
  case pos =>
    have HP := Lib.hid p3
    rw [p3] at v5
    clear p0 p3 g0
    by_cases s0 : z.mv < 1
    case pos =>
      have S0 := Lib.hid s0
      have f := S0.out
      clear s0
      go_enter Tryz.func36, Tryz.ntmps36
      go_wp2_with (first
        | (go_at_call 59; refine (rdFindC _ _ m.zs z.id _ (HR.out.below (by ((repeat (first | (with_reducible exact Below.refl _ _) | (with_reducible assumption) | ((with_reducible refine b_set ?_ ?_); · (first | omega | (simp; done) | (simp; omega))) | ((with_reducible refine b_alloc ?_ ?_); · (first | omega | (simp; done) | (simp; omega))) | (with_reducible refine Below.drew ?_) | (with_reducible refine b_drewN ?_) | ((with_reducible refine b_call (by assumption) ?_ ?_); · (first | omega | (simp; done) | (simp; omega))))); done))) (by omega)).mono ?_; rintro e w4 ⟨k2, rfl, hk2, hb4⟩; obtain rfl := HAT.out k2 hk2; clear hk2; have HW4 := Lib.hid (Below.trans (show Below w.heap.size w _ by ((repeat (first | (with_reducible exact Below.refl _ _) | (with_reducible assumption) | ((with_reducible refine b_set ?_ ?_); · (first | omega | (simp; done) | (simp; omega))) | ((with_reducible refine b_alloc ?_ ?_); · (first | omega | (simp; done) | (simp; omega))) | (with_reducible refine Below.drew ?_) | (with_reducible refine b_drewN ?_) | ((with_reducible refine b_call (by assumption) ?_ ?_); · (first | omega | (simp; done) | (simp; omega))))); done)) (hb4.mono (by (first | omega | (simp; done) | (simp; omega))))); obtain ⟨hc4, hf4⟩ := bcell hb4; have hs4 := hb4.size; (try simp at hs4); clear hb4)
        | fail)
      go_ret
      exact ⟨ret_bool (HNB.out (fun h => by (have hst := h.st; rw [← HZ.out] at hst; have p := HP.out; rcases hst with ⟨e, hs⟩ | ⟨e, hs⟩ | ⟨e, hs⟩ | ⟨e, hs⟩ <;> first | omega | (have := S0.out; have := hs.1; omega)))).symm, HW4.out⟩
    have S0 := Lib.hid s0
    have f0 := S0.out
    clear s0
    by_cases s1 : 1048576 < z.mv
    case pos =>
      have S1 := Lib.hid s1
      have f := S1.out
      clear s1
      go_enter Tryz.func36, Tryz.ntmps36
      go_wp2_with (first
        | (go_at_call 59; refine (rdFindC _ _ m.zs z.id _ (HR.out.below (by ((repeat (first | (with_reducible exact Below.refl _ _) | (with_reducible assumption) | ((with_reducible refine b_set ?_ ?_); · (first | omega | (simp; done) | (simp; omega))) | ((with_reducible refine b_alloc ?_ ?_); · (first | omega | (simp; done) | (simp; omega))) | (with_reducible refine Below.drew ?_) | (with_reducible refine b_drewN ?_) | ((with_reducible refine b_call (by assumption) ?_ ?_); · (first | omega | (simp; done) | (simp; omega))))); done))) (by omega)).mono ?_; rintro e w4 ⟨k2, rfl, hk2, hb4⟩; obtain rfl := HAT.out k2 hk2; clear hk2; have HW4 := Lib.hid (Below.trans (show Below w.heap.size w _ by ((repeat (first | (with_reducible exact Below.refl _ _) | (with_reducible assumption) | ((with_reducible refine b_set ?_ ?_); · (first | omega | (simp; done) | (simp; omega))) | ((with_reducible refine b_alloc ?_ ?_); · (first | omega | (simp; done) | (simp; omega))) | (with_reducible refine Below.drew ?_) | (with_reducible refine b_drewN ?_) | ((with_reducible refine b_call (by assumption) ?_ ?_); · (first | omega | (simp; done) | (simp; omega))))); done)) (hb4.mono (by (first | omega | (simp; done) | (simp; omega))))); obtain ⟨hc4, hf4⟩ := bcell hb4; have hs4 := hb4.size; (try simp at hs4); clear hb4)
        | fail)
      go_ret
      exact ⟨ret_bool (HNB.out (fun h => by (have hst := h.st; rw [← HZ.out] at hst; have p := HP.out; rcases hst with ⟨e, hs⟩ | ⟨e, hs⟩ | ⟨e, hs⟩ | ⟨e, hs⟩ <;> first | omega | (have := S1.out; have := hs.2.1; omega)))).symm, HW4.out⟩
    have S1 := Lib.hid s1
    have f1 := S1.out
    clear s1
    by_cases s2 : z.mv = z.ow
    case pos =>
      have S2 := Lib.hid s2
      have f := (show (z.mv != z.ow) = false by simpa using s2)
      clear s2
      go_enter Tryz.func36, Tryz.ntmps36
      go_wp2_with (first
        | (go_at_call 59; refine (rdFindC _ _ m.zs z.id _ (HR.out.below (by ((repeat (first | (with_reducible exact Below.refl _ _) | (with_reducible assumption) | ((with_reducible refine b_set ?_ ?_); · (first | omega | (simp; done) | (simp; omega))) | ((with_reducible refine b_alloc ?_ ?_); · (first | omega | (simp; done) | (simp; omega))) | (with_reducible refine Below.drew ?_) | (with_reducible refine b_drewN ?_) | ((with_reducible refine b_call (by assumption) ?_ ?_); · (first | omega | (simp; done) | (simp; omega))))); done))) (by omega)).mono ?_; rintro e w4 ⟨k2, rfl, hk2, hb4⟩; obtain rfl := HAT.out k2 hk2; clear hk2; have HW4 := Lib.hid (Below.trans (show Below w.heap.size w _ by ((repeat (first | (with_reducible exact Below.refl _ _) | (with_reducible assumption) | ((with_reducible refine b_set ?_ ?_); · (first | omega | (simp; done) | (simp; omega))) | ((with_reducible refine b_alloc ?_ ?_); · (first | omega | (simp; done) | (simp; omega))) | (with_reducible refine Below.drew ?_) | (with_reducible refine b_drewN ?_) | ((with_reducible refine b_call (by assumption) ?_ ?_); · (first | omega | (simp; done) | (simp; omega))))); done)) (hb4.mono (by (first | omega | (simp; done) | (simp; omega))))); obtain ⟨hc4, hf4⟩ := bcell hb4; have hs4 := hb4.size; (try simp at hs4); clear hb4)
        | fail)
      go_ret
      exact ⟨ret_bool (HNB.out (fun h => by (have hst := h.st; rw [← HZ.out] at hst; have p := HP.out; rcases hst with ⟨e, hs⟩ | ⟨e, hs⟩ | ⟨e, hs⟩ | ⟨e, hs⟩ <;> first | omega | (exact hs.2.2.1 S2.out)))).symm, HW4.out⟩
    have S2 := Lib.hid s2
    have f2 := (show (z.mv != z.ow) = true by simpa using s2)
    clear s2
    by_cases s3 : z.ky.size = 0
    case neg =>
      have S3 := Lib.hid s3
      obtain ⟨n1, n2, n3, n4⟩ := nil_beq s3
      clear s3
      go_enter Tryz.func36, Tryz.ntmps36
      go_wp2_with (first
        | (go_at_call 59; refine (rdFindC _ _ m.zs z.id _ (HR.out.below (by ((repeat (first | (with_reducible exact Below.refl _ _) | (with_reducible assumption) | ((with_reducible refine b_set ?_ ?_); · (first | omega | (simp; done) | (simp; omega))) | ((with_reducible refine b_alloc ?_ ?_); · (first | omega | (simp; done) | (simp; omega))) | (with_reducible refine Below.drew ?_) | (with_reducible refine b_drewN ?_) | ((with_reducible refine b_call (by assumption) ?_ ?_); · (first | omega | (simp; done) | (simp; omega))))); done))) (by omega)).mono ?_; rintro e w4 ⟨k2, rfl, hk2, hb4⟩; obtain rfl := HAT.out k2 hk2; clear hk2; have HW4 := Lib.hid (Below.trans (show Below w.heap.size w _ by ((repeat (first | (with_reducible exact Below.refl _ _) | (with_reducible assumption) | ((with_reducible refine b_set ?_ ?_); · (first | omega | (simp; done) | (simp; omega))) | ((with_reducible refine b_alloc ?_ ?_); · (first | omega | (simp; done) | (simp; omega))) | (with_reducible refine Below.drew ?_) | (with_reducible refine b_drewN ?_) | ((with_reducible refine b_call (by assumption) ?_ ?_); · (first | omega | (simp; done) | (simp; omega))))); done)) (hb4.mono (by (first | omega | (simp; done) | (simp; omega))))); obtain ⟨hc4, hf4⟩ := bcell hb4; have hs4 := hb4.size; (try simp at hs4); clear hb4)
        | fail)
      go_ret
      exact ⟨ret_bool (HNB.out (fun h => by (have hst := h.st; rw [← HZ.out] at hst; have p := HP.out; rcases hst with ⟨e, hs⟩ | ⟨e, hs⟩ | ⟨e, hs⟩ | ⟨e, hs⟩ <;> first | omega | (exact S3.out hs.2.2.2.1)))).symm, HW4.out⟩
    have S3 := Lib.hid s3
    rw [nil_size.1 s3] at v7
    clear s3
    by_cases s4 : z.nw = 0
    case neg =>
      have S4 := Lib.hid s4
      have f := (show (z.nw == 0) = false by simpa using s4)
      clear s4
      go_enter Tryz.func36, Tryz.ntmps36
      go_wp2_with (first
        | (go_at_call 59; refine (rdFindC _ _ m.zs z.id _ (HR.out.below (by ((repeat (first | (with_reducible exact Below.refl _ _) | (with_reducible assumption) | ((with_reducible refine b_set ?_ ?_); · (first | omega | (simp; done) | (simp; omega))) | ((with_reducible refine b_alloc ?_ ?_); · (first | omega | (simp; done) | (simp; omega))) | (with_reducible refine Below.drew ?_) | (with_reducible refine b_drewN ?_) | ((with_reducible refine b_call (by assumption) ?_ ?_); · (first | omega | (simp; done) | (simp; omega))))); done))) (by omega)).mono ?_; rintro e w4 ⟨k2, rfl, hk2, hb4⟩; obtain rfl := HAT.out k2 hk2; clear hk2; have HW4 := Lib.hid (Below.trans (show Below w.heap.size w _ by ((repeat (first | (with_reducible exact Below.refl _ _) | (with_reducible assumption) | ((with_reducible refine b_set ?_ ?_); · (first | omega | (simp; done) | (simp; omega))) | ((with_reducible refine b_alloc ?_ ?_); · (first | omega | (simp; done) | (simp; omega))) | (with_reducible refine Below.drew ?_) | (with_reducible refine b_drewN ?_) | ((with_reducible refine b_call (by assumption) ?_ ?_); · (first | omega | (simp; done) | (simp; omega))))); done)) (hb4.mono (by (first | omega | (simp; done) | (simp; omega))))); obtain ⟨hc4, hf4⟩ := bcell hb4; have hs4 := hb4.size; (try simp at hs4); clear hb4)
        | fail)
      go_ret
      exact ⟨ret_bool (HNB.out (fun h => by (have hst := h.st; rw [← HZ.out] at hst; have p := HP.out; rcases hst with ⟨e, hs⟩ | ⟨e, hs⟩ | ⟨e, hs⟩ | ⟨e, hs⟩ <;> first | omega | (exact S4.out hs.2.2.2.2)))).symm, HW4.out⟩
    have S4 := Lib.hid s4
    rw [s4] at v8
    clear s4
    go_enter Tryz.func36, Tryz.ntmps36
    go_wp2_with (first
      | (go_at_call 59; refine (rdFindC _ _ m.zs z.id _ (HR.out.below (by ((repeat (first | (with_reducible exact Below.refl _ _) | (with_reducible assumption) | ((with_reducible refine b_set ?_ ?_); · (first | omega | (simp; done) | (simp; omega))) | ((with_reducible refine b_alloc ?_ ?_); · (first | omega | (simp; done) | (simp; omega))) | (with_reducible refine Below.drew ?_) | (with_reducible refine b_drewN ?_) | ((with_reducible refine b_call (by assumption) ?_ ?_); · (first | omega | (simp; done) | (simp; omega))))); done))) (by omega)).mono ?_; rintro e w4 ⟨k2, rfl, hk2, hb4⟩; obtain rfl := HAT.out k2 hk2; clear hk2; have HW4 := Lib.hid (Below.trans (show Below w.heap.size w _ by ((repeat (first | (with_reducible exact Below.refl _ _) | (with_reducible assumption) | ((with_reducible refine b_set ?_ ?_); · (first | omega | (simp; done) | (simp; omega))) | ((with_reducible refine b_alloc ?_ ?_); · (first | omega | (simp; done) | (simp; omega))) | (with_reducible refine Below.drew ?_) | (with_reducible refine b_drewN ?_) | ((with_reducible refine b_call (by assumption) ?_ ?_); · (first | omega | (simp; done) | (simp; omega))))); done)) (hb4.mono (by (first | omega | (simp; done) | (simp; omega))))); obtain ⟨hc4, hf4⟩ := bcell hb4; have hs4 := hb4.size; (try simp at hs4); clear hb4)
      | fail)
    go_ret
    exact ⟨ret_bool (HYB.out (⟨by rw [← HZ.out]; (have := C1.out; omega), by rw [← HZ.out]; (have := C2.out; omega), fun j hj hji => by rw [← HZ.out]; exact C3.out j hj hji, by rw [← HZ.out]; (have := D0.out; omega), by rw [← HZ.out]; (have := D1.out; omega), by rw [← HZ.out]; (have := D2.out; omega), by rw [← HZ.out]; (have := D3.out; omega), .inr (.inl (by rw [← HZ.out]; exact ⟨HP.out, by (have := S0.out; omega), by (have := S1.out; omega), S2.out, S3.out, S4.out⟩))⟩)).symm, HW4.out⟩
  have g3 : (z.pd == 3) = false := by simpa using p3
  by_cases p1 : z.pd = 1
  case pos =>
    have HP := Lib.hid p1
    rw [p1] at v5
    clear p0 p3 p1 g0 g3
    have hbs : b = true ↔ SpP m i hi := ⟨fun hb => by (have hst := (HBB.out.1 hb).st; rw [← HZ.out] at hst; have p := HP.out; rcases hst with ⟨e, hs⟩ | ⟨e, hs⟩ | ⟨e, hs⟩ | ⟨e, hs⟩ <;> first | omega | exact hs), fun hs => HBB.out.2 ⟨by rw [← HZ.out]; (have := C1.out; omega), by rw [← HZ.out]; (have := C2.out; omega), fun j hj hji => by rw [← HZ.out]; exact C3.out j hj hji, by rw [← HZ.out]; (have := D0.out; omega), by rw [← HZ.out]; (have := D1.out; omega), by rw [← HZ.out]; (have := D2.out; omega), by rw [← HZ.out]; (have := D3.out; omega), .inr (.inr (.inl (by rw [← HZ.out]; exact ⟨HP.out, hs⟩)))⟩⟩
    have HSP : Hid (∀ W, Below w.heap.size w W → Calls Tryz.prog 60 #[.agg #[.int .i64 m.ver, .int .i64 m.nxt, .slice (some ⟨gz, go, none⟩) m.zs.length cc], .int .i64 i] W fun e w' => e = .returned (.bool b) ∧ Below W.heap.size W w') := Lib.hid (fun W hW => rdSplitsC i _ _ m W (HR.out.below hW) hl hi hbs)
    clear hbs
    go_enter Tryz.func36, Tryz.ntmps36
    go_wp2_with (first
      | (go_at_call 60; refine (HSP.out _ HW4.out).mono ?_; rintro e w5 ⟨rfl, hb5⟩; have HB5 := Lib.hid hb5; clear hb5)
      | (go_at_call 59; refine (rdFindC _ _ m.zs z.id _ (HR.out.below (by ((repeat (first | (with_reducible exact Below.refl _ _) | (with_reducible assumption) | ((with_reducible refine b_set ?_ ?_); · (first | omega | (simp; done) | (simp; omega))) | ((with_reducible refine b_alloc ?_ ?_); · (first | omega | (simp; done) | (simp; omega))) | (with_reducible refine Below.drew ?_) | (with_reducible refine b_drewN ?_) | ((with_reducible refine b_call (by assumption) ?_ ?_); · (first | omega | (simp; done) | (simp; omega))))); done))) (by omega)).mono ?_; rintro e w4 ⟨k2, rfl, hk2, hb4⟩; obtain rfl := HAT.out k2 hk2; clear hk2; have HW4 := Lib.hid (Below.trans (show Below w.heap.size w _ by ((repeat (first | (with_reducible exact Below.refl _ _) | (with_reducible assumption) | ((with_reducible refine b_set ?_ ?_); · (first | omega | (simp; done) | (simp; omega))) | ((with_reducible refine b_alloc ?_ ?_); · (first | omega | (simp; done) | (simp; omega))) | (with_reducible refine Below.drew ?_) | (with_reducible refine b_drewN ?_) | ((with_reducible refine b_call (by assumption) ?_ ?_); · (first | omega | (simp; done) | (simp; omega))))); done)) (hb4.mono (by (first | omega | (simp; done) | (simp; omega))))); obtain ⟨hc4, hf4⟩ := bcell hb4; have hs4 := hb4.size; (try simp at hs4); clear hb4)
      | fail)
    go_ret
    exact ⟨rfl, HW4.out.trans (HB5.out.mono HW4.out.size)⟩
  have g1 : (z.pd == 1) = false := by simpa using p1
  by_cases p2 : z.pd = 2
  case pos =>
    have HP := Lib.hid p2
    rw [p2] at v5
    clear p0 p3 p1 p2 g0 g3 g1
    have hbs : b = true ↔ MgP m.zs i hi := ⟨fun hb => by (have hst := (HBB.out.1 hb).st; rw [← HZ.out] at hst; have p := HP.out; rcases hst with ⟨e, hs⟩ | ⟨e, hs⟩ | ⟨e, hs⟩ | ⟨e, hs⟩ <;> first | omega | exact hs), fun hs => HBB.out.2 ⟨by rw [← HZ.out]; (have := C1.out; omega), by rw [← HZ.out]; (have := C2.out; omega), fun j hj hji => by rw [← HZ.out]; exact C3.out j hj hji, by rw [← HZ.out]; (have := D0.out; omega), by rw [← HZ.out]; (have := D1.out; omega), by rw [← HZ.out]; (have := D2.out; omega), by rw [← HZ.out]; (have := D3.out; omega), .inr (.inr (.inr (by rw [← HZ.out]; exact ⟨HP.out, hs⟩)))⟩⟩
    have HSP : Hid (∀ W, Below w.heap.size w W → Calls Tryz.prog 61 #[.slice (some ⟨gz, go, none⟩) m.zs.length cc, .int .i64 i] W fun e w' => e = .returned (.bool b) ∧ Below W.heap.size W w') := Lib.hid (fun W hW => rdMergesC i _ _ m.zs W (HR.out.below hW) hl hi hbs)
    clear hbs
    go_enter Tryz.func36, Tryz.ntmps36
    go_wp2_with (first
      | (go_at_call 61; refine (HSP.out _ HW4.out).mono ?_; rintro e w5 ⟨rfl, hb5⟩; have HB5 := Lib.hid hb5; clear hb5)
      | (go_at_call 59; refine (rdFindC _ _ m.zs z.id _ (HR.out.below (by ((repeat (first | (with_reducible exact Below.refl _ _) | (with_reducible assumption) | ((with_reducible refine b_set ?_ ?_); · (first | omega | (simp; done) | (simp; omega))) | ((with_reducible refine b_alloc ?_ ?_); · (first | omega | (simp; done) | (simp; omega))) | (with_reducible refine Below.drew ?_) | (with_reducible refine b_drewN ?_) | ((with_reducible refine b_call (by assumption) ?_ ?_); · (first | omega | (simp; done) | (simp; omega))))); done))) (by omega)).mono ?_; rintro e w4 ⟨k2, rfl, hk2, hb4⟩; obtain rfl := HAT.out k2 hk2; clear hk2; have HW4 := Lib.hid (Below.trans (show Below w.heap.size w _ by ((repeat (first | (with_reducible exact Below.refl _ _) | (with_reducible assumption) | ((with_reducible refine b_set ?_ ?_); · (first | omega | (simp; done) | (simp; omega))) | ((with_reducible refine b_alloc ?_ ?_); · (first | omega | (simp; done) | (simp; omega))) | (with_reducible refine Below.drew ?_) | (with_reducible refine b_drewN ?_) | ((with_reducible refine b_call (by assumption) ?_ ?_); · (first | omega | (simp; done) | (simp; omega))))); done)) (hb4.mono (by (first | omega | (simp; done) | (simp; omega))))); obtain ⟨hc4, hf4⟩ := bcell hb4; have hs4 := hb4.size; (try simp at hs4); clear hb4)
      | fail)
    go_ret
    exact ⟨rfl, HW4.out.trans (HB5.out.mono HW4.out.size)⟩
  have g2 : (z.pd == 2) = false := by simpa using p2
  have HNP : Hid (z.pd ≠ 0 ∧ z.pd ≠ 3 ∧ z.pd ≠ 1 ∧ z.pd ≠ 2) := Lib.hid ⟨p0, p3, p1, p2⟩
  clear p0 p1 p2 p3
  go_enter Tryz.func36, Tryz.ntmps36
  go_wp2_with (first
    | (go_at_call 59; refine (rdFindC _ _ m.zs z.id _ (HR.out.below (by ((repeat (first | (with_reducible exact Below.refl _ _) | (with_reducible assumption) | ((with_reducible refine b_set ?_ ?_); · (first | omega | (simp; done) | (simp; omega))) | ((with_reducible refine b_alloc ?_ ?_); · (first | omega | (simp; done) | (simp; omega))) | (with_reducible refine Below.drew ?_) | (with_reducible refine b_drewN ?_) | ((with_reducible refine b_call (by assumption) ?_ ?_); · (first | omega | (simp; done) | (simp; omega))))); done))) (by omega)).mono ?_; rintro e w4 ⟨k2, rfl, hk2, hb4⟩; obtain rfl := HAT.out k2 hk2; clear hk2; have HW4 := Lib.hid (Below.trans (show Below w.heap.size w _ by ((repeat (first | (with_reducible exact Below.refl _ _) | (with_reducible assumption) | ((with_reducible refine b_set ?_ ?_); · (first | omega | (simp; done) | (simp; omega))) | ((with_reducible refine b_alloc ?_ ?_); · (first | omega | (simp; done) | (simp; omega))) | (with_reducible refine Below.drew ?_) | (with_reducible refine b_drewN ?_) | ((with_reducible refine b_call (by assumption) ?_ ?_); · (first | omega | (simp; done) | (simp; omega))))); done)) (hb4.mono (by (first | omega | (simp; done) | (simp; omega))))); obtain ⟨hc4, hf4⟩ := bcell hb4; have hs4 := hb4.size; (try simp at hs4); clear hb4)
    | fail)
  go_ret
  exact ⟨ret_bool (HNB.out (fun h => by (have hst := h.st; rw [← HZ.out] at hst; have p := HNP.out; rcases hst with ⟨e, hs⟩ | ⟨e, hs⟩ | ⟨e, hs⟩ | ⟨e, hs⟩ <;> omega))).symm, HW4.out⟩
set_option maxHeartbeats 8000000 in
set_option maxRecDepth 10000 in
theorem rdMayC (A : Option Addr) (cc : Nat) (m : Mp) (w : World) (h : RowZ w A cc m.zs) (hl : m.zs.length ≤ 1000) {b : Bool} (hb : b = true ↔ MayP m) :
    Calls Tryz.prog 19 #[.agg #[.int .i64 m.ver, .int .i64 m.nxt, .slice A m.zs.length cc]] w fun e w' => e = .returned (.bool b) ∧ Below w.heap.size w w' := by
  have HR := Lib.hid h
  have HNB : Hid (¬ MayP m → b = false) := Lib.hid (no_of hb)
  have HYB : Hid (MayP m → b = true) := Lib.hid hb.2
  obtain ⟨i0, hi0, hz0, hz1, hz2⟩ := info_parts Tryz.infoSpan2
  have hnc := h.le
  have hcm := h.mx
  clear h hb
  by_cases c_v1 : m.ver < 1
  case pos =>
    have C := Lib.hid c_v1
    go_enter Tryz.func19, Tryz.ntmps19
    go_wp2_with fail
    go_ret
    exact ⟨ret_bool (HNB.out (fun h => by (have h1 := h.v1; have := C.out; omega))).symm, by ((repeat (first | (with_reducible exact Below.refl _ _) | (with_reducible assumption) | ((with_reducible refine b_set ?_ ?_); · (first | omega | (simp; done) | (simp; omega))) | ((with_reducible refine b_alloc ?_ ?_); · (first | omega | (simp; done) | (simp; omega))) | (with_reducible refine Below.drew ?_) | (with_reducible refine b_drewN ?_) | ((with_reducible refine b_call (by assumption) ?_ ?_); · (first | omega | (simp; done) | (simp; omega))))); done)⟩
  by_cases c_v2 : (1099511627776 : Int) < m.ver
  case pos =>
    have C := Lib.hid c_v2
    go_enter Tryz.func19, Tryz.ntmps19
    go_wp2_with fail
    go_ret
    exact ⟨ret_bool (HNB.out (fun h => by (have h1 := h.v2; have := C.out; omega))).symm, by ((repeat (first | (with_reducible exact Below.refl _ _) | (with_reducible assumption) | ((with_reducible refine b_set ?_ ?_); · (first | omega | (simp; done) | (simp; omega))) | ((with_reducible refine b_alloc ?_ ?_); · (first | omega | (simp; done) | (simp; omega))) | (with_reducible refine Below.drew ?_) | (with_reducible refine b_drewN ?_) | ((with_reducible refine b_call (by assumption) ?_ ?_); · (first | omega | (simp; done) | (simp; omega))))); done)⟩
  by_cases c_n1 : m.nxt < 1
  case pos =>
    have C := Lib.hid c_n1
    go_enter Tryz.func19, Tryz.ntmps19
    go_wp2_with fail
    go_ret
    exact ⟨ret_bool (HNB.out (fun h => by (have h1 := h.n1; have := C.out; omega))).symm, by ((repeat (first | (with_reducible exact Below.refl _ _) | (with_reducible assumption) | ((with_reducible refine b_set ?_ ?_); · (first | omega | (simp; done) | (simp; omega))) | ((with_reducible refine b_alloc ?_ ?_); · (first | omega | (simp; done) | (simp; omega))) | (with_reducible refine Below.drew ?_) | (with_reducible refine b_drewN ?_) | ((with_reducible refine b_call (by assumption) ?_ ?_); · (first | omega | (simp; done) | (simp; omega))))); done)⟩
  by_cases c_n2 : (1099511627776 : Int) < m.nxt
  case pos =>
    have C := Lib.hid c_n2
    go_enter Tryz.func19, Tryz.ntmps19
    go_wp2_with fail
    go_ret
    exact ⟨ret_bool (HNB.out (fun h => by (have h1 := h.n2; have := C.out; omega))).symm, by ((repeat (first | (with_reducible exact Below.refl _ _) | (with_reducible assumption) | ((with_reducible refine b_set ?_ ?_); · (first | omega | (simp; done) | (simp; omega))) | ((with_reducible refine b_alloc ?_ ?_); · (first | omega | (simp; done) | (simp; omega))) | (with_reducible refine Below.drew ?_) | (with_reducible refine b_drewN ?_) | ((with_reducible refine b_call (by assumption) ?_ ?_); · (first | omega | (simp; done) | (simp; omega))))); done)⟩
  by_cases c_len : (16 : Int) < (m.zs.length : Int)
  case pos =>
    have C := Lib.hid c_len
    go_enter Tryz.func19, Tryz.ntmps19
    go_wp2_with fail
    go_ret
    exact ⟨ret_bool (HNB.out (fun h => by (have h1 := h.len; have := C.out; omega))).symm, by ((repeat (first | (with_reducible exact Below.refl _ _) | (with_reducible assumption) | ((with_reducible refine b_set ?_ ?_); · (first | omega | (simp; done) | (simp; omega))) | ((with_reducible refine b_alloc ?_ ?_); · (first | omega | (simp; done) | (simp; omega))) | (with_reducible refine Below.drew ?_) | (with_reducible refine b_drewN ?_) | ((with_reducible refine b_call (by assumption) ?_ ?_); · (first | omega | (simp; done) | (simp; omega))))); done)⟩
  go_enter Tryz.func19, Tryz.ntmps19
  go_wp2_with fail
  have HP : Hid (Whl (w.alloc (.cells #[.int .i64 m.ver, .int .i64 m.nxt, .slice A m.zs.length cc] 24)) w.heap.size 24 #[.int .i64 m.ver, .int .i64 m.nxt, .slice A m.zs.length cc]) := Lib.hid (Whl.new rfl)
  go_loopw [3, 4] (fun sv kv wk => ∃ k : Nat, k ≤ m.zs.length ∧ kv = .int .i64 k ∧ (∀ j (hj : j < m.zs.length), j < k → ZP m j hj) ∧ wk.ownsRow (w.heap.size + 1) 54 2 sv k (flatS (spansZ (m.zs.take k))) ∧ Below (w.heap.size + 1) (w.alloc (.cells #[.int .i64 m.ver, .int .i64 m.nxt, .slice A m.zs.length cc] 24)) wk) (fun _ kv _ => m.zs.length - (intOf kv).toNat)
  case atStart => exact ⟨0, Nat.zero_le _, rfl, fun j hj h => absurd h (Nat.not_lt_zero _), World.ownsRow_nil _ _ _ _, Below.refl _ _⟩
  case round =>
    obtain ⟨k, hkl, rfl, hzp, hown, hBk⟩ := hrel
    have HBK := Lib.hid hBk
    have HZP := Lib.hid hzp
    have hP := HP.out.below hBk (by omega)
    have x0 := hP.cell 0
    have x1 := hP.cell 1
    have x2 := hP.cell 2
    simp only [List.getElem?_toArray, List.getElem?_cons_succ, List.getElem?_cons_zero] at x0 x1 x2
    have hsz : w.heap.size + 1 ≤ wr.heap.size := by have := hBk.size; simp at this; omega
    have hBw : Below w.heap.size w wr := ((Below.refl _ _).alloc (Nat.le_refl _) _).trans (hBk.mono (Nat.le_succ _))
    have hr := HR.out.below hBw
    have HBW := Lib.hid hBw
    have HRW := Lib.hid hr
    by_cases hkt : k < m.zs.length
    · have q5 : (k : Int) < (m.zs.length : Int) := by omega
      obtain ⟨gz, go, hA, hgz, -⟩ := zn_at hr.cells hkt
      subst hA
      have hgr := hgz
      obtain ⟨z, hz⟩ : ∃ z, z = m.zs[k] := ⟨_, rfl⟩
      obtain ⟨_, u1, u2, _, _, _, _, _, _⟩ := rowC_at hr hkt
      rw [← hz] at u1 u2
      have htk := spans_take1 hkt
      rw [← hz] at htk
      have HTK := Lib.hid htk
      have HOWN := Lib.hid hown
      clear hP hBk hBw hr htk hown hz hzp
      by_cases hzk : ZP m k hkt
      · have HZK := Lib.hid hzk
        clear hzk
        go_wp2_with (first
          | (go_at_call 36; go_loud (refine (rdZoneC k _ _ m _ HRW.out hl hkt (b := true) ⟨fun _ => HZK.out, fun _ => rfl⟩).mono ?_; rintro e w5 ⟨rfl, hb5⟩; have hs5 := hb5.size; have HT : Hid ((w5.alloc (.cells #[.string z.fr, .string z.tt] 54)).ownsRow (w.heap.size + 1) 54 2 _ k (flatS (spansZ (m.zs.take k)))) := Lib.hid (row_belowZ HOWN.out (hb5.alloc hs5 _)); have HC : Hid (Cells (w5.alloc (.cells #[.string z.fr, .string z.tt] 54)) (w5.heap.size + 1) (some ⟨w5.heap.size, 0, none⟩) 1 1 2 [.string z.fr, .string z.tt]) := Lib.hid ⟨rfl, (fun e => by cases e), fun k u hu => ⟨_, _, rfl, by omega, by rw [Nat.zero_add, (Whl.new rfl).cell]; simpa using hu⟩⟩; have u1 := bkeep hb5 u1 hgr; have u2 := bkeep hb5 u2 hgr; have x2 := bkeep hb5 x2 (by omega); have HB5 := Lib.hid hb5; clear hb5))
          | (at_builtin; go_loud (refine wpList_append_row rfl (.tmp 40) (.tmp 47) 88 rfl (w.heap.size + 1) 54 i0 (.agg #[.string ⟨#[]⟩, .string ⟨#[]⟩]) 2 32 Tryz.underlying88 hi0 hz0 hz1 hz2 rfl (by decide) _ k (flatS (spansZ (m.zs.take k))) rfl HT.out (w5.heap.size + 1) (some ⟨w5.heap.size, 0, none⟩) 1 1 [.string z.fr, .string z.tt] rfl HC.out (by intro u hu; simp at hu; rcases hu with rfl | rfl <;> rfl) (by unfold maxLen; omega) (by omega) (by simp; omega) ?_); intro v6 w6 hown6 hb6; have HO6 := Lib.hid hown6; have HB6 := Lib.hid hb6; clear hown6 hb6)
          | fail)
        have h6 := HO6.out
        refine ⟨⟨k + 1, hkt, by go_num, fun j hj hjk => ?_, ?_, ?_⟩, measZ hkt⟩
        · by_cases e : j = k
          · subst e; exact HZK.out
          · exact HZP.out j hj (by omega)
        · rw [HTK.out]; exact h6
        · exact (HBK.out.trans ((HB5.out.alloc hs5 _).mono hsz)).trans HB6.out
      · have HZK := Lib.hid hzk
        clear hzk
        go_wp2_with (first
          | (go_at_call 36; go_loud (refine (rdZoneC k _ _ m _ HRW.out hl hkt (b := false) ⟨fun h => (by cases h), fun h => absurd h HZK.out⟩).mono ?_; rintro e w5 ⟨rfl, hb5⟩; have HB5 := Lib.hid hb5; clear hb5))
          | fail)
        go_ret
        exact ⟨ret_bool (HNB.out (fun h => HZK.out ((may_doc.1 h).2.2.2.2.2.1 k hkt))).symm, HBW.out.trans (HB5.out.mono HBW.out.size)⟩
    · obtain rfl : m.zs.length = k := by omega
      rw [List.take_length] at hown
      obtain ⟨Aa, ca, e1, _, _, _⟩ := own_slice hown
      subst e1
      have hsp : Spans wr wr.heap.size Aa (spansZ m.zs) := by
        by_cases h0 : m.zs.length = 0
        · intro k hk
          have : (spansZ m.zs).length = m.zs.length := by simp [spansZ]
          omega
        · obtain ⟨ga, c9, e9, _, hga, _, _⟩ := own_form hown (by omega)
          injection e9 with e9 _ e10
          subst e9 e10
          exact spans_of_row (by simpa [spansZ] using hown) hga
      have hAL : Calls Tryz.prog 37 #[.slice Aa m.zs.length ca] wr fun e w' => e = .returned (.bool (allB (spansZ m.zs))) ∧ Below wr.heap.size wr w' := by
        have := refAll Aa ca (spansZ m.zs) wr (by simp [spansZ]; omega) hsp
        simpa [spansZ] using this
      have HAL := Lib.hid hAL
      clear hAL hown hP hBk hBw hr hsp hzp
      go_wp2_with (first
        | (go_at_call 37; refine HAL.out.mono ?_; rintro e w5 ⟨rfl, hb5⟩; have HB5 := Lib.hid hb5; clear hb5)
        | fail)
      go_ret
      refine ⟨ret_bool ?_, HBW.out.trans (HB5.out.mono HBW.out.size)⟩
      cases ha : allB (spansZ m.zs) with
      | true => exact (HYB.out (may_doc.2 ⟨by omega, by omega, by omega, by omega, by omega, fun i hi => HZP.out i hi hi, ha⟩)).symm
      | false => exact (HNB.out (fun h => by have := h.spn; rw [ha] at this; cases this)).symm
end Go.Proofs.YtepjehcmiofehaaGreat
