/- the document's plan: row, hits, free. -/
import Derived.Test.YtepjehcmiofehaaGreatPmB
namespace Go.Proofs.YtepjehcmiofehaaGreat
open Go.RowKit
set_option linter.unusedVariables false
set_option linter.unusedSimpArgs false

set_option maxHeartbeats 4000000 in
set_option maxRecDepth 10000 in
theorem rsRow (B x : Nat) (c : Rc) (nv ov tv : Value) (nm : List Bool) (ps : List Pz) (cs : List Ch) (mv id : Int) (w : World) (h : RsH w B x c nv ov tv nm ps cs mv) :
    Calls Tryz.prog 39 #[.pointer (some ⟨x, 0, none⟩), .int .i64 id] w fun e w' => e = .returned (.agg #[.int .i64 (rowD c.l id).zo, .int .i64 (rowD c.l id).hits, .string (rowD c.l id).mid]) ∧ Below w.heap.size w w' := by
  have HR := Lib.hid h
  have hxw := h.blk.low
  have hll := h.ok.ll
  obtain ⟨-, -, k4, -, -, -, -⟩ := h.cells
  have HK := Lib.hid k4
  clear h k4
  go_enter Tryz.func39, Tryz.ntmps39
  go_wp2_with fail
  go_loopw [5] (fun iv wr => ∃ i : Nat, i ≤ c.l.length ∧ iv = .int .i64 i ∧ (∀ j (hj : j < c.l.length), j < i → c.l[j].zo ≠ id) ∧ Whl wr w.heap.size 64 #[.int .i64 0, .int .i64 0, .string ⟨#[]⟩] ∧ Below w.heap.size w wr) (fun iv _ => c.l.length - (intOf iv).toNat)
  case atStart => exact ⟨0, Nat.zero_le _, rfl, fun j hj h => by omega, Whl.new rfl, (Below.refl _ _).alloc (Nat.le_refl _) _⟩
  case round =>
    obtain ⟨i, hil, rfl, hno, hW, hBw⟩ := hrel
    have HBW := Lib.hid hBw
    have HNO := Lib.hid hno
    have HW := Lib.hid hW
    have hsw := hBw.size
    have hwl := hW.low
    have k4 := bkeep hBw HK.out hxw
    have q0 := hW.cell 0
    have q1 := hW.cell 1
    have q2 := hW.cell 2
    have qf := fun k => hW.free k
    simp only [List.getElem?_toArray, List.getElem?_cons_succ, List.getElem?_cons_zero] at q0 q1 q2
    by_cases hlt : i < c.l.length
    · have q3 : (i : Int) < (c.l.length : Int) := by omega
      obtain ⟨g, o, hA, hgB, u0, u1, u2⟩ := lr_cells ((HR.out).lr) hlt
      have hgw : g < w.heap.size := Nat.lt_of_lt_of_le hgB HR.out.bw
      obtain ⟨r, hr⟩ : ∃ r, r = c.l[i] := ⟨_, rfl⟩
      rw [← hr] at u0 u1 u2
      rw [hA] at k4
      have HRR := Lib.hid hr
      have a0 := bkeep hBw u0 hgw
      have a1 := bkeep hBw u1 hgw
      have a2 := bkeep hBw u2 hgw
      clear hno hBw hr u0 u1 u2 hA hW
      by_cases hk : r.zo = id
      · have q5 : (r.zo == id) = true := by rw [beq_iff_eq]; exact hk
        have HKK := Lib.hid hk
        clear hk
        go_wp2_with fail
        refine bodyPost_ret (v := .agg #[.int .i64 r.zo, .int .i64 (max 0 (min r.hits 1099511627776)), .string r.mid]) (by simp [results, Tryz.results39, go_sem, ↓IntWalk.iteOmega, *]) rfl ⟨?_, ?_⟩
        · rw [rowD_yes hlt (by rw [← HRR.out]; exact HKK.out) HNO.out, ← HRR.out, show max 0 (min r.hits 1099511627776) = min (max r.hits 0) 1099511627776 by omega]
        · have hBw := HBW.out
          ((repeat (first | (with_reducible exact Below.refl _ _) | (with_reducible assumption) | ((with_reducible refine b_set ?_ ?_); · (first | omega | (simp; done) | (simp; omega))) | ((with_reducible refine b_alloc ?_ ?_); · (first | omega | (simp; done) | (simp; omega))) | (with_reducible refine Below.drew ?_) | (with_reducible refine b_drewN ?_) | ((with_reducible refine b_call (by assumption) ?_ ?_); · (first | omega | (simp; done) | (simp; omega))))); done)
      · have q5 : (r.zo == id) = false := by rw [beq_eq_false_iff_ne]; exact hk
        have HKK := Lib.hid hk
        clear hk
        go_wp2_with fail
        refine ⟨⟨i + 1, hlt, by go_num, fun j hj hji => ?_, HW.out, HBW.out⟩, measZ hlt⟩
        by_cases e : j = i
        · subst e
          rw [← HRR.out]; exact HKK.out
        · exact HNO.out j hj (by omega)
    · have hi2 : i = c.l.length := by omega
      have HIL := Lib.hid hi2
      clear hno hBw hW hi2
      go_wp2_with fail
      refine bodyPost_ret (v := .agg #[.int .i64 0, .int .i64 0, .string ⟨#[]⟩]) (by simp [results, Tryz.results39, go_sem, ↓IntWalk.iteOmega, *]) rfl ⟨?_, ?_⟩
      · rw [rowD_no (fun j hj => HNO.out j hj (by have := HIL.out; omega))]
      · have hBw := HBW.out
        ((repeat (first | (with_reducible exact Below.refl _ _) | (with_reducible assumption) | ((with_reducible refine b_set ?_ ?_); · (first | omega | (simp; done) | (simp; omega))) | ((with_reducible refine b_alloc ?_ ?_); · (first | omega | (simp; done) | (simp; omega))) | (with_reducible refine Below.drew ?_) | (with_reducible refine b_drewN ?_) | ((with_reducible refine b_call (by assumption) ?_ ?_); · (first | omega | (simp; done) | (simp; omega))))); done)
set_option maxRecDepth 100000 in
theorem fldRow (a b : Int) (s : ByteArray) (w : World) : (Instr.field 64 (.agg #[.int .i64 a, .int .i64 b, .string s]) 1).run Tryz.prog w = .ok (.int .i64 b) w := by kernel_rfl
set_option maxHeartbeats 4000000 in
set_option maxRecDepth 10000 in
theorem rsHits (B x : Nat) (c : Rc) (nv ov tv : Value) (nm : List Bool) (ps : List Pz) (cs : List Ch) (mv : Int) (i : Nat) (hi : i < c.m.zs.length) (w : World) (h : RsH w B x c nv ov tv nm ps cs mv) :
    Calls Tryz.prog 44 #[.pointer (some ⟨x, 0, none⟩), .int .i64 i] w fun e w' => e = .returned (.int .i64 (hitsAt ps i)) ∧ Below w.heap.size w w' := by
  have HR := Lib.hid h
  have hxw := h.blk.low
  obtain ⟨hl1, hl16, hps, -⟩ := h.len
  obtain ⟨k2, -, -, -, -, -, -⟩ := h.cells
  obtain ⟨gz, oz, hA, hgB, u0, -, -, -, -, -, -, -, -⟩ := zn_at h.zr hi
  have hgw : gz < w.heap.size := Nat.lt_of_lt_of_le hgB h.bw
  have hip : i < ps.length := by rw [hps]; exact hi
  have q3 : (i : Int) < (c.m.zs.length : Int) := by omega
  rw [hA] at k2
  obtain ⟨zid, hzid⟩ : ∃ zid, zid = c.m.zs[i].id := ⟨_, rfl⟩
  rw [← hzid] at u0
  have HE : Hid ((rowD c.l zid).hits = hitsAt ps i) := Lib.hid (by
    rw [(rowD_hm c.l zid).1, hzid, ← (h.lk.z i hip hi).2.1]
    simp [hitsAt, hip])
  have ff := fldRow
  clear h hps hzid
  go_enter Tryz.func44, Tryz.ntmps44
  go_wp2_with (first
    | (go_at_call 39; go_loud (refine (rsRow B x c nv ov tv nm ps cs mv zid _ HR.out).mono ?_; rintro e w1 ⟨rfl, hb1⟩; have HB1 := Lib.hid hb1; clear hb1))
    | fail)
  go_ret
  exact ⟨by rw [← HE.out]; rfl, HB1.out⟩
def freeAt (ps : List Pz) (i : Nat) : Bool := ((ps[i]?).map fun p => p.fr).getD false
set_option maxHeartbeats 4000000 in
set_option maxRecDepth 10000 in
theorem rsFree (B x : Nat) (c : Rc) (nv ov tv : Value) (nm : List Bool) (ps : List Pz) (cs : List Ch) (mv : Int) (i : Nat) (hi : i < c.m.zs.length) (w : World) (h : RsH w B x c nv ov tv nm ps cs mv) :
    Calls Tryz.prog 41 #[.pointer (some ⟨x, 0, none⟩), .int .i64 i] w fun e w' => e = .returned (.bool (freeAt ps i)) ∧ Below w.heap.size w w' := by
  have HR := Lib.hid h
  have hxw := h.blk.low
  obtain ⟨hl1, hl16, hps, hnb⟩ := h.len
  obtain ⟨k2, -, -, k5, -, -, -⟩ := h.cells
  obtain ⟨gz, oz, hA, hgB, -, -, -, -, -, u5, -, -, -⟩ := zn_at h.zr hi
  have hgw : gz < w.heap.size := Nat.lt_of_lt_of_le hgB h.bw
  have hip : i < ps.length := by rw [hps]; exact hi
  have hin : i < nm.length := by rw [hnb]; exact hi
  have q3 : (i : Int) < (c.m.zs.length : Int) := by omega
  rw [hA] at k2
  obtain ⟨gn, cn, hnv, hgn, hgnl, _, _⟩ := own_form h.nr (by omega)
  subst hnv
  have n0 := own_bool h.nr hin
  obtain ⟨b0, hb0⟩ : ∃ b0, b0 = nm[i] := ⟨_, rfl⟩
  rw [← hb0] at n0
  obtain ⟨pd, hpd⟩ : ∃ pd, pd = c.m.zs[i].pd := ⟨_, rfl⟩
  rw [← hpd] at u5
  have HE : Hid (freeAt ps i = (decide (pd = 0) && !b0)) := Lib.hid (by
    have := h.lk.f i hip hin
    rw [(h.lk.z i hip hi).1, ← hpd, ← hb0] at this
    rw [← this]
    simp [freeAt, hip])
  clear h hps hnb hb0 hpd
  by_cases e : pd = 0
  · have q5 : (pd == 0) = true := by rw [beq_iff_eq]; exact e
    have HF : Hid (freeAt ps i = !b0) := Lib.hid (by rw [HE.out, decide_eq_true e, Bool.true_and])
    clear e
    go_enter Tryz.func41, Tryz.ntmps41
    go_wp2_with fail
    go_ret
    exact ⟨by rw [HF.out]; rfl, Below.refl _ _⟩
  · have q5 : (pd == 0) = false := by rw [beq_eq_false_iff_ne]; exact e
    have HF : Hid (freeAt ps i = false) := Lib.hid (by rw [HE.out, decide_eq_false e, Bool.false_and])
    clear e
    go_enter Tryz.func41, Tryz.ntmps41
    go_wp2_with fail
    go_ret
    exact ⟨by rw [HF.out]; rfl, Below.refl _ _⟩
end Go.Proofs.YtepjehcmiofehaaGreat
