/- The document's book: the best one. -/
import Derived.Test.YtekelnkjigaofaaBqWa
import Derived.Test.YtekelnkjigaofaaBqM
namespace Go.Proofs.Ytekelnkjigaofaa
open Go.RowKit
set_option linter.unusedVariables false
set_option linter.unusedSimpArgs false

set_option maxHeartbeats 4000000 in
set_option maxRecDepth 10000 in
theorem refBest (B x : Nat) (u : Value) (L : List Od) (last : Int) (o : Od) (w : World) (h : RfB w B x u L last) (hk : Bk L last) (hl : L.length ≤ 1000) :
    Calls Try.prog 27 #[.pointer (some ⟨x, 0, none⟩), .agg #[.int .i64 o.id, .string o.who, .bool o.buy, .int .i64 o.item, .int .i64 o.ct, .int .i64 o.pr]] w fun e w' => ∃ k, e = .returned (.int .i64 k) ∧ BestAt o L L.length k ∧ Below w.heap.size w w' := by
  have HB := Lib.hid h
  have hx0 := (h.blk.cell 0).trans (show (#[u, Value.int .i64 last] : Array Value)[0]? = some u from rfl)
  obtain ⟨A, c, rfl, _, hnc, hc⟩ := own_slice h.row
  have hxl := h.blk.low
  obtain ⟨bb, hbb⟩ : ∃ q, q = o.buy := ⟨_, rfl⟩
  obtain ⟨op, hop⟩ : ∃ q, q = o.pr := ⟨_, rfl⟩
  rw [← hbb, ← hop]
  have HBB := Lib.hid hbb
  have HOP := Lib.hid hop
  clear hbb hop h
  go_enter Try.func27, Try.ntmps27
  go_wp2_with fail
  go_loopw [5, 6] (fun kv iv wr => ∃ (i : Nat) (k : Int), i ≤ L.length ∧ iv = .int .i64 i ∧ kv = .int .i64 k ∧ BestAt o L i k ∧ Below w.heap.size w wr ∧ Whl wr w.heap.size 35 #[.int .i64 o.id, .string o.who, .bool bb, .int .i64 o.item, .int .i64 o.ct, .int .i64 op] ∧ w.heap.size < wr.heap.size) (fun _ iv _ => L.length - (intOf iv).toNat)
  case atStart => exact ⟨0, -1, Nat.zero_le _, rfl, rfl, BestAt.zero o L, by ((repeat (first | (with_reducible exact Below.refl _ _) | (with_reducible assumption) | ((with_reducible refine b_set ?_ ?_); · (first | omega | (simp; done) | (simp; omega))) | ((with_reducible refine b_alloc ?_ ?_); · (first | omega | (simp; done) | (simp; omega))) | (with_reducible refine Below.drew ?_) | (with_reducible refine b_drewN ?_) | ((with_reducible refine b_call (by assumption) ?_ ?_); · (first | omega | (simp; done) | (simp; omega))))); done), Whl.new rfl, by simp⟩
  case round =>
    obtain ⟨i, k, hil, rfl, rfl, hB, hBw, hW, hsz⟩ := hrel
    have HBE := Lib.hid hB
    have HW := Lib.hid hW
    have HBW := Lib.hid hBw
    have b0 := hW.cell 0
    have b1 := hW.cell 1
    have b2 := hW.cell 2
    have b3 := hW.cell 3
    have b4 := hW.cell 4
    have b5 := hW.cell 5
    simp only [List.getElem?_toArray, List.getElem?_cons_zero, List.getElem?_cons_succ] at b0 b1 b2 b3 b4 b5
    have hx1 := bkeep hBw hx0 hxl
    clear hB hBw hW
    by_cases hlt : i < L.length
    · have q3 : (i : Int) < (L.length : Int) := by omega
      obtain ⟨gu, ku, e5, _, hgu, _, _⟩ := own_form HB.out.row (by omega)
      injection e5 with e5 e6 e7
      subst e5 e7
      obtain ⟨y, hy⟩ : ∃ y, y = L[i] := ⟨_, rfl⟩
      obtain ⟨r0, r1, r2, r3, r4, r5⟩ := flatO_at L i hlt
      have d0 := bkeep HBW.out ((HB.out.row.cellAt (i * 6) (ixO0 hlt)).trans r0) hgu
      have d1 := bkeep HBW.out ((HB.out.row.cellAt (i * 6 + 1) (ixO hlt 1 (by decide))).trans r1) hgu
      have d2 := bkeep HBW.out ((HB.out.row.cellAt (i * 6 + 2) (ixO hlt 2 (by decide))).trans r2) hgu
      have d3 := bkeep HBW.out ((HB.out.row.cellAt (i * 6 + 3) (ixO hlt 3 (by decide))).trans r3) hgu
      have d4 := bkeep HBW.out ((HB.out.row.cellAt (i * 6 + 4) (ixO hlt 4 (by decide))).trans r4) hgu
      have d5 := bkeep HBW.out ((HB.out.row.cellAt (i * 6 + 5) (ixO hlt 5 (by decide))).trans r5) hgu
      rw [← hy] at d0 d1 d2 d3 d4 d5
      have HY := Lib.hid hy
      clear r0 r1 r2 r3 r4 r5 hy
      go_wp2_with fail
      go_still_tail 8, (by kernel_rfl)
      change wpList _ _ _ _ _ wr.drew
      have e0 : Below wr.heap.size wr wr.drew := (Below.refl _ _).drew
      have HE0 := Lib.hid e0
      have hsd : wr.drew.heap.size = wr.heap.size := rfl
      have hmt := refMeet o y
      rw [← HBB.out, ← HOP.out] at hmt
      have HMT := Lib.hid hmt
      clear e0 hmt
      generalize wr.drew = wd at *
      by_cases hm : meets o y = true
      · go_wp2_with (first
          | (go_at_call 38; go_loud (refine (HMT.out _).mono ?_; rw [hm]; rintro e w2 ⟨rfl, hb2⟩; have HB2 := Lib.hid hb2))
          | fail)
        have hex : Below wr.heap.size wr w2 := HE0.out.trans (HB2.out.mono (by have := HE0.out.size; omega))
        have HEX := Lib.hid hex
        have b2 := bkeep hex b2 hsz
        have hx1 := bkeep hex hx1 (by omega)
        have d5 := bkeep hex d5 (by omega)
        clear b0 b1 b3 b4 b5 d0 d1 d2 d3 d4 hex
        have hmy := hm
        rw [HY.out] at hmy
        have HM := Lib.hid hmy
        rcases HBE.out with ⟨rfl, hn⟩ | ⟨kn, rfl, hkn, hkl, hbst⟩
        · clear hn hmy
          have q4 : decide ((-1 : Int) < 0) = true := rfl
          go_quiet (fail)
          go_wp2_with fail
          refine ⟨⟨i + 1, _, hlt, by go_num, rfl, ?_, b_drewN (HBW.out.trans (HEX.out.mono (by omega))), HW.out.below (b_drewN HEX.out) hsz, Nat.lt_of_lt_of_le hsz HEX.out.size⟩, measI hlt⟩
          exact HBE.out.first hlt HM.out
        · have q5 : (kn : Int) < (L.length : Int) := by omega
          obtain ⟨z, hz⟩ : ∃ z, z = L[kn] := ⟨_, rfl⟩
          obtain ⟨_, _, _, _, _, r5⟩ := flatO_at L kn hkl
          have z5 := bkeep HEX.out (bkeep HBW.out ((HB.out.row.cellAt (kn * 6 + 5) (ixO hkl 5 (by decide))).trans r5) hgu) (by omega)
          rw [← hz] at z5
          have HZ := Lib.hid hz
          obtain ⟨yp, hyp⟩ : ∃ q, q = y.pr := ⟨_, rfl⟩
          obtain ⟨zp, hzp⟩ : ∃ q, q = z.pr := ⟨_, rfl⟩
          rw [← hyp] at d5
          rw [← hzp] at z5
          have hyq : yp = (L[i]).pr := by rw [hyp, HY.out]
          have hzq : zp = (L[kn]).pr := by rw [hzp, HZ.out]
          have HYP := Lib.hid hyq
          have HZP := Lib.hid hzq
          have q4 : decide ((kn : Int) < 0) = false := decide_eq_false (by omega)
          clear r5 hbst hmy hz hyp hzp hyq hzq
          cases bb with
          | true =>
            by_cases hp : yp < zp
            · go_quiet (fail)
              go_wp2_with fail
              refine ⟨⟨i + 1, _, hlt, by go_num, rfl, ?_, b_drewN (HBW.out.trans (HEX.out.mono (by omega))), HW.out.below (b_drewN HEX.out) hsz, Nat.lt_of_lt_of_le hsz HEX.out.size⟩, measI hlt⟩
              exact HBE.out.better hk hlt hkl HM.out (by rw [← HBB.out, ← HYP.out, ← HZP.out]; exact hp)
            · have hp' : decide (yp < zp) = false := decide_eq_false hp
              go_quiet (fail)
              go_wp2_with fail
              refine ⟨⟨i + 1, _, hlt, by go_num, rfl, ?_, b_drewN (HBW.out.trans (HEX.out.mono (by omega))), HW.out.below (b_drewN HEX.out) hsz, Nat.lt_of_lt_of_le hsz HEX.out.size⟩, measI hlt⟩
              exact HBE.out.stays hk hlt hkl HM.out (by rw [← HBB.out, ← HYP.out, ← HZP.out]; exact hp)
          | false =>
            by_cases hp : zp < yp
            · go_quiet (fail)
              go_wp2_with fail
              refine ⟨⟨i + 1, _, hlt, by go_num, rfl, ?_, b_drewN (HBW.out.trans (HEX.out.mono (by omega))), HW.out.below (b_drewN HEX.out) hsz, Nat.lt_of_lt_of_le hsz HEX.out.size⟩, measI hlt⟩
              exact HBE.out.better hk hlt hkl HM.out (by rw [← HBB.out, ← HYP.out, ← HZP.out]; exact hp)
            · have hp' : decide (zp < yp) = false := decide_eq_false hp
              go_quiet (fail)
              go_wp2_with fail
              refine ⟨⟨i + 1, _, hlt, by go_num, rfl, ?_, b_drewN (HBW.out.trans (HEX.out.mono (by omega))), HW.out.below (b_drewN HEX.out) hsz, Nat.lt_of_lt_of_le hsz HEX.out.size⟩, measI hlt⟩
              exact HBE.out.stays hk hlt hkl HM.out (by rw [← HBB.out, ← HYP.out, ← HZP.out]; exact hp)
      · have hm : meets o y = false := by simpa using hm
        have hmy := hm
        rw [HY.out] at hmy
        have HM := Lib.hid hmy
        clear hmy
        go_wp2_with (first
          | (go_at_call 38; go_loud (refine (HMT.out _).mono ?_; rw [hm]; rintro e w2 ⟨rfl, hb2⟩; have HB2 := Lib.hid hb2))
          | fail)
        have HEX : Hid (Below wr.heap.size wr w2) := Lib.hid (HE0.out.trans (HB2.out.mono (by have := HE0.out.size; omega)))
        exact ⟨⟨i + 1, _, hlt, by go_num, rfl, HBE.out.skip hlt HM.out, HBW.out.trans (HEX.out.mono (by omega)), HW.out.below HEX.out hsz, Nat.lt_of_lt_of_le hsz HEX.out.size⟩, measI hlt⟩
    · obtain rfl : L.length = i := by omega
      go_wp2_with fail
      go_ret
      exact ⟨_, rfl, HBE.out, HBW.out⟩
end Go.Proofs.Ytekelnkjigaofaa
