/- The document's directory: what a change does; done: a move. -/
import Derived.Test.YtbohpjinkdffhaaRdG
namespace Go.Proofs.Ytbohpjinkdffhaa
open Go.RowKit
set_option linter.unusedVariables false
set_option linter.unusedSimpArgs false

theorem RdH.len {w : World} {B d : Nat} {hv zv : Value} {hosts : List Int} {m : Mp} (h : RdH w B d hv zv hosts m) {A : Option Addr} {n c : Nat} (e : zv = .slice A n c) : n = m.zs.length := by
  obtain ⟨A2, c2, e2, _, _, _⟩ := own_slice h.row
  rw [e] at e2
  injection e2 with _ e3 _
theorem RdH.putZ {w : World} {B d g c n : Nat} {hv : Value} {hosts : List Int} {m : Mp} (h : RdH w B d hv (.slice (some ⟨g, 0, none⟩) n c) hosts m) {j : Nat} (hj : j < m.zs.length) (z : Zn) :
    RdH (Go.Proofs.Ytbohpjinkdffhaa.putZ w g j z) B d hv (.slice (some ⟨g, 0, none⟩) n c) hosts ⟨m.ver, m.nxt, m.zs.set j z⟩ := by
  obtain rfl := h.len rfl
  have ht := putZ_touch w g j z
  refine ⟨(ht.block d h.blk.low (fun e => h.za g rfl e.symm)).trans h.blk, ht.own h.hrow (fun q hq e => h.hz q hq (by rw [e]; rfl)), ?_, h.ha, h.za, h.hz, h.low⟩
  show World.ownsRow _ B _ 9 _ (m.zs.set j z).length (flatZ (m.zs.set j z))
  rw [List.length_set]
  exact putZ_own h.row hj z
/-- what a change does, of the document's -/
def RdQ (B d : Nat) (hv zv : Value) (hosts : List Int) (m : Mp) (c : Ch) (i : Nat) (h : i < m.zs.length) (w : World) (e : Ending) (w' : World) : Prop :=
  (∃ (m1 : Mp) (zv' : Value), Deed hosts m c i h m1 ∧ e = .returned (.bool true) ∧ RdH w' B d hv zv' hosts m1 ∧ Touch (Fz d zv) w w' ∧ (∀ k, zv'.ownBlock = some k → zv.ownBlock = some k ∨ w.heap.size ≤ k)) ∨
  ((∀ m1, ¬ Deed hosts m c i h m1) ∧ e = .returned (.bool false) ∧ Below w.heap.size w w')
set_option maxHeartbeats 8000000 in
set_option maxRecDepth 10000 in
theorem rdDone3 (B d i : Nat) (hv zv : Value) (hosts : List Int) (m : Mp) (c : Ch) (hi : i < m.zs.length) (w : World) (h : RdH w B d hv zv hosts m) (hB : B ≤ w.heap.size) (hl : m.zs.length ≤ 1000) (hkd : c.kd = 4) (hp : m.zs[i].pd = 3) (hep : m.zs[i].ep = c.ep) (h0 : 0 ≤ m.zs[i].ep) (htop : m.zs[i].ep < topN) :
    Calls Try.prog 76 #[.pointer (some ⟨d, 0, none⟩), .int .i64 i] w fun e w' => RdQ B d hv zv hosts m c i hi w e w' := by
  have HD := Lib.hid h
  have l2 := h.blk.cell 2
  simp only [List.getElem?_toArray, List.getElem?_cons_succ, List.getElem?_cons_zero] at l2
  obtain ⟨gz, cc, hzv, _, hgz, hnc, hcm⟩ := own_form h.row (by omega)
  subst hzv
  have hdl := h.blk.low
  have q3 : (i : Int) < (m.zs.length : Int) := by omega
  obtain ⟨z, hz⟩ : ∃ z, z = m.zs[i] := ⟨_, rfl⟩
  obtain ⟨v0, v1, v2, v3, v4, v5, v6, v7, v8⟩ := rowZ_at h.row hi
  rw [← hz] at v0 v1 v2 v3 v4 v5 v6 v7 v8
  have HDEED : Hid (Deed hosts m c i hi ⟨m.ver, m.nxt, m.zs.set i (settled { z with ow := z.mv } (z.ep + 1))⟩) := Lib.hid (by
    rw [hz]
    exact Deed.moveDone hkd (by omega) (by omega) (by omega) hep htop)
  rw [← hz] at hp hep h0 htop
  have htop : z.ep < 1099511627776 := htop
  have hwr : IntKind.i64.wrap (z.ep + 1) = z.ep + 1 := by rw [IntKind.wrap_i64]; omega
  rw [hp] at v5
  have HP := Lib.hid hp
  clear h hkd hz hp hep
  go_enter Try.func76, Try.ntmps76
  go_upto_region 24 with (first
    | (go_at_call 77; go_loud (refine (rdFree ⟨z.id, z.fr, z.tt, z.ow, z.ep, 3, z.mv, z.ky, z.nw⟩ _).mono ?_; rintro e w3 ⟨rfl, hb3⟩; have HB3 := Lib.hid hb3; have hs3 := hb3.size; (try simp at hs3); clear hb3))
    | fail)
  obtain ⟨V, hV⟩ : ∃ V, V = (w3.alloc (.cells #[.int .i64 z.id, .string z.fr, .string z.tt, .int .i64 z.ow, .int .i64 z.ep, .int .i64 0, .int .i64 0, .string ⟨#[]⟩, .int .i64 0] 39)) := ⟨_, rfl⟩
  obtain ⟨N, hN⟩ : ∃ n, n = w3.heap.size := ⟨_, rfl⟩
  have hBV : Below w.heap.size w V := by
    rw [hV]
    exact (Below.trans ((Below.refl _ _).alloc (Nat.le_refl _) _) (HB3.out.mono (by simp))).alloc (by omega) _
  have hP : Whl V w.heap.size 39 #[.int .i64 z.id, .string z.fr, .string z.tt, .int .i64 z.ow, .int .i64 z.ep, .int .i64 3, .int .i64 z.mv, .string z.ky, .int .i64 z.nw] := by
    rw [hV]
    exact (Whl.below (Whl.new rfl) HB3.out (by simp)).alloc _
  have hF : Whl V N 39 #[.int .i64 z.id, .string z.fr, .string z.tt, .int .i64 z.ow, .int .i64 z.ep, .int .i64 0, .int .i64 0, .string ⟨#[]⟩, .int .i64 0] := by rw [hV, hN]; exact Whl.new rfl
  have hNw : w.heap.size < N := by rw [hN]; omega
  rw [← hN, ← hV]
  have HBV := Lib.hid hBV
  have HDV := Lib.hid (HD.out.below hBV)
  have p4 := hP.cell 4
  have p6 := hP.cell 6
  have pf := fun k => hF.free k
  have hne : w.heap.size ≠ N := by omega
  have hne2 : N ≠ w.heap.size := by omega
  have hwl := hP.low
  have hNl := hF.low
  have k2 := HDV.out.blk.cell 2
  have q0 := hF.cell 0
  have q1 := hF.cell 1
  have q2 := hF.cell 2
  have q3' := hF.cell 3
  have q4 := hF.cell 4
  have q5 := hF.cell 5
  have q6 := hF.cell 6
  have q7 := hF.cell 7
  have q8 := hF.cell 8
  simp only [List.getElem?_toArray, List.getElem?_cons_succ, List.getElem?_cons_zero] at p4 p6 k2 q0 q1 q2 q3' q4 q5 q6 q7 q8
  obtain ⟨y0, y1, y2, y3, y4, y5, y6, y7, y8⟩ := rowZ_at HDV.out.row hi
  have yf := fun k => HDV.out.row.frozenAt k
  have hgN : gz ≠ N := by omega
  have hNg : N ≠ gz := by omega
  have HF := Lib.hid hF
  clear hV hN hF hP hBV l2 v0 v1 v2 v3 v4 v5 v6 v7 v8
  go_region
  go_wp2_with fail
  have hN1 : Touch (fun k => k = N) V (V.setCell ⟨N, 3, none⟩ (.int .i64 z.mv)) := (Touch.refl _ _).set (fun _ => rfl)
  have hN2 : Touch (fun k => k = N) V ((V.setCell ⟨N, 3, none⟩ (.int .i64 z.mv)).setCell ⟨N, 4, none⟩ (.int .i64 (z.ep + 1))) := hN1.set (fun _ => rfl)
  have HD2 := HDV.out.keep hN2 (fun k hk e => by have := (HD.out.lows k hk).2; omega)
  have hBW := HBV.out.trans (hN2.below (B := w.heap.size) (by omega) (fun k hk => by omega))
  have hS := HD2.putZ hi (settled { z with ow := z.mv } (z.ep + 1))
  have hT := putZ_touch ((V.setCell ⟨N, 3, none⟩ (.int .i64 z.mv)).setCell ⟨N, 4, none⟩ (.int .i64 (z.ep + 1))) gz i (settled { z with ow := z.mv } (z.ep + 1))
  have hdr : Touch (fun _ => False) (putZ ((V.setCell ⟨N, 3, none⟩ (.int .i64 z.mv)).setCell ⟨N, 4, none⟩ (.int .i64 (z.ep + 1))) gz i (settled { z with ow := z.mv } (z.ep + 1))) (putZ ((V.setCell ⟨N, 3, none⟩ (.int .i64 z.mv)).setCell ⟨N, 4, none⟩ (.int .i64 (z.ep + 1))) gz i (settled { z with ow := z.mv } (z.ep + 1))).drew := Touch.of_drew _ _
  refine bodyPost_ret (v := .bool true) (by simp [results, Try.results76, go_sem]) rfl (.inl ⟨_, .slice (some ⟨gz, 0, none⟩) m.zs.length cc, HDEED.out, rfl, hS.keep hdr (fun _ _ h => h), (((Touch.of_below hBW).mono'' (fun k h1 h2 => by omega)).trans hT (fun n _ h => .inr (by rw [h]; rfl))).trans hdr (fun _ _ h => h.elim), fun k hk => .inl hk⟩)
end Go.Proofs.Ytbohpjinkdffhaa
