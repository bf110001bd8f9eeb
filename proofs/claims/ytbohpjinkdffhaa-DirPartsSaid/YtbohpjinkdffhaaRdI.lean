/- The document's directory: done: a split. -/
import Derived.Test.YtbohpjinkdffhaaRdH
namespace Go.Proofs.Ytbohpjinkdffhaa
open Go.RowKit
set_option linter.unusedVariables false
set_option linter.unusedSimpArgs false

theorem takeZ {w : World} {B g c i : Nat} {l : List Zn} (h : w.ownsRow B 39 9 (.slice (some ⟨g, 0, none⟩) l.length c) l.length (flatZ l)) (hi : i ≤ l.length) (hg : g < w.heap.size) (c' : Nat) : Cells w w.heap.size (some ⟨g, 0, none⟩) i c' 9 (flatZ (l.take i)) := by
  refine ⟨by rw [flatZ_len, List.length_take, Nat.min_eq_left hi], (fun h => nomatch h), fun j u hj => ⟨g, 0, rfl, hg, ?_⟩⟩
  rw [flatZ_take] at hj
  have hlt := (List.getElem?_eq_some_iff.1 hj).1
  rw [List.length_take, flatZ_len] at hlt
  rw [Nat.zero_add, h.cellAt j (by omega)]
  rw [List.getElem?_take_of_lt (by omega)] at hj
  exact hj
theorem dropZ {w : World} {B g c k : Nat} {l : List Zn} (h : w.ownsRow B 39 9 (.slice (some ⟨g, 0, none⟩) l.length c) l.length (flatZ l)) (hg : g < w.heap.size) (c' : Nat) : Cells w w.heap.size (some ⟨g, k * 9, none⟩) (l.length - k) c' 9 (flatZ (l.drop k)) := by
  refine ⟨by rw [flatZ_len, List.length_drop], (fun h => nomatch h), fun j u hj => ⟨g, k * 9, rfl, hg, ?_⟩⟩
  rw [flatZ_drop, List.getElem?_drop] at hj
  have hlt := (List.getElem?_eq_some_iff.1 hj).1
  rw [flatZ_len] at hlt
  rw [h.cellAt (k * 9 + j) (by omega)]
  exact hj
theorem whlCells {w : World} {g n B : Nat} {t : TypeId} {cs : Array Value} {xs : List Value} (h : Whl w g t cs) (hs : cs.size = n * 9) (hx : cs.toList = xs) (hB : g < B) : Cells w B (some ⟨g, 0, none⟩) n n 9 xs := by
  subst hx
  exact ⟨by simpa using hs, (fun e => by cases e), fun k u hu => ⟨_, _, rfl, hB, by rw [Nat.zero_add, h.cell]; simpa using hu⟩⟩
theorem cells_zeroZ {w : World} {ad : Addr} {B c size : Nat} : Cells w B (some ad) 0 c size [] := ⟨by simp, (fun e => by cases e), fun j u hu => by simp at hu⟩
theorem RdH.stored {w : World} {B d : Nat} {hv zv : Value} {hosts : List Int} {m : Mp} (h : RdH w B d hv zv hosts m) {b0 : Nat} {zv' : Value} {l : List Zn} (hr : w.ownsRow b0 39 9 zv' l.length (flatZ l)) (hb : B ≤ b0) (hd : d < b0) (hh : ∀ g, hv.ownBlock = some g → g < b0) :
    RdH (w.setCell ⟨d, 2, none⟩ zv') B d hv zv' hosts ⟨m.ver, m.nxt, l⟩ := by
  have hge : ∀ g, zv'.ownBlock = some g → b0 ≤ g := fun g hg => (hr.lt g hg).1
  refine ⟨?_, own_set_ne h.hrow h.ha, own_set_ne (own_mono hr hb) (fun g hg => by have := hge g hg; show g ≠ d; omega), h.ha, fun g hg => by have := hge g hg; omega, fun g hg e => by have := hge g e; have := hh g hg; omega, h.low⟩
  have := h.blk.set 2 zv'
  simpa using this
theorem Whl.tou'' {x : Nat} {D : Nat → Prop} {w w' : World} {t : TypeId} {cs : Array Value} (h : Whl w x t cs) (ht : Touch D w w') (hne : ¬ D x) : Whl w' x t cs := (ht.block x h.low hne).trans h
theorem Whl.tou' {x n : Nat} {w w' : World} {t : TypeId} {cs : Array Value} (h : Whl w x t cs) (ht : Touch (fun k => k = n) w w') (hne : x ≠ n) : Whl w' x t cs := (ht.block x h.low hne).trans h
set_option maxHeartbeats 8000000 in
set_option maxRecDepth 10000 in
theorem rdDone1 (B d i : Nat) (hv zv : Value) (hosts : List Int) (m : Mp) (c : Ch) (hi : i < m.zs.length) (w : World) (h : RdH w B d hv zv hosts m) (hB : B ≤ w.heap.size) (hl : m.zs.length ≤ 1000) (hkd : c.kd = 4) (hp : m.zs[i].pd = 1) (hep : m.zs[i].ep = c.ep) (h0 : 0 ≤ m.zs[i].ep) (htop : m.zs[i].ep < topN) (hcut : cutB m.zs[i].fr m.zs[i].tt m.zs[i].ky = true) :
    Calls Try.prog 76 #[.pointer (some ⟨d, 0, none⟩), .int .i64 i] w fun e w' => RdQ B d hv zv hosts m c i hi w e w' := by
  have HD := Lib.hid h
  have l2 := h.blk.cell 2
  simp only [List.getElem?_toArray, List.getElem?_cons_succ, List.getElem?_cons_zero] at l2
  obtain ⟨gz, cc, hzv, _, hgz, hnc, hcm⟩ := own_form h.row (by omega)
  subst hzv
  have hdl := h.blk.low
  have q3 : (i : Int) < (m.zs.length : Int) := by omega
  obtain ⟨z, hz⟩ : ∃ z, z = m.zs[i] := ⟨_, rfl⟩
  obtain ⟨v0, v1, v2, v3, v4, v5, v6, v7, v8⟩ := rowZ_at h.row hi
  rw [← hz] at v0 v1 v2 v3 v4 v5 v6 v7 v8
  have HDEED : Hid (Deed hosts m c i hi ⟨m.ver, m.nxt, m.zs.take i ++ settled { z with tt := z.ky } (z.ep + 1) :: ⟨z.nw, z.ky, z.tt, z.ow, z.ep + 1, 0, 0, ⟨#[]⟩, 0⟩ :: m.zs.drop (i + 1)⟩) := Lib.hid (by
    rw [hz]
    exact Deed.splitDone hkd hp hep hcut htop)
  rw [← hz] at hp hep h0 htop hcut
  have htop : z.ep < 1099511627776 := htop
  have hwr : IntKind.i64.wrap (z.ep + 1) = z.ep + 1 := by rw [IntKind.wrap_i64]; omega
  rw [hp] at v5
  have HC := Lib.hid hcut
  clear h hkd hz hp hep hcut
  go_enter Try.func76, Try.ntmps76
  go_upto_region 8 with (first
    | (go_at_call 73; go_loud (refine (refCut1 z.fr z.tt z.ky _ HC.out).mono ?_; rintro e w1 ⟨rfl, hb1⟩; have HB1 := Lib.hid hb1; have hs1 := hb1.size; (try simp at hs1); have g1 := (Whl.new (w := w) (t := 39) (cs := #[.int .i64 z.id, .string z.fr, .string z.tt, .int .i64 z.ow, .int .i64 z.ep, .int .i64 1, .int .i64 z.mv, .string z.ky, .int .i64 z.nw]) rfl).below hb1 (by simp); have z0 := g1.cell 0; have z1 := g1.cell 1; have z2 := g1.cell 2; have z3 := g1.cell 3; have z4 := g1.cell 4; have z5 := g1.cell 5; have z6 := g1.cell 6; have z7 := g1.cell 7; have z8 := g1.cell 8; simp only [List.getElem?_toArray, List.getElem?_cons_succ, List.getElem?_cons_zero] at z0 z1 z2 z3 z4 z5 z6 z7 z8; have G1 := Lib.hid g1; clear hb1 g1))
    | (go_at_call 77; go_loud (refine (rdFree ⟨z.id, z.fr, z.tt, z.ow, z.ep, 1, z.mv, z.ky, z.nw⟩ _).mono ?_; rintro e w3 ⟨rfl, hb3⟩; have HB3 := Lib.hid hb3; have hs3 := hb3.size; (try simp at hs3); clear hb3))
    | fail)
  obtain ⟨V, hV⟩ : ∃ V, V = (w3.alloc (.cells #[.int .i64 z.id, .string z.fr, .string z.tt, .int .i64 z.ow, .int .i64 z.ep, .int .i64 0, .int .i64 0, .string ⟨#[]⟩, .int .i64 0] 39)) := ⟨_, rfl⟩
  obtain ⟨N, hN⟩ : ∃ n, n = w3.heap.size := ⟨_, rfl⟩
  obtain ⟨NL, hNL⟩ : ∃ n, n = w1.heap.size := ⟨_, rfl⟩
  have hB1 : Below w.heap.size w w1 := Below.trans ((Below.refl _ _).alloc (Nat.le_refl _) _) (HB1.out.mono (by simp))
  have hBV : Below w.heap.size w V := by
    rw [hV]
    exact (Below.trans (Below.alloc (hB1.alloc (by omega) _) (by simp; omega) _) (HB3.out.mono (by simp; omega))).alloc (by omega) _
  have hP : Whl V w.heap.size 39 #[.int .i64 z.id, .string z.fr, .string z.tt, .int .i64 z.ow, .int .i64 z.ep, .int .i64 1, .int .i64 z.mv, .string z.ky, .int .i64 z.nw] := by
    rw [hV]
    exact ((((G1.out).alloc _).alloc _).below HB3.out (by simp; omega)).alloc _
  have hL : Whl V NL 37 #[.string z.fr, .string z.ky] := by
    rw [hV, hNL]
    exact (((Whl.new rfl).alloc _).below HB3.out (by simp; omega)).alloc _
  have hR : Whl V (NL + 1) 37 #[.string z.ky, .string z.tt] := by
    rw [hV, hNL]
    exact ((Whl.new (by simp)).below HB3.out (by simp)).alloc _
  have hF : Whl V N 39 #[.int .i64 z.id, .string z.fr, .string z.tt, .int .i64 z.ow, .int .i64 z.ep, .int .i64 0, .int .i64 0, .string ⟨#[]⟩, .int .i64 0] := by rw [hV, hN]; exact Whl.new rfl
  have hNw : w.heap.size < NL ∧ NL + 1 < N := by rw [hN, hNL]; omega
  rw [← hN, ← hV, ← hNL]
  have HBV := Lib.hid hBV
  have HDV := Lib.hid (HD.out.below hBV)
  have k2 := HDV.out.blk.cell 2
  simp only [List.getElem?_toArray, List.getElem?_cons_succ, List.getElem?_cons_zero] at k2
  have p0 := hP.cell 0
  have p1 := hP.cell 1
  have p2 := hP.cell 2
  have p3 := hP.cell 3
  have p4 := hP.cell 4
  have p5 := hP.cell 5
  have p6 := hP.cell 6
  have p7 := hP.cell 7
  have p8 := hP.cell 8
  simp only [List.getElem?_toArray, List.getElem?_cons_succ, List.getElem?_cons_zero] at p0 p1 p2 p3 p4 p5 p6 p7 p8
  have l0 := hL.cell 0
  have l1 := hL.cell 1
  simp only [List.getElem?_toArray, List.getElem?_cons_succ, List.getElem?_cons_zero] at l0 l1
  have r0 := hR.cell 0
  have r1 := hR.cell 1
  simp only [List.getElem?_toArray, List.getElem?_cons_succ, List.getElem?_cons_zero] at r0 r1
  have q0 := hF.cell 0
  have q1 := hF.cell 1
  have q2 := hF.cell 2
  have q3 := hF.cell 3
  have q4 := hF.cell 4
  have q5 := hF.cell 5
  have q6 := hF.cell 6
  have q7 := hF.cell 7
  have q8 := hF.cell 8
  simp only [List.getElem?_toArray, List.getElem?_cons_succ, List.getElem?_cons_zero] at q0 q1 q2 q3 q4 q5 q6 q7 q8
  have qf := fun k => hF.free k
  have hne1 : w.heap.size ≠ N := by omega
  have hne2 : NL ≠ N := by omega
  have hne3 : NL + 1 ≠ N := by omega
  have hNV := hF.low
  have HP := Lib.hid hP
  have HL := Lib.hid hL
  have HR := Lib.hid hR
  have HF := Lib.hid hF
  clear hV hN hNL hF hP hL hR hBV hB1 l2 v0 v1 v2 v3 v4 v5 v6 v7 v8 z0 z1 z2 z3 z4 z5 z6 z7 z8
  go_region
  go_upto_region 10 with fail
  obtain ⟨V2, hV2⟩ : ∃ W, W = ((((V.setCell ⟨N, 1, none⟩ (.string z.fr)).setCell ⟨N, 2, none⟩ (.string z.ky)).setCell ⟨N, 4, none⟩ (.int .i64 (z.ep + 1))).alloc (.cells #[.int .i64 z.id, .string z.fr, .string z.ky, .int .i64 z.ow, .int .i64 (z.ep + 1), .int .i64 0, .int .i64 0, .string ⟨#[]⟩, .int .i64 0] 39)).drew := ⟨_, rfl⟩
  obtain ⟨M, hM⟩ : ∃ n, n = V.heap.size := ⟨_, rfl⟩
  have hT1 : Touch (fun k => k = N) V (V.setCell ⟨N, 1, none⟩ (.string z.fr)) := (Touch.refl _ _).set (fun _ => rfl)
  have hT2 : Touch (fun k => k = N) V ((V.setCell ⟨N, 1, none⟩ (.string z.fr)).setCell ⟨N, 2, none⟩ (.string z.ky)) := hT1.set (fun _ => rfl)
  have hT3 : Touch (fun k => k = N) V (((V.setCell ⟨N, 1, none⟩ (.string z.fr)).setCell ⟨N, 2, none⟩ (.string z.ky)).setCell ⟨N, 4, none⟩ (.int .i64 (z.ep + 1))) := hT2.set (fun _ => rfl)
  have hT4 : Touch (fun k => k = N) V V2 := by rw [hV2]; exact (hT3.alloc _).trans (Touch.of_drew (fun k => k = N) _) (fun _ _ h => h)
  have hX : Whl V2 N 39 #[.int .i64 z.id, .string z.fr, .string z.ky, .int .i64 z.ow, .int .i64 (z.ep + 1), .int .i64 0, .int .i64 0, .string ⟨#[]⟩, .int .i64 0] := by
    rw [hV2]
    have h9 := ((HF.out.set 1 (.string z.fr)).set 2 (.string z.ky)).set 4 (.int .i64 (z.ep + 1))
    exact (h9.alloc _).drew
  have hY : Whl V2 M 39 #[.int .i64 z.id, .string z.fr, .string z.ky, .int .i64 z.ow, .int .i64 (z.ep + 1), .int .i64 0, .int .i64 0, .string ⟨#[]⟩, .int .i64 0] := by rw [hV2, hM]; exact (Whl.new (by simp)).drew
  have hP : Whl V2 w.heap.size 39 #[.int .i64 z.id, .string z.fr, .string z.tt, .int .i64 z.ow, .int .i64 z.ep, .int .i64 1, .int .i64 z.mv, .string z.ky, .int .i64 z.nw] := HP.out.tou' hT4 hne1
  have hR : Whl V2 (NL + 1) 37 #[.string z.ky, .string z.tt] := HR.out.tou' hT4 hne3
  have HDV2 := Lib.hid (HDV.out.keep hT4 (fun k hk e => by have := (HD.out.lows k hk).2; omega))
  have hBV2 : Below w.heap.size w V2 := HBV.out.trans (hT4.below (by omega) (fun k hk => by omega))
  have hNM : N < M := by rw [hM]; exact hNV
  rw [← hM, ← hV2]
  clear p0 p1 p2 p3 p4 p5 p6 p7 p8 l0 l1 r0 r1 q0 q1 q2 q3 q4 q5 q6 q7 q8 qf k2
  have p0 := hP.cell 0
  have p1 := hP.cell 1
  have p2 := hP.cell 2
  have p3 := hP.cell 3
  have p4 := hP.cell 4
  have p5 := hP.cell 5
  have p6 := hP.cell 6
  have p7 := hP.cell 7
  have p8 := hP.cell 8
  simp only [List.getElem?_toArray, List.getElem?_cons_succ, List.getElem?_cons_zero] at p0 p1 p2 p3 p4 p5 p6 p7 p8
  have r0 := hR.cell 0
  have r1 := hR.cell 1
  simp only [List.getElem?_toArray, List.getElem?_cons_succ, List.getElem?_cons_zero] at r0 r1
  have q0 := hY.cell 0
  have q1 := hY.cell 1
  have q2 := hY.cell 2
  have q3 := hY.cell 3
  have q4 := hY.cell 4
  have q5 := hY.cell 5
  have q6 := hY.cell 6
  have q7 := hY.cell 7
  have q8 := hY.cell 8
  simp only [List.getElem?_toArray, List.getElem?_cons_succ, List.getElem?_cons_zero] at q0 q1 q2 q3 q4 q5 q6 q7 q8
  have qf := fun k => hY.free k
  have q3 : (i : Int) < (m.zs.length : Int) := by omega
  have hne1 : w.heap.size ≠ M := by omega
  have hne3 : NL + 1 ≠ M := by omega
  have hMV := hY.low
  have HX := Lib.hid hX
  have HY := Lib.hid hY
  have HBV2 := Lib.hid hBV2
  clear hV2 hM hT1 hT2 hT3 hT4 hX hY hP hR hBV2
  go_region
  go_upto_region 11 with fail
  obtain ⟨V3, hV3⟩ : ∃ W, W = (((V2.setCell ⟨M, 0, none⟩ (.int .i64 z.nw)).setCell ⟨M, 1, none⟩ (.string z.ky)).setCell ⟨M, 2, none⟩ (.string z.tt)).drew := ⟨_, rfl⟩
  have hT1 : Touch (fun k => k = M) V2 (V2.setCell ⟨M, 0, none⟩ (.int .i64 z.nw)) := (Touch.refl _ _).set (fun _ => rfl)
  have hT2 : Touch (fun k => k = M) V2 ((V2.setCell ⟨M, 0, none⟩ (.int .i64 z.nw)).setCell ⟨M, 1, none⟩ (.string z.ky)) := hT1.set (fun _ => rfl)
  have hT3 : Touch (fun k => k = M) V2 (((V2.setCell ⟨M, 0, none⟩ (.int .i64 z.nw)).setCell ⟨M, 1, none⟩ (.string z.ky)).setCell ⟨M, 2, none⟩ (.string z.tt)) := hT2.set (fun _ => rfl)
  have hT4 : Touch (fun k => k = M) V2 V3 := by rw [hV3]; exact hT3.trans (Touch.of_drew (fun k => k = M) _) (fun _ _ h => h)
  have hX : Whl V3 N 39 #[.int .i64 z.id, .string z.fr, .string z.ky, .int .i64 z.ow, .int .i64 (z.ep + 1), .int .i64 0, .int .i64 0, .string ⟨#[]⟩, .int .i64 0] := HX.out.tou' hT4 (by omega)
  have hY : Whl V3 M 39 #[.int .i64 z.nw, .string z.ky, .string z.tt, .int .i64 z.ow, .int .i64 (z.ep + 1), .int .i64 0, .int .i64 0, .string ⟨#[]⟩, .int .i64 0] := by
    rw [hV3]
    exact (((HY.out.set 0 (.int .i64 z.nw)).set 1 (.string z.ky)).set 2 (.string z.tt)).drew
  have HDV3 := Lib.hid (HDV2.out.keep hT4 (fun k hk e => by have := (HD.out.lows k hk).2; omega))
  have hBV3 : Below w.heap.size w V3 := HBV2.out.trans (hT4.below (by omega) (fun k hk => by omega))
  have hNV3 := hX.low
  have hMV3 := hY.low
  have HTK := Lib.hid (takeZ (i := i) HDV3.out.row (by omega) (by have := hBV3.size; omega) cc)
  have HBV3 := Lib.hid hBV3
  rw [← hV3]
  clear p0 p1 p2 p3 p4 p5 p6 p7 p8 r0 r1 q0 q1 q2 q3 q4 q5 q6 q7 q8 qf
  have p0 := hX.cell 0
  have p1 := hX.cell 1
  have p2 := hX.cell 2
  have p3 := hX.cell 3
  have p4 := hX.cell 4
  have p5 := hX.cell 5
  have p6 := hX.cell 6
  have p7 := hX.cell 7
  have p8 := hX.cell 8
  simp only [List.getElem?_toArray, List.getElem?_cons_succ, List.getElem?_cons_zero] at p0 p1 p2 p3 p4 p5 p6 p7 p8
  have q0 := hY.cell 0
  have q1 := hY.cell 1
  have q2 := hY.cell 2
  have q3 := hY.cell 3
  have q4 := hY.cell 4
  have q5 := hY.cell 5
  have q6 := hY.cell 6
  have q7 := hY.cell 7
  have q8 := hY.cell 8
  simp only [List.getElem?_toArray, List.getElem?_cons_succ, List.getElem?_cons_zero] at q0 q1 q2 q3 q4 q5 q6 q7 q8
  have q3' : (i : Int) < (m.zs.length : Int) := by omega
  obtain ⟨i0, hi0, hz0, hz1, hz2⟩ := info_parts Try.infoZone
  have hb : Below V3.heap.size V3 V3.drew := (Below.refl _ _).drew
  have q9 : (i : Int) ≤ (cc : Int) := by omega
  clear hV3 hT1 hT2 hT3 hT4 hX hY hBV3
  refine wp_region_held_drew (S := (fun W => W.cell? ⟨N, 0, none⟩ = some (.int .i64 z.id) ∧ W.cell? ⟨N, 1, none⟩ = some (.string z.fr) ∧ W.cell? ⟨N, 2, none⟩ = some (.string z.ky) ∧ W.cell? ⟨N, 3, none⟩ = some (.int .i64 z.ow) ∧ W.cell? ⟨N, 4, none⟩ = some (.int .i64 (z.ep + 1)) ∧ W.cell? ⟨N, 5, none⟩ = some (.int .i64 0) ∧ W.cell? ⟨N, 6, none⟩ = some (.int .i64 0) ∧ W.cell? ⟨N, 7, none⟩ = some (.string ⟨#[]⟩) ∧ W.cell? ⟨N, 8, none⟩ = some (.int .i64 0) ∧ W.cell? ⟨M, 0, none⟩ = some (.int .i64 z.nw) ∧ W.cell? ⟨M, 1, none⟩ = some (.string z.ky) ∧ W.cell? ⟨M, 2, none⟩ = some (.string z.tt) ∧ W.cell? ⟨M, 3, none⟩ = some (.int .i64 z.ow) ∧ W.cell? ⟨M, 4, none⟩ = some (.int .i64 (z.ep + 1)) ∧ W.cell? ⟨M, 5, none⟩ = some (.int .i64 0) ∧ W.cell? ⟨M, 6, none⟩ = some (.int .i64 0) ∧ W.cell? ⟨M, 7, none⟩ = some (.string ⟨#[]⟩) ∧ W.cell? ⟨M, 8, none⟩ = some (.int .i64 0))) (by kernel_rfl) ⟨p0, p1, p2, p3, p4, p5, p6, p7, p8, q0, q1, q2, q3, q4, q5, q6, q7, q8⟩ (fun hHeld => ?_)
  refine wpAnyH_take (i := 1) (oi := ⟨some 54, _, _, _, _, _⟩) (v := ?v1j_1) rfl (by kernel_rfl) (by kernel_rfl) (by kernel_rfl) (fun _ _ _ h => h) (Or.inl ⟨by rfl, ?y1j_1⟩) (by assumption) ?r1j_1
  case y1j_1 => (intro w hSw; (try dsimp only at hSw); (try go_split_ands); go_simp); (try with_reducible rfl)
  case r1j_1 =>
  (try simp only [Act.put, List.setIfInBounds_toArray, List.set_cons_zero, List.set_cons_succ])
  refine wpAnyH_take (i := 2) (oi := ⟨some 55, _, _, _, _, _⟩) (v := ?v2j_4) rfl (by kernel_rfl) (by kernel_rfl) (by kernel_rfl) (fun _ _ _ h => h) (Or.inl ⟨by rfl, ?y2j_4⟩) (by assumption) ?r2j_4
  case y2j_4 => (intro w hSw; (try dsimp only at hSw); (try go_split_ands); go_simp); (try with_reducible rfl)
  case r2j_4 =>
  (try simp only [Act.put, List.setIfInBounds_toArray, List.set_cons_zero, List.set_cons_succ])
  refine wpAnyH_take (i := 3) (oi := ⟨some 56, _, _, _, _, _⟩) (v := ?v3j_7) rfl (by kernel_rfl) (by kernel_rfl) (by kernel_rfl) (fun _ _ _ h => h) (Or.inl ⟨by rfl, ?y3j_7⟩) (by assumption) ?r3j_7
  case y3j_7 => (intro w hSw; (try dsimp only at hSw); (try go_split_ands); go_simp); (try with_reducible rfl)
  case r3j_7 =>
  (try simp only [Act.put, List.setIfInBounds_toArray, List.set_cons_zero, List.set_cons_succ])
  refine wpAnyH_take (i := 5) (oi := ⟨some 58, _, _, _, _, _⟩) (v := ?v5j_10) rfl (by kernel_rfl) (by kernel_rfl) (by kernel_rfl) (fun _ _ _ h => h) (Or.inl ⟨by rfl, ?y5j_10⟩) (by assumption) ?r5j_10
  case y5j_10 => (intro w hSw; (try dsimp only at hSw); (try go_split_ands); go_simp); (try with_reducible rfl)
  case r5j_10 =>
  (try simp only [Act.put, List.setIfInBounds_toArray, List.set_cons_zero, List.set_cons_succ])
  refine wpAnyH_take (i := 6) (oi := ⟨some 59, _, _, _, _, _⟩) (v := ?v6j_13) rfl (by kernel_rfl) (by kernel_rfl) (by kernel_rfl) (fun _ _ _ h => h) (Or.inl ⟨by rfl, ?y6j_13⟩) (by assumption) ?r6j_13
  case y6j_13 => (intro w hSw; (try dsimp only at hSw); (try go_split_ands); go_simp); (try with_reducible rfl)
  case r6j_13 =>
  (try simp only [Act.put, List.setIfInBounds_toArray, List.set_cons_zero, List.set_cons_succ])
  refine wpAnyH_ready (rs := [0, 7]) (by kernel_rfl) (by simp) ?_
  refine AllReadyH.cons (o := ⟨some 53, _, _, _, _, _⟩) rfl (fun K hK => ?_) (AllReadyH.cons (o := ⟨some 60, _, _, _, _, _⟩) rfl (fun K hK => ?_) AllReadyH.nil)
  · go_simp
    have hb0 : Below V3.heap.size V3 (V3.drew.alloc (.cells #[] 39)) := hb.alloc (by (try simp) <;> omega) _
    have kx0 := bkeep hb0 p0 hNV3
    have kx1 := bkeep hb0 p1 hNV3
    have kx2 := bkeep hb0 p2 hNV3
    have kx3 := bkeep hb0 p3 hNV3
    have kx4 := bkeep hb0 p4 hNV3
    have kx5 := bkeep hb0 p5 hNV3
    have kx6 := bkeep hb0 p6 hNV3
    have kx7 := bkeep hb0 p7 hNV3
    have kx8 := bkeep hb0 p8 hNV3
    have ky0 := bkeep hb0 q0 hMV3
    have ky1 := bkeep hb0 q1 hMV3
    have ky2 := bkeep hb0 q2 hMV3
    have ky3 := bkeep hb0 q3 hMV3
    have ky4 := bkeep hb0 q4 hMV3
    have ky5 := bkeep hb0 q5 hMV3
    have ky6 := bkeep hb0 q6 hMV3
    have ky7 := bkeep hb0 q7 hMV3
    have ky8 := bkeep hb0 q8 hMV3
    have he0 : (V3.drew.alloc (.cells #[] 39)).ownsRow V3.heap.size 39 9 (.slice (some ⟨V3.heap.size, 0, none⟩) 0 0) 0 [] := owns_lit0 (by simp) (by (try simp) <;> omega)
    refine hK.out _ _ ⟨kx0, kx1, kx2, kx3, kx4, kx5, kx6, kx7, kx8, ky0, ky1, ky2, ky3, ky4, ky5, ky6, ky7, ky8⟩ (fun hHeld => ?_)
    clear hK K
    (try simp only [Act.put, List.setIfInBounds_toArray, List.set_cons_zero, List.set_cons_succ])
    refine wpAnyH_ready (rs := [4, 7]) (by kernel_rfl) (by simp) ?_
    refine AllReadyH.cons (o := ⟨some 57, _, _, _, _, _⟩) rfl (fun K hK => ?_) (AllReadyH.cons (o := ⟨some 60, _, _, _, _, _⟩) rfl (fun K hK => ?_) AllReadyH.nil)
    · refine step_append_cells rfl (.tmp 53) (.tmp 56) 31 rfl V3.heap.size 39 i0 _ 9 96 Try.underlying31 hi0 hz0 hz1 hz2 rfl (by decide) (.slice (some ⟨V3.heap.size, 0, none⟩) 0 0) 0 [] rfl he0 V3.heap.size (some ⟨gz, 0, none⟩) i cc (flatZ (m.zs.take i)) rfl (cells_keep HTK.out hb0 (Nat.le_refl _)) (flatZ_one _) (by unfold maxLen; omega) (by omega) (by (try simp) <;> omega) ?_
      intro v4 w4 ho4 ht4 hv4
      rw [Nat.zero_add, List.nil_append] at ho4
      have hs4 := ht4.size
      (try simp at hs4)
      have hb04 : Below V3.heap.size V3 w4 := hb0.trans (ht4.below (B := V3.heap.size) (by (try simp) <;> omega) (fun q hq => by simp [Value.ownBlock] at hq; omega))
      have kx0 := bkeep hb04 p0 hNV3
      have kx1 := bkeep hb04 p1 hNV3
      have kx2 := bkeep hb04 p2 hNV3
      have kx3 := bkeep hb04 p3 hNV3
      have kx4 := bkeep hb04 p4 hNV3
      have kx5 := bkeep hb04 p5 hNV3
      have kx6 := bkeep hb04 p6 hNV3
      have kx7 := bkeep hb04 p7 hNV3
      have kx8 := bkeep hb04 p8 hNV3
      have ky0 := bkeep hb04 q0 hMV3
      have ky1 := bkeep hb04 q1 hMV3
      have ky2 := bkeep hb04 q2 hMV3
      have ky3 := bkeep hb04 q3 hMV3
      have ky4 := bkeep hb04 q4 hMV3
      have ky5 := bkeep hb04 q5 hMV3
      have ky6 := bkeep hb04 q6 hMV3
      have ky7 := bkeep hb04 q7 hMV3
      have ky8 := bkeep hb04 q8 hMV3
      refine hK.out _ _ ⟨kx0, kx1, kx2, kx3, kx4, kx5, kx6, kx7, kx8, ky0, ky1, ky2, ky3, ky4, ky5, ky6, ky7, ky8⟩ (fun hHeld => ?_)
      clear hK K
      (try simp only [Act.put, List.setIfInBounds_toArray, List.set_cons_zero, List.set_cons_succ])
      refine wpAnyH_ready (rs := [7]) (by kernel_rfl) (by simp) ?_
      refine AllReadyH.cons (o := ⟨some 60, _, _, _, _, _⟩) rfl (fun K hK => ?_) AllReadyH.nil
      go_simp
      have hb047 : Below V3.heap.size V3 (w4.alloc (.cells #[.int .i64 z.id, .string z.fr, .string z.ky, .int .i64 z.ow, .int .i64 (z.ep + 1), .int .i64 0, .int .i64 0, .string ⟨#[]⟩, .int .i64 0, .int .i64 z.nw, .string z.ky, .string z.tt, .int .i64 z.ow, .int .i64 (z.ep + 1), .int .i64 0, .int .i64 0, .string ⟨#[]⟩, .int .i64 0] 39)) := hb04.alloc (by (try simp) <;> omega) _
      have kx0 := bkeep hb047 p0 hNV3
      have kx1 := bkeep hb047 p1 hNV3
      have kx2 := bkeep hb047 p2 hNV3
      have kx3 := bkeep hb047 p3 hNV3
      have kx4 := bkeep hb047 p4 hNV3
      have kx5 := bkeep hb047 p5 hNV3
      have kx6 := bkeep hb047 p6 hNV3
      have kx7 := bkeep hb047 p7 hNV3
      have kx8 := bkeep hb047 p8 hNV3
      have ky0 := bkeep hb047 q0 hMV3
      have ky1 := bkeep hb047 q1 hMV3
      have ky2 := bkeep hb047 q2 hMV3
      have ky3 := bkeep hb047 q3 hMV3
      have ky4 := bkeep hb047 q4 hMV3
      have ky5 := bkeep hb047 q5 hMV3
      have ky6 := bkeep hb047 q6 hMV3
      have ky7 := bkeep hb047 q7 hMV3
      have ky8 := bkeep hb047 q8 hMV3
      have hPB : Whl (w4.alloc (.cells #[.int .i64 z.id, .string z.fr, .string z.ky, .int .i64 z.ow, .int .i64 (z.ep + 1), .int .i64 0, .int .i64 0, .string ⟨#[]⟩, .int .i64 0, .int .i64 z.nw, .string z.ky, .string z.tt, .int .i64 z.ow, .int .i64 (z.ep + 1), .int .i64 0, .int .i64 0, .string ⟨#[]⟩, .int .i64 0] 39)) w4.heap.size 39 #[.int .i64 z.id, .string z.fr, .string z.ky, .int .i64 z.ow, .int .i64 (z.ep + 1), .int .i64 0, .int .i64 0, .string ⟨#[]⟩, .int .i64 0, .int .i64 z.nw, .string z.ky, .string z.tt, .int .i64 z.ow, .int .i64 (z.ep + 1), .int .i64 0, .int .i64 0, .string ⟨#[]⟩, .int .i64 0] := Whl.new (by simp)
      have ho4 := ho4.alloc (.cells #[.int .i64 z.id, .string z.fr, .string z.ky, .int .i64 z.ow, .int .i64 (z.ep + 1), .int .i64 0, .int .i64 0, .string ⟨#[]⟩, .int .i64 0, .int .i64 z.nw, .string z.ky, .string z.tt, .int .i64 z.ow, .int .i64 (z.ep + 1), .int .i64 0, .int .i64 0, .string ⟨#[]⟩, .int .i64 0] 39)
      refine hK.out _ _ ⟨kx0, kx1, kx2, kx3, kx4, kx5, kx6, kx7, kx8, ky0, ky1, ky2, ky3, ky4, ky5, ky6, ky7, ky8⟩ (fun hHeld => ?_)
      clear hK K
      (try simp only [Act.put, List.setIfInBounds_toArray, List.set_cons_zero, List.set_cons_succ])
      refine wpAnyH_ready (rs := [8]) (by kernel_rfl) (by simp) ?_
      refine AllReadyH.cons (o := ⟨some 61, _, _, _, _, _⟩) rfl (fun K hK => ?_) AllReadyH.nil
      refine step_append_cells rfl (.tmp 57) (.tmp 60) 31 rfl V3.heap.size 39 i0 _ 9 96 Try.underlying31 hi0 hz0 hz1 hz2 rfl (by decide) v4 i (flatZ (m.zs.take i)) rfl ho4 (w4.alloc (.cells #[.int .i64 z.id, .string z.fr, .string z.ky, .int .i64 z.ow, .int .i64 (z.ep + 1), .int .i64 0, .int .i64 0, .string ⟨#[]⟩, .int .i64 0, .int .i64 z.nw, .string z.ky, .string z.tt, .int .i64 z.ow, .int .i64 (z.ep + 1), .int .i64 0, .int .i64 0, .string ⟨#[]⟩, .int .i64 0] 39)).heap.size (some ⟨w4.heap.size, 0, none⟩) 2 2 (flatZ [(settled { z with tt := z.ky } (z.ep + 1)), ⟨z.nw, z.ky, z.tt, z.ow, z.ep + 1, 0, 0, ⟨#[]⟩, 0⟩]) rfl (whlCells hPB rfl rfl hPB.low) (flatZ_one _) (by unfold maxLen; omega) (by omega) (by (try simp) <;> omega) ?_
      intro v8 w8 ho8 ht8 hv8
      have hs8 := ht8.size
      (try simp at hs8)
      have hb8 : Below V3.heap.size V3 w8 := hb047.trans (ht8.below (B := V3.heap.size) (by (try simp) <;> omega) (fun q hq => (ho4.lt q hq).1))
      obtain ⟨g8, c8, hv8', hg8, hg8l, hn8, hc8⟩ := own_form ho8 (by omega)
      subst hv8'
      have kx0 := bkeep hb8 p0 hNV3
      have kx1 := bkeep hb8 p1 hNV3
      have kx2 := bkeep hb8 p2 hNV3
      have kx3 := bkeep hb8 p3 hNV3
      have kx4 := bkeep hb8 p4 hNV3
      have kx5 := bkeep hb8 p5 hNV3
      have kx6 := bkeep hb8 p6 hNV3
      have kx7 := bkeep hb8 p7 hNV3
      have kx8 := bkeep hb8 p8 hNV3
      have ky0 := bkeep hb8 q0 hMV3
      have ky1 := bkeep hb8 q1 hMV3
      have ky2 := bkeep hb8 q2 hMV3
      have ky3 := bkeep hb8 q3 hMV3
      have ky4 := bkeep hb8 q4 hMV3
      have ky5 := bkeep hb8 q5 hMV3
      have ky6 := bkeep hb8 q6 hMV3
      have ky7 := bkeep hb8 q7 hMV3
      have ky8 := bkeep hb8 q8 hMV3
      refine hK.out _ _ ⟨kx0, kx1, kx2, kx3, kx4, kx5, kx6, kx7, kx8, ky0, ky1, ky2, ky3, ky4, ky5, ky6, ky7, ky8⟩ (fun hHeld => ?_)
      clear hK K
      (try simp only [Act.put, List.setIfInBounds_toArray, List.set_cons_zero, List.set_cons_succ])
      refine wpAnyH_take (i := 9) (oi := ⟨some 12, _, _, _, _, _⟩) (v := ?v9j_128) rfl (by kernel_rfl) (by kernel_rfl) (by kernel_rfl) (fun _ _ _ h => h) (Or.inl ⟨by rfl, ?y9j_128⟩) (by assumption) ?r9j_128
      case y9j_128 => (intro w hSw; (try dsimp only at hSw); (try go_split_ands); go_simp); (try with_reducible rfl)
      case r9j_128 =>
      (try simp only [Act.put, List.setIfInBounds_toArray, List.set_cons_zero, List.set_cons_succ])
      refine wpAnyH_done (by kernel_rfl) ?_ _
      have HO8 := Lib.hid ho8
      have HB8 := Lib.hid hb8
      have HD8 := Lib.hid (HDV3.out.below hb8)
      have k2 := HD8.out.blk.cell 2
      have df := fun k => HD8.out.blk.free k
      simp only [List.getElem?_toArray, List.getElem?_cons_succ, List.getElem?_cons_zero] at k2
      clear ho8 hb8 ho4 hPB kx0 ky0 kx1 ky1 kx2 ky2 kx3 ky3 kx4 ky4 kx5 ky5 kx6 ky6 kx7 ky7 kx8 ky8 hHeld
      have hcast : IntKind.i64.wrap ((i : Int) + 1) = (i : Int) + 1 := by rw [IntKind.wrap_i64]; omega
      have hc1 : (i : Int) + 1 ≤ (m.zs.length : Int) := by omega
      have hc0 : 0 ≤ (i : Int) + 1 := by omega
      have hc2 : (i : Int) + 1 ≤ (cc : Int) := by omega
      have hc3 : (m.zs.length : Int) ≤ (cc : Int) := by omega
      have hV3w := HBV3.out.size
      have hs8w := HB8.out.size
      have hdl8 : d < w8.heap.size := by omega
      by_cases hcc : cc = i + 1
      · have hle : m.zs.length - (i + 1) = 0 := by omega
        have hdr : flatZ (m.zs.drop (i + 1)) = [] := by rw [List.drop_eq_nil_of_le (by omega)]; rfl
        have HDK : Hid (∀ ad c, Cells w8 w8.heap.size (some ad) 0 c 9 (flatZ (m.zs.drop (i + 1)))) := Lib.hid (fun ad c => by rw [hdr]; exact cells_zeroZ)
        subst hcc
        clear hle hdr
        go_wp2_with (first
          | (at_builtin; go_loud (refine wpList_append_row rfl (.tmp 63) (.tmp 67) 31 rfl V3.heap.size 39 i0 _ 9 96 Try.underlying31 hi0 hz0 hz1 hz2 rfl (by decide) (.slice (some ⟨g8, 0, none⟩) (i + 2) c8) (i + 2) (flatZ (m.zs.take i) ++ flatZ [(settled { z with tt := z.ky } (z.ep + 1)), ⟨z.nw, z.ky, z.tt, z.ow, z.ep + 1, 0, 0, ⟨#[]⟩, 0⟩]) rfl HO8.out w8.heap.size _ 0 _ (flatZ (m.zs.drop (i + 1))) rfl (HDK.out _ _) (flatZ_one _) (by unfold maxLen; omega) (by omega) (by omega) ?_; intro v10 w10 ho10 hb10; obtain ⟨g10, c10, hv10, hg10, hg10l, hn10, hc10⟩ := own_form ho10 (by omega); subst hv10; have HD10 := Lib.hid (HD8.out.keep (Touch.of_below hb10) (fun k hk hd => by have := (HD.out.lows k hk).2; omega)); have k2 := HD10.out.blk.cell 2; have df := fun k => HD10.out.blk.free k; simp only [List.getElem?_toArray, List.getElem?_cons_succ, List.getElem?_cons_zero] at k2; have HO10 := Lib.hid ho10; have HB10 := Lib.hid hb10; clear ho10 hb10))
          | fail)
        have hlen : i + 2 + 0 = (m.zs.take i ++ (settled { z with tt := z.ky } (z.ep + 1)) :: ⟨z.nw, z.ky, z.tt, z.ow, z.ep + 1, 0, 0, ⟨#[]⟩, 0⟩ :: m.zs.drop (i + 1)).length := by simp; omega
        have hR10 := HO10.out
        rw [hlen, ← flatZ_app, ← flatZ_app, List.append_assoc] at hR10
        have hbw : Below w.heap.size w w10 := (HBV3.out.trans (HB8.out.mono hV3w)).trans (HB10.out.mono hV3w)
        have hfin := HD10.out.stored (l := m.zs.take i ++ (settled { z with tt := z.ky } (z.ep + 1)) :: ⟨z.nw, z.ky, z.tt, z.ow, z.ep + 1, 0, 0, ⟨#[]⟩, 0⟩ :: m.zs.drop (i + 1)) hR10 (by omega) (by omega) (fun q hq => by have := (HD.out.lows q (.inr (.inl hq))).2; omega)
        have hT := ((Touch.of_below hbw).mono'' (D' := Fz d (.slice (some ⟨gz, 0, none⟩) m.zs.length (i + 1))) (fun k h1 h2 => by omega)).set (a := ⟨d, 2, none⟩) (v := .slice (some ⟨g10, 0, none⟩) (m.zs.take i ++ (settled { z with tt := z.ky } (z.ep + 1)) :: ⟨z.nw, z.ky, z.tt, z.ow, z.ep + 1, 0, 0, ⟨#[]⟩, 0⟩ :: m.zs.drop (i + 1)).length c10) (fun _ => .inl rfl)
        rw [hlen]
        refine bodyPost_ret (v := .bool true) (by simp [results, Try.results76, go_sem]) rfl (.inl ⟨_, _, HDEED.out, rfl, hfin, hT, fun k hk => .inr (by simp [Value.ownBlock] at hk; omega)⟩)
      · have HDK := Lib.hid (dropZ (k := i + 1) HD8.out.row (by omega) (cc - (i + 1)))
        go_wp2_with (first
          | (at_builtin; go_loud (refine wpList_append_row rfl (.tmp 63) (.tmp 67) 31 rfl V3.heap.size 39 i0 _ 9 96 Try.underlying31 hi0 hz0 hz1 hz2 rfl (by decide) (.slice (some ⟨g8, 0, none⟩) (i + 2) c8) (i + 2) (flatZ (m.zs.take i) ++ flatZ [(settled { z with tt := z.ky } (z.ep + 1)), ⟨z.nw, z.ky, z.tt, z.ow, z.ep + 1, 0, 0, ⟨#[]⟩, 0⟩]) rfl HO8.out w8.heap.size (some ⟨gz, (i + 1) * 9, none⟩) (m.zs.length - (i + 1)) (cc - (i + 1)) (flatZ (m.zs.drop (i + 1))) rfl HDK.out (flatZ_one _) (by unfold maxLen; omega) (by omega) (by omega) ?_; intro v10 w10 ho10 hb10; obtain ⟨g10, c10, hv10, hg10, hg10l, hn10, hc10⟩ := own_form ho10 (by omega); subst hv10; have HD10 := Lib.hid (HD8.out.keep (Touch.of_below hb10) (fun k hk hd => by have := (HD.out.lows k hk).2; omega)); have k2 := HD10.out.blk.cell 2; have df := fun k => HD10.out.blk.free k; simp only [List.getElem?_toArray, List.getElem?_cons_succ, List.getElem?_cons_zero] at k2; have HO10 := Lib.hid ho10; have HB10 := Lib.hid hb10; clear ho10 hb10))
          | fail)
        have hlen : i + 2 + (m.zs.length - (i + 1)) = (m.zs.take i ++ (settled { z with tt := z.ky } (z.ep + 1)) :: ⟨z.nw, z.ky, z.tt, z.ow, z.ep + 1, 0, 0, ⟨#[]⟩, 0⟩ :: m.zs.drop (i + 1)).length := by simp; omega
        have hR10 := HO10.out
        rw [hlen, ← flatZ_app, ← flatZ_app, List.append_assoc] at hR10
        have hbw : Below w.heap.size w w10 := (HBV3.out.trans (HB8.out.mono hV3w)).trans (HB10.out.mono hV3w)
        have hfin := HD10.out.stored (l := m.zs.take i ++ (settled { z with tt := z.ky } (z.ep + 1)) :: ⟨z.nw, z.ky, z.tt, z.ow, z.ep + 1, 0, 0, ⟨#[]⟩, 0⟩ :: m.zs.drop (i + 1)) hR10 (by omega) (by omega) (fun q hq => by have := (HD.out.lows q (.inr (.inl hq))).2; omega)
        have hT := ((Touch.of_below hbw).mono'' (D' := Fz d (.slice (some ⟨gz, 0, none⟩) m.zs.length cc)) (fun k h1 h2 => by omega)).set (a := ⟨d, 2, none⟩) (v := .slice (some ⟨g10, 0, none⟩) (m.zs.take i ++ (settled { z with tt := z.ky } (z.ep + 1)) :: ⟨z.nw, z.ky, z.tt, z.ow, z.ep + 1, 0, 0, ⟨#[]⟩, 0⟩ :: m.zs.drop (i + 1)).length c10) (fun _ => .inl rfl)
        rw [hlen]
        refine bodyPost_ret (v := .bool true) (by simp [results, Try.results76, go_sem]) rfl (.inl ⟨_, _, HDEED.out, rfl, hfin, hT, fun k hk => .inr (by simp [Value.ownBlock] at hk; omega)⟩)
    · go_simp
      have hb07 : Below V3.heap.size V3 ((V3.drew.alloc (.cells #[] 39)).alloc (.cells #[.int .i64 z.id, .string z.fr, .string z.ky, .int .i64 z.ow, .int .i64 (z.ep + 1), .int .i64 0, .int .i64 0, .string ⟨#[]⟩, .int .i64 0, .int .i64 z.nw, .string z.ky, .string z.tt, .int .i64 z.ow, .int .i64 (z.ep + 1), .int .i64 0, .int .i64 0, .string ⟨#[]⟩, .int .i64 0] 39)) := hb0.alloc (by (try simp) <;> omega) _
      have kx0 := bkeep hb07 p0 hNV3
      have kx1 := bkeep hb07 p1 hNV3
      have kx2 := bkeep hb07 p2 hNV3
      have kx3 := bkeep hb07 p3 hNV3
      have kx4 := bkeep hb07 p4 hNV3
      have kx5 := bkeep hb07 p5 hNV3
      have kx6 := bkeep hb07 p6 hNV3
      have kx7 := bkeep hb07 p7 hNV3
      have kx8 := bkeep hb07 p8 hNV3
      have ky0 := bkeep hb07 q0 hMV3
      have ky1 := bkeep hb07 q1 hMV3
      have ky2 := bkeep hb07 q2 hMV3
      have ky3 := bkeep hb07 q3 hMV3
      have ky4 := bkeep hb07 q4 hMV3
      have ky5 := bkeep hb07 q5 hMV3
      have ky6 := bkeep hb07 q6 hMV3
      have ky7 := bkeep hb07 q7 hMV3
      have ky8 := bkeep hb07 q8 hMV3
      have hPB : Whl ((V3.drew.alloc (.cells #[] 39)).alloc (.cells #[.int .i64 z.id, .string z.fr, .string z.ky, .int .i64 z.ow, .int .i64 (z.ep + 1), .int .i64 0, .int .i64 0, .string ⟨#[]⟩, .int .i64 0, .int .i64 z.nw, .string z.ky, .string z.tt, .int .i64 z.ow, .int .i64 (z.ep + 1), .int .i64 0, .int .i64 0, .string ⟨#[]⟩, .int .i64 0] 39)) (V3.heap.size + 1) 39 #[.int .i64 z.id, .string z.fr, .string z.ky, .int .i64 z.ow, .int .i64 (z.ep + 1), .int .i64 0, .int .i64 0, .string ⟨#[]⟩, .int .i64 0, .int .i64 z.nw, .string z.ky, .string z.tt, .int .i64 z.ow, .int .i64 (z.ep + 1), .int .i64 0, .int .i64 0, .string ⟨#[]⟩, .int .i64 0] := Whl.new (by simp)
      have he0 := he0.alloc (.cells #[.int .i64 z.id, .string z.fr, .string z.ky, .int .i64 z.ow, .int .i64 (z.ep + 1), .int .i64 0, .int .i64 0, .string ⟨#[]⟩, .int .i64 0, .int .i64 z.nw, .string z.ky, .string z.tt, .int .i64 z.ow, .int .i64 (z.ep + 1), .int .i64 0, .int .i64 0, .string ⟨#[]⟩, .int .i64 0] 39)
      refine hK.out _ _ ⟨kx0, kx1, kx2, kx3, kx4, kx5, kx6, kx7, kx8, ky0, ky1, ky2, ky3, ky4, ky5, ky6, ky7, ky8⟩ (fun hHeld => ?_)
      clear hK K
      (try simp only [Act.put, List.setIfInBounds_toArray, List.set_cons_zero, List.set_cons_succ])
      refine wpAnyH_ready (rs := [4]) (by kernel_rfl) (by simp) ?_
      refine AllReadyH.cons (o := ⟨some 57, _, _, _, _, _⟩) rfl (fun K hK => ?_) AllReadyH.nil
      refine step_append_cells rfl (.tmp 53) (.tmp 56) 31 rfl V3.heap.size 39 i0 _ 9 96 Try.underlying31 hi0 hz0 hz1 hz2 rfl (by decide) (.slice (some ⟨V3.heap.size, 0, none⟩) 0 0) 0 [] rfl he0 V3.heap.size (some ⟨gz, 0, none⟩) i cc (flatZ (m.zs.take i)) rfl (cells_keep HTK.out hb07 (Nat.le_refl _)) (flatZ_one _) (by unfold maxLen; omega) (by omega) (by (try simp) <;> omega) ?_
      intro v4 w4 ho4 ht4 hv4
      rw [Nat.zero_add, List.nil_append] at ho4
      have hs4 := ht4.size
      (try simp at hs4)
      have hb074 : Below V3.heap.size V3 w4 := hb07.trans (ht4.below (B := V3.heap.size) (by (try simp) <;> omega) (fun q hq => by simp [Value.ownBlock] at hq; omega))
      have kx0 := bkeep hb074 p0 hNV3
      have kx1 := bkeep hb074 p1 hNV3
      have kx2 := bkeep hb074 p2 hNV3
      have kx3 := bkeep hb074 p3 hNV3
      have kx4 := bkeep hb074 p4 hNV3
      have kx5 := bkeep hb074 p5 hNV3
      have kx6 := bkeep hb074 p6 hNV3
      have kx7 := bkeep hb074 p7 hNV3
      have kx8 := bkeep hb074 p8 hNV3
      have ky0 := bkeep hb074 q0 hMV3
      have ky1 := bkeep hb074 q1 hMV3
      have ky2 := bkeep hb074 q2 hMV3
      have ky3 := bkeep hb074 q3 hMV3
      have ky4 := bkeep hb074 q4 hMV3
      have ky5 := bkeep hb074 q5 hMV3
      have ky6 := bkeep hb074 q6 hMV3
      have ky7 := bkeep hb074 q7 hMV3
      have ky8 := bkeep hb074 q8 hMV3
      have hPB := hPB.tou'' ht4 (fun e => by simp [Value.ownBlock] at e <;> omega)
      refine hK.out _ _ ⟨kx0, kx1, kx2, kx3, kx4, kx5, kx6, kx7, kx8, ky0, ky1, ky2, ky3, ky4, ky5, ky6, ky7, ky8⟩ (fun hHeld => ?_)
      clear hK K
      (try simp only [Act.put, List.setIfInBounds_toArray, List.set_cons_zero, List.set_cons_succ])
      refine wpAnyH_ready (rs := [8]) (by kernel_rfl) (by simp) ?_
      refine AllReadyH.cons (o := ⟨some 61, _, _, _, _, _⟩) rfl (fun K hK => ?_) AllReadyH.nil
      refine step_append_cells rfl (.tmp 57) (.tmp 60) 31 rfl V3.heap.size 39 i0 _ 9 96 Try.underlying31 hi0 hz0 hz1 hz2 rfl (by decide) v4 i (flatZ (m.zs.take i)) rfl ho4 w4.heap.size (some ⟨(V3.heap.size + 1), 0, none⟩) 2 2 (flatZ [(settled { z with tt := z.ky } (z.ep + 1)), ⟨z.nw, z.ky, z.tt, z.ow, z.ep + 1, 0, 0, ⟨#[]⟩, 0⟩]) rfl (whlCells hPB rfl rfl hPB.low) (flatZ_one _) (by unfold maxLen; omega) (by omega) (by (try simp) <;> omega) ?_
      intro v8 w8 ho8 ht8 hv8
      have hs8 := ht8.size
      (try simp at hs8)
      have hb8 : Below V3.heap.size V3 w8 := hb074.trans (ht8.below (B := V3.heap.size) (by (try simp) <;> omega) (fun q hq => (ho4.lt q hq).1))
      obtain ⟨g8, c8, hv8', hg8, hg8l, hn8, hc8⟩ := own_form ho8 (by omega)
      subst hv8'
      have kx0 := bkeep hb8 p0 hNV3
      have kx1 := bkeep hb8 p1 hNV3
      have kx2 := bkeep hb8 p2 hNV3
      have kx3 := bkeep hb8 p3 hNV3
      have kx4 := bkeep hb8 p4 hNV3
      have kx5 := bkeep hb8 p5 hNV3
      have kx6 := bkeep hb8 p6 hNV3
      have kx7 := bkeep hb8 p7 hNV3
      have kx8 := bkeep hb8 p8 hNV3
      have ky0 := bkeep hb8 q0 hMV3
      have ky1 := bkeep hb8 q1 hMV3
      have ky2 := bkeep hb8 q2 hMV3
      have ky3 := bkeep hb8 q3 hMV3
      have ky4 := bkeep hb8 q4 hMV3
      have ky5 := bkeep hb8 q5 hMV3
      have ky6 := bkeep hb8 q6 hMV3
      have ky7 := bkeep hb8 q7 hMV3
      have ky8 := bkeep hb8 q8 hMV3
      refine hK.out _ _ ⟨kx0, kx1, kx2, kx3, kx4, kx5, kx6, kx7, kx8, ky0, ky1, ky2, ky3, ky4, ky5, ky6, ky7, ky8⟩ (fun hHeld => ?_)
      clear hK K
      (try simp only [Act.put, List.setIfInBounds_toArray, List.set_cons_zero, List.set_cons_succ])
      refine wpAnyH_take (i := 9) (oi := ⟨some 12, _, _, _, _, _⟩) (v := ?v9j_261) rfl (by kernel_rfl) (by kernel_rfl) (by kernel_rfl) (fun _ _ _ h => h) (Or.inl ⟨by rfl, ?y9j_261⟩) (by assumption) ?r9j_261
      case y9j_261 => (intro w hSw; (try dsimp only at hSw); (try go_split_ands); go_simp); (try with_reducible rfl)
      case r9j_261 =>
      (try simp only [Act.put, List.setIfInBounds_toArray, List.set_cons_zero, List.set_cons_succ])
      refine wpAnyH_done (by kernel_rfl) ?_ _
      have HO8 := Lib.hid ho8
      have HB8 := Lib.hid hb8
      have HD8 := Lib.hid (HDV3.out.below hb8)
      have k2 := HD8.out.blk.cell 2
      have df := fun k => HD8.out.blk.free k
      simp only [List.getElem?_toArray, List.getElem?_cons_succ, List.getElem?_cons_zero] at k2
      clear ho8 hb8 ho4 hPB kx0 ky0 kx1 ky1 kx2 ky2 kx3 ky3 kx4 ky4 kx5 ky5 kx6 ky6 kx7 ky7 kx8 ky8 hHeld
      have hcast : IntKind.i64.wrap ((i : Int) + 1) = (i : Int) + 1 := by rw [IntKind.wrap_i64]; omega
      have hc1 : (i : Int) + 1 ≤ (m.zs.length : Int) := by omega
      have hc0 : 0 ≤ (i : Int) + 1 := by omega
      have hc2 : (i : Int) + 1 ≤ (cc : Int) := by omega
      have hc3 : (m.zs.length : Int) ≤ (cc : Int) := by omega
      have hV3w := HBV3.out.size
      have hs8w := HB8.out.size
      have hdl8 : d < w8.heap.size := by omega
      by_cases hcc : cc = i + 1
      · have hle : m.zs.length - (i + 1) = 0 := by omega
        have hdr : flatZ (m.zs.drop (i + 1)) = [] := by rw [List.drop_eq_nil_of_le (by omega)]; rfl
        have HDK : Hid (∀ ad c, Cells w8 w8.heap.size (some ad) 0 c 9 (flatZ (m.zs.drop (i + 1)))) := Lib.hid (fun ad c => by rw [hdr]; exact cells_zeroZ)
        subst hcc
        clear hle hdr
        go_wp2_with (first
          | (at_builtin; go_loud (refine wpList_append_row rfl (.tmp 63) (.tmp 67) 31 rfl V3.heap.size 39 i0 _ 9 96 Try.underlying31 hi0 hz0 hz1 hz2 rfl (by decide) (.slice (some ⟨g8, 0, none⟩) (i + 2) c8) (i + 2) (flatZ (m.zs.take i) ++ flatZ [(settled { z with tt := z.ky } (z.ep + 1)), ⟨z.nw, z.ky, z.tt, z.ow, z.ep + 1, 0, 0, ⟨#[]⟩, 0⟩]) rfl HO8.out w8.heap.size _ 0 _ (flatZ (m.zs.drop (i + 1))) rfl (HDK.out _ _) (flatZ_one _) (by unfold maxLen; omega) (by omega) (by omega) ?_; intro v10 w10 ho10 hb10; obtain ⟨g10, c10, hv10, hg10, hg10l, hn10, hc10⟩ := own_form ho10 (by omega); subst hv10; have HD10 := Lib.hid (HD8.out.keep (Touch.of_below hb10) (fun k hk hd => by have := (HD.out.lows k hk).2; omega)); have k2 := HD10.out.blk.cell 2; have df := fun k => HD10.out.blk.free k; simp only [List.getElem?_toArray, List.getElem?_cons_succ, List.getElem?_cons_zero] at k2; have HO10 := Lib.hid ho10; have HB10 := Lib.hid hb10; clear ho10 hb10))
          | fail)
        have hlen : i + 2 + 0 = (m.zs.take i ++ (settled { z with tt := z.ky } (z.ep + 1)) :: ⟨z.nw, z.ky, z.tt, z.ow, z.ep + 1, 0, 0, ⟨#[]⟩, 0⟩ :: m.zs.drop (i + 1)).length := by simp; omega
        have hR10 := HO10.out
        rw [hlen, ← flatZ_app, ← flatZ_app, List.append_assoc] at hR10
        have hbw : Below w.heap.size w w10 := (HBV3.out.trans (HB8.out.mono hV3w)).trans (HB10.out.mono hV3w)
        have hfin := HD10.out.stored (l := m.zs.take i ++ (settled { z with tt := z.ky } (z.ep + 1)) :: ⟨z.nw, z.ky, z.tt, z.ow, z.ep + 1, 0, 0, ⟨#[]⟩, 0⟩ :: m.zs.drop (i + 1)) hR10 (by omega) (by omega) (fun q hq => by have := (HD.out.lows q (.inr (.inl hq))).2; omega)
        have hT := ((Touch.of_below hbw).mono'' (D' := Fz d (.slice (some ⟨gz, 0, none⟩) m.zs.length (i + 1))) (fun k h1 h2 => by omega)).set (a := ⟨d, 2, none⟩) (v := .slice (some ⟨g10, 0, none⟩) (m.zs.take i ++ (settled { z with tt := z.ky } (z.ep + 1)) :: ⟨z.nw, z.ky, z.tt, z.ow, z.ep + 1, 0, 0, ⟨#[]⟩, 0⟩ :: m.zs.drop (i + 1)).length c10) (fun _ => .inl rfl)
        rw [hlen]
        refine bodyPost_ret (v := .bool true) (by simp [results, Try.results76, go_sem]) rfl (.inl ⟨_, _, HDEED.out, rfl, hfin, hT, fun k hk => .inr (by simp [Value.ownBlock] at hk; omega)⟩)
      · have HDK := Lib.hid (dropZ (k := i + 1) HD8.out.row (by omega) (cc - (i + 1)))
        go_wp2_with (first
          | (at_builtin; go_loud (refine wpList_append_row rfl (.tmp 63) (.tmp 67) 31 rfl V3.heap.size 39 i0 _ 9 96 Try.underlying31 hi0 hz0 hz1 hz2 rfl (by decide) (.slice (some ⟨g8, 0, none⟩) (i + 2) c8) (i + 2) (flatZ (m.zs.take i) ++ flatZ [(settled { z with tt := z.ky } (z.ep + 1)), ⟨z.nw, z.ky, z.tt, z.ow, z.ep + 1, 0, 0, ⟨#[]⟩, 0⟩]) rfl HO8.out w8.heap.size (some ⟨gz, (i + 1) * 9, none⟩) (m.zs.length - (i + 1)) (cc - (i + 1)) (flatZ (m.zs.drop (i + 1))) rfl HDK.out (flatZ_one _) (by unfold maxLen; omega) (by omega) (by omega) ?_; intro v10 w10 ho10 hb10; obtain ⟨g10, c10, hv10, hg10, hg10l, hn10, hc10⟩ := own_form ho10 (by omega); subst hv10; have HD10 := Lib.hid (HD8.out.keep (Touch.of_below hb10) (fun k hk hd => by have := (HD.out.lows k hk).2; omega)); have k2 := HD10.out.blk.cell 2; have df := fun k => HD10.out.blk.free k; simp only [List.getElem?_toArray, List.getElem?_cons_succ, List.getElem?_cons_zero] at k2; have HO10 := Lib.hid ho10; have HB10 := Lib.hid hb10; clear ho10 hb10))
          | fail)
        have hlen : i + 2 + (m.zs.length - (i + 1)) = (m.zs.take i ++ (settled { z with tt := z.ky } (z.ep + 1)) :: ⟨z.nw, z.ky, z.tt, z.ow, z.ep + 1, 0, 0, ⟨#[]⟩, 0⟩ :: m.zs.drop (i + 1)).length := by simp; omega
        have hR10 := HO10.out
        rw [hlen, ← flatZ_app, ← flatZ_app, List.append_assoc] at hR10
        have hbw : Below w.heap.size w w10 := (HBV3.out.trans (HB8.out.mono hV3w)).trans (HB10.out.mono hV3w)
        have hfin := HD10.out.stored (l := m.zs.take i ++ (settled { z with tt := z.ky } (z.ep + 1)) :: ⟨z.nw, z.ky, z.tt, z.ow, z.ep + 1, 0, 0, ⟨#[]⟩, 0⟩ :: m.zs.drop (i + 1)) hR10 (by omega) (by omega) (fun q hq => by have := (HD.out.lows q (.inr (.inl hq))).2; omega)
        have hT := ((Touch.of_below hbw).mono'' (D' := Fz d (.slice (some ⟨gz, 0, none⟩) m.zs.length cc)) (fun k h1 h2 => by omega)).set (a := ⟨d, 2, none⟩) (v := .slice (some ⟨g10, 0, none⟩) (m.zs.take i ++ (settled { z with tt := z.ky } (z.ep + 1)) :: ⟨z.nw, z.ky, z.tt, z.ow, z.ep + 1, 0, 0, ⟨#[]⟩, 0⟩ :: m.zs.drop (i + 1)).length c10) (fun _ => .inl rfl)
        rw [hlen]
        refine bodyPost_ret (v := .bool true) (by simp [results, Try.results76, go_sem]) rfl (.inl ⟨_, _, HDEED.out, rfl, hfin, hT, fun k hk => .inr (by simp [Value.ownBlock] at hk; omega)⟩)
  · go_simp
    have hb7 : Below V3.heap.size V3 (V3.drew.alloc (.cells #[.int .i64 z.id, .string z.fr, .string z.ky, .int .i64 z.ow, .int .i64 (z.ep + 1), .int .i64 0, .int .i64 0, .string ⟨#[]⟩, .int .i64 0, .int .i64 z.nw, .string z.ky, .string z.tt, .int .i64 z.ow, .int .i64 (z.ep + 1), .int .i64 0, .int .i64 0, .string ⟨#[]⟩, .int .i64 0] 39)) := hb.alloc (by (try simp) <;> omega) _
    have kx0 := bkeep hb7 p0 hNV3
    have kx1 := bkeep hb7 p1 hNV3
    have kx2 := bkeep hb7 p2 hNV3
    have kx3 := bkeep hb7 p3 hNV3
    have kx4 := bkeep hb7 p4 hNV3
    have kx5 := bkeep hb7 p5 hNV3
    have kx6 := bkeep hb7 p6 hNV3
    have kx7 := bkeep hb7 p7 hNV3
    have kx8 := bkeep hb7 p8 hNV3
    have ky0 := bkeep hb7 q0 hMV3
    have ky1 := bkeep hb7 q1 hMV3
    have ky2 := bkeep hb7 q2 hMV3
    have ky3 := bkeep hb7 q3 hMV3
    have ky4 := bkeep hb7 q4 hMV3
    have ky5 := bkeep hb7 q5 hMV3
    have ky6 := bkeep hb7 q6 hMV3
    have ky7 := bkeep hb7 q7 hMV3
    have ky8 := bkeep hb7 q8 hMV3
    have hPB : Whl (V3.drew.alloc (.cells #[.int .i64 z.id, .string z.fr, .string z.ky, .int .i64 z.ow, .int .i64 (z.ep + 1), .int .i64 0, .int .i64 0, .string ⟨#[]⟩, .int .i64 0, .int .i64 z.nw, .string z.ky, .string z.tt, .int .i64 z.ow, .int .i64 (z.ep + 1), .int .i64 0, .int .i64 0, .string ⟨#[]⟩, .int .i64 0] 39)) V3.heap.size 39 #[.int .i64 z.id, .string z.fr, .string z.ky, .int .i64 z.ow, .int .i64 (z.ep + 1), .int .i64 0, .int .i64 0, .string ⟨#[]⟩, .int .i64 0, .int .i64 z.nw, .string z.ky, .string z.tt, .int .i64 z.ow, .int .i64 (z.ep + 1), .int .i64 0, .int .i64 0, .string ⟨#[]⟩, .int .i64 0] := Whl.new (by simp)
    refine hK.out _ _ ⟨kx0, kx1, kx2, kx3, kx4, kx5, kx6, kx7, kx8, ky0, ky1, ky2, ky3, ky4, ky5, ky6, ky7, ky8⟩ (fun hHeld => ?_)
    clear hK K
    (try simp only [Act.put, List.setIfInBounds_toArray, List.set_cons_zero, List.set_cons_succ])
    refine wpAnyH_ready (rs := [0]) (by kernel_rfl) (by simp) ?_
    refine AllReadyH.cons (o := ⟨some 53, _, _, _, _, _⟩) rfl (fun K hK => ?_) AllReadyH.nil
    go_simp
    have hb70 : Below V3.heap.size V3 ((V3.drew.alloc (.cells #[.int .i64 z.id, .string z.fr, .string z.ky, .int .i64 z.ow, .int .i64 (z.ep + 1), .int .i64 0, .int .i64 0, .string ⟨#[]⟩, .int .i64 0, .int .i64 z.nw, .string z.ky, .string z.tt, .int .i64 z.ow, .int .i64 (z.ep + 1), .int .i64 0, .int .i64 0, .string ⟨#[]⟩, .int .i64 0] 39)).alloc (.cells #[] 39)) := hb7.alloc (by (try simp) <;> omega) _
    have kx0 := bkeep hb70 p0 hNV3
    have kx1 := bkeep hb70 p1 hNV3
    have kx2 := bkeep hb70 p2 hNV3
    have kx3 := bkeep hb70 p3 hNV3
    have kx4 := bkeep hb70 p4 hNV3
    have kx5 := bkeep hb70 p5 hNV3
    have kx6 := bkeep hb70 p6 hNV3
    have kx7 := bkeep hb70 p7 hNV3
    have kx8 := bkeep hb70 p8 hNV3
    have ky0 := bkeep hb70 q0 hMV3
    have ky1 := bkeep hb70 q1 hMV3
    have ky2 := bkeep hb70 q2 hMV3
    have ky3 := bkeep hb70 q3 hMV3
    have ky4 := bkeep hb70 q4 hMV3
    have ky5 := bkeep hb70 q5 hMV3
    have ky6 := bkeep hb70 q6 hMV3
    have ky7 := bkeep hb70 q7 hMV3
    have ky8 := bkeep hb70 q8 hMV3
    have he0 : ((V3.drew.alloc (.cells #[.int .i64 z.id, .string z.fr, .string z.ky, .int .i64 z.ow, .int .i64 (z.ep + 1), .int .i64 0, .int .i64 0, .string ⟨#[]⟩, .int .i64 0, .int .i64 z.nw, .string z.ky, .string z.tt, .int .i64 z.ow, .int .i64 (z.ep + 1), .int .i64 0, .int .i64 0, .string ⟨#[]⟩, .int .i64 0] 39)).alloc (.cells #[] 39)).ownsRow V3.heap.size 39 9 (.slice (some ⟨(V3.heap.size + 1), 0, none⟩) 0 0) 0 [] := owns_lit0 (by simp) (by (try simp) <;> omega)
    have hPB := hPB.alloc (.cells #[] 39)
    refine hK.out _ _ ⟨kx0, kx1, kx2, kx3, kx4, kx5, kx6, kx7, kx8, ky0, ky1, ky2, ky3, ky4, ky5, ky6, ky7, ky8⟩ (fun hHeld => ?_)
    clear hK K
    (try simp only [Act.put, List.setIfInBounds_toArray, List.set_cons_zero, List.set_cons_succ])
    refine wpAnyH_ready (rs := [4]) (by kernel_rfl) (by simp) ?_
    refine AllReadyH.cons (o := ⟨some 57, _, _, _, _, _⟩) rfl (fun K hK => ?_) AllReadyH.nil
    refine step_append_cells rfl (.tmp 53) (.tmp 56) 31 rfl V3.heap.size 39 i0 _ 9 96 Try.underlying31 hi0 hz0 hz1 hz2 rfl (by decide) (.slice (some ⟨(V3.heap.size + 1), 0, none⟩) 0 0) 0 [] rfl he0 V3.heap.size (some ⟨gz, 0, none⟩) i cc (flatZ (m.zs.take i)) rfl (cells_keep HTK.out hb70 (Nat.le_refl _)) (flatZ_one _) (by unfold maxLen; omega) (by omega) (by (try simp) <;> omega) ?_
    intro v4 w4 ho4 ht4 hv4
    rw [Nat.zero_add, List.nil_append] at ho4
    have hs4 := ht4.size
    (try simp at hs4)
    have hb704 : Below V3.heap.size V3 w4 := hb70.trans (ht4.below (B := V3.heap.size) (by (try simp) <;> omega) (fun q hq => by simp [Value.ownBlock] at hq; omega))
    have kx0 := bkeep hb704 p0 hNV3
    have kx1 := bkeep hb704 p1 hNV3
    have kx2 := bkeep hb704 p2 hNV3
    have kx3 := bkeep hb704 p3 hNV3
    have kx4 := bkeep hb704 p4 hNV3
    have kx5 := bkeep hb704 p5 hNV3
    have kx6 := bkeep hb704 p6 hNV3
    have kx7 := bkeep hb704 p7 hNV3
    have kx8 := bkeep hb704 p8 hNV3
    have ky0 := bkeep hb704 q0 hMV3
    have ky1 := bkeep hb704 q1 hMV3
    have ky2 := bkeep hb704 q2 hMV3
    have ky3 := bkeep hb704 q3 hMV3
    have ky4 := bkeep hb704 q4 hMV3
    have ky5 := bkeep hb704 q5 hMV3
    have ky6 := bkeep hb704 q6 hMV3
    have ky7 := bkeep hb704 q7 hMV3
    have ky8 := bkeep hb704 q8 hMV3
    have hPB := hPB.tou'' ht4 (fun e => by simp [Value.ownBlock] at e <;> omega)
    refine hK.out _ _ ⟨kx0, kx1, kx2, kx3, kx4, kx5, kx6, kx7, kx8, ky0, ky1, ky2, ky3, ky4, ky5, ky6, ky7, ky8⟩ (fun hHeld => ?_)
    clear hK K
    (try simp only [Act.put, List.setIfInBounds_toArray, List.set_cons_zero, List.set_cons_succ])
    refine wpAnyH_ready (rs := [8]) (by kernel_rfl) (by simp) ?_
    refine AllReadyH.cons (o := ⟨some 61, _, _, _, _, _⟩) rfl (fun K hK => ?_) AllReadyH.nil
    refine step_append_cells rfl (.tmp 57) (.tmp 60) 31 rfl V3.heap.size 39 i0 _ 9 96 Try.underlying31 hi0 hz0 hz1 hz2 rfl (by decide) v4 i (flatZ (m.zs.take i)) rfl ho4 w4.heap.size (some ⟨V3.heap.size, 0, none⟩) 2 2 (flatZ [(settled { z with tt := z.ky } (z.ep + 1)), ⟨z.nw, z.ky, z.tt, z.ow, z.ep + 1, 0, 0, ⟨#[]⟩, 0⟩]) rfl (whlCells hPB rfl rfl hPB.low) (flatZ_one _) (by unfold maxLen; omega) (by omega) (by (try simp) <;> omega) ?_
    intro v8 w8 ho8 ht8 hv8
    have hs8 := ht8.size
    (try simp at hs8)
    have hb8 : Below V3.heap.size V3 w8 := hb704.trans (ht8.below (B := V3.heap.size) (by (try simp) <;> omega) (fun q hq => (ho4.lt q hq).1))
    obtain ⟨g8, c8, hv8', hg8, hg8l, hn8, hc8⟩ := own_form ho8 (by omega)
    subst hv8'
    have kx0 := bkeep hb8 p0 hNV3
    have kx1 := bkeep hb8 p1 hNV3
    have kx2 := bkeep hb8 p2 hNV3
    have kx3 := bkeep hb8 p3 hNV3
    have kx4 := bkeep hb8 p4 hNV3
    have kx5 := bkeep hb8 p5 hNV3
    have kx6 := bkeep hb8 p6 hNV3
    have kx7 := bkeep hb8 p7 hNV3
    have kx8 := bkeep hb8 p8 hNV3
    have ky0 := bkeep hb8 q0 hMV3
    have ky1 := bkeep hb8 q1 hMV3
    have ky2 := bkeep hb8 q2 hMV3
    have ky3 := bkeep hb8 q3 hMV3
    have ky4 := bkeep hb8 q4 hMV3
    have ky5 := bkeep hb8 q5 hMV3
    have ky6 := bkeep hb8 q6 hMV3
    have ky7 := bkeep hb8 q7 hMV3
    have ky8 := bkeep hb8 q8 hMV3
    refine hK.out _ _ ⟨kx0, kx1, kx2, kx3, kx4, kx5, kx6, kx7, kx8, ky0, ky1, ky2, ky3, ky4, ky5, ky6, ky7, ky8⟩ (fun hHeld => ?_)
    clear hK K
    (try simp only [Act.put, List.setIfInBounds_toArray, List.set_cons_zero, List.set_cons_succ])
    refine wpAnyH_take (i := 9) (oi := ⟨some 12, _, _, _, _, _⟩) (v := ?v9j_420) rfl (by kernel_rfl) (by kernel_rfl) (by kernel_rfl) (fun _ _ _ h => h) (Or.inl ⟨by rfl, ?y9j_420⟩) (by assumption) ?r9j_420
    case y9j_420 => (intro w hSw; (try dsimp only at hSw); (try go_split_ands); go_simp); (try with_reducible rfl)
    case r9j_420 =>
    (try simp only [Act.put, List.setIfInBounds_toArray, List.set_cons_zero, List.set_cons_succ])
    refine wpAnyH_done (by kernel_rfl) ?_ _
    have HO8 := Lib.hid ho8
    have HB8 := Lib.hid hb8
    have HD8 := Lib.hid (HDV3.out.below hb8)
    have k2 := HD8.out.blk.cell 2
    have df := fun k => HD8.out.blk.free k
    simp only [List.getElem?_toArray, List.getElem?_cons_succ, List.getElem?_cons_zero] at k2
    clear ho8 hb8 ho4 hPB kx0 ky0 kx1 ky1 kx2 ky2 kx3 ky3 kx4 ky4 kx5 ky5 kx6 ky6 kx7 ky7 kx8 ky8 hHeld
    have hcast : IntKind.i64.wrap ((i : Int) + 1) = (i : Int) + 1 := by rw [IntKind.wrap_i64]; omega
    have hc1 : (i : Int) + 1 ≤ (m.zs.length : Int) := by omega
    have hc0 : 0 ≤ (i : Int) + 1 := by omega
    have hc2 : (i : Int) + 1 ≤ (cc : Int) := by omega
    have hc3 : (m.zs.length : Int) ≤ (cc : Int) := by omega
    have hV3w := HBV3.out.size
    have hs8w := HB8.out.size
    have hdl8 : d < w8.heap.size := by omega
    by_cases hcc : cc = i + 1
    · have hle : m.zs.length - (i + 1) = 0 := by omega
      have hdr : flatZ (m.zs.drop (i + 1)) = [] := by rw [List.drop_eq_nil_of_le (by omega)]; rfl
      have HDK : Hid (∀ ad c, Cells w8 w8.heap.size (some ad) 0 c 9 (flatZ (m.zs.drop (i + 1)))) := Lib.hid (fun ad c => by rw [hdr]; exact cells_zeroZ)
      subst hcc
      clear hle hdr
      go_wp2_with (first
        | (at_builtin; go_loud (refine wpList_append_row rfl (.tmp 63) (.tmp 67) 31 rfl V3.heap.size 39 i0 _ 9 96 Try.underlying31 hi0 hz0 hz1 hz2 rfl (by decide) (.slice (some ⟨g8, 0, none⟩) (i + 2) c8) (i + 2) (flatZ (m.zs.take i) ++ flatZ [(settled { z with tt := z.ky } (z.ep + 1)), ⟨z.nw, z.ky, z.tt, z.ow, z.ep + 1, 0, 0, ⟨#[]⟩, 0⟩]) rfl HO8.out w8.heap.size _ 0 _ (flatZ (m.zs.drop (i + 1))) rfl (HDK.out _ _) (flatZ_one _) (by unfold maxLen; omega) (by omega) (by omega) ?_; intro v10 w10 ho10 hb10; obtain ⟨g10, c10, hv10, hg10, hg10l, hn10, hc10⟩ := own_form ho10 (by omega); subst hv10; have HD10 := Lib.hid (HD8.out.keep (Touch.of_below hb10) (fun k hk hd => by have := (HD.out.lows k hk).2; omega)); have k2 := HD10.out.blk.cell 2; have df := fun k => HD10.out.blk.free k; simp only [List.getElem?_toArray, List.getElem?_cons_succ, List.getElem?_cons_zero] at k2; have HO10 := Lib.hid ho10; have HB10 := Lib.hid hb10; clear ho10 hb10))
        | fail)
      have hlen : i + 2 + 0 = (m.zs.take i ++ (settled { z with tt := z.ky } (z.ep + 1)) :: ⟨z.nw, z.ky, z.tt, z.ow, z.ep + 1, 0, 0, ⟨#[]⟩, 0⟩ :: m.zs.drop (i + 1)).length := by simp; omega
      have hR10 := HO10.out
      rw [hlen, ← flatZ_app, ← flatZ_app, List.append_assoc] at hR10
      have hbw : Below w.heap.size w w10 := (HBV3.out.trans (HB8.out.mono hV3w)).trans (HB10.out.mono hV3w)
      have hfin := HD10.out.stored (l := m.zs.take i ++ (settled { z with tt := z.ky } (z.ep + 1)) :: ⟨z.nw, z.ky, z.tt, z.ow, z.ep + 1, 0, 0, ⟨#[]⟩, 0⟩ :: m.zs.drop (i + 1)) hR10 (by omega) (by omega) (fun q hq => by have := (HD.out.lows q (.inr (.inl hq))).2; omega)
      have hT := ((Touch.of_below hbw).mono'' (D' := Fz d (.slice (some ⟨gz, 0, none⟩) m.zs.length (i + 1))) (fun k h1 h2 => by omega)).set (a := ⟨d, 2, none⟩) (v := .slice (some ⟨g10, 0, none⟩) (m.zs.take i ++ (settled { z with tt := z.ky } (z.ep + 1)) :: ⟨z.nw, z.ky, z.tt, z.ow, z.ep + 1, 0, 0, ⟨#[]⟩, 0⟩ :: m.zs.drop (i + 1)).length c10) (fun _ => .inl rfl)
      rw [hlen]
      refine bodyPost_ret (v := .bool true) (by simp [results, Try.results76, go_sem]) rfl (.inl ⟨_, _, HDEED.out, rfl, hfin, hT, fun k hk => .inr (by simp [Value.ownBlock] at hk; omega)⟩)
    · have HDK := Lib.hid (dropZ (k := i + 1) HD8.out.row (by omega) (cc - (i + 1)))
      go_wp2_with (first
        | (at_builtin; go_loud (refine wpList_append_row rfl (.tmp 63) (.tmp 67) 31 rfl V3.heap.size 39 i0 _ 9 96 Try.underlying31 hi0 hz0 hz1 hz2 rfl (by decide) (.slice (some ⟨g8, 0, none⟩) (i + 2) c8) (i + 2) (flatZ (m.zs.take i) ++ flatZ [(settled { z with tt := z.ky } (z.ep + 1)), ⟨z.nw, z.ky, z.tt, z.ow, z.ep + 1, 0, 0, ⟨#[]⟩, 0⟩]) rfl HO8.out w8.heap.size (some ⟨gz, (i + 1) * 9, none⟩) (m.zs.length - (i + 1)) (cc - (i + 1)) (flatZ (m.zs.drop (i + 1))) rfl HDK.out (flatZ_one _) (by unfold maxLen; omega) (by omega) (by omega) ?_; intro v10 w10 ho10 hb10; obtain ⟨g10, c10, hv10, hg10, hg10l, hn10, hc10⟩ := own_form ho10 (by omega); subst hv10; have HD10 := Lib.hid (HD8.out.keep (Touch.of_below hb10) (fun k hk hd => by have := (HD.out.lows k hk).2; omega)); have k2 := HD10.out.blk.cell 2; have df := fun k => HD10.out.blk.free k; simp only [List.getElem?_toArray, List.getElem?_cons_succ, List.getElem?_cons_zero] at k2; have HO10 := Lib.hid ho10; have HB10 := Lib.hid hb10; clear ho10 hb10))
        | fail)
      have hlen : i + 2 + (m.zs.length - (i + 1)) = (m.zs.take i ++ (settled { z with tt := z.ky } (z.ep + 1)) :: ⟨z.nw, z.ky, z.tt, z.ow, z.ep + 1, 0, 0, ⟨#[]⟩, 0⟩ :: m.zs.drop (i + 1)).length := by simp; omega
      have hR10 := HO10.out
      rw [hlen, ← flatZ_app, ← flatZ_app, List.append_assoc] at hR10
      have hbw : Below w.heap.size w w10 := (HBV3.out.trans (HB8.out.mono hV3w)).trans (HB10.out.mono hV3w)
      have hfin := HD10.out.stored (l := m.zs.take i ++ (settled { z with tt := z.ky } (z.ep + 1)) :: ⟨z.nw, z.ky, z.tt, z.ow, z.ep + 1, 0, 0, ⟨#[]⟩, 0⟩ :: m.zs.drop (i + 1)) hR10 (by omega) (by omega) (fun q hq => by have := (HD.out.lows q (.inr (.inl hq))).2; omega)
      have hT := ((Touch.of_below hbw).mono'' (D' := Fz d (.slice (some ⟨gz, 0, none⟩) m.zs.length cc)) (fun k h1 h2 => by omega)).set (a := ⟨d, 2, none⟩) (v := .slice (some ⟨g10, 0, none⟩) (m.zs.take i ++ (settled { z with tt := z.ky } (z.ep + 1)) :: ⟨z.nw, z.ky, z.tt, z.ow, z.ep + 1, 0, 0, ⟨#[]⟩, 0⟩ :: m.zs.drop (i + 1)).length c10) (fun _ => .inl rfl)
      rw [hlen]
      refine bodyPost_ret (v := .bool true) (by simp [results, Try.results76, go_sem]) rfl (.inl ⟨_, _, HDEED.out, rfl, hfin, hT, fun k hk => .inr (by simp [Value.ownBlock] at hk; omega)⟩)
end Go.Proofs.Ytbohpjinkdffhaa
