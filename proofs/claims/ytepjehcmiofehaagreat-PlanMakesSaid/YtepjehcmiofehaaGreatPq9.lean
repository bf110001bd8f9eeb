/- The code's Encode, of any map of moderate size. -/
import Derived.Test.YtepjehcmiofehaaGreatPq8
namespace Go.Proofs.YtepjehcmiofehaaGreat
open Go.RowKit
set_option linter.unusedVariables false
set_option linter.unusedSimpArgs false
/-- a zone of an argument's row -/
theorem zn_at {w : World} {B c : Nat} {A : Option Addr} {l : List Zn} (h : Cells w B A l.length c 9 (flatZ l)) {i : Nat} (hi : i < l.length) :
    ∃ qb qo, A = some ⟨qb, qo, none⟩ ∧ qb < B ∧ w.cell? ⟨qb, qo + i * 9, none⟩ = some (.int .i64 l[i].id) ∧ w.cell? ⟨qb, qo + i * 9 + 1, none⟩ = some (.string l[i].fr) ∧ w.cell? ⟨qb, qo + i * 9 + 2, none⟩ = some (.string l[i].tt) ∧ w.cell? ⟨qb, qo + i * 9 + 3, none⟩ = some (.int .i64 l[i].ow) ∧ w.cell? ⟨qb, qo + i * 9 + 4, none⟩ = some (.int .i64 l[i].ep) ∧ w.cell? ⟨qb, qo + i * 9 + 5, none⟩ = some (.int .i64 l[i].pd) ∧ w.cell? ⟨qb, qo + i * 9 + 6, none⟩ = some (.int .i64 l[i].mv) ∧ w.cell? ⟨qb, qo + i * 9 + 7, none⟩ = some (.string l[i].ky) ∧ w.cell? ⟨qb, qo + i * 9 + 8, none⟩ = some (.int .i64 l[i].nw) := by
  obtain ⟨r0, r1, r2, r3, r4, r5, r6, r7, r8⟩ := flatZ_at l i hi
  obtain ⟨b0, o0, e0, l0, c0⟩ := h.2.2 _ _ r0
  obtain ⟨b1, o1, e1, l1, c1⟩ := h.2.2 _ _ r1
  obtain ⟨b2, o2, e2, l2, c2⟩ := h.2.2 _ _ r2
  obtain ⟨b3, o3, e3, l3, c3⟩ := h.2.2 _ _ r3
  obtain ⟨b4, o4, e4, l4, c4⟩ := h.2.2 _ _ r4
  obtain ⟨b5, o5, e5, l5, c5⟩ := h.2.2 _ _ r5
  obtain ⟨b6, o6, e6, l6, c6⟩ := h.2.2 _ _ r6
  obtain ⟨b7, o7, e7, l7, c7⟩ := h.2.2 _ _ r7
  obtain ⟨b8, o8, e8, l8, c8⟩ := h.2.2 _ _ r8
  subst e0
  simp only [Option.some.injEq, Addr.mk.injEq, and_true] at e1 e2 e3 e4 e5 e6 e7 e8
  obtain ⟨rfl, rfl⟩ := e1
  obtain ⟨rfl, rfl⟩ := e2
  obtain ⟨rfl, rfl⟩ := e3
  obtain ⟨rfl, rfl⟩ := e4
  obtain ⟨rfl, rfl⟩ := e5
  obtain ⟨rfl, rfl⟩ := e6
  obtain ⟨rfl, rfl⟩ := e7
  obtain ⟨rfl, rfl⟩ := e8
  exact ⟨_, _, rfl, l0, c0, c1, c2, c3, c4, c5, c6, c7, c8⟩
/-- a zone's bytes, a map's -/
def zBs (z : Zn) : List Nat := encs [z.id] ++ (encb [bs z.fr, bs z.tt] ++ (encs [z.ow, z.ep, z.pd, z.mv] ++ (encb [bs z.ky] ++ encs [z.nw])))
def zsBs (l : List Zn) : List Nat := l.flatMap zBs
def mBs (m : Mp) : List Nat := encs [m.ver, m.nxt, (m.zs.length : Int)] ++ zsBs m.zs
structure SmZ (m : Mp) : Prop where
  len : m.zs.length ≤ 60
  txt : ∀ z ∈ m.zs, z.fr.size ≤ 200 ∧ z.tt.size ≤ 200 ∧ z.ky.size ≤ 200
theorem zBs_len {z : Zn} (h : z.fr.size ≤ 200 ∧ z.tt.size ≤ 200 ∧ z.ky.size ≤ 200) : (zBs z).length ≤ 700 := by
  have h1 := encs_le [z.id] 1 (by simp)
  have h2 := encb_le2 (s := z.fr) (t := z.tt) (by omega) (by omega)
  have h3 := encs_le [z.ow, z.ep, z.pd, z.mv] 4 (by simp)
  have h4 := encb_le1 (s := z.ky) (by omega)
  have h5 := encs_le [z.nw] 1 (by simp)
  simp only [zBs, List.length_append]
  omega
theorem zsBs_snoc {l : List Zn} {k : Nat} (h : k < l.length) : zsBs (l.take (k + 1)) = zsBs (l.take k) ++ zBs l[k] := by
  unfold zsBs
  rw [List.take_add_one, List.getElem?_eq_getElem h, List.flatMap_append]
  simp
theorem zsBs_len : ∀ (l : List Zn), (∀ z ∈ l, z.fr.size ≤ 200 ∧ z.tt.size ≤ 200 ∧ z.ky.size ≤ 200) → (zsBs l).length ≤ 700 * l.length
  | [], _ => by simp [zsBs]
  | a :: r, h => by
    have h1 := zBs_len (h a (by simp))
    have h2 := zsBs_len r (fun z hz => h z (by simp [hz]))
    have e : (zsBs (a :: r)).length = (zBs a).length + (zsBs r).length := by simp [zsBs]
    rw [e, List.length_cons]
    omega
theorem zsBs_take {m : Mp} (h : SmZ m) (k : Nat) : (zsBs (m.zs.take k)).length ≤ 42000 := by
  have h1 := zsBs_len (m.zs.take k) (fun z hz => h.txt z (List.mem_of_mem_take hz))
  have h2 := h.len
  rw [List.length_take] at h1
  omega
theorem WT.own {b : Nat} {w w' : World} (h : WT b w w') {B s n : Nat} {e : TypeId} {v : Value} {xs : List Value} (hr : w.ownsRow B e s v n xs) (hd : ∀ q, v.ownBlock = some q → ¬ WD w b q) : w'.ownsRow B e s v n xs := h.t.own hr (fun q hq e => hd q hq e)
set_option maxHeartbeats 8000000 in
set_option maxRecDepth 10000 in
theorem drEncode (A : Option Addr) (cc : Nat) (m : Mp) (w : World) (h : Cells w w.heap.size A m.zs.length cc 9 (flatZ m.zs)) (hsm : SmZ m) :
    Calls Tryz.prog 27 #[.agg #[.int .i64 m.ver, .int .i64 m.nxt, .slice A m.zs.length cc]] w fun e w' => ∃ v', e = .returned v' ∧ w'.ownsRow w.heap.size 5 1 v' (mBs m).length (flatU (mBs m)) ∧ Below w.heap.size w w' := by
  have cv : ∀ (w : World) (s : ByteArray), (convert 9 70 (.string s)).run Tryz.prog w = .ok (.slice (some ⟨w.heap.size, 0, none⟩) s.size (grownCap w s.size 0 5)) (Lib.bytesWorld w 5 s) := fun w s => Lib.run_convert_string_bytes w _ _ _ s Tryz.underlying9 Tryz.underlying70 Tryz.underlying5
  have HR := Lib.hid h
  have HSM := Lib.hid hsm
  have hl60 := hsm.len
  obtain ⟨H, hH⟩ : ∃ H, H = encs [m.ver, m.nxt, (m.zs.length : Int)] := ⟨_, rfl⟩
  have hHl : H.length ≤ 30 := by rw [hH]; exact encs_le _ 3 (by simp)
  have HH := Lib.hid hH
  have hE : mBs m = H ++ zsBs m.zs := by rw [hH, mBs]
  obtain ⟨R, hR⟩ : ∃ R, R = mBs m := ⟨_, rfl⟩
  rw [← hR] at hE
  rw [← hR]
  have HE := Lib.hid hE
  clear h hsm hE hR
  go_enter Tryz.func27, Tryz.ntmps27
  go_wp2_with fail
  have hB0 : Below w.heap.size w (w.alloc (.cells #[.int .i64 m.ver, .int .i64 m.nxt, .slice A m.zs.length cc] 24)) := (Below.refl _ _).alloc (Nat.le_refl _) _
  have P0 : Whl (w.alloc (.cells #[.int .i64 m.ver, .int .i64 m.nxt, .slice A m.zs.length cc] 24)) w.heap.size 24 #[.int .i64 m.ver, .int .i64 m.nxt, .slice A m.zs.length cc] := Whl.new rfl
  have hs0 : (w.alloc (.cells #[.int .i64 m.ver, .int .i64 m.nxt, .slice A m.zs.length cc] 24)).heap.size = w.heap.size + 1 := by simp
  generalize (w.alloc (.cells #[.int .i64 m.ver, .int .i64 m.nxt, .slice A m.zs.length cc] 24)) = V at *
  have hWr : Wr (V.alloc (.cells #[.slice none 0 0] 102)) (w.heap.size + 1) (w.heap.size + 2) [] := by have := Wr.newH V; rw [hs0] at this; exact this
  have hDU : ∀ q, q < w.heap.size + 1 → ¬ WD (V.alloc (.cells #[.slice none 0 0] 102)) (w.heap.size + 1) q := fun q hq => by have := wd_newH (w := V) (k := q) (by omega); rw [hs0] at this; exact this
  have PU : Whl (V.alloc (.cells #[.slice none 0 0] 102)) w.heap.size 24 #[.int .i64 m.ver, .int .i64 m.nxt, .slice A m.zs.length cc] := P0.alloc _
  have BU : Below w.heap.size w (V.alloc (.cells #[.slice none 0 0] 102)) := hB0.alloc (by omega) _
  have hsU : (V.alloc (.cells #[.slice none 0 0] 102)).heap.size = w.heap.size + 2 := by simp [hs0]
  generalize (V.alloc (.cells #[.slice none 0 0] 102)) = U at *
  clear P0 hB0
  refine (wNumsH (l := [m.ver, m.nxt, (m.zs.length : Int)]) _ (by omega) (by simp) rfl (by simp) hWr).mono ?_
  rintro e w1 ⟨rfl, hW1, hT1⟩
  rw [← hH, List.nil_append] at hW1
  have P1 := hT1.whl PU (hDU _ (by omega))
  have hD1 : Hid (∀ q, q < w.heap.size + 1 → ¬ WD w1 (w.heap.size + 1) q) := Lib.hid (fun q hq => hT1.far (by omega) (hDU q hq))
  have hs1 := hT1.size
  have B1 := BU.trans ((hT1.base hWr).mono (by omega))
  have HW1 := Lib.hid hW1
  have HB1 := Lib.hid B1
  have d2 := P1.cell 2
  simp only [List.getElem?_toArray, List.getElem?_cons_succ, List.getElem?_cons_zero] at d2
  clear hWr hDU PU BU hH hT1 hW1 B1
  go_wp2_with fail
  go_loopw [18] (fun kv wr => ∃ k : Nat, k ≤ m.zs.length ∧ kv = .int .i64 k ∧ Wr wr (w.heap.size + 1) (w.heap.size + 2) (H ++ zsBs (m.zs.take k)) ∧ WT (w.heap.size + 1) w1 wr) (fun kv _ => m.zs.length - (intOf kv).toNat)
  case atStart => exact ⟨0, Nat.zero_le _, rfl, by simpa [zsBs] using HW1.out, WT.refl _ _⟩
  case round =>
    obtain ⟨k, hkl, rfl, hW, hT⟩ := hrel
    have hw1r := hT.size
    have hbr := HB1.out.trans ((hT.base HW1.out).mono (show w.heap.size ≤ w.heap.size + 1 by omega))
    have hr := cells_keep HR.out hbr hbr.size
    clear hbr
    have hlow := hW.lowH
    by_cases hkt : k < m.zs.length
    · have q5 : (k : Int) < (m.zs.length : Int) := by omega
      obtain ⟨z, hz⟩ : ∃ z, z = m.zs[k] := ⟨_, rfl⟩
      obtain ⟨gz, go, rfl, hgz, u0, u1, u2, u3, u4, u5, u6, u7, u8⟩ := zn_at hr hkt
      rw [← hz] at u0 u1 u2 u3 u4 u5 u6 u7 u8
      have hxl := zsBs_take HSM.out k
      have hsn := zsBs_snoc hkt
      rw [← hz] at hsn
      have ht := HSM.out.txt z (by rw [hz]; exact List.getElem_mem hkt)
      have hzl := zBs_len ht
      obtain ⟨hfs, hts, hks⟩ := ht
      obtain ⟨X, hX⟩ : ∃ X, X = H ++ zsBs (m.zs.take k) := ⟨_, rfl⟩
      have hXl : X.length ≤ 42030 := by rw [hX, List.length_append]; omega
      rw [← hX] at hW
      have HSN : Hid (H ++ zsBs (m.zs.take (k + 1)) = X ++ zBs z) := Lib.hid (by rw [hsn, hX, List.append_assoc])
      have HW := Lib.hid hW
      have HT := Lib.hid hT
      clear hr hz hX hsn hW hT
      go_wp2_with fail
      have W0 := HW.out.allocH (.cells #[.int .i64 z.id, .string z.fr, .string z.tt, .int .i64 z.ow, .int .i64 z.ep, .int .i64 z.pd, .int .i64 z.mv, .string z.ky, .int .i64 z.nw] 56)
      have T0 := HT.out.alloc HW.out.lowH (.cells #[.int .i64 z.id, .string z.fr, .string z.tt, .int .i64 z.ow, .int .i64 z.ep, .int .i64 z.pd, .int .i64 z.mv, .string z.ky, .int .i64 z.nw] 56)
      have Q0 : Whl (wr.alloc (.cells #[.int .i64 z.id, .string z.fr, .string z.tt, .int .i64 z.ow, .int .i64 z.ep, .int .i64 z.pd, .int .i64 z.mv, .string z.ky, .int .i64 z.nw] 56)) wr.heap.size 56 #[.int .i64 z.id, .string z.fr, .string z.tt, .int .i64 z.ow, .int .i64 z.ep, .int .i64 z.pd, .int .i64 z.mv, .string z.ky, .int .i64 z.nw] := Whl.new rfl
      have D0 : ¬ WD (wr.alloc (.cells #[.int .i64 z.id, .string z.fr, .string z.tt, .int .i64 z.ow, .int .i64 z.ep, .int .i64 z.pd, .int .i64 z.mv, .string z.ky, .int .i64 z.nw] 56)) (w.heap.size + 1) wr.heap.size := HW.out.farA _
      have s0 : (wr.alloc (.cells #[.int .i64 z.id, .string z.fr, .string z.tt, .int .i64 z.ow, .int .i64 z.ep, .int .i64 z.pd, .int .i64 z.mv, .string z.ky, .int .i64 z.nw] 56)).heap.size = wr.heap.size + 1 := by simp
      generalize (wr.alloc (.cells #[.int .i64 z.id, .string z.fr, .string z.tt, .int .i64 z.ow, .int .i64 z.ep, .int .i64 z.pd, .int .i64 z.mv, .string z.ky, .int .i64 z.nw] 56)) = x0 at *
      clear u0 u1 u2 u3 u4 u5 u6 u7 u8
      refine (wNumsH (l := [z.id]) _ (by omega) (by simp) rfl (by omega) W0).mono ?_
      rintro e x1 ⟨rfl, W1, t0⟩
      obtain ⟨X1, hX1⟩ : ∃ y, y = X ++ encs [z.id] := ⟨_, rfl⟩
      have hXl1 : X1.length ≤ X.length + 420 := by have := encs_le [z.id] 1 (by simp); rw [hX1, List.length_append]; omega
      rw [← hX1] at W1
      have HX1 := Lib.hid hX1
      have s1 := t0.size
      have T1 := T0.trans t0
      have Q1 := t0.whl Q0 D0
      have D1 := t0.far Q0.low D0
      have qq0 := Q1.low
      clear hX1 t0 T0 Q0 D0 W0
      have v1 := Q1.cell 1
      have v2 := Q1.cell 2
      simp only [List.getElem?_toArray, List.getElem?_cons_succ, List.getElem?_cons_zero] at v1 v2
      go_wp2_with fail
      clear v1 v2
      have y1 : (Lib.bytesWorld x1 5 z.fr).heap.size = x1.heap.size + 1 := bw_size _ _ _
      generalize hp1 : grownCap x1 z.fr.size 0 5 = p1 at *
      generalize hY1 : Lib.bytesWorld x1 5 z.fr = Y1 at *
      have yy1 : (Lib.bytesWorld Y1 5 z.tt).heap.size = Y1.heap.size + 1 := bw_size _ _ _
      generalize hpp1 : grownCap Y1 z.tt.size 0 5 = pp1 at *
      generalize hZ1 : Lib.bytesWorld Y1 5 z.tt = Z1 at *
      refine (wBytesH2 _ p1 pp1 _ _ _ hY1.symm hZ1.symm rfl (by omega) (by omega) (by omega) (by omega) (by omega) W1).mono ?_
      rintro e x2 ⟨rfl, W2, t1⟩
      obtain ⟨X2, hX2⟩ : ∃ y, y = X1 ++ encb [bs z.fr, bs z.tt] := ⟨_, rfl⟩
      have hXl2 : X2.length ≤ X1.length + 420 := by have := encb_le2 (s := z.fr) (t := z.tt) (by omega) (by omega); rw [hX2, List.length_append]; omega
      rw [← hX2] at W2
      have HX2 := Lib.hid hX2
      have s2 := t1.size
      have T2 := T1.trans t1
      have Q2 := t1.whl Q1 D1
      have D2 := t1.far Q1.low D1
      have qq1 := Q2.low
      clear hX2 t1 T1 Q1 D1 W1
      have v3 := Q2.cell 3
      have v4 := Q2.cell 4
      have v5 := Q2.cell 5
      have v6 := Q2.cell 6
      simp only [List.getElem?_toArray, List.getElem?_cons_succ, List.getElem?_cons_zero] at v3 v4 v5 v6
      go_wp2_with fail
      clear v3 v4 v5 v6
      refine (wNumsH (l := [z.ow, z.ep, z.pd, z.mv]) _ (by omega) (by simp) rfl (by omega) W2).mono ?_
      rintro e x3 ⟨rfl, W3, t2⟩
      obtain ⟨X3, hX3⟩ : ∃ y, y = X2 ++ encs [z.ow, z.ep, z.pd, z.mv] := ⟨_, rfl⟩
      have hXl3 : X3.length ≤ X2.length + 420 := by have := encs_le [z.ow, z.ep, z.pd, z.mv] 4 (by simp); rw [hX3, List.length_append]; omega
      rw [← hX3] at W3
      have HX3 := Lib.hid hX3
      have s3 := t2.size
      have T3 := T2.trans t2
      have Q3 := t2.whl Q2 D2
      have D3 := t2.far Q2.low D2
      have qq2 := Q3.low
      clear hX3 t2 T2 Q2 D2 W2
      have v7 := Q3.cell 7
      simp only [List.getElem?_toArray, List.getElem?_cons_succ, List.getElem?_cons_zero] at v7
      go_wp2_with fail
      clear v7
      have y3 : (Lib.bytesWorld x3 5 z.ky).heap.size = x3.heap.size + 1 := bw_size _ _ _
      generalize hp3 : grownCap x3 z.ky.size 0 5 = p3 at *
      generalize hY3 : Lib.bytesWorld x3 5 z.ky = Y3 at *
      refine (wBytesH1 _ p3 _ _ hY3.symm rfl (by omega) (by omega) (by omega) W3).mono ?_
      rintro e x4 ⟨rfl, W4, t3⟩
      obtain ⟨X4, hX4⟩ : ∃ y, y = X3 ++ encb [bs z.ky] := ⟨_, rfl⟩
      have hXl4 : X4.length ≤ X3.length + 420 := by have := encb_le1 (s := z.ky) (by omega); rw [hX4, List.length_append]; omega
      rw [← hX4] at W4
      have HX4 := Lib.hid hX4
      have s4 := t3.size
      have T4 := T3.trans t3
      have Q4 := t3.whl Q3 D3
      have D4 := t3.far Q3.low D3
      have qq3 := Q4.low
      clear hX4 t3 T3 Q3 D3 W3
      have v8 := Q4.cell 8
      simp only [List.getElem?_toArray, List.getElem?_cons_succ, List.getElem?_cons_zero] at v8
      go_wp2_with fail
      clear v8
      refine (wNumsH (l := [z.nw]) _ (by omega) (by simp) rfl (by omega) W4).mono ?_
      rintro e x5 ⟨rfl, W5, t4⟩
      obtain ⟨X5, hX5⟩ : ∃ y, y = X4 ++ encs [z.nw] := ⟨_, rfl⟩
      have hXl5 : X5.length ≤ X4.length + 420 := by have := encs_le [z.nw] 1 (by simp); rw [hX5, List.length_append]; omega
      rw [← hX5] at W5
      have HX5 := Lib.hid hX5
      have s5 := t4.size
      have T5 := T4.trans t4
      have Q5 := t4.whl Q4 D4
      have D5 := t4.far Q4.low D4
      have qq4 := Q5.low
      clear hX5 t4 T4 Q4 D4 W4
      go_wp2_with fail
      refine ⟨⟨k + 1, hkt, by go_num, ?_, T5⟩, measZ hkt⟩
      rw [HSN.out]
      have e5 : X5 = X ++ zBs z := by rw [HX5.out, HX4.out, HX3.out, HX2.out, HX1.out]; simp [zBs, List.append_assoc]
      rw [← e5]
      exact W5
    · obtain rfl : m.zs.length = k := by omega
      rw [List.take_length, ← HE.out] at hW
      have hRl : R.length ≤ 100000 := by
        have := zsBs_take HSM.out m.zs.length
        rw [List.take_length] at this
        rw [HE.out, List.length_append]; omega
      have HW := Lib.hid hW
      have HBF := Lib.hid (HB1.out.trans ((hT.base HW1.out).mono (by omega)))
      clear hW hT hr
      go_wp2_with fail
      refine (wOut _ _ _ _ (Nat.le_trans hRl (by decide)) HW.out).mono ?_
      rintro e w7 ⟨v7, rfl, hown7, hb7⟩
      have HO7 := Lib.hid hown7
      have HB7 := Lib.hid (HBF.out.trans (hb7.mono HBF.out.size))
      clear hown7 hb7
      go_wp2_with fail
      go_ret
      exact ⟨_, rfl, HO7.out.mono HBF.out.size, HB7.out⟩
end Go.Proofs.YtepjehcmiofehaaGreat
