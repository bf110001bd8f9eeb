/- The document's vault: Encode. -/
import Derived.Test.YtdlbiobjnohfbaaGreatVb39
import Derived.Test.YtdlbiobjnohfbaaGreatVb40
namespace Go.Proofs.YtdlbiobjnohfbaaGreat
open Go.RowKit Go.ChangeMaps Go.MapKept
set_option linter.unusedVariables false
set_option linter.unusedSimpArgs false
structure ES (b1 g : Nat) (w1 : World) (t : TypeId) (cs : Array Value) (x : World) (s : Value) (L : List Nat) : Prop where
 own : x.ownsRow b1 5 1 s L.length (flatU L)
 q : Whl x g t cs
 ne : ∀ q, s.ownBlock = some q → q ≠ g
 bel : Below b1 w1 x
 bw : b1 ≤ w1.heap.size
theorem ES.call {b1 g : Nat} {w1 x x' : World} {t : TypeId} {cs : Array Value} {s : Value} {L : List Nat} (h : ES b1 g w1 t cs x s L) (hb : Below x.heap.size x x') : ES b1 g w1 t cs x' s L :=
 ⟨row_belowV h.own hb, h.q.below hb h.q.low, h.ne, h.bel.trans (hb.mono (Nat.le_trans h.bw h.bel.size)), h.bw⟩
theorem ES.app {b1 g : Nat} {w1 x x' : World} {t : TypeId} {cs : Array Value} {s s' : Value} {L y : List Nat} (h : ES b1 g w1 t cs x s L) (ho : x'.ownsRow b1 5 1 s' (L.length + y.length) (flatU L ++ flatU y)) (ht : Touch (fun k => s.ownBlock = some k) x x') (hv : s'.ownBlock = s.ownBlock ∨ s'.ownBlock = some x.heap.size) : ES b1 g w1 t cs x' s' (L ++ y) := by
 refine ⟨by rw [List.length_append, flatU_app]; exact ho, (ht.block g h.q.low (fun e => h.ne g e rfl)).trans h.q, fun q hq e => ?_, h.bel.trans (ht.below (B := b1) (Nat.le_trans h.bw h.bel.size) (fun k hk => (h.own.lt k hk).1)), h.bw⟩
 subst e
 rcases hv with hv | hv
 · exact h.ne q (by rw [← hv]; exact hq) rfl
 ·
  rw [hv] at hq
  injection hq with hq
  have := h.q.low
  omega
theorem encs_oneV (n : Int) : enc (clamp n) = encs [n] := by simp [encs]
theorem encb_oneV (s : ByteArray) : enc s.size ++ bs s = encb [bs s] := by simp [encb, bs_length]
set_option maxHeartbeats 8000000 in
set_option maxRecDepth 10000 in
theorem refVEncode (B d x : Nat) (u u2 : Value) (l : Pm) (L : List Od) (last nx : Int) (w : World) (h : RvH w B d x u u2 (rowsP l) L last nx) (hkeys : ∀ r ∈ rowsP l, r.1.length ≤ 16) (hwho : ∀ o ∈ L, o.who.size ≤ 16) (h32 : L.length ≤ 32) (hlen : l.length ≤ 300) :
  Calls Tryz.prog 30 #[.pointer (some ⟨d, 0, none⟩)] w fun e w' => ∃ v', e = .returned v' ∧ w'.ownsRow w.heap.size 5 1 v' (vB l L nx).length (flatU (vB l L nx)) ∧ Below w.heap.size w w' := by
 have cv : ∀ (w : World) (s : ByteArray), (convert 9 33 (.string s)).run Tryz.prog w = .ok (.slice (some ⟨w.heap.size, 0, none⟩) s.size (grownCap w s.size 0 5)) (Lib.bytesWorld w 5 s) := fun w s => Lib.run_convert_string_bytes w _ _ _ s Tryz.underlying9 Tryz.underlying33 Tryz.underlying5
 obtain ⟨i0, hi, hz0, hz1, hz2⟩ := info_parts Tryz.infoByte
 obtain ⟨Ar, cr, rfl, _, _, _⟩ := own_slice h.row
 obtain ⟨A2, c2, rfl, _, _, _⟩ := own_slice h.bk.row
 have hdl := h.whl.low
 have hxl := h.bk.blk.low
 have k0 := h.whl.cell 0
 have k1 := h.whl.cell 1
 have k2 := h.whl.cell 2
 have k3 := h.bk.blk.cell 0
 simp only [List.getElem?_toArray, List.getElem?_cons_succ, List.getElem?_cons_zero] at k0 k1 k2 k3
 have HO1 := Lib.hid h.row
 have HO2 := Lib.hid h.bk.row
 have HKEYS := Lib.hid hkeys
 have HWHO := Lib.hid hwho
 have hrl : (rowsP l).length = l.length := rowsP_len l
 have HRL := Lib.hid hrl
 obtain ⟨R, hR⟩ : ∃ R, R = vB l L nx := ⟨_, rfl⟩
 rw [← hR]
 have HRR := Lib.hid hR
 clear h hkeys hwho hR
 obtain ⟨H, hH⟩ : ∃ H, H = encs [((rowsP l).length : Int)] := ⟨_, rfl⟩
 have hHl : H.length ≤ 10 := by rw [hH]; exact encs_leV _ 1 (by simp)
 have HHH := Lib.hid hH
 have hlen2 : (rowsP l).length ≤ 300 := by omega
 clear hrl
 go_enter Tryz.func30, Tryz.ntmps30
 go_wp2_with fail
 refine (refNum ((rowsP l).length : Int) _).mono ?_
 rintro e w1 ⟨v1, rfl, hown1, hb1⟩
 rw [encs_oneV, ← hH] at hown1
 have HOA := Lib.hid hown1
 have HBA := Lib.hid hb1
 clear hown1 hb1 hH
 go_wp2_with fail
 go_loopw [3, 4] (fun sv kv wr => ∃ (k : Nat) (s : Value), k ≤ (rowsP l).length ∧ kv = .int .i64 k ∧ s = sv ∧ wr.ownsRow w.heap.size 5 1 s (H ++ rsB ((rowsP l).take k)).length (flatU (H ++ rsB ((rowsP l).take k))) ∧ Below w.heap.size w wr) (fun _ kv _ => (rowsP l).length - (intOf kv).toNat)
 case atStart => exact ⟨0, _, Nat.zero_le _, rfl, rfl, by simpa [rsB] using HOA.out, HBA.out⟩
 case round =>
  obtain ⟨k, s, hkl, rfl, rfl, hO, hB⟩ := hrel
  have hBs := hB.size
  have m0 := bkeep hB k0 hdl
  by_cases hkt : k < (rowsP l).length
  ·
   have q5 : (k : Int) < ((rowsP l).length : Int) := by omega
   have hwk : IntKind.i64.wrap ((k : Int) + 1) = (k : Int) + 1 := by rw [IntKind.wrap_i64]; omega
   cases Ar with
   | none => have := HO1.out.2; rcases this with ⟨_, h0⟩ | ⟨g0, _, _, e, _⟩; (exact absurd h0 (by omega)); injection e with e; cases e
   | some ad =>
   obtain ⟨gq, cq, e1, hq5, hq6, _, _⟩ := own_form HO1.out (by omega)
   simp only [Value.slice.injEq, Option.some.injEq, true_and] at e1
   obtain ⟨rfl, rfl⟩ := e1
   obtain ⟨r0, r1, r2, r3, r4⟩ := flatH_at (rowsP l) k hkt
   obtain ⟨r, hr⟩ : ∃ r, r = (rowsP l)[k] := ⟨_, rfl⟩
   rw [← hr] at r0 r1 r2 r3 r4
   have z0 := (HO1.out.cellAt (k * 5) (by omega)).trans r0
   have z1 := (HO1.out.cellAt (k * 5 + 1) (by omega)).trans r1
   have z2 := (HO1.out.cellAt (k * 5 + 2) (by omega)).trans r2
   have z3 := (HO1.out.cellAt (k * 5 + 3) (by omega)).trans r3
   have z4 := (HO1.out.cellAt (k * 5 + 4) (by omega)).trans r4
   have hsn := rsB_snoc hkt
   rw [← hr] at hsn
   have hxl2 : (rsB ((rowsP l).take k)).length ≤ 66 * k := by
    have := rsB_len ((rowsP l).take k) (fun x hx => HKEYS.out x (List.mem_of_mem_take hx))
    rw [List.length_take] at this; omega
   have hkk : r.1.length ≤ 16 := HKEYS.out r (by rw [hr]; exact List.getElem_mem hkt)
   obtain ⟨ky, a0, a1, a2, a3⟩ := r
   simp only at z1 z2 z3 z4 hkk
   obtain ⟨t, ht⟩ : ∃ t : ByteArray, t = keyS ky := ⟨_, rfl⟩
   have hes : encB ky = .string t := by rw [ht]; rfl
   have hss : t.size ≤ 16 := by rw [ht]; exact keyS_len hkk
   have hrb : rB (ky, a0, a1, a2, a3) = encb [bs t] ++ encs [a0, a1, a2, a3] := by rw [ht]; rfl
   simp only at z0
   rw [hes] at z0
   obtain ⟨X, hX⟩ : ∃ X, X = H ++ rsB ((rowsP l).take k) := ⟨_, rfl⟩
   have hXl : X.length ≤ 19900 := by rw [hX, List.length_append]; omega
   rw [← hX] at hO
   have HSN : Hid (H ++ rsB ((rowsP l).take (k + 1)) = X ++ encb [bs t] ++ encs [a0, a1, a2, a3]) := Lib.hid (by rw [hsn, hX, hrb]; simp only [List.append_assoc])
   have y0 := bkeep hB z0 hq6
   have HOX := Lib.hid hO
   have HB := Lib.hid hB
   clear r0 r1 r2 r3 r4 hr hX hsn hO hB hxl2 hrb hes ht hkk z0
   go_wp2_with fail
   refine (refBytes (some ⟨wr.heap.size, 0, none⟩) _ t.size (bs t) _ (bs_length _) (by omega) (fun c => bw_cellsH wr 5 t c)).mono ?_
   rintro e w2 ⟨v2, rfl, hown2, hb2⟩
   rw [encb_oneV] at hown2
   obtain ⟨Y1, hY1⟩ : ∃ y, y = encb [bs t] := ⟨_, rfl⟩
   have hYl1 : Y1.length ≤ 26 := by rw [hY1]; exact encb_leV hss
   rw [← hY1] at hown2
   have HY1 := Lib.hid hY1
   obtain ⟨A5, c5, rfl, hc5, hm5, hx5⟩ := row_cells hown2
   have HX5 := Lib.hid hx5
   have HO5 := Lib.hid (row_belowV (row_belowV HOX.out (bw_below wr 5 t)) hb2)
   have HB5 : Hid (Below w.heap.size w w2) := Lib.hid ((HB.out.trans ((bw_below wr 5 t).mono hBs)).trans (hb2.mono (by rw [bw_size]; omega)))
   have hs5 := HB5.out.size
   clear hown2 hx5 hY1 hb2 HOX
   go_wp2_with (first
    | (at_builtin; go_must (refine wpList_append_row rfl (.tmp 23) (.tmp 33) 33 rfl w.heap.size 5 i0 (.int .u8 0) 1 1 Tryz.underlying33 hi hz0 hz1 hz2 rfl (by decide) s X.length (flatU X) rfl HO5.out w2.heap.size A5 Y1.length c5 (flatU Y1) rfl HX5.out (flatU_one _) (by unfold maxLen; omega) (by omega) hs5 ?_); intro v6 w6 hown6 hb6; have HO6 := Lib.hid hown6; have hb6b := HB5.out.trans hb6; have hs6 := hb6b.size; have HB6 := Lib.hid hb6b; have m6 := bkeep hb6b k0 hdl; have y1 := bkeep hb6b z1 hq6; have y2 := bkeep hb6b z2 hq6; have y3 := bkeep hb6b z3 hq6; have y4 := bkeep hb6b z4 hq6; clear hown6 hb6 hb6b HO5 HX5)
    | fail)
   refine (refEncode a0 a1 a2 a3 _).mono ?_
   rintro e w7 ⟨v7, rfl, hown7, hb7⟩
   obtain ⟨Y2, hY2⟩ : ∃ y, y = encs [a0, a1, a2, a3] := ⟨_, rfl⟩
   have hYl2 : Y2.length ≤ 40 := by rw [hY2]; exact encs_leV _ 4 (by simp)
   rw [← hY2] at hown7
   have HY2 := Lib.hid hY2
   obtain ⟨A7, c7, rfl, hc7, hm7, hx7⟩ := row_cells hown7
   have HX7 := Lib.hid hx7
   obtain ⟨X1, hX1⟩ : ∃ y, y = X ++ Y1 := ⟨_, rfl⟩
   have hXl1 : X1.length ≤ X.length + 26 := by rw [hX1, List.length_append]; omega
   have h6 := HO6.out
   rw [← flatU_app, ← List.length_append, ← hX1] at h6
   have HXX1 := Lib.hid hX1
   have HO7 := Lib.hid (row_belowV h6 hb7)
   have HB7 := Lib.hid (HB6.out.trans (hb7.mono hs6))
   have hs7 := HB7.out.size
   clear hown7 hx7 hY2 hb7 h6 hX1 HO6
   go_wp2_with (first
    | (at_builtin; go_must (refine wpList_append_row rfl (.tmp 35) (.tmp 44) 33 rfl w.heap.size 5 i0 (.int .u8 0) 1 1 Tryz.underlying33 hi hz0 hz1 hz2 rfl (by decide) v6 X1.length (flatU X1) rfl HO7.out w7.heap.size A7 Y2.length c7 (flatU Y2) rfl HX7.out (flatU_one _) (by unfold maxLen; omega) (by omega) hs7 ?_); intro v8 w8 hown8 hb8; have HO8 := Lib.hid hown8; have HB8 := Lib.hid (HB7.out.trans hb8); clear hown8 hb8 HO7 HX7)
    | fail)
   refine ⟨⟨k + 1, v8, hkt, by go_num, rfl, ?_, HB8.out⟩, measV hkt⟩
   have h8 := HO8.out
   rw [← flatU_app, ← List.length_append, HXX1.out, HY1.out, HY2.out, ← HSN.out] at h8
   exact h8
  ·
   obtain rfl : (rowsP l).length = k := by omega
   rw [List.take_length] at hO
   have hxr : (rsB (rowsP l)).length ≤ 19800 := by
    have := rsB_len (rowsP l) HKEYS.out
    omega
   obtain ⟨X, hX⟩ : ∃ X, X = H ++ rsB (rowsP l) := ⟨_, rfl⟩
   have hXl : X.length ≤ 19810 := by rw [hX, List.length_append]; omega
   rw [← hX] at hO
   have HX := Lib.hid hX
   have HOX := Lib.hid hO
   have HB := Lib.hid hB
   have m1 := bkeep hB k1 hdl
   have m3 := bkeep hB k3 hxl
   clear hX hO hB
   go_wp2_with fail
   refine (refNum (L.length : Int) _).mono ?_
   rintro e w2 ⟨v2, rfl, hown2, hb2⟩
   rw [encs_oneV] at hown2
   obtain ⟨Y3, hY3⟩ : ∃ y, y = encs [(L.length : Int)] := ⟨_, rfl⟩
   have hYl3 : Y3.length ≤ 10 := by rw [hY3]; exact encs_leV _ 1 (by simp)
   rw [← hY3] at hown2
   have HY3 := Lib.hid hY3
   obtain ⟨A5, c5, rfl, hc5, hm5, hx5⟩ := row_cells hown2
   have HX5 := Lib.hid hx5
   have HO5 := Lib.hid (row_belowV HOX.out hb2)
   have HB5 : Hid (Below w.heap.size w w2) := Lib.hid (HB.out.trans (hb2.mono hBs))
   have hs5 := HB5.out.size
   clear hown2 hx5 hY3 hb2 HOX m1 m3 m0
   go_wp2_with (first
    | (at_builtin; go_must (refine wpList_append_row rfl (.tmp 46) (.tmp 55) 33 rfl w.heap.size 5 i0 (.int .u8 0) 1 1 Tryz.underlying33 hi hz0 hz1 hz2 rfl (by decide) s X.length (flatU X) rfl HO5.out w2.heap.size A5 Y3.length c5 (flatU Y3) rfl HX5.out (flatU_one _) (by unfold maxLen; omega) (by omega) hs5 ?_); intro v6 w6 hown6 hb6; have HO6 := Lib.hid hown6; have HB6 := Lib.hid (HB5.out.trans hb6); clear hown6 hb6 HO5 HX5)
    | fail)
   obtain ⟨X3, hX3⟩ : ∃ y, y = X ++ Y3 := ⟨_, rfl⟩
   have hXl3 : X3.length ≤ 19820 := by rw [hX3, List.length_append]; omega
   have h6 := HO6.out
   rw [← flatU_app, ← List.length_append, ← hX3] at h6
   have HX3 := Lib.hid hX3
   have HO6b := Lib.hid h6
   clear h6 hX3 HO6
   go_loopw [3, 5] (fun sv kv wr => ∃ (k : Nat) (s : Value), k ≤ L.length ∧ kv = .int .i64 k ∧ s = sv ∧ wr.ownsRow w.heap.size 5 1 s (X3 ++ osB (L.take k)).length (flatU (X3 ++ osB (L.take k))) ∧ Below w.heap.size w wr) (fun _ kv _ => L.length - (intOf kv).toNat)
   case atStart => exact ⟨0, _, Nat.zero_le _, rfl, rfl, by simpa [osB] using HO6b.out, HB6.out⟩
   case round =>
    obtain ⟨k, s, hkl, rfl, rfl, hO, hB⟩ := hrel
    have hBs := hB.size
    have m1 := bkeep hB k1 hdl
    have m3 := bkeep hB k3 hxl
    by_cases hkt : k < L.length
    ·
     have q5 : (k : Int) < (L.length : Int) := by omega
     have hwk : IntKind.i64.wrap ((k : Int) + 1) = (k : Int) + 1 := by rw [IntKind.wrap_i64]; omega
     cases A2 with
     | none => have := HO2.out.2; rcases this with ⟨_, h0⟩ | ⟨g0, _, _, e, _⟩; (exact absurd h0 (by omega)); injection e with e; cases e
     | some ad =>
     obtain ⟨gq, cq, e1, hq5, hq6, _, _⟩ := own_form HO2.out (by omega)
     simp only [Value.slice.injEq, Option.some.injEq, true_and] at e1
     obtain ⟨rfl, rfl⟩ := e1
     obtain ⟨r0, r1, r2, r3, r4, r5⟩ := flatO_at L k hkt
     obtain ⟨z, hz⟩ : ∃ z, z = L[k] := ⟨_, rfl⟩
     rw [← hz] at r0 r1 r2 r3 r4 r5
     have hrow := row_belowV HO2.out hB
     have y0 := (hrow.cellAt (k * 6) (ixO0 hkt)).trans r0
     have y1 := (hrow.cellAt (k * 6 + 1) (ixO hkt 1 (by decide))).trans r1
     have y2 := (hrow.cellAt (k * 6 + 2) (ixO hkt 2 (by decide))).trans r2
     have y3 := (hrow.cellAt (k * 6 + 3) (ixO hkt 3 (by decide))).trans r3
     have y4 := (hrow.cellAt (k * 6 + 4) (ixO hkt 4 (by decide))).trans r4
     have y5 := (hrow.cellAt (k * 6 + 5) (ixO hkt 5 (by decide))).trans r5
     have hsn := osB_snoc hkt
     rw [← hz] at hsn
     have hxl2 : (osB (L.take k)).length ≤ 76 * k := by
      have := osB_len (L.take k) (fun x hx => HWHO.out x (List.mem_of_mem_take hx))
      rw [List.length_take] at this; omega
     have hss : z.who.size ≤ 16 := HWHO.out z (by rw [hz]; exact List.getElem_mem hkt)
     obtain ⟨X, hX⟩ : ∃ X, X = X3 ++ osB (L.take k) := ⟨_, rfl⟩
     have hXl : X.length ≤ 24000 := by rw [hX, List.length_append]; omega
     rw [← hX] at hO
     have HSN : Hid (X3 ++ osB (L.take (k + 1)) = X ++ encs [z.id] ++ encb [bs z.who] ++ encs [fl z.buy, z.item, z.ct, z.pr]) := Lib.hid (by rw [hsn, hX, oB]; simp only [List.append_assoc])
     have HE0 : Hid (ES w.heap.size wr.heap.size w 38 #[.int .i64 z.id, .string z.who, .bool z.buy, .int .i64 z.item, .int .i64 z.ct, .int .i64 z.pr] (wr.alloc (.cells #[.int .i64 z.id, .string z.who, .bool z.buy, .int .i64 z.item, .int .i64 z.ct, .int .i64 z.pr] 38)) s X) := Lib.hid ⟨hO.alloc _, Whl.new rfl, fun q hq e => by (have := (hO.lt q hq).2; omega), hB.alloc (by omega) _, Nat.le_refl _⟩
     clear r0 r1 r2 r3 r4 r5 hrow hz hX hsn hO hxl2
     obtain ⟨id, who, buy, item, ct, pr⟩ := z
     simp only at y0 y1 y2 y3 y4 y5 hss HSN HE0
     cases buy with
     | false =>
      go_wp2_with fail
      have E0 := HE0.out
      have s0 : (wr.alloc (.cells #[.int .i64 id, .string who, .bool false, .int .i64 item, .int .i64 ct, .int .i64 pr] 38)).heap.size = wr.heap.size + 1 := by simp
      generalize (wr.alloc (.cells #[.int .i64 id, .string who, .bool false, .int .i64 item, .int .i64 ct, .int .i64 pr] 38)) = x0 at *
      clear y0 y1 y2 y3 y4 y5 HE0
      refine (refNum id _).mono ?_
      rintro e y0 ⟨v0, rfl, hown0, hb0⟩
      rw [encs_oneV] at hown0
      have F0 := E0
      replace F0 := F0.call hb0
      obtain ⟨Y0, hY0⟩ : ∃ y, y = encs [id] := ⟨_, rfl⟩
      have hYl0 : Y0.length ≤ 10 := by rw [hY0]; exact encs_leV _ 1 (by simp)
      rw [← hY0] at hown0
      have HY0 := Lib.hid hY0
      obtain ⟨A0, c0, rfl, hc0, hm0, hx0⟩ := row_cells hown0
      have HX0 := Lib.hid hx0
      have HF0 := Lib.hid F0
      clear hown0 hx0 hY0 F0 E0 hb0
      go_wp2_with (first
       | (at_builtin; go_must (refine wpList_append_touch rfl (.tmp 81) (.tmp 84) 33 rfl w.heap.size 5 i0 (.int .u8 0) 1 1 Tryz.underlying33 hi hz0 hz1 hz2 rfl (by decide) s X.length (flatU X) rfl HF0.out.own y0.heap.size A0 Y0.length c0 (flatU Y0) rfl HX0.out (flatU_one _) (by unfold maxLen; omega) (by omega) (by have h1 := HF0.out.bw; have h2 := HF0.out.bel.size; omega) ?_); intro S1 x1 ho0 ht0 hv0; have E1 := HF0.out.app ho0 ht0 hv0; have d1 := E1.q.cell 1; simp only [List.getElem?_toArray, List.getElem?_cons_succ, List.getElem?_cons_zero] at d1; obtain ⟨X1, hX1⟩ : ∃ y, y = X ++ Y0 := ⟨_, rfl⟩; have hXl1 : X1.length ≤ X.length + 10 := (by rw [hX1, List.length_append]; omega); rw [← hX1] at E1; have HXX1 := Lib.hid hX1; clear ho0 ht0 hv0 HF0 HX0 hX1)
       | fail)
      refine (refBytes (some ⟨x1.heap.size, 0, none⟩) _ who.size (bs who) _ (bs_length _) (by omega) (fun c => bw_cellsH x1 5 who c)).mono ?_
      rintro e y1 ⟨v1, rfl, hown1, hb1⟩
      rw [encb_oneV] at hown1
      have F1 := E1.call (bw_below x1 5 who)
      replace F1 := F1.call hb1
      obtain ⟨Y1, hY1⟩ : ∃ y, y = encb [bs who] := ⟨_, rfl⟩
      have hYl1 : Y1.length ≤ 26 := by rw [hY1]; exact encb_leV hss
      rw [← hY1] at hown1
      have HY1 := Lib.hid hY1
      obtain ⟨A1, c1, rfl, hc1, hm1, hx1⟩ := row_cells hown1
      have HX1 := Lib.hid hx1
      have HF1 := Lib.hid F1
      clear hown1 hx1 hY1 F1 E1 hb1
      go_wp2_with (first
       | (at_builtin; go_must (refine wpList_append_touch rfl (.tmp 86) (.tmp 90) 33 rfl w.heap.size 5 i0 (.int .u8 0) 1 1 Tryz.underlying33 hi hz0 hz1 hz2 rfl (by decide) S1 X1.length (flatU X1) rfl HF1.out.own y1.heap.size A1 Y1.length c1 (flatU Y1) rfl HX1.out (flatU_one _) (by unfold maxLen; omega) (by omega) (by have h1 := HF1.out.bw; have h2 := HF1.out.bel.size; omega) ?_); intro S2 x2 ho1 ht1 hv1; have E2 := HF1.out.app ho1 ht1 hv1; have d3 := E2.q.cell 3; have d4 := E2.q.cell 4; have d5 := E2.q.cell 5; simp only [List.getElem?_toArray, List.getElem?_cons_succ, List.getElem?_cons_zero] at d3 d4 d5; obtain ⟨X2, hX2⟩ : ∃ y, y = X1 ++ Y1 := ⟨_, rfl⟩; have hXl2 : X2.length ≤ X1.length + 26 := (by rw [hX2, List.length_append]; omega); rw [← hX2] at E2; have HXX2 := Lib.hid hX2; clear ho1 ht1 hv1 HF1 HX1 hX2)
       | fail)
      refine (refNums (some ⟨x2.heap.size, 0, none⟩) 4 [0, item, ct, pr] _ (by simp) (ints4 (by simp) (by exact tC) (by exact tC) (by exact tC) (by exact tC))).mono ?_
      rintro e y2 ⟨v2, rfl, hown2, hb2⟩
      have F2 := E2.call ((Below.refl _ _).alloc (Nat.le_refl _) (.cells #[.int .i64 0, .int .i64 item, .int .i64 ct, .int .i64 pr] 3))
      replace F2 := F2.call hb2
      obtain ⟨Y2, hY2⟩ : ∃ y, y = encs [0, item, ct, pr] := ⟨_, rfl⟩
      have hYl2 : Y2.length ≤ 40 := by rw [hY2]; exact encs_leV _ 4 (by simp)
      rw [← hY2] at hown2
      have HY2 := Lib.hid hY2
      obtain ⟨A2, c2, rfl, hc2, hm2, hx2⟩ := row_cells hown2
      have HX2 := Lib.hid hx2
      have HF2 := Lib.hid F2
      clear hown2 hx2 hY2 F2 E2 hb2
      go_wp2_with (first
       | (at_builtin; go_must (refine wpList_append_touch rfl (.tmp 92) (.tmp 101) 33 rfl w.heap.size 5 i0 (.int .u8 0) 1 1 Tryz.underlying33 hi hz0 hz1 hz2 rfl (by decide) S2 X2.length (flatU X2) rfl HF2.out.own y2.heap.size A2 Y2.length c2 (flatU Y2) rfl HX2.out (flatU_one _) (by unfold maxLen; omega) (by omega) (by have h1 := HF2.out.bw; have h2 := HF2.out.bel.size; omega) ?_); intro S3 x3 ho2 ht2 hv2; have E3 := HF2.out.app ho2 ht2 hv2; obtain ⟨Z3, hZ3⟩ : ∃ y, y = X2 ++ Y2 := ⟨_, rfl⟩; have hZl3 : Z3.length ≤ X2.length + 40 := (by rw [hZ3, List.length_append]; omega); rw [← hZ3] at E3; have HZZ3 := Lib.hid hZ3; clear ho2 ht2 hv2 HF2 HX2 hZ3)
       | fail)
      refine ⟨⟨k + 1, S3, hkt, by go_num, rfl, ?_, E3.bel⟩, measV hkt⟩
      have h8 := E3.own
      have e8 : X3 ++ osB (L.take (k + 1)) = Z3 := by rw [HSN.out, HZZ3.out, HXX2.out, HXX1.out, HY0.out, HY1.out, HY2.out]; rfl
      rw [e8]
      exact h8
     | true =>
      go_wp2_with fail
      have E0 := HE0.out
      have s0 : (wr.alloc (.cells #[.int .i64 id, .string who, .bool true, .int .i64 item, .int .i64 ct, .int .i64 pr] 38)).heap.size = wr.heap.size + 1 := by simp
      generalize (wr.alloc (.cells #[.int .i64 id, .string who, .bool true, .int .i64 item, .int .i64 ct, .int .i64 pr] 38)) = x0 at *
      clear y0 y1 y2 y3 y4 y5 HE0
      refine (refNum id _).mono ?_
      rintro e y0 ⟨v0, rfl, hown0, hb0⟩
      rw [encs_oneV] at hown0
      have F0 := E0
      replace F0 := F0.call hb0
      obtain ⟨Y0, hY0⟩ : ∃ y, y = encs [id] := ⟨_, rfl⟩
      have hYl0 : Y0.length ≤ 10 := by rw [hY0]; exact encs_leV _ 1 (by simp)
      rw [← hY0] at hown0
      have HY0 := Lib.hid hY0
      obtain ⟨A0, c0, rfl, hc0, hm0, hx0⟩ := row_cells hown0
      have HX0 := Lib.hid hx0
      have HF0 := Lib.hid F0
      clear hown0 hx0 hY0 F0 E0 hb0
      go_wp2_with (first
       | (at_builtin; go_must (refine wpList_append_touch rfl (.tmp 81) (.tmp 84) 33 rfl w.heap.size 5 i0 (.int .u8 0) 1 1 Tryz.underlying33 hi hz0 hz1 hz2 rfl (by decide) s X.length (flatU X) rfl HF0.out.own y0.heap.size A0 Y0.length c0 (flatU Y0) rfl HX0.out (flatU_one _) (by unfold maxLen; omega) (by omega) (by have h1 := HF0.out.bw; have h2 := HF0.out.bel.size; omega) ?_); intro S1 x1 ho0 ht0 hv0; have E1 := HF0.out.app ho0 ht0 hv0; have d1 := E1.q.cell 1; simp only [List.getElem?_toArray, List.getElem?_cons_succ, List.getElem?_cons_zero] at d1; obtain ⟨X1, hX1⟩ : ∃ y, y = X ++ Y0 := ⟨_, rfl⟩; have hXl1 : X1.length ≤ X.length + 10 := (by rw [hX1, List.length_append]; omega); rw [← hX1] at E1; have HXX1 := Lib.hid hX1; clear ho0 ht0 hv0 HF0 HX0 hX1)
       | fail)
      refine (refBytes (some ⟨x1.heap.size, 0, none⟩) _ who.size (bs who) _ (bs_length _) (by omega) (fun c => bw_cellsH x1 5 who c)).mono ?_
      rintro e y1 ⟨v1, rfl, hown1, hb1⟩
      rw [encb_oneV] at hown1
      have F1 := E1.call (bw_below x1 5 who)
      replace F1 := F1.call hb1
      obtain ⟨Y1, hY1⟩ : ∃ y, y = encb [bs who] := ⟨_, rfl⟩
      have hYl1 : Y1.length ≤ 26 := by rw [hY1]; exact encb_leV hss
      rw [← hY1] at hown1
      have HY1 := Lib.hid hY1
      obtain ⟨A1, c1, rfl, hc1, hm1, hx1⟩ := row_cells hown1
      have HX1 := Lib.hid hx1
      have HF1 := Lib.hid F1
      clear hown1 hx1 hY1 F1 E1 hb1
      go_wp2_with (first
       | (at_builtin; go_must (refine wpList_append_touch rfl (.tmp 86) (.tmp 90) 33 rfl w.heap.size 5 i0 (.int .u8 0) 1 1 Tryz.underlying33 hi hz0 hz1 hz2 rfl (by decide) S1 X1.length (flatU X1) rfl HF1.out.own y1.heap.size A1 Y1.length c1 (flatU Y1) rfl HX1.out (flatU_one _) (by unfold maxLen; omega) (by omega) (by have h1 := HF1.out.bw; have h2 := HF1.out.bel.size; omega) ?_); intro S2 x2 ho1 ht1 hv1; have E2 := HF1.out.app ho1 ht1 hv1; have d3 := E2.q.cell 3; have d4 := E2.q.cell 4; have d5 := E2.q.cell 5; simp only [List.getElem?_toArray, List.getElem?_cons_succ, List.getElem?_cons_zero] at d3 d4 d5; obtain ⟨X2, hX2⟩ : ∃ y, y = X1 ++ Y1 := ⟨_, rfl⟩; have hXl2 : X2.length ≤ X1.length + 26 := (by rw [hX2, List.length_append]; omega); rw [← hX2] at E2; have HXX2 := Lib.hid hX2; clear ho1 ht1 hv1 HF1 HX1 hX2)
       | fail)
      refine (refNums (some ⟨x2.heap.size, 0, none⟩) 4 [1, item, ct, pr] _ (by simp) (ints4 (by simp) (by exact tC) (by exact tC) (by exact tC) (by exact tC))).mono ?_
      rintro e y2 ⟨v2, rfl, hown2, hb2⟩
      have F2 := E2.call ((Below.refl _ _).alloc (Nat.le_refl _) (.cells #[.int .i64 1, .int .i64 item, .int .i64 ct, .int .i64 pr] 3))
      replace F2 := F2.call hb2
      obtain ⟨Y2, hY2⟩ : ∃ y, y = encs [1, item, ct, pr] := ⟨_, rfl⟩
      have hYl2 : Y2.length ≤ 40 := by rw [hY2]; exact encs_leV _ 4 (by simp)
      rw [← hY2] at hown2
      have HY2 := Lib.hid hY2
      obtain ⟨A2, c2, rfl, hc2, hm2, hx2⟩ := row_cells hown2
      have HX2 := Lib.hid hx2
      have HF2 := Lib.hid F2
      clear hown2 hx2 hY2 F2 E2 hb2
      go_wp2_with (first
       | (at_builtin; go_must (refine wpList_append_touch rfl (.tmp 92) (.tmp 101) 33 rfl w.heap.size 5 i0 (.int .u8 0) 1 1 Tryz.underlying33 hi hz0 hz1 hz2 rfl (by decide) S2 X2.length (flatU X2) rfl HF2.out.own y2.heap.size A2 Y2.length c2 (flatU Y2) rfl HX2.out (flatU_one _) (by unfold maxLen; omega) (by omega) (by have h1 := HF2.out.bw; have h2 := HF2.out.bel.size; omega) ?_); intro S3 x3 ho2 ht2 hv2; have E3 := HF2.out.app ho2 ht2 hv2; obtain ⟨Z3, hZ3⟩ : ∃ y, y = X2 ++ Y2 := ⟨_, rfl⟩; have hZl3 : Z3.length ≤ X2.length + 40 := (by rw [hZ3, List.length_append]; omega); rw [← hZ3] at E3; have HZZ3 := Lib.hid hZ3; clear ho2 ht2 hv2 HF2 HX2 hZ3)
       | fail)
      refine ⟨⟨k + 1, S3, hkt, by go_num, rfl, ?_, E3.bel⟩, measV hkt⟩
      have h8 := E3.own
      have e8 : X3 ++ osB (L.take (k + 1)) = Z3 := by rw [HSN.out, HZZ3.out, HXX2.out, HXX1.out, HY0.out, HY1.out, HY2.out]; rfl
      rw [e8]
      exact h8
    ·
     obtain rfl : L.length = k := by omega
     rw [List.take_length] at hO
     have hxo : (osB L).length ≤ 2432 := by have := osB_len L HWHO.out; omega
     obtain ⟨X4, hX4⟩ : ∃ y, y = X3 ++ osB L := ⟨_, rfl⟩
     have hXl4 : X4.length ≤ 23000 := by rw [hX4, List.length_append]; omega
     rw [← hX4] at hO
     have HX4 := Lib.hid hX4
     have HOX := Lib.hid hO
     have HB := Lib.hid hB
     have m2 := bkeep hB k2 hdl
     clear hX4 hO hB
     go_wp2_with fail
     refine (refNum nx _).mono ?_
     rintro e w2 ⟨v2, rfl, hown2, hb2⟩
     rw [encs_oneV] at hown2
     obtain ⟨Y5, hY5⟩ : ∃ y, y = encs [nx] := ⟨_, rfl⟩
     have hYl5 : Y5.length ≤ 10 := by rw [hY5]; exact encs_leV _ 1 (by simp)
     rw [← hY5] at hown2
     have HY5 := Lib.hid hY5
     obtain ⟨A5, c5, rfl, hc5, hm5, hx5⟩ := row_cells hown2
     have HX5 := Lib.hid hx5
     have HO5 := Lib.hid (row_belowV HOX.out hb2)
     have HB5 : Hid (Below w.heap.size w w2) := Lib.hid (HB.out.trans (hb2.mono hBs))
     have hs5 := HB5.out.size
     clear hown2 hx5 hY5 hb2 HOX m2
     go_wp2_with (first
      | (at_builtin; go_must (refine wpList_append_row rfl (.tmp 103) (.tmp 108) 33 rfl w.heap.size 5 i0 (.int .u8 0) 1 1 Tryz.underlying33 hi hz0 hz1 hz2 rfl (by decide) s X4.length (flatU X4) rfl HO5.out w2.heap.size A5 Y5.length c5 (flatU Y5) rfl HX5.out (flatU_one _) (by unfold maxLen; omega) (by omega) hs5 ?_); intro v6 w6 hown6 hb6; have HO6 := Lib.hid hown6; have HB6 := Lib.hid (HB5.out.trans hb6); clear hown6 hb6 HO5 HX5)
      | fail)
     go_ret
     have h6 := HO6.out
     rw [← flatU_app, ← List.length_append, HX4.out, HY5.out, HX3.out, HY3.out, HX.out, HHH.out] at h6
     refine ⟨_, rfl, ?_, HB6.out⟩
     rw [HRR.out, vB]
     exact h6
end Go.Proofs.YtdlbiobjnohfbaaGreat
