/- The document's Encode, of any map of moderate size. -/
import Derived.Test.YtbohpjinkdffhaaProg
import Derived.WalkKit
import Derived.WalkSpells
import Derived.WalkLawsBesides
import Derived.Deep.QuietTactic
import Derived.BigQuiet
import Derived.RegionTactic
import Derived.BigRegion
import Derived.Outline
import Derived.LoopTactic
import Derived.Lib.Hide
import Derived.Deep.RegionHeld3
import Derived.Laws.AppendOwnNone
import Derived.Deep.AppendLies
import Derived.Deep.Light
import Derived.Lib.VarintBits
import Derived.Deep.Heap
import Derived.Maps.AppendAt
import Derived.Laws.Rows
import Derived.IntWalk
import Derived.Lib.ConvBytes
import Derived.Lib.AtoiErrMem
import GoSem.Op.String
import Derived.Lib.Strings
import Derived.Deep.Cut
import Derived.StillTailTactics
import Derived.Deep.Onto
import Derived.Laws.IdiomCopy
import Derived.Lib.AppendZerosOnto
import Derived.Lib.Overlaps
import Derived.Lib.ReflectliteSwap
import Derived.Deep.RegionLaw
import Derived.Deep.DeepCutAuto
import Derived.Laws.EntriesVeiled
import Derived.Lib.SliceRun
import Derived.Laws.BytesArg
import Derived.Test.YtbohpjinkdffhaaDbu0
import Derived.Test.YtbohpjinkdffhaaDbu1
import Derived.Test.YtbohpjinkdffhaaDbu2
import Derived.Test.YtbohpjinkdffhaaDbu3
import Derived.Test.YtbohpjinkdffhaaDbu4
import Derived.Test.YtbohpjinkdffhaaDbu5
import Derived.Test.YtbohpjinkdffhaaDbu6
import Derived.Test.YtbohpjinkdffhaaDbu7
import Derived.Test.YtbohpjinkdffhaaDbu8
import Derived.Test.YtbohpjinkdffhaaDbu9
import Derived.Test.YtbohpjinkdffhaaDbu10
import Derived.Test.YtbohpjinkdffhaaDbu11
import Derived.Test.YtbohpjinkdffhaaDbu12
import Derived.Test.YtbohpjinkdffhaaDbu13
import Derived.Test.YtbohpjinkdffhaaDbu14
import Derived.Test.YtbohpjinkdffhaaDbu15
import Derived.Test.YtbohpjinkdffhaaDbu16
import Derived.Test.YtbohpjinkdffhaaDbu17
import Derived.Test.YtbohpjinkdffhaaDbu18
import Derived.Test.YtbohpjinkdffhaaDbu19
import Derived.Test.YtbohpjinkdffhaaDbu20
import Derived.Test.YtbohpjinkdffhaaDbu21
import Derived.Test.YtbohpjinkdffhaaDbu22
import Derived.Test.YtbohpjinkdffhaaDbu24
import Derived.Test.YtbohpjinkdffhaaDbu31
import Derived.Test.YtbohpjinkdffhaaDbu32
import Derived.Test.YtbohpjinkdffhaaDbu34
import Derived.Test.YtbohpjinkdffhaaDbu35
import Derived.Test.YtbohpjinkdffhaaDbu36
import Derived.Test.YtbohpjinkdffhaaDbu37
namespace Go.Proofs.Ytbohpjinkdffhaa
open Go.RowKit
set_option linter.unusedVariables false
set_option linter.unusedSimpArgs false
/-- a row of bytes that grows beside a box -/
structure ES (b1 g : Nat) (w1 : World) (t : TypeId) (cs : Array Value) (x : World) (s : Value) (L : List Nat) : Prop where
  own : x.ownsRow b1 5 1 s L.length (flatU L)
  q : Whl x g t cs
  ne : ∀ q, s.ownBlock = some q → q ≠ g
  bel : Below b1 w1 x
  bw : b1 ≤ w1.heap.size
theorem ES.call {b1 g : Nat} {w1 x x' : World} {t : TypeId} {cs : Array Value} {s : Value} {L : List Nat} (h : ES b1 g w1 t cs x s L) (hb : Below x.heap.size x x') : ES b1 g w1 t cs x' s L :=
  ⟨row_below h.own hb, h.q.below hb h.q.low, h.ne, h.bel.trans (hb.mono (Nat.le_trans h.bw h.bel.size)), h.bw⟩
theorem ES.app {b1 g : Nat} {w1 x x' : World} {t : TypeId} {cs : Array Value} {s s' : Value} {L y : List Nat} (h : ES b1 g w1 t cs x s L) (ho : x'.ownsRow b1 5 1 s' (L.length + y.length) (flatU L ++ flatU y)) (ht : Touch (fun k => s.ownBlock = some k) x x') (hv : s'.ownBlock = s.ownBlock ∨ s'.ownBlock = some x.heap.size) : ES b1 g w1 t cs x' s' (L ++ y) := by
  refine ⟨by rw [List.length_append, flatU_app]; exact ho, (ht.block g h.q.low (fun e => h.ne g e rfl)).trans h.q, fun q hq e => ?_, h.bel.trans (ht.below (B := b1) (Nat.le_trans h.bw h.bel.size) (fun k hk => (h.own.lt k hk).1)), h.bw⟩
  subst e
  rcases hv with hv | hv
  · exact h.ne q (by rw [← hv]; exact hq) rfl
  · rw [hv] at hq
    injection hq with hq
    have := h.q.low
    omega
theorem encs_one (n : Int) : enc (clamp n) = encs [n] := by simp [encs]
set_option maxHeartbeats 8000000 in
set_option maxRecDepth 10000 in
theorem rdEncode (A : Option Addr) (cc : Nat) (m : Mp) (w : World) (h : Cells w w.heap.size A m.zs.length cc 9 (flatZ m.zs)) (hsm : SmZ m) :
    Calls Try.prog 20 #[.agg #[.int .i64 m.ver, .int .i64 m.nxt, .slice A m.zs.length cc]] w fun e w' => ∃ v', e = .returned v' ∧ w'.ownsRow w.heap.size 5 1 v' (mBs m).length (flatU (mBs m)) ∧ Below w.heap.size w w' := by
  have cv : ∀ (w : World) (s : ByteArray), (convert 9 50 (.string s)).run Try.prog w = .ok (.slice (some ⟨w.heap.size, 0, none⟩) s.size (grownCap w s.size 0 5)) (Lib.bytesWorld w 5 s) := fun w s => Lib.run_convert_string_bytes w _ _ _ s Try.underlying9 Try.underlying50 Try.underlying5
  obtain ⟨i0, hi, hz0, hz1, hz2⟩ := info_parts Try.infoByte
  have HR := Lib.hid h
  have HSM := Lib.hid hsm
  have hl60 := hsm.len
  obtain ⟨H, hH⟩ : ∃ H, H = encs [m.ver, m.nxt, (m.zs.length : Int)] := ⟨_, rfl⟩
  have hHl : H.length ≤ 30 := by rw [hH]; exact encs_le _ 3 (by simp)
  have HH := Lib.hid hH
  have hE : mBs m = H ++ zsBs m.zs := by rw [hH, mBs]
  obtain ⟨R, hR⟩ : ∃ R, R = mBs m := ⟨_, rfl⟩
  rw [← hR] at hE
  rw [← hR]
  have HE := Lib.hid hE
  clear h hsm hE hR hH
  go_enter Try.func20, Try.ntmps20
  go_wp2_with fail
  have hB0 : Below w.heap.size w (w.alloc (.cells #[.int .i64 m.ver, .int .i64 m.nxt, .slice A m.zs.length cc] 33)) := (Below.refl _ _).alloc (Nat.le_refl _) _
  have P0 : Whl (w.alloc (.cells #[.int .i64 m.ver, .int .i64 m.nxt, .slice A m.zs.length cc] 33)) w.heap.size 33 #[.int .i64 m.ver, .int .i64 m.nxt, .slice A m.zs.length cc] := Whl.new rfl
  have hs0 : (w.alloc (.cells #[.int .i64 m.ver, .int .i64 m.nxt, .slice A m.zs.length cc] 33)).heap.size = w.heap.size + 1 := by simp
  generalize (w.alloc (.cells #[.int .i64 m.ver, .int .i64 m.nxt, .slice A m.zs.length cc] 33)) = V at *
  have HI : Whl (V.alloc (.cells #[.int .i64 m.ver, .int .i64 m.nxt, .int .i64 m.zs.length] 3)) V.heap.size 3 #[.int .i64 m.ver, .int .i64 m.nxt, .int .i64 m.zs.length] := Whl.new rfl
  rw [hs0] at HI
  refine (refNums (some ⟨w.heap.size + 1, 0, none⟩) 3 [m.ver, m.nxt, (m.zs.length : Int)] _ (by simp) (ints3_of HI (by simp [hs0]))).mono ?_
  rintro e w1 ⟨v1, rfl, hown1, hb1⟩
  rw [← HH.out] at hown1
  have hs1 := hb1.size
  simp [hs0] at hs1
  have hb2 : Below V.heap.size V w1 := ((Below.refl _ _).alloc (Nat.le_refl _) _).trans (hb1.mono (by simp))
  have P1 := P0.below hb2 (by omega)
  have HB1 := Lib.hid (hB0.trans (hb2.mono (by omega)))
  have HO1 : Hid (w1.ownsRow (w.heap.size + 1) 5 1 v1 H.length (flatU H)) := Lib.hid (hown1.mono (by simp [hs0]))
  have HP1 := Lib.hid P1
  clear hown1 hb1 hb2 P0 hB0 HI P1
  go_wp2_with fail
  go_loopw [3, 4] (fun sv kv wr => ∃ (k : Nat) (s : Value), k ≤ m.zs.length ∧ kv = .int .i64 k ∧ s = sv ∧ wr.ownsRow (w.heap.size + 1) 5 1 s (H ++ zsBs (m.zs.take k)).length (flatU (H ++ zsBs (m.zs.take k))) ∧ Below (w.heap.size + 1) w1 wr) (fun _ kv _ => m.zs.length - (intOf kv).toNat)
  case atStart => exact ⟨0, _, Nat.zero_le _, rfl, rfl, by simpa [zsBs] using HO1.out, Below.refl _ _⟩
  case round =>
    obtain ⟨k, s, hkl, rfl, rfl, hO, hT⟩ := hrel
    have hw1r := hT.size
    have hP := HP1.out.below hT (by omega)
    have hbr := HB1.out.trans (hT.mono (show w.heap.size ≤ w.heap.size + 1 by omega))
    have hr := cells_keep HR.out hbr hbr.size
    clear hbr
    have d2 := hP.cell 2
    simp only [List.getElem?_toArray, List.getElem?_cons_succ, List.getElem?_cons_zero] at d2
    by_cases hkt : k < m.zs.length
    · have q5 : (k : Int) < (m.zs.length : Int) := by omega
      have hwk : IntKind.i64.wrap ((k : Int) + 1) = (k : Int) + 1 := by rw [IntKind.wrap_i64]; omega
      obtain ⟨z, hz⟩ : ∃ z, z = m.zs[k] := ⟨_, rfl⟩
      obtain ⟨gz, go, rfl, hgz, u0, u1, u2, u3, u4, u5, u6, u7, u8⟩ := zn_at hr hkt
      rw [← hz] at u0 u1 u2 u3 u4 u5 u6 u7 u8
      have hxl := zsBs_take HSM.out k
      have hsn := zsBs_snoc hkt
      rw [← hz] at hsn
      have ht := HSM.out.txt z (by rw [hz]; exact List.getElem_mem hkt)
      obtain ⟨hfs, hts, hks⟩ := ht
      obtain ⟨X, hX⟩ : ∃ X, X = H ++ zsBs (m.zs.take k) := ⟨_, rfl⟩
      have hXl : X.length ≤ 42030 := by rw [hX, List.length_append]; omega
      rw [← hX] at hO
      have HSN : Hid (H ++ zsBs (m.zs.take (k + 1)) = X ++ zBs z) := Lib.hid (by rw [hsn, hX, List.append_assoc])
      have E0' : ES (w.heap.size + 1) wr.heap.size w1 39 #[.int .i64 z.id, .string z.fr, .string z.tt, .int .i64 z.ow, .int .i64 z.ep, .int .i64 z.pd, .int .i64 z.mv, .string z.ky, .int .i64 z.nw] (wr.alloc (.cells #[.int .i64 z.id, .string z.fr, .string z.tt, .int .i64 z.ow, .int .i64 z.ep, .int .i64 z.pd, .int .i64 z.mv, .string z.ky, .int .i64 z.nw] 39)) s X := ⟨hO.alloc _, Whl.new rfl, fun q hq e => by (have := (hO.lt q hq).2; omega), hT.alloc (by omega) _, by omega⟩
      have HE0 := Lib.hid E0'
      clear hr hz hX hsn hO hT E0' hP
      go_wp2_with fail
      have E0 := HE0.out
      have s0 : (wr.alloc (.cells #[.int .i64 z.id, .string z.fr, .string z.tt, .int .i64 z.ow, .int .i64 z.ep, .int .i64 z.pd, .int .i64 z.mv, .string z.ky, .int .i64 z.nw] 39)).heap.size = wr.heap.size + 1 := by simp
      generalize (wr.alloc (.cells #[.int .i64 z.id, .string z.fr, .string z.tt, .int .i64 z.ow, .int .i64 z.ep, .int .i64 z.pd, .int .i64 z.mv, .string z.ky, .int .i64 z.nw] 39)) = x0 at *
      clear u0 u1 u2 u3 u4 u5 u6 u7 u8 HE0
      refine (refNum z.id _).mono ?_
      rintro e y0 ⟨v0, rfl, hown0, hb0⟩
      rw [encs_one] at hown0
      have F0 := E0
      replace F0 := F0.call hb0
      obtain ⟨Y0, hY0⟩ : ∃ y, y = encs [z.id] := ⟨_, rfl⟩
      have hYl0 : Y0.length ≤ 210 := by have := encs_le [z.id] 1 (by simp); rw [hY0]; omega
      rw [← hY0] at hown0
      have HY0 := Lib.hid hY0
      obtain ⟨A0, c0, rfl, hc0, hm0, hx0⟩ := row_cells hown0
      have HX0 := Lib.hid hx0
      have HF0 := Lib.hid F0
      clear hown0 hx0 hY0 F0 E0 hb0
      go_wp2_with (first
        | (at_builtin; go_must (refine wpList_append_touch rfl (.tmp 27) (.tmp 30) 50 rfl (w.heap.size + 1) 5 i0 (.int .u8 0) 1 1 Try.underlying50 hi hz0 hz1 hz2 rfl (by decide) s X.length (flatU X) rfl HF0.out.own y0.heap.size A0 Y0.length c0 (flatU Y0) rfl HX0.out (flatU_one _) (by unfold maxLen; omega) (by omega) (by have h1 := HF0.out.bw; have h2 := HF0.out.bel.size; omega) ?_); intro S1 x1 ho0 ht0 hv0; have E1 := HF0.out.app ho0 ht0 hv0; have d1 := E1.q.cell 1; simp only [List.getElem?_toArray, List.getElem?_cons_succ, List.getElem?_cons_zero] at d1; obtain ⟨X1, hX1⟩ : ∃ y, y = X ++ Y0 := ⟨_, rfl⟩; have hXl1 : X1.length ≤ X.length + 210 := (by rw [hX1, List.length_append]; omega); rw [← hX1] at E1; have HXX1 := Lib.hid hX1; clear ho0 ht0 hv0 HF0 HX0 hX1)
        | fail)
      refine (refBytes (some ⟨x1.heap.size, 0, none⟩) _ z.fr.size (bs z.fr) _ (bs_length _) (by omega) (fun c => bw_cellsH x1 5 z.fr c)).mono ?_
      rintro e y1 ⟨v1, rfl, hown1, hb1⟩
      rw [encb_one] at hown1
      have F1 := E1.call (bw_below x1 5 z.fr)
      replace F1 := F1.call hb1
      obtain ⟨Y1, hY1⟩ : ∃ y, y = encb [bs z.fr] := ⟨_, rfl⟩
      have hYl1 : Y1.length ≤ 210 := by have := encb_le1 (s := z.fr) (by omega); rw [hY1]; omega
      rw [← hY1] at hown1
      have HY1 := Lib.hid hY1
      obtain ⟨A1, c1, rfl, hc1, hm1, hx1⟩ := row_cells hown1
      have HX1 := Lib.hid hx1
      have HF1 := Lib.hid F1
      clear hown1 hx1 hY1 F1 E1 hb1
      go_wp2_with (first
        | (at_builtin; go_must (refine wpList_append_touch rfl (.tmp 32) (.tmp 37) 50 rfl (w.heap.size + 1) 5 i0 (.int .u8 0) 1 1 Try.underlying50 hi hz0 hz1 hz2 rfl (by decide) S1 X1.length (flatU X1) rfl HF1.out.own y1.heap.size A1 Y1.length c1 (flatU Y1) rfl HX1.out (flatU_one _) (by unfold maxLen; omega) (by omega) (by have h1 := HF1.out.bw; have h2 := HF1.out.bel.size; omega) ?_); intro S2 x2 ho1 ht1 hv1; have E2 := HF1.out.app ho1 ht1 hv1; have d2 := E2.q.cell 2; simp only [List.getElem?_toArray, List.getElem?_cons_succ, List.getElem?_cons_zero] at d2; obtain ⟨X2, hX2⟩ : ∃ y, y = X1 ++ Y1 := ⟨_, rfl⟩; have hXl2 : X2.length ≤ X1.length + 210 := (by rw [hX2, List.length_append]; omega); rw [← hX2] at E2; have HXX2 := Lib.hid hX2; clear ho1 ht1 hv1 HF1 HX1 hX2)
        | fail)
      refine (refBytes (some ⟨x2.heap.size, 0, none⟩) _ z.tt.size (bs z.tt) _ (bs_length _) (by omega) (fun c => bw_cellsH x2 5 z.tt c)).mono ?_
      rintro e y2 ⟨v2, rfl, hown2, hb2⟩
      rw [encb_one] at hown2
      have F2 := E2.call (bw_below x2 5 z.tt)
      replace F2 := F2.call hb2
      obtain ⟨Y2, hY2⟩ : ∃ y, y = encb [bs z.tt] := ⟨_, rfl⟩
      have hYl2 : Y2.length ≤ 210 := by have := encb_le1 (s := z.tt) (by omega); rw [hY2]; omega
      rw [← hY2] at hown2
      have HY2 := Lib.hid hY2
      obtain ⟨A2, c2, rfl, hc2, hm2, hx2⟩ := row_cells hown2
      have HX2 := Lib.hid hx2
      have HF2 := Lib.hid F2
      clear hown2 hx2 hY2 F2 E2 hb2
      go_wp2_with (first
        | (at_builtin; go_must (refine wpList_append_touch rfl (.tmp 39) (.tmp 44) 50 rfl (w.heap.size + 1) 5 i0 (.int .u8 0) 1 1 Try.underlying50 hi hz0 hz1 hz2 rfl (by decide) S2 X2.length (flatU X2) rfl HF2.out.own y2.heap.size A2 Y2.length c2 (flatU Y2) rfl HX2.out (flatU_one _) (by unfold maxLen; omega) (by omega) (by have h1 := HF2.out.bw; have h2 := HF2.out.bel.size; omega) ?_); intro S3 x3 ho2 ht2 hv2; have E3 := HF2.out.app ho2 ht2 hv2; have d3 := E3.q.cell 3; have d4 := E3.q.cell 4; have d5 := E3.q.cell 5; have d6 := E3.q.cell 6; simp only [List.getElem?_toArray, List.getElem?_cons_succ, List.getElem?_cons_zero] at d3 d4 d5 d6; obtain ⟨X3, hX3⟩ : ∃ y, y = X2 ++ Y2 := ⟨_, rfl⟩; have hXl3 : X3.length ≤ X2.length + 210 := (by rw [hX3, List.length_append]; omega); rw [← hX3] at E3; have HXX3 := Lib.hid hX3; clear ho2 ht2 hv2 HF2 HX2 hX3)
        | fail)
      have HI : Whl (x3.alloc (.cells #[.int .i64 z.ow, .int .i64 z.ep, .int .i64 z.pd, .int .i64 z.mv] 3)) x3.heap.size 3 #[.int .i64 z.ow, .int .i64 z.ep, .int .i64 z.pd, .int .i64 z.mv] := Whl.new rfl
      refine (refNums (some ⟨x3.heap.size, 0, none⟩) 4 [z.ow, z.ep, z.pd, z.mv] _ (by simp) (ints4_of HI (by simp))).mono ?_
      rintro e y3 ⟨v3, rfl, hown3, hb3⟩
      have F3 := E3.call ((Below.refl _ _).alloc (Nat.le_refl _) (.cells #[.int .i64 z.ow, .int .i64 z.ep, .int .i64 z.pd, .int .i64 z.mv] 3)); clear HI
      replace F3 := F3.call hb3
      obtain ⟨Y3, hY3⟩ : ∃ y, y = encs [z.ow, z.ep, z.pd, z.mv] := ⟨_, rfl⟩
      have hYl3 : Y3.length ≤ 210 := by have := encs_le [z.ow, z.ep, z.pd, z.mv] 4 (by simp); rw [hY3]; omega
      rw [← hY3] at hown3
      have HY3 := Lib.hid hY3
      obtain ⟨A3, c3, rfl, hc3, hm3, hx3⟩ := row_cells hown3
      have HX3 := Lib.hid hx3
      have HF3 := Lib.hid F3
      clear hown3 hx3 hY3 F3 E3 hb3
      go_wp2_with (first
        | (at_builtin; go_must (refine wpList_append_touch rfl (.tmp 46) (.tmp 56) 50 rfl (w.heap.size + 1) 5 i0 (.int .u8 0) 1 1 Try.underlying50 hi hz0 hz1 hz2 rfl (by decide) S3 X3.length (flatU X3) rfl HF3.out.own y3.heap.size A3 Y3.length c3 (flatU Y3) rfl HX3.out (flatU_one _) (by unfold maxLen; omega) (by omega) (by have h1 := HF3.out.bw; have h2 := HF3.out.bel.size; omega) ?_); intro S4 x4 ho3 ht3 hv3; have E4 := HF3.out.app ho3 ht3 hv3; have d7 := E4.q.cell 7; simp only [List.getElem?_toArray, List.getElem?_cons_succ, List.getElem?_cons_zero] at d7; obtain ⟨X4, hX4⟩ : ∃ y, y = X3 ++ Y3 := ⟨_, rfl⟩; have hXl4 : X4.length ≤ X3.length + 210 := (by rw [hX4, List.length_append]; omega); rw [← hX4] at E4; have HXX4 := Lib.hid hX4; clear ho3 ht3 hv3 HF3 HX3 hX4)
        | fail)
      refine (refBytes (some ⟨x4.heap.size, 0, none⟩) _ z.ky.size (bs z.ky) _ (bs_length _) (by omega) (fun c => bw_cellsH x4 5 z.ky c)).mono ?_
      rintro e y4 ⟨v4, rfl, hown4, hb4⟩
      rw [encb_one] at hown4
      have F4 := E4.call (bw_below x4 5 z.ky)
      replace F4 := F4.call hb4
      obtain ⟨Y4, hY4⟩ : ∃ y, y = encb [bs z.ky] := ⟨_, rfl⟩
      have hYl4 : Y4.length ≤ 210 := by have := encb_le1 (s := z.ky) (by omega); rw [hY4]; omega
      rw [← hY4] at hown4
      have HY4 := Lib.hid hY4
      obtain ⟨A4, c4, rfl, hc4, hm4, hx4⟩ := row_cells hown4
      have HX4 := Lib.hid hx4
      have HF4 := Lib.hid F4
      clear hown4 hx4 hY4 F4 E4 hb4
      go_wp2_with (first
        | (at_builtin; go_must (refine wpList_append_touch rfl (.tmp 58) (.tmp 62) 50 rfl (w.heap.size + 1) 5 i0 (.int .u8 0) 1 1 Try.underlying50 hi hz0 hz1 hz2 rfl (by decide) S4 X4.length (flatU X4) rfl HF4.out.own y4.heap.size A4 Y4.length c4 (flatU Y4) rfl HX4.out (flatU_one _) (by unfold maxLen; omega) (by omega) (by have h1 := HF4.out.bw; have h2 := HF4.out.bel.size; omega) ?_); intro S5 x5 ho4 ht4 hv4; have E5 := HF4.out.app ho4 ht4 hv4; have d8 := E5.q.cell 8; simp only [List.getElem?_toArray, List.getElem?_cons_succ, List.getElem?_cons_zero] at d8; obtain ⟨X5, hX5⟩ : ∃ y, y = X4 ++ Y4 := ⟨_, rfl⟩; have hXl5 : X5.length ≤ X4.length + 210 := (by rw [hX5, List.length_append]; omega); rw [← hX5] at E5; have HXX5 := Lib.hid hX5; clear ho4 ht4 hv4 HF4 HX4 hX5)
        | fail)
      refine (refNum z.nw _).mono ?_
      rintro e y5 ⟨v5, rfl, hown5, hb5⟩
      rw [encs_one] at hown5
      have F5 := E5
      replace F5 := F5.call hb5
      obtain ⟨Y5, hY5⟩ : ∃ y, y = encs [z.nw] := ⟨_, rfl⟩
      have hYl5 : Y5.length ≤ 210 := by have := encs_le [z.nw] 1 (by simp); rw [hY5]; omega
      rw [← hY5] at hown5
      have HY5 := Lib.hid hY5
      obtain ⟨A5, c5, rfl, hc5, hm5, hx5⟩ := row_cells hown5
      have HX5 := Lib.hid hx5
      have HF5 := Lib.hid F5
      clear hown5 hx5 hY5 F5 E5 hb5
      go_wp2_with (first
        | (at_builtin; go_must (refine wpList_append_touch rfl (.tmp 64) (.tmp 67) 50 rfl (w.heap.size + 1) 5 i0 (.int .u8 0) 1 1 Try.underlying50 hi hz0 hz1 hz2 rfl (by decide) S5 X5.length (flatU X5) rfl HF5.out.own y5.heap.size A5 Y5.length c5 (flatU Y5) rfl HX5.out (flatU_one _) (by unfold maxLen; omega) (by omega) (by have h1 := HF5.out.bw; have h2 := HF5.out.bel.size; omega) ?_); intro S6 x6 ho5 ht5 hv5; have E6 := HF5.out.app ho5 ht5 hv5; obtain ⟨X6, hX6⟩ : ∃ y, y = X5 ++ Y5 := ⟨_, rfl⟩; have hXl6 : X6.length ≤ X5.length + 210 := (by rw [hX6, List.length_append]; omega); rw [← hX6] at E6; have HXX6 := Lib.hid hX6; clear ho5 ht5 hv5 HF5 HX5 hX6)
        | fail)
      refine ⟨⟨k + 1, _, hkt, by go_num, rfl, ?_, E6.bel⟩, measZ hkt⟩
      rw [HSN.out]
      have e6 : X6 = X ++ zBs z := by rw [HXX6.out, HXX5.out, HXX4.out, HXX3.out, HXX2.out, HXX1.out, HY0.out, HY1.out, HY2.out, HY3.out, HY4.out, HY5.out]; simp [zBs, encb, List.append_assoc]
      rw [← e6]
      exact E6.own
    · obtain rfl : m.zs.length = k := by omega
      rw [List.take_length, ← HE.out] at hO
      have HO := Lib.hid hO
      have HBF := Lib.hid (HB1.out.trans (hT.mono (by omega)))
      clear hO hT hr hP
      go_wp2_with fail
      go_ret
      exact ⟨_, rfl, HO.out.mono (by omega), HBF.out⟩
end Go.Proofs.Ytbohpjinkdffhaa
