/- The code's mayMap, of any map. -/
import Derived.Test.YtepjehcmiofehaaGreatPq16
import Derived.Test.YtepjehcmiofehaaGreatPq17
namespace Go.Proofs.YtepjehcmiofehaaGreat
open Go.RowKit Go.MapKept
set_option linter.unusedVariables false
set_option linter.unusedSimpArgs false
set_option maxHeartbeats 8000000 in
set_option maxRecDepth 10000 in
theorem drMayMap (B : Nat) (zv : Value) (m : Mp) (w : World) (h : w.ownsRow B 56 9 zv m.zs.length (flatZ m.zs)) (hl : m.zs.length ≤ 1000) {b : Bool} (hb : b = true ↔ MayP m) :
    Calls Tryz.prog 50 #[.agg #[.int .i64 m.ver, .int .i64 m.nxt, zv]] w fun e w' => e = .returned (.bool b) ∧ Below w.heap.size w w' := by
  have HR := Lib.hid h
  have HNB : Hid (¬ MayP m → b = false) := Lib.hid (no_of hb)
  have HYB : Hid (MayP m → b = true) := Lib.hid hb.2
  obtain ⟨i0, hi0, hz0, hz1, hz2⟩ := info_parts Tryz.infoSpan2
  obtain ⟨A, cc, hzv, _, hnc, hcm⟩ := own_slice h
  subst hzv
  clear h hb
  by_cases c1 : 1 ≤ m.ver ∧ m.ver ≤ 1099511627776
  case neg =>
    have C1 := Lib.hid c1
    have VB : Hid (decide (1 ≤ m.ver ∧ m.ver ≤ 1099511627776) = false) := Lib.hid (decide_eq_false c1)
    clear c1
    go_enter Tryz.func50, Tryz.ntmps50
    go_wp2_with (first
      | (go_at_call 68; refine (drWithin _ _ _ _).mono ?_; rintro e w3 ⟨rfl, rfl⟩; first | rw [VB.out])
      | fail)
    go_ret
    exact ⟨ret_bool (HNB.out (fun h => C1.out ⟨h.v1, h.v2⟩)).symm, by ((repeat (first | (with_reducible exact Below.refl _ _) | (with_reducible assumption) | ((with_reducible refine b_set ?_ ?_); · (first | omega | (simp; done) | (simp; omega))) | ((with_reducible refine b_alloc ?_ ?_); · (first | omega | (simp; done) | (simp; omega))) | (with_reducible refine Below.drew ?_) | (with_reducible refine b_drewN ?_) | ((with_reducible refine b_call (by assumption) ?_ ?_); · (first | omega | (simp; done) | (simp; omega))))); done)⟩
  have C1 := Lib.hid c1
  have VB : Hid (decide (1 ≤ m.ver ∧ m.ver ≤ 1099511627776) = true) := Lib.hid (decide_eq_true c1)
  clear c1
  by_cases c2 : 1 ≤ m.nxt ∧ m.nxt ≤ 1099511627776
  case neg =>
    have C2 := Lib.hid c2
    have NB : Hid (decide (1 ≤ m.nxt ∧ m.nxt ≤ 1099511627776) = false) := Lib.hid (decide_eq_false c2)
    clear c2
    go_enter Tryz.func50, Tryz.ntmps50
    go_wp2_with (first
      | (go_at_call 68; refine (drWithin _ _ _ _).mono ?_; rintro e w3 ⟨rfl, rfl⟩; first | rw [NB.out] | rw [VB.out])
      | fail)
    go_ret
    exact ⟨ret_bool (HNB.out (fun h => C2.out ⟨h.n1, h.n2⟩)).symm, by ((repeat (first | (with_reducible exact Below.refl _ _) | (with_reducible assumption) | ((with_reducible refine b_set ?_ ?_); · (first | omega | (simp; done) | (simp; omega))) | ((with_reducible refine b_alloc ?_ ?_); · (first | omega | (simp; done) | (simp; omega))) | (with_reducible refine Below.drew ?_) | (with_reducible refine b_drewN ?_) | ((with_reducible refine b_call (by assumption) ?_ ?_); · (first | omega | (simp; done) | (simp; omega))))); done)⟩
  have C2 := Lib.hid c2
  have NB : Hid (decide (1 ≤ m.nxt ∧ m.nxt ≤ 1099511627776) = true) := Lib.hid (decide_eq_true c2)
  have hnw : 1 ≤ m.nxt ∧ m.nxt ≤ 1099511627776 := c2
  clear c2
  by_cases c3 : (16 : Int) < (m.zs.length : Int)
  case pos =>
    have C3 := Lib.hid c3
    go_enter Tryz.func50, Tryz.ntmps50
    go_wp2_with (first
      | (go_at_call 68; refine (drWithin _ _ _ _).mono ?_; rintro e w3 ⟨rfl, rfl⟩; first | rw [NB.out] | rw [VB.out])
      | fail)
    go_ret
    exact ⟨ret_bool (HNB.out (fun h => by (have := h.len; have := C3.out; omega))).symm, by ((repeat (first | (with_reducible exact Below.refl _ _) | (with_reducible assumption) | ((with_reducible refine b_set ?_ ?_); · (first | omega | (simp; done) | (simp; omega))) | ((with_reducible refine b_alloc ?_ ?_); · (first | omega | (simp; done) | (simp; omega))) | (with_reducible refine Below.drew ?_) | (with_reducible refine b_drewN ?_) | ((with_reducible refine b_call (by assumption) ?_ ?_); · (first | omega | (simp; done) | (simp; omega))))); done)⟩
  have hl16 : m.zs.length ≤ 16 := by omega
  have hmm := @run_makeMap Tryz.prog
  go_enter Tryz.func50, Tryz.ntmps50
  go_wp2_with (first
    | (go_at_call 68; refine (drWithin _ _ _ _).mono ?_; rintro e w3 ⟨rfl, rfl⟩; first | rw [NB.out] | rw [VB.out])
    | fail)
  have HP : Hid (Whl ((w.alloc (.cells #[.int .i64 m.ver, .int .i64 m.nxt, .slice A m.zs.length cc] 24)).alloc (.map #[] 0)) w.heap.size 24 #[.int .i64 m.ver, .int .i64 m.nxt, .slice A m.zs.length cc]) := Lib.hid ((Whl.new rfl).alloc _)
  have HM0 : Hid (MapOf encI ((w.alloc (.cells #[.int .i64 m.ver, .int .i64 m.nxt, .slice A m.zs.length cc] 24)).alloc (.map #[] 0)) (w.heap.size + 1) (vCn [])) := Lib.hid (by have := MapOf.made (enc := encI) (w.alloc (.cells #[.int .i64 m.ver, .int .i64 m.nxt, .slice A m.zs.length cc] 24)); simpa [vCn] using this)
  have HBV : Hid (Below w.heap.size w ((w.alloc (.cells #[.int .i64 m.ver, .int .i64 m.nxt, .slice A m.zs.length cc] 24)).alloc (.map #[] 0))) := Lib.hid (((Below.refl _ _).alloc (Nat.le_refl _) _).alloc (by simp) _)
  have hgV : w.heap.size + 1 < ((w.alloc (.cells #[.int .i64 m.ver, .int .i64 m.nxt, .slice A m.zs.length cc] 24)).alloc (.map #[] 0)).heap.size := by simp
  obtain ⟨g, hg⟩ : ∃ g, g = w.heap.size + 1 := ⟨_, rfl⟩
  rw [← hg] at HM0 hgV ⊢
  have hgw : w.heap.size < g := by omega
  clear hg
  generalize ((w.alloc (.cells #[.int .i64 m.ver, .int .i64 m.nxt, .slice A m.zs.length cc] 24)).alloc (.map #[] 0)) = V at *
  have HRV := Lib.hid (row_belowZ HR.out HBV.out)
  have hPl := HP.out.low
  have hwV := HBV.out.size
  go_loopw [3, 30] (fun sv kv wr => ∃ (k : Nat) (s : Value), k ≤ m.zs.length ∧ kv = .int .i64 k ∧ s = sv ∧ wr.ownsRow V.heap.size 54 2 s k (flatS (spansZ (m.zs.take k))) ∧ MapOf encI wr g (vCn (cnts (idsA (m.zs.take k)))) ∧ Touch (fun x => x = g) V wr) (fun _ kv _ => m.zs.length - (intOf kv).toNat)
  case atStart => exact ⟨0, _, Nat.zero_le _, rfl, rfl, World.ownsRow_nil _ _ _ _, HM0.out, Touch.refl _ _⟩
  case round =>
    obtain ⟨k, s, hkl, rfl, rfl, hown, hmo, hT⟩ := hrel
    have HOWN := Lib.hid hown
    have HMO := Lib.hid hmo
    have HT0 := Lib.hid hT
    have hVr := hT.size
    have hP := (hT.block w.heap.size hPl (by omega)).trans HP.out
    have HPR : Hid (Whl wr w.heap.size 24 #[.int .i64 m.ver, .int .i64 m.nxt, .slice A m.zs.length cc]) := Lib.hid hP
    have hgr : g < wr.heap.size := by omega
    have hr : wr.ownsRow B 56 9 (.slice A m.zs.length cc) m.zs.length (flatZ m.zs) := hT.own HRV.out (fun q hq e => by have := (HR.out.lt q hq).2; omega)
    have HRW := Lib.hid hr
    by_cases hkt : k < m.zs.length
    · have q5 : (k : Int) < (m.zs.length : Int) := by omega
      obtain ⟨gz, c9, e9, _, hgz, _, _⟩ := own_form hr (by omega)
      injection e9 with e9 _ e10
      subst e9 e10
      obtain ⟨z, hz⟩ : ∃ z, z = m.zs[k] := ⟨_, rfl⟩
      obtain ⟨u0, u1, u2, u3, u4, u5, u6, u7, u8⟩ := rowZ_at hr hkt
      rw [← hz] at u0 u1 u2 u3 u4 u5 u6 u7 u8
      have HTK := Lib.hid (spans_take1 hkt)
      have HIT := Lib.hid (ids_take hkt)
      rw [← hz] at HTK HIT
      have hxl : (idsA (m.zs.take k)).length ≤ 32 := by have := ids_len (m.zs.take k); rw [List.length_take] at this; omega
      obtain ⟨xs, hxs⟩ : ∃ x, x = idsA (m.zs.take k) := ⟨_, rfl⟩
      rw [← hxs] at hxl HMO HIT
      have hn1 := cnts_le xs z.id
      have hn2 := cnts_le (xs ++ [z.id]) z.nw
      rw [List.length_append, List.length_singleton] at hn2
      have HT : Hid (((wr.alloc (.cells #[.int .i64 z.id, .string z.fr, .string z.tt, .int .i64 z.ow, .int .i64 z.ep, .int .i64 z.pd, .int .i64 z.mv, .string z.ky, .int .i64 z.nw] 56)).alloc (.cells #[.string z.fr, .string z.tt] 54)).ownsRow V.heap.size 54 2 _ k (flatS (spansZ (m.zs.take k)))) := Lib.hid ((HOWN.out.alloc (.cells #[.int .i64 z.id, .string z.fr, .string z.tt, .int .i64 z.ow, .int .i64 z.ep, .int .i64 z.pd, .int .i64 z.mv, .string z.ky, .int .i64 z.nw] 56)).alloc (.cells #[.string z.fr, .string z.tt] 54))
      have HCS : Hid (Cells ((wr.alloc (.cells #[.int .i64 z.id, .string z.fr, .string z.tt, .int .i64 z.ow, .int .i64 z.ep, .int .i64 z.pd, .int .i64 z.mv, .string z.ky, .int .i64 z.nw] 56)).alloc (.cells #[.string z.fr, .string z.tt] 54)) (wr.heap.size + 2) (some ⟨wr.heap.size + 1, 0, none⟩) 1 1 2 [.string z.fr, .string z.tt]) := Lib.hid ⟨rfl, (fun e => by cases e), fun k u hu => ⟨_, _, rfl, by omega, by rw [Nat.zero_add, (Whl.new (w := wr.alloc (.cells #[.int .i64 z.id, .string z.fr, .string z.tt, .int .i64 z.ow, .int .i64 z.ep, .int .i64 z.pd, .int .i64 z.mv, .string z.ky, .int .i64 z.nw] 56)) (t := 54) (cs := #[.string z.fr, .string z.tt]) (n := wr.heap.size + 1) (by simp)).cell]; simpa using hu⟩⟩
      have HSTEP : Hid (∀ (w6 : World) (v6 : Value), w6.ownsRow V.heap.size 54 2 v6 (k + 1) (flatS (spansZ (m.zs.take k)) ++ [.string z.fr, .string z.tt]) → Touch (fun q => s.ownBlock = some q) ((wr.alloc (.cells #[.int .i64 z.id, .string z.fr, .string z.tt, .int .i64 z.ow, .int .i64 z.ep, .int .i64 z.pd, .int .i64 z.mv, .string z.ky, .int .i64 z.nw] 56)).alloc (.cells #[.string z.fr, .string z.tt] 54)) w6 → (v6.ownBlock = s.ownBlock ∨ v6.ownBlock = some ((wr.alloc (.cells #[.int .i64 z.id, .string z.fr, .string z.tt, .int .i64 z.ow, .int .i64 z.ep, .int .i64 z.pd, .int .i64 z.mv, .string z.ky, .int .i64 z.nw] 56)).alloc (.cells #[.string z.fr, .string z.tt] 54)).heap.size) → ∃ w7 w8 : World, Whl w6 wr.heap.size 56 #[.int .i64 z.id, .string z.fr, .string z.tt, .int .i64 z.ow, .int .i64 z.ep, .int .i64 z.pd, .int .i64 z.mv, .string z.ky, .int .i64 z.nw] ∧ (Instr.lookup 124 (.map (some g)) (.int .i64 z.id) false).run Tryz.prog w6 = .ok (.int .i64 (gD z.id (cnts xs))) w6 ∧ (Instr.mapUpdate 124 (.map (some g)) (.int .i64 z.id) (.int .i64 (gD z.id (cnts xs) + 1))).run Tryz.prog w6 = .ok () w7 ∧ Whl w7 wr.heap.size 56 #[.int .i64 z.id, .string z.fr, .string z.tt, .int .i64 z.ow, .int .i64 z.ep, .int .i64 z.pd, .int .i64 z.mv, .string z.ky, .int .i64 z.nw] ∧ (Instr.lookup 124 (.map (some g)) (.int .i64 z.nw) false).run Tryz.prog w7 = .ok (.int .i64 (gD z.nw (cnts (xs ++ [z.id])))) w7 ∧ (Instr.mapUpdate 124 (.map (some g)) (.int .i64 z.nw) (.int .i64 (gD z.nw (cnts (xs ++ [z.id])) + 1))).run Tryz.prog w7 = .ok () w8 ∧ (w7.ownsRow V.heap.size 54 2 v6 (k + 1) (flatS (spansZ (m.zs.take (k + 1)))) ∧ MapOf encI w7 g (vCn (cnts (xs ++ [z.id]))) ∧ Touch (fun x => x = g) V w7) ∧ (w8.ownsRow V.heap.size 54 2 v6 (k + 1) (flatS (spansZ (m.zs.take (k + 1)))) ∧ MapOf encI w8 g (vCn (cnts (xs ++ [z.id] ++ [z.nw]))) ∧ Touch (fun x => x = g) V w8)) := Lib.hid (fun w6 v6 ho6 ht6 hv6 => by
        have hsv : ∀ q, s.ownBlock = some q → V.heap.size ≤ q ∧ q < wr.heap.size := fun q hq => HOWN.out.lt q hq
        have hs6 := ht6.size
        simp at hs6
        have hm6 : MapOf encI w6 g (vCn (cnts xs)) := ((map_allocM (map_allocM HMO.out _) _).block (ht6.block g (by simp; omega) (fun e => by have := (hsv g e).1; omega)))
        have hq6 : Whl w6 wr.heap.size 56 #[.int .i64 z.id, .string z.fr, .string z.tt, .int .i64 z.ow, .int .i64 z.ep, .int .i64 z.pd, .int .i64 z.mv, .string z.ky, .int .i64 z.nw] := (ht6.block wr.heap.size (by (first | omega | (simp; done) | (simp; omega))) (fun e => by have := (hsv _ e).2; omega)).trans ((Whl.new rfl).alloc _)
        have ho6' : w6.ownsRow V.heap.size 54 2 v6 (k + 1) (flatS (spansZ (m.zs.take (k + 1)))) := by rw [HTK.out]; exact ho6
        have hv6' : ∀ q, v6.ownBlock = some q → q ≠ g := fun q hq e => by
          have := (ho6.lt q hq).1
          omega
        have hT6 : Touch (fun x => x = g) V w6 := ((HT0.out.alloc _).alloc _).trans ht6 (fun q hq e => by have := (hsv q e).1; omega)
        have lk6 := hm6.look (P := Tryz.prog) kIm Tryz.underlying124 (zIm w6) z.id
        rw [get_vCn] at lk6
        obtain ⟨w7, up7, hm7, gr7, hz7⟩ := hm6.put (P := Tryz.prog) kIm Tryz.underlying124 z.id (.int .i64 (gD z.id (cnts xs) + 1))
        rw [put_vCn] at hm7
        have hm7 : MapOf encI w7 g (vCn (cnts (xs ++ [z.id]))) := by rw [cnts_snoc]; exact hm7
        have hq7 := whl_grownM hq6 gr7 (by omega)
        have lk7 := hm7.look (P := Tryz.prog) kIm Tryz.underlying124 (zIm w7) z.nw
        rw [get_vCn] at lk7
        obtain ⟨w8, up8, hm8, gr8, hz8⟩ := hm7.put (P := Tryz.prog) kIm Tryz.underlying124 z.nw (.int .i64 (gD z.nw (cnts (xs ++ [z.id])) + 1))
        rw [put_vCn] at hm8
        have hm8 : MapOf encI w8 g (vCn (cnts (xs ++ [z.id] ++ [z.nw]))) := by rw [cnts_snoc (xs ++ [z.id])]; exact hm8
        have ho7 := (Touch.of_grown gr7).own ho6' (fun q hq e => hv6' q hq (by injection e with e; exact e.symm))
        have hT7 := hT6.trans (Touch.of_grown gr7) (fun q hq e => by injection e with e; exact e.symm)
        exact ⟨w7, w8, hq6, lk6, up7, hq7, lk7, up8, ⟨ho7, hm7, hT7⟩, (Touch.of_grown gr8).own ho7 (fun q hq e => hv6' q hq (by injection e with e; exact e.symm)), hm8, hT7.trans (Touch.of_grown gr8) (fun q hq e => by injection e with e; exact e.symm)⟩)
      have HXS := Lib.hid hxs
      have hw1 : IntKind.i64.wrap (gD z.id (cnts xs) + 1) = gD z.id (cnts xs) + 1 := by rw [IntKind.wrap_i64]; omega
      have hw2 : IntKind.i64.wrap (gD z.nw (cnts (xs ++ [z.id])) + 1) = gD z.nw (cnts (xs ++ [z.id])) + 1 := by rw [IntKind.wrap_i64]; omega
      clear hr hz hown hmo hT hxs hP
      by_cases hp1 : z.pd = 1
      · have hpb : (z.pd == 1) = true := by simpa using hp1
        have HPP := Lib.hid hp1
        clear hp1
        go_wp2_with (first
          | (at_builtin; go_loud (refine wpList_append_touch rfl (.tmp 34) (.tmp 37) 88 rfl V.heap.size 54 i0 (.agg #[.string ⟨#[]⟩, .string ⟨#[]⟩]) 2 32 Tryz.underlying88 hi0 hz0 hz1 hz2 rfl (by decide) _ k (flatS (spansZ (m.zs.take k))) rfl HT.out (wr.heap.size + 2) (some ⟨wr.heap.size + 1, 0, none⟩) 1 1 [.string z.fr, .string z.tt] rfl HCS.out (by intro u hu; simp at hu; rcases hu with rfl | rfl <;> rfl) (by unfold maxLen; omega) (by omega) (by simp; omega) ?_); intro v6 w6 ho6 ht6 hv6; obtain ⟨w7, w8, hnext⟩ := HSTEP.out w6 v6 ho6 ht6 hv6; obtain ⟨hq6, lk6, up7, hq7, lk7, up8, hfin7, hfin8⟩ := hnext; have a0 := hq6.cell 0; have a5 := hq6.cell 5; have a8 := hq6.cell 8; simp only [List.getElem?_toArray, List.getElem?_cons_succ, List.getElem?_cons_zero] at a0 a5 a8; have b0 := hq7.cell 0; have b5 := hq7.cell 5; have b8 := hq7.cell 8; simp only [List.getElem?_toArray, List.getElem?_cons_succ, List.getElem?_cons_zero] at b0 b5 b8; have HF7 := Lib.hid hfin7; have HF8 := Lib.hid hfin8; clear ho6 ht6 hv6 hq6 hq7 hfin7 hfin8)
          | fail)
        refine ⟨⟨k + 1, _, hkt, by go_num, rfl, HF8.out.1, ?_, HF8.out.2.2⟩, measZ hkt⟩
        rw [HIT.out]
        have : xs ++ idsZ z = xs ++ [z.id] ++ [z.nw] := by unfold idsZ; rw [if_pos HPP.out]; simp
        rw [this]
        exact HF8.out.2.1
      · have hpb : (z.pd == 1) = false := by simpa using hp1
        have HPP := Lib.hid hp1
        clear hp1
        go_wp2_with (first
          | (at_builtin; go_loud (refine wpList_append_touch rfl (.tmp 34) (.tmp 37) 88 rfl V.heap.size 54 i0 (.agg #[.string ⟨#[]⟩, .string ⟨#[]⟩]) 2 32 Tryz.underlying88 hi0 hz0 hz1 hz2 rfl (by decide) _ k (flatS (spansZ (m.zs.take k))) rfl HT.out (wr.heap.size + 2) (some ⟨wr.heap.size + 1, 0, none⟩) 1 1 [.string z.fr, .string z.tt] rfl HCS.out (by intro u hu; simp at hu; rcases hu with rfl | rfl <;> rfl) (by unfold maxLen; omega) (by omega) (by simp; omega) ?_); intro v6 w6 ho6 ht6 hv6; obtain ⟨w7, w8, hnext⟩ := HSTEP.out w6 v6 ho6 ht6 hv6; obtain ⟨hq6, lk6, up7, hq7, lk7, up8, hfin7, hfin8⟩ := hnext; have a0 := hq6.cell 0; have a5 := hq6.cell 5; have a8 := hq6.cell 8; simp only [List.getElem?_toArray, List.getElem?_cons_succ, List.getElem?_cons_zero] at a0 a5 a8; have b0 := hq7.cell 0; have b5 := hq7.cell 5; have b8 := hq7.cell 8; simp only [List.getElem?_toArray, List.getElem?_cons_succ, List.getElem?_cons_zero] at b0 b5 b8; have HF7 := Lib.hid hfin7; have HF8 := Lib.hid hfin8; clear ho6 ht6 hv6 hq6 hq7 hfin7 hfin8)
          | fail)
        refine ⟨⟨k + 1, _, hkt, by go_num, rfl, HF7.out.1, ?_, HF7.out.2.2⟩, measZ hkt⟩
        rw [HIT.out]
        have : xs ++ idsZ z = xs ++ [z.id] := by unfold idsZ; rw [if_neg HPP.out]
        rw [this]
        exact HF7.out.2.1
    · obtain rfl : m.zs.length = k := by omega
      obtain ⟨wa, rfl⟩ : ∃ x, x = wr := ⟨_, rfl⟩
      rw [List.take_length] at hown hmo
      obtain ⟨C, hC⟩ : ∃ C, C = cnts (idsA m.zs) := ⟨_, rfl⟩
      rw [← hC] at hmo
      have HC := Lib.hid hC
      obtain ⟨o, hrun, hrl⟩ := hmo.range (P := Tryz.prog) Tryz.underlying124
      obtain ⟨As, cs, es1, _, hs1, hs2⟩ := own_slice hown
      subst es1
      have HSW := Lib.hid hown
      have hBwa : Below w.heap.size w wa := HBV.out.trans (hT.below hwV (fun q hq => by omega))
      have hB2 : Below w.heap.size w (wa.alloc o) := hBwa.alloc hBwa.size o
      have HP2 : Hid (Whl (wa.alloc o) w.heap.size 24 #[.int .i64 m.ver, .int .i64 m.nxt, .slice A m.zs.length cc]) := Lib.hid (HPR.out.alloc o)
      have HR2 := Lib.hid (HRW.out.alloc o)
      have HS2 := Lib.hid (hown.alloc o)
      have HB2 := Lib.hid hB2
      have HRL := Lib.hid hrl
      have hr2 : wa.heap.size < (wa.alloc o).heap.size := by simp
      have hwa : w.heap.size < wa.heap.size := by omega
      clear hC hown hmo hT hrl hB2 hP hr HMO HT0 HOWN
      go_wp2_with fail
      obtain ⟨r, hrr⟩ : ∃ r, r = wa.heap.size := ⟨_, rfl⟩
      rw [← hrr] at hr2 hwa HRL ⊢
      have HRR := Lib.hid hrr
      clear hrun hrr
      generalize wa.alloc o = V2 at *
      have hwV2 := HB2.out.size
      have hnn : IntKind.i64.wrap (m.nxt - 1) = m.nxt - 1 := by rw [IntKind.wrap_i64]; omega
      go_loopw [7, 8] (fun av bv wx => ∃ rest : List (Int × Int), RangeL encI wx g r (vCn C) (vCn rest) ∧ (∀ p ∈ C, p ∈ rest ∨ (p.2 ≤ 1 ∧ 1 ≤ p.1 ∧ p.1 ≤ m.nxt - 1)) ∧ (∀ p ∈ rest, p ∈ C) ∧ Touch (fun x => x = r) V2 wx) (fun _ _ wx => wx.rangeLeft g r)
      case atStart => exact ⟨C, HRL.out, fun p hp => .inl hp, fun p hp => hp, Touch.refl _ _⟩
      case round =>
        obtain ⟨wb, rfl⟩ : ∃ x, x = wr := ⟨_, rfl⟩
        obtain ⟨rest, hrg, hok, hin, hT2⟩ := hrel
        have hlq := hrg.left_eq
        have hrlt := hrg.lt
        have hPb : Whl wb w.heap.size 24 #[.int .i64 m.ver, .int .i64 m.nxt, .slice A m.zs.length cc] := (hT2.block w.heap.size HP2.out.low (by omega)).trans HP2.out
        have hBb : Below w.heap.size w wb := HB2.out.trans (hT2.below hwV2 (fun q hq => by omega))
        have HBB := Lib.hid hBb
        have hsb := hBb.size
        rcases hrg.next (P := Tryz.prog) 0 with ⟨h0, hnx⟩ | ⟨pre, kk, v, post, w2, h0, hnx, hrg2, hgr2, hz2, hen⟩
        · have hrest : rest = [] := by simpa [vCn] using h0
          subst hrest
          have hall : ∀ p ∈ C, p.2 ≤ 1 ∧ 1 ≤ p.1 ∧ p.1 ≤ m.nxt - 1 := fun p hp => (hok p hp).elim (fun h => by cases h) id
          rw [HC.out] at hall
          have HALL := Lib.hid (cnts_ok.1 hall)
          have HRB : Hid (wb.ownsRow B 56 9 (.slice A m.zs.length cc) m.zs.length (flatZ m.zs)) := Lib.hid (hT2.own HR2.out (fun q hq e => by have := (HR.out.lt q hq).2; omega))
          have HSB : Hid (wb.ownsRow V.heap.size 54 2 (.slice As m.zs.length cs) m.zs.length (flatS (spansZ m.zs))) := Lib.hid (hT2.own HS2.out (fun q hq e => by have := (HSW.out.lt q hq).2; have := HRR.out; omega))
          have b0 := hPb.cell 0
          have b1 := hPb.cell 1
          have b2 := hPb.cell 2
          simp only [List.getElem?_toArray, List.getElem?_cons_succ, List.getElem?_cons_zero] at b0 b1 b2
          have HPB := Lib.hid hPb
          clear hrg hok hin hT2 hlq h0 hall hPb hBb
          go_wp2_with fail
          go_loopw [9, 73] (fun av iv wy => ∃ k : Nat, k ≤ m.zs.length ∧ iv = .int .i64 k ∧ (∀ j (hj : j < m.zs.length), j < k → Core m.zs j hj) ∧ Below wb.heap.size wb wy) (fun _ iv _ => m.zs.length - (intOf iv).toNat)
          case atStart => exact ⟨0, Nat.zero_le _, rfl, fun j hj h => absurd h (Nat.not_lt_zero _), Below.refl _ _⟩
          case round =>
            obtain ⟨k, hkl, rfl, hcr, hBk⟩ := hrel
            have HBK := Lib.hid (HBB.out.trans (hBk.mono hsb))
            have HCR := Lib.hid hcr
            have hsk := HBK.out.size
            have HBKK := Lib.hid hBk
            have hPk := HPB.out.below hBk HPB.out.low
            have b0 := hPk.cell 0
            have b1 := hPk.cell 1
            have b2 := hPk.cell 2
            simp only [List.getElem?_toArray, List.getElem?_cons_succ, List.getElem?_cons_zero] at b0 b1 b2
            have HRK := Lib.hid (row_belowZ HRB.out hBk)
            by_cases hkt : k < m.zs.length
            · have q5 : (k : Int) < (m.zs.length : Int) := by omega
              clear hcr hBk hPk
              by_cases hck : Core m.zs k hkt
              · have HCK := Lib.hid hck
                clear hck
                go_wp2_with (first
                  | (go_at_call 69; go_loud (refine (drMayZone B k _ m.zs _ HRK.out hl hkt (b := true) ⟨fun _ => HCK.out, fun _ => rfl⟩).mono ?_; rintro e w5 ⟨rfl, hb5⟩; have HB5 := Lib.hid (HBKK.out.trans (hb5.mono HBKK.out.size)); clear hb5))
                  | fail)
                refine ⟨⟨k + 1, hkt, by go_num, fun j hj hjk => ?_, HB5.out⟩, measZ hkt⟩
                by_cases e : j = k
                · subst e; exact HCK.out
                · exact HCR.out j hj (by omega)
              · have HCK := Lib.hid hck
                clear hck
                go_wp2_with (first
                  | (go_at_call 69; go_loud (refine (drMayZone B k _ m.zs _ HRK.out hl hkt (b := false) ⟨fun h => (by cases h), fun h => absurd h HCK.out⟩).mono ?_; rintro e w5 ⟨rfl, hb5⟩; have HB5 := Lib.hid (HBK.out.trans (hb5.mono hsk)); clear hb5))
                  | fail)
                go_ret
                exact ⟨ret_bool (HNB.out (fun h => HCK.out (h.core k hkt))).symm, HB5.out⟩
            · obtain rfl : m.zs.length = k := by omega
              have hown := row_belowZ HSB.out hBk
              have hsp : Spans wr wr.heap.size As (spansZ m.zs) := by
                by_cases h0 : m.zs.length = 0
                · intro k hk
                  have : (spansZ m.zs).length = m.zs.length := by simp [spansZ]
                  omega
                · obtain ⟨ga, c9, e9, _, hga, _, _⟩ := own_form hown (by omega)
                  injection e9 with e9 _ e10
                  subst e9 e10
                  exact spans_of_row (by simpa [spansZ] using hown) hga
              have hAL : Calls Tryz.prog 70 #[.slice As m.zs.length cs] wr fun e w' => e = .returned (.bool (allB (spansZ m.zs))) ∧ Below wr.heap.size wr w' := by
                have := spanAllX As cs (spansZ m.zs) wr (by simp [spansZ]; omega) (by simpa [spansZ] using hs1) hsp
                simpa [spansZ] using this
              have HAL := Lib.hid hAL
              clear hAL hown hBk hsp hcr hPk
              go_wp2_with (first
                | (go_at_call 70; refine HAL.out.mono ?_; rintro e w5 ⟨rfl, hb5⟩; have HB5 := Lib.hid (HBK.out.trans (hb5.mono hsk)); clear hb5)
                | fail)
              go_ret
              refine ⟨ret_bool ?_, HB5.out⟩
              cases ha : allB (spansZ m.zs) with
              | true => exact (HYB.out ⟨C1.out.1, C1.out.2, C2.out.1, C2.out.2, hl16, HALL.out.1, HALL.out.2, fun i hi => HCR.out i hi hi, ha⟩).symm
              | false => exact (HNB.out (fun h => by have := h.spn; rw [ha] at this; cases this)).symm
        · obtain ⟨p, n, q, rfl, rfl, hpq⟩ := vCn_split h0
          rw [hpq] at hrg2
          simp only [encI] at hnx hen
          have hP2 := whl_grownM hPb hgr2 (by omega)
          have b0 := hP2.cell 0
          have b1 := hP2.cell 1
          have b2 := hP2.cell 2
          simp only [List.getElem?_toArray, List.getElem?_cons_succ, List.getElem?_cons_zero] at b0 b1 b2
          have HB22 : Hid (Below w.heap.size w w2) := Lib.hid (hBb.trans ((Touch.of_grown hgr2).below hsb (fun q hq => by injection hq with hq; omega)))
          have hkc : (kk, n) ∈ C := hin _ (by simp)
          have HKC := Lib.hid hkc
          have hle' := hrg2.left_eq
          have HFIN : Hid ((n ≤ 1 ∧ 1 ≤ kk ∧ kk ≤ m.nxt - 1) → (∃ rest : List (Int × Int), RangeL encI w2 g r (vCn C) (vCn rest) ∧ (∀ p ∈ C, p ∈ rest ∨ (p.2 ≤ 1 ∧ 1 ≤ p.1 ∧ p.1 ≤ m.nxt - 1)) ∧ (∀ p ∈ rest, p ∈ C) ∧ Touch (fun x => x = r) V2 w2) ∧ w2.rangeLeft g r < wb.rangeLeft g r) := Lib.hid (fun hgood => by
            refine ⟨⟨p ++ q, hrg2, fun x hx => ?_, fun x hx => hin x (by simp at hx ⊢; rcases hx with h | h; exact .inl h; exact .inr (.inr h)), hT2.trans (Touch.of_grown hgr2) (fun y _ e => by injection e with e; exact e.symm)⟩, ?_⟩
            · rcases hok x hx with h | h
              · simp only [List.mem_append, List.mem_cons] at h
                rcases h with h | rfl | h
                · exact .inl (List.mem_append_left _ h)
                · exact .inr hgood
                · exact .inl (List.mem_append_right _ h)
              · exact .inr h
            · rw [hle', hlq]
              simp [vCn])
          clear hrg hrg2 hok hin hT2 hlq hle' h0 hpq hPb hP2 hkc hBb
          by_cases hgood : n ≤ 1 ∧ 1 ≤ kk ∧ kk ≤ m.nxt - 1
          · have HGOOD := Lib.hid hgood
            have WB : Hid (decide (1 ≤ kk ∧ kk ≤ m.nxt - 1) = true) := Lib.hid (decide_eq_true hgood.2)
            have hn1 : ¬ (1 < n) := by omega
            clear hgood
            go_wp2_with (first
              | (go_at_call 68; refine (drWithin _ _ _ _).mono ?_; rintro e w3 ⟨rfl, rfl⟩; first | rw [WB.out])
              | fail)
            exact HFIN.out HGOOD.out
          · have hnm : ¬ MayP m := fun h => hgood (by
              have := cnts_ok.2 ⟨h.nodup, h.rng⟩ (kk, n) (by rw [← HC.out]; exact HKC.out)
              exact this)
            have HNM := Lib.hid hnm
            by_cases hn1 : 1 < n
            · clear hgood hnm
              go_wp2_with fail
              go_ret
              exact ⟨ret_bool (HNB.out HNM.out).symm, HB22.out⟩
            · have WB : Hid (decide (1 ≤ kk ∧ kk ≤ m.nxt - 1) = false) := Lib.hid (decide_eq_false (fun h => hgood ⟨by omega, h⟩))
              clear hgood hnm
              go_wp2_with (first
                | (go_at_call 68; refine (drWithin _ _ _ _).mono ?_; rintro e w3 ⟨rfl, rfl⟩; first | rw [WB.out])
                | fail)
              go_ret
              exact ⟨ret_bool (HNB.out HNM.out).symm, HB22.out⟩
end Go.Proofs.YtepjehcmiofehaaGreat
