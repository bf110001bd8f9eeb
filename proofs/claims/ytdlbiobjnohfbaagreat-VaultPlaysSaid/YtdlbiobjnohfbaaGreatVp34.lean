/- The document's vault: spot, Has. -/
import Derived.Test.YtdlbiobjnohfbaaGreatVp33
namespace Go.Proofs.YtdlbiobjnohfbaaGreat
open Go.RowKit Go.ChangeMaps Go.MapKept
set_option linter.unusedVariables false
set_option linter.unusedSimpArgs false
theorem row_belowR {w w' : World} {base e size n : Nat} {v : Value} {xs : List Value} (h : w.ownsRow base e size v n xs) (hb : Below w.heap.size w w') : w'.ownsRow base e size v n xs := (Touch.of_below hb).own h (fun g hg hd => by have := (h.lt g hg).2; omega)
structure RvH (w : World) (B d x : Nat) (u u2 : Value) (r : Pm) (L : List Od) (last nx : Int) : Prop where
 whl : Whl w d 65 #[u, .pointer (some ⟨x, 0, none⟩), .int .i64 nx]
 row : w.ownsRow B 85 5 u r.length (flatH r)
 bk : RfB w B x u2 L last
 low : B ≤ d
 dx : d ≠ x
 ud : u.ownBlock ≠ some d
 ux : u.ownBlock ≠ some x
 vd : u2.ownBlock ≠ some d
 uv : ∀ g, u.ownBlock = some g → u2.ownBlock ≠ some g
def Fr (d x : Nat) (u u2 : Value) (k : Nat) : Prop := (k = d ∨ u.ownBlock = some k) ∨ Fx x u2 k
theorem RvH.lows {w : World} {B d x : Nat} {u u2 : Value} {r : Pm} {L : List Od} {last nx : Int} (h : RvH w B d x u u2 r L last nx) : ∀ k, Fr d x u u2 k → B ≤ k ∧ k < w.heap.size := by
 rintro k ((rfl | hk) | hk)
 · exact ⟨h.low, h.whl.low⟩
 · exact h.row.lt k hk
 · exact h.bk.lows k hk
theorem RvH.keep {D : Nat → Prop} {w w' : World} {B d x : Nat} {u u2 : Value} {r : Pm} {L : List Od} {last nx : Int} (h : RvH w B d x u u2 r L last nx) (ht : Touch D w w') (hD : ∀ k, Fr d x u u2 k → ¬ D k) : RvH w' B d x u u2 r L last nx :=
 ⟨(ht.block d h.whl.low (hD d (.inl (.inl rfl)))).trans h.whl, ht.own h.row (fun g hg => hD g (.inl (.inr hg))), h.bk.keep ht (fun k hk => hD k (.inr hk)), h.low, h.dx, h.ud, h.ux, h.vd, h.uv⟩
theorem RvH.below {w w' : World} {B d x : Nat} {u u2 : Value} {r : Pm} {L : List Od} {last nx : Int} (h : RvH w B d x u u2 r L last nx) (hb : Below w.heap.size w w') : RvH w' B d x u u2 r L last nx :=
 h.keep (Touch.of_below hb) (fun k hk hd => by have := (h.lows k hk).2; omega)
structure RvL (w : World) (d : Nat) (u : Value) (r : Pm) : Prop where
 c0 : w.cell? ⟨d, 0, none⟩ = some u
 row : w.ownsRow 0 85 5 u r.length (flatH r)
 low : d < w.heap.size
theorem RvH.rl {w : World} {B d x : Nat} {u u2 : Value} {r : Pm} {L : List Od} {last nx : Int} (h : RvH w B d x u u2 r L last nx) : RvL w d u r :=
 ⟨h.whl.cell 0, Go.World.ownsRow.mono h.row (Nat.zero_le _), h.whl.low⟩
theorem spotS_drop {k : By} {r : Pm} {i : Nat} (h : i < r.length) : spotS k (r.drop i) = if BL r[i].1 k then ((spotS k (r.drop (i + 1))).1 + 1, (spotS k (r.drop (i + 1))).2) else (0, decide (r[i].1 = k)) := by
 rw [List.drop_eq_getElem_cons h]
 obtain ⟨a, y⟩ := r[i]
 rfl
set_option maxHeartbeats 4000000 in
set_option maxRecDepth 10000 in
theorem refSpot (d : Nat) (u : Value) (r : Pm) (s : ByteArray) (w : World) (h : RvL w d u r) (hlen : r.length ≤ 100000) :
  Calls Tryz.prog 69 #[.pointer (some ⟨d, 0, none⟩), .string s] w fun e w' => e = .returned (.tuple #[.int .i64 (spotS s.data.toList r).1, .bool (spotS s.data.toList r).2]) ∧ Below w.heap.size w w' := by
 obtain ⟨A, c, rfl, _, _, _⟩ := own_slice h.row
 have hc0 := h.c0
 have hlow := h.low
 have HROW := Lib.hid h.row
 clear h
 go_enter Tryz.func69, Tryz.ntmps69
 go_wp2_with fail
 go_loopw [6] (fun iv wr => ∃ i : Nat, i ≤ r.length ∧ iv = .int .i64 i ∧ Below w.heap.size w wr ∧ spotS s.data.toList r = ((spotS s.data.toList (r.drop i)).1 + i, (spotS s.data.toList (r.drop i)).2)) (fun iv _ => r.length - (intOf iv).toNat)
 case atStart => exact ⟨0, Nat.zero_le _, rfl, Below.refl _ _, by simp⟩
 case round =>
  obtain ⟨i, hil, rfl, hB, hsp⟩ := hrel
  have c0 := bkeep hB hc0 hlow
  have HSP := Lib.hid hsp
  have HB := Lib.hid hB
  clear hsp
  by_cases hlt : i < r.length
  ·
   have q1 : (i : Int) < (r.length : Int) := by omega
   cases A with
   | none => have := HROW.out.2; rcases this with ⟨_, h0⟩ | ⟨g0, _, _, e, _⟩; (exact absurd h0 (by omega)); injection e with e; cases e
   | some ad =>
   obtain ⟨gq, cq, e1, hq5, hq6, _, _⟩ := own_form HROW.out (by omega)
   simp only [Value.slice.injEq, Option.some.injEq, true_and] at e1
   obtain ⟨rfl, rfl⟩ := e1
   have hrow := row_belowR HROW.out hB
   have y0 := (hrow.cellAt (i * 5) (by omega)).trans (flatH_at r i hlt).1
   obtain ⟨s1, hs1⟩ : ∃ s : ByteArray, s = ⟨r[i].1.toArray⟩ := ⟨_, rfl⟩
   have hsk1 : s1.toList = r[i].1 := by rw [Lib.toList_data, hs1]
   have hes1 : encB r[i].1 = .string s1 := by rw [hs1]; rfl
   rw [hes1] at y0
   have hst := spotS_drop (k := s.data.toList) hlt
   have HST := Lib.hid hst
   have hsd : s.toList = s.data.toList := Lib.toList_data _
   cases hbl : Op.bytesLess s1.toList s.toList with
   | true =>
    have hBL : BL r[i].1 s.data.toList := by unfold BL; rw [← hsk1, ← hsd]; exact hbl
    have HBL := Lib.hid hBL
    clear hB hrow hs1 hst hes1 hBL hsk1 hsd
    go_wp2_with fail
    refine ⟨⟨i + 1, hlt, by go_num, HB.out, ?_⟩, by simp [intOf]; omega⟩
    rw [HSP.out, HST.out, if_pos HBL.out]
    simp only [Prod.mk.injEq, and_true]
    omega
   | false =>
    have hBL : ¬ BL r[i].1 s.data.toList := by unfold BL; rw [← hsk1, ← hsd, hbl]; simp
    have hres : spotS s.data.toList r = (i, (s1.toList == s.toList)) := by
     rw [HSP.out, HST.out, if_neg hBL, hsk1, hsd]
     simp only [Prod.mk.injEq, Nat.zero_add, true_and]
     by_cases e : r[i].1 = s.data.toList
     · simp [e]
     · simp [e]
    have HRES := Lib.hid hres
    clear hB hrow hs1 hst hes1 hBL hres hsk1 hsd
    go_wp2_with fail
    go_region
    go_wp2_with fail
    refine bodyPost_ret (v := .tuple #[.int .i64 i, .bool (s1.toList == s.toList)]) (by simp [results, Tryz.results69, go_sem]) rfl ⟨by rw [HRES.out], HB.out.drew⟩
  ·
   obtain rfl : i = r.length := by omega
   clear hB
   go_wp2_with fail
   have hres : spotS s.data.toList r = (r.length, false) := by
    have := HSP.out
    rw [List.drop_of_length_le (Nat.le_refl _)] at this
    rw [this]
    simp [spotS]
   rw [hres]
   refine bodyPost_ret (v := .tuple #[.int .i64 r.length, .bool false]) (by simp [results, Tryz.results69, go_sem]) rfl ⟨rfl, HB.out⟩
theorem spotS_at {k : By} : ∀ {r : Pm}, SortedH r → ((spotS k r).2 = true → ∃ h : (spotS k r).1 < r.length, r[(spotS k r).1].1 = k ∧ r[(spotS k r).1].2 = hasP r k) ∧ ((spotS k r).2 = false → hasP r k = z4)
 | [], _ => ⟨fun h => (by cases h), fun _ => rfl⟩
 | (a, y) :: r, h => by
  obtain ⟨h1, h2⟩ := List.pairwise_cons.1 h
  have ih := spotS_at (k := k) h2
  simp only [spotS]
  by_cases hb : BL a k
  ·
   simp only [hb, if_true]
   refine ⟨fun e => ?_, fun e => ?_⟩
   ·
    obtain ⟨hl, e1, e2⟩ := ih.1 e
    refine ⟨by simp only [List.length_cons]; omega, ?_, ?_⟩
    · simpa using e1
    ·
     rw [has_cons, if_neg hb.ne]
     simpa using e2
   ·
    rw [has_cons, if_neg hb.ne]
    exact ih.2 e
  ·
   simp only [hb, if_false]
   refine ⟨fun e => ?_, fun e => ?_⟩
   ·
    have ea : a = k := of_decide_eq_true e
    exact ⟨by simp, ea, by rw [has_cons, if_pos ea]; rfl⟩
   ·
    have ea : a ≠ k := of_decide_eq_false e
    have hk := BL.of_not hb ea
    rw [has_cons, if_neg ea]
    exact has_notin (fun p hp => (hk.trans (h1 p hp)).ne.symm)
set_option maxHeartbeats 4000000 in
set_option maxRecDepth 10000 in
theorem refHas (d : Nat) (u : Value) (r : Pm) (s : ByteArray) {a0 a1 a2 a3 : Int} (hi : hasP r s.data.toList = (a0, a1, a2, a3)) (w : World) (h : RvL w d u r) (hs : SortedH r) (hlen : r.length ≤ 100000) :
  Calls Tryz.prog 24 #[.pointer (some ⟨d, 0, none⟩), .string s] w fun e w' => e = .returned (.agg #[.int .i64 a0, .int .i64 a1, .int .i64 a2, .int .i64 a3]) ∧ Below w.heap.size w w' := by
 obtain ⟨W1, hW1⟩ : ∃ W1, W1 = w.alloc (.cells #[.int .i64 0, .int .i64 0, .int .i64 0, .int .i64 0] 36) := ⟨_, rfl⟩
 have hs1 : W1.heap.size = w.heap.size + 1 := by rw [hW1]; simp
 have B1 : Below w.heap.size w W1 := by rw [hW1]; exact (Below.refl _ _).alloc (Nat.le_refl _) _
 have P1 : Whl W1 w.heap.size 36 #[.int .i64 0, .int .i64 0, .int .i64 0, .int .i64 0] := by rw [hW1]; exact Whl.new rfl
 have hL1 : RvL W1 d u r := ⟨bkeep B1 h.c0 h.low, row_belowR h.row B1, by have := h.low; omega⟩
 have hat := spotS_at (k := s.data.toList) hs
 obtain ⟨A, c, rfl, _, _, _⟩ := own_slice h.row
 have hlow := h.low
 have hc0 := h.c0
 have HROW := Lib.hid h.row
 have HL1 := Lib.hid hL1
 have HB1 := Lib.hid B1
 have HP1 := Lib.hid P1
 have HAT := Lib.hid hat
 have HI := Lib.hid hi
 have hsl := spotS_le s.data.toList r
 obtain ⟨i, hii⟩ : ∃ x, x = (spotS s.data.toList r).1 := ⟨_, rfl⟩
 obtain ⟨fd, hfd⟩ : ∃ x, x = (spotS s.data.toList r).2 := ⟨_, rfl⟩
 have HE := Lib.hid (And.intro hii hfd)
 rw [← hii, ← hfd] at hat hsl
 clear h hs hL1 B1 P1 hi
 cases fd with
 | false =>
  have hz := hat.2 rfl
  rw [HI.out] at hz
  simp only [z4, Prod.mk.injEq] at hz
  obtain ⟨rfl, rfl, rfl, rfl⟩ := hz
  clear hat hsl hii hfd
  go_enter Tryz.func24, Tryz.ntmps24
  go_wp2_with (first
   | (go_at_call 69; rw [← hW1]; clear hW1; go_loud (refine (refSpot d _ r s _ HL1.out hlen).mono ?_; rintro e w2 ⟨he, hb2⟩; rw [← HE.out.1, ← HE.out.2] at he; subst he; have hs2 := hb2.size; have P2 := HP1.out.below hb2 (by omega); have z0 := P2.cell 0; have z1 := P2.cell 1; have z2 := P2.cell 2; have z3 := P2.cell 3; have hfr := fun o => P2.free o; simp only [List.getElem?_toArray, List.getElem?_cons_succ, List.getElem?_cons_zero] at z0 z1 z2 z3; have HB2 := Lib.hid (HB1.out.trans (hb2.mono (by omega))); clear hb2 P2))
   | fail)
  have hbw := HB2.out
  refine bodyPost_ret (v := .agg #[.int .i64 0, .int .i64 0, .int .i64 0, .int .i64 0]) (by simp [results, Tryz.results24, go_sem, ↓IntWalk.iteOmega, *]) rfl ⟨rfl, by exact tB⟩
 | true =>
  obtain ⟨hil, _, hv⟩ := hat.1 rfl
  rw [HI.out] at hv
  have q1 : (i : Int) < (r.length : Int) := by omega
  cases A with
  | none => have := HROW.out.2; rcases this with ⟨_, h0⟩ | ⟨g0, _, _, e, _⟩; (exact absurd h0 (by omega)); injection e with e; cases e
  | some ad =>
  obtain ⟨gq, cq, e1, hq5, hq6, _, _⟩ := own_form HROW.out (by omega)
  simp only [Value.slice.injEq, Option.some.injEq, true_and] at e1
  obtain ⟨rfl, rfl⟩ := e1
  obtain ⟨_, x0, x1, x2, x3⟩ := flatH_at r i hil
  rw [hv] at x0 x1 x2 x3
  have HF := Lib.hid (And.intro x0 (And.intro x1 (And.intro x2 x3)))
  clear hat hsl hii hfd hv x0 x1 x2 x3
  go_enter Tryz.func24, Tryz.ntmps24
  go_wp2_with (first
   | (go_at_call 69; rw [← hW1]; clear hW1; go_loud (refine (refSpot d _ r s _ HL1.out hlen).mono ?_; rintro e w2 ⟨he, hb2⟩; rw [← HE.out.1, ← HE.out.2] at he; subst he; have hs2 := hb2.size; have P2 := HP1.out.below hb2 (by omega); have z0 := P2.cell 0; have z1 := P2.cell 1; have z2 := P2.cell 2; have z3 := P2.cell 3; have hfr := fun o => P2.free o; simp only [List.getElem?_toArray, List.getElem?_cons_succ, List.getElem?_cons_zero] at z0 z1 z2 z3; have hBB := HB1.out.trans (hb2.mono (show w.heap.size ≤ W1.heap.size by omega)); have HB2 := Lib.hid hBB; have c2 := bkeep hBB hc0 hlow; have hrow := row_belowR HROW.out hBB; have y0 := (hrow.cellAt (i * 5 + 1) (by omega)).trans HF.out.1; have y1 := (hrow.cellAt (i * 5 + 2) (by omega)).trans HF.out.2.1; have y2 := (hrow.cellAt (i * 5 + 3) (by omega)).trans HF.out.2.2.1; have y3 := (hrow.cellAt (i * 5 + 4) (by omega)).trans HF.out.2.2.2; clear hb2 P2 hBB hrow))
   | fail)
  have hbw := HB2.out
  refine bodyPost_ret (v := .agg #[.int .i64 a0, .int .i64 a1, .int .i64 a2, .int .i64 a3]) (by simp [results, Tryz.results24, go_sem, ↓IntWalk.iteOmega, *]) rfl ⟨rfl, by exact tB⟩
end Go.Proofs.YtdlbiobjnohfbaaGreat
