/- vault: what the law knows. vault: VaultOthers, pure. vault: Total. The document's vault: Total. -/
import Derived.Test.YtdlbiobjnohfbaaGreatVb38
namespace Go.Proofs.YtdlbiobjnohfbaaGreat
open Go.RowKit Go.ChangeMaps Go.MapKept
set_option linter.unusedVariables false
set_option linter.unusedSimpArgs false
def sA : ByteArray := ⟨#[97]⟩
def kO : Od := ⟨0, sA, false, 1, 3, 2⟩
theorem kO_ok (g : Int) (h : 1 ≤ g ∧ g ≤ 1099511627776) : OkO (kO.num g) := ⟨h, show 1 ≤ sA.size ∧ sA.size ≤ 16 by decide, show (1:Int) ≤ 1 ∧ (1:Int) ≤ 3 by decide, show (1:Int) ≤ 3 ∧ (3:Int) ≤ 1048576 by decide, show (1:Int) ≤ 2 ∧ (2:Int) ≤ 1024 by decide⟩
theorem Places.nil_det {o : Od} {T : List Td} {o1 : Od} {L1 : List Od} (h : Places o [] T o1 L1) : T = [] ∧ o1 = o ∧ L1 = [] := by
 cases h with
 | done o L h => exact ⟨rfl, rfl, rfl⟩
 | step o x L T o' L' h0 hb h => exact absurd hb.1 (by simp)
set_option maxHeartbeats 4000000 in
set_option maxRecDepth 10000 in
theorem vtKnown (w : World) : Calls Tryz.prog 9 #[] w fun e w' => e = .returned (.bool true) ∧ Below w.heap.size w w' := by
 go_enter Tryz.func9, Tryz.ntmps9
 go_wp2_with (first
  | (go_at_call 23; have hgg := HV3; clear hgg; go_loud (refine (vtHas w.heap.size _ _ sA _ HV3.out.bk.whl.low HV3.out.cell HV3.out.pu).mono ?_; rintro e w4 ⟨he, hb4⟩; have hv : hasP (List.foldl settleP (setP (setP [] sA.data.toList (addI (hasP [] sA.data.toList) (0, 5, 0, 0))) kO.who.data.toList (subI (hasP (setP [] sA.data.toList (addI (hasP [] sA.data.toList) (0, 5, 0, 0))) kO.who.data.toList) (heldP kO))) []) sA.data.toList = (0, 2, 0, 0) := (by decide); rw [hv] at he; simp only [itV] at he; subst he; have HB4 := Lib.hid hb4; clear hb4))
  | (go_at_call 12; have hgg := HV2; clear hgg; go_loud (refine (vtOrder w.heap.size _ _ (setP [] sA.data.toList (addI (hasP [] sA.data.toList) (0, 5, 0, 0))) [] 0 0 kO _ HV2.out).mono ?_; rintro e w3 hq; rcases hq with ⟨c, _, _, hn, _⟩ | ⟨_, _, _, rfl, T, o1, L1, p', v', hpl, hvt, ht, hf⟩; exact absurd ⟨kO_ok 1 (by decide), ⟨by decide, by decide⟩, by decide⟩ hn; obtain ⟨rfl, rfl, rfl⟩ := hpl.nil_det; obtain ⟨S3, hv3, _⟩ := hvt; have HV3 := Lib.hid hv3; have HT3 := Lib.hid ht; have HF3 := Lib.hid hf; clear hv3 ht hf hpl))
  | (go_at_call 17; have hgg := HV1; clear hgg; go_loud (refine (vtPut w.heap.size _ _ _ [] 0 0 sA (0, 5, 0, 0) _ HS1.out).mono ?_; rintro e w2 hq; rcases hq with ⟨hn, _⟩ | ⟨_, hn, _⟩ | ⟨_, _, rfl, p2, hv2, ht2, hf2⟩; exact absurd hn (by decide); exact absurd hn (by decide); have HV2 := Lib.hid (show VtAt w2 w.heap.size p2 (fun _ => .slice none 0 0) (setP [] sA.data.toList (addI (hasP [] sA.data.toList) (0, 5, 0, 0))) [] 0 0 from ⟨S1, hv2, HR1.out⟩); have HT2 := Lib.hid ht2; have HF2 := Lib.hid hf2; clear hv2 ht2 hf2))
  | (go_at_call 15; refine (newVault _).mono ?_; rintro e w1 ⟨rfl, hv1, hb1⟩; obtain ⟨S1, hv1, hr1⟩ := hv1; have HV1 := Lib.hid (show True from trivial); have HS1 := Lib.hid hv1; have HR1 := Lib.hid hr1; have HB1 := Lib.hid hb1; clear hv1 hr1 hb1)
  | fail)
 have hz1 : ∀ x, Fv w.heap.size (.map none) (fun _ => .slice none 0 0) x → w.heap.size ≤ x := fun x hx => by
  rcases hx with (e | ⟨i, _, e⟩) | e
  · omega
  · cases e
  · cases e
 have b2 := HB1.out.trans (HT2.out.below HB1.out.size hz1)
 have hz2 : ∀ x, Fv w.heap.size p2 (fun _ => .slice none 0 0) x → w.heap.size ≤ x := fun x hx => by
  rcases HF2.out x hx with h | h
  · exact hz1 x h
  · exact Nat.le_trans HB1.out.size h
 have b3 := b2.trans (HT3.out.below b2.size hz2)
 refine bodyPost_ret (v := .bool true) (by simp [results, Tryz.results9, go_sem]) rfl ⟨rfl, b3.trans (HB4.out.mono b3.size)⟩
theorem VtAt.below {w w' : World} {b : Nat} {p : Value} {v : Nat → Value} {l : Pm} {L : List Od} {last gone : Int} (h : VtAt w b p v l L last gone) (hb : Below w.heap.size w w') : VtAt w' b p v l L last gone := by
 obtain ⟨S, h1, h2⟩ := h
 exact ⟨S, h1.below hb, h2⟩
structure Up (w w' : World) (b : Nat) (p : Value) (v : Nat → Value) : Prop where
 bel : Below w.heap.size w w'
 top : ∀ x, Fv b p v x → w.heap.size ≤ x
theorem Up.step {w w1 w2 : World} {b : Nat} {p p2 : Value} {v v2 : Nat → Value} (h : Up w w1 b p v) (ht : Touch (Fv b p v) w1 w2) (hf : ∀ x, Fv b p2 v2 x → Fv b p v x ∨ w1.heap.size ≤ x) : Up w w2 b p2 v2 :=
 ⟨h.bel.trans (ht.below h.bel.size h.top), fun x hx => by
  rcases hf x hx with h1 | h1
  · exact h.top x h1
  · exact Nat.le_trans h.bel.size h1⟩
theorem Up.same {w w1 w2 : World} {b : Nat} {p : Value} {v : Nat → Value} (h : Up w w1 b p v) (hb : Below w1.heap.size w1 w2) : Up w w2 b p v := ⟨h.bel.trans (hb.mono h.bel.size), h.top⟩
theorem Tryz.infoIts : (Tryz.prog.info? 36).map (fun i => (i.zero, i.size, i.bytes)) = some (some (.agg #[.int .i64 0, .int .i64 0, .int .i64 0, .int .i64 0]), 4, 32) := by kernel_rfl
def allP (l : Pm) (L : List Od) : List It4 := (rowsP l).map (·.2) ++ L.map heldP
def rowI (i : It4) : List Value := [.int .i64 i.1, .int .i64 i.2.1, .int .i64 i.2.2.1, .int .i64 i.2.2.2]
def flatI (l : List It4) : List Value := l.flatMap rowI
theorem flatI_app (a b : List It4) : flatI (a ++ b) = flatI a ++ flatI b := by simp [flatI]
theorem flatI_at : ∀ (l : List It4) (j : Nat) (h : j < l.length), (flatI l)[j * 4]? = some (.int .i64 l[j].1) ∧ (flatI l)[j * 4 + 1]? = some (.int .i64 l[j].2.1) ∧ (flatI l)[j * 4 + 2]? = some (.int .i64 l[j].2.2.1) ∧ (flatI l)[j * 4 + 3]? = some (.int .i64 l[j].2.2.2)
 | [], j, h => by cases h
 | a :: r, 0, h => by simp [flatI, rowI]
 | a :: r, j + 1, h => by
  have := flatI_at r j (by simpa using h)
  have e : (j + 1) * 4 = j * 4 + 4 := by omega
  simp only [flatI, List.flatMap_cons, rowI, List.getElem_cons_succ] at this ⊢
  rw [e]
  exact this
theorem purses_own {w : World} {base e n c : Nat} {A : Option Addr} {xs : List It4} (h : w.ownsRow base e 4 (.slice A n c) n (flatI xs)) (hn : xs.length = n) : Purses w w.heap.size A xs := by
 intro k hk
 obtain ⟨g, cap, e1, _, hg, _, _⟩ := own_form h (by omega)
 injection e1 with e1 e2 e3
 subst e1
 obtain ⟨r0, r1, r2, r3⟩ := flatI_at xs k hk
 refine ⟨g, 0, rfl, hg, ?_, ?_, ?_, ?_⟩
 · rw [Nat.zero_add]; exact (h.cellAt (k * 4) (by omega)).trans r0
 · rw [Nat.zero_add]; exact (h.cellAt (k * 4 + 1) (by omega)).trans r1
 · rw [Nat.zero_add]; exact (h.cellAt (k * 4 + 2) (by omega)).trans r2
 · rw [Nat.zero_add]; exact (h.cellAt (k * 4 + 3) (by omega)).trans r3
theorem rowsP_get {l : Pm} {j : Nat} (h : j < l.length) : ∃ r : Hd, (rowsP l)[j]? = some r ∧ (flatH (rowsP l))[j * 5]? = some (encB r.1) ∧ (flatH (rowsP l))[j * 5 + 1]? = some (.int .i64 r.2.1) ∧ (flatH (rowsP l))[j * 5 + 2]? = some (.int .i64 r.2.2.1) ∧ (flatH (rowsP l))[j * 5 + 3]? = some (.int .i64 r.2.2.2.1) ∧ (flatH (rowsP l))[j * 5 + 4]? = some (.int .i64 r.2.2.2.2) := by
 have hk : j < (rowsP l).length := by rw [rowsP_len]; exact h
 exact ⟨(rowsP l)[j], List.getElem?_eq_getElem hk, flatH_at _ j hk⟩
theorem addV_form (q : Option Q) : ∃ (t0 t1 t2 t3 : Int) (f : Bool), addV q = .tuple #[.agg #[.int .i64 t0, .int .i64 t1, .int .i64 t2, .int .i64 t3], .bool f] := by
 cases q with
 | none => exact ⟨0, 0, 0, 0, false, rfl⟩
 | some s => exact ⟨s.1, s.2.1, s.2.2.1, s.2.2.2, true, rfl⟩
set_option maxHeartbeats 8000000 in
set_option maxRecDepth 10000 in
theorem vtTotalA (b : Nat) (p : Value) (v : Nat → Value) (l : Pm) (L : List Od) (last gone : Int) (w : World) (h : VtAt w b p v l L last gone) (hlen : l.length ≤ 1000) :
  Calls Tryz.prog 26 #[.pointer (some ⟨b, 0, none⟩)] w fun e w' => e = .returned (addV (addTo (0, 0, 0, 0) (allP l L))) ∧ Below w.heap.size w w' := by
 obtain ⟨i0, hi, hz0, hz1, hz2⟩ := info_parts Tryz.infoIts
 obtain ⟨t0, t1, t2, t3, ff, hadd⟩ : ∃ (t0 t1 t2 t3 : Int) (f : Bool), addV (addTo (0, 0, 0, 0) (allP l L)) = .tuple #[.agg #[.int .i64 t0, .int .i64 t1, .int .i64 t2, .int .i64 t3], .bool f] := by
  exact addV_form _
 obtain ⟨V, hV⟩ : ∃ V, V = addV (addTo (0, 0, 0, 0) (allP l L)) := ⟨_, rfl⟩
 rw [← hV]
 have HVV : Hid (V = .tuple #[.agg #[.int .i64 t0, .int .i64 t1, .int .i64 t2, .int .i64 t3], .bool ff]) := Lib.hid (by rw [hV]; exact hadd)
 clear hV
 have hL32 : L.length ≤ 32 := by obtain ⟨S, _, _, _, h5, _⟩ := h; exact h5
 have hLok : ∀ o ∈ L, OkO o := by obtain ⟨S, _, _, hk, _⟩ := h; exact hk.ok
 obtain ⟨W1, hW1⟩ : ∃ W1, W1 = w.alloc (.cells #[.int .i64 0, .int .i64 0, .int .i64 0, .int .i64 0] 36) := ⟨_, rfl⟩
 have hs1 : W1.heap.size = w.heap.size + 1 := by rw [hW1]; simp
 have B1 : Below w.heap.size w W1 := by rw [hW1]; exact (Below.refl _ _).alloc (Nat.le_refl _) _
 have P1 : Whl W1 w.heap.size 36 #[.int .i64 0, .int .i64 0, .int .i64 0, .int .i64 0] := by rw [hW1]; exact Whl.new rfl
 have HV1 := Lib.hid (h.below B1)
 have HB1 := Lib.hid B1
 have HP1 := Lib.hid P1
 have HADD := Lib.hid hadd
 have HLOK := Lib.hid hLok
 clear h B1 P1 hadd hLok
 go_enter Tryz.func26, Tryz.ntmps26
 go_wp2_with (first
  | (go_at_call 25; rw [← hW1]; clear hW1; go_loud (refine (vtList b p v l L last gone _ HV1.out hlen).mono ?_; rintro e w2 ⟨v1, v2, rfl, h1, h2, hb2⟩; obtain ⟨A1, c1, rfl, _, _, _⟩ := own_slice h1; obtain ⟨A2, c2, rfl, _, _, _⟩ := own_slice h2; have HO1 := Lib.hid h1; have HO2 := Lib.hid h2; have HB2 := Lib.hid hb2; clear h1 h2 hb2))
  | fail)
 have hs2 := HB2.out.size
 go_loopw [7, 9, 23] (fun t zv i wr => ∃ j : Nat, j ≤ l.length ∧ i = .int .i64 j ∧ wr.ownsRow w2.heap.size 36 4 t j (flatI (((rowsP l).map (·.2)).take j)) ∧ Below w2.heap.size w2 wr) (fun _ _ i _ => l.length - (intOf i).toNat)
 case atStart => exact ⟨0, Nat.zero_le _, rfl, World.ownsRow_nil _ _ _ _, Below.refl _ _⟩
 case round =>
  obtain ⟨j, hj, rfl, hown, hB⟩ := hrel
  have hBs := hB.size
  by_cases hjl : j < l.length
  ·
   have q1 : (j : Int) < (l.length : Int) := by omega
   cases A1 with
   | none => have := HO1.out.2; rcases this with ⟨_, h0⟩ | ⟨g0, _, _, e, _⟩; (exact absurd h0 (by omega)); injection e with e; cases e
   | some ad =>
   obtain ⟨gq, cq, e1, hq5, hq6, _, _⟩ := own_form HO1.out (by omega)
   simp only [Value.slice.injEq, Option.some.injEq, true_and] at e1
   obtain ⟨rfl, rfl⟩ := e1
   obtain ⟨r, hr, r0, r1, r2, r3, r4⟩ := rowsP_get hjl
   have hrow := row_belowV HO1.out hB
   have y0 := (hrow.cellAt (j * 5) (by omega)).trans r0
   have y1 := (hrow.cellAt (j * 5 + 1) (by omega)).trans r1
   have y2 := (hrow.cellAt (j * 5 + 2) (by omega)).trans r2
   have y3 := (hrow.cellAt (j * 5 + 3) (by omega)).trans r3
   have y4 := (hrow.cellAt (j * 5 + 4) (by omega)).trans r4
   obtain ⟨ky, a0, a1, a2, a3⟩ := r
   simp only at y0 y1 y2 y3 y4
   obtain ⟨s, hs⟩ : ∃ s : ByteArray, encB ky = .string s := ⟨_, rfl⟩
   rw [hs] at y0
   have htk : ((rowsP l).map (·.2)).take (j + 1) = ((rowsP l).map (·.2)).take j ++ [(a0, a1, a2, a3)] := by
    rw [List.take_add_one, List.getElem?_map, hr]; rfl
   have HTK := Lib.hid htk
   have HB := Lib.hid hB
   have HOW := Lib.hid hown
   clear r0 r1 r2 r3 r4 hr hrow hs htk hown hB
   have HT : Hid (((wr.alloc (.cells #[.string s, .int .i64 a0, .int .i64 a1, .int .i64 a2, .int .i64 a3] 85)).alloc (.cells #[.int .i64 a0, .int .i64 a1, .int .i64 a2, .int .i64 a3] 36)).ownsRow w2.heap.size 36 4 _ j (flatI (((rowsP l).map (·.2)).take j))) := Lib.hid (row_belowV HOW.out (((Below.refl _ _).alloc (Nat.le_refl _) _).alloc (by simp) _))
   have HC : Hid (Cells ((wr.alloc (.cells #[.string s, .int .i64 a0, .int .i64 a1, .int .i64 a2, .int .i64 a3] 85)).alloc (.cells #[.int .i64 a0, .int .i64 a1, .int .i64 a2, .int .i64 a3] 36)) (wr.heap.size + 2) (some ⟨wr.heap.size + 1, 0, none⟩) 1 1 4 [.int .i64 a0, .int .i64 a1, .int .i64 a2, .int .i64 a3]) := Lib.hid ⟨rfl, (fun e => by cases e), fun k u hu => ⟨_, _, rfl, by omega, by rw [Nat.zero_add, (Whl.new (by simp)).cell]; simpa using hu⟩⟩
   go_wp2_with (first
    | (at_builtin; go_must (refine wpList_append_row rfl (.tmp 27) (.tmp 30) 133 rfl w2.heap.size 36 i0 (.agg #[.int .i64 0, .int .i64 0, .int .i64 0, .int .i64 0]) 4 32 Tryz.underlying133 hi hz0 hz1 hz2 rfl (by decide) u7 j (flatI (((rowsP l).map (·.2)).take j)) rfl HT.out (wr.heap.size + 2) (some ⟨wr.heap.size + 1, 0, none⟩) 1 1 [.int .i64 a0, .int .i64 a1, .int .i64 a2, .int .i64 a3] rfl HC.out (by intro u hu; simp at hu; rcases hu with rfl | rfl | rfl | rfl <;> rfl) (by unfold maxLen; omega) (by omega) (by simp; omega) ?_); intro v6 w6 hown6 hb6; have HO6 := Lib.hid hown6; have HB6 := Lib.hid hb6; clear hown6 hb6)
    | fail)
   have h6 := HO6.out
   refine ⟨⟨j + 1, by omega, by go_num, ?_, ?_⟩, by simp [intOf]; omega⟩
   · rw [HTK.out, flatI_app]; exact h6
   · exact ((HB.out.alloc hBs _).alloc (by simp; omega) _).trans HB6.out
  ·
   obtain rfl : j = l.length := by omega
   rw [List.take_of_length_le (by simp [rowsP_len])] at hown
   have HBF := Lib.hid hB
   have HOF := Lib.hid hown
   clear hown hB
   go_wp2_with fail
   go_loopw [7, 11, 35] (fun t zv i wq => ∃ j : Nat, j ≤ L.length ∧ i = .int .i64 j ∧ wq.ownsRow w2.heap.size 36 4 t (l.length + j) (flatI ((rowsP l).map (·.2) ++ (L.take j).map heldP)) ∧ Below w2.heap.size w2 wq) (fun _ _ i _ => L.length - (intOf i).toNat)
   case atStart => exact ⟨0, Nat.zero_le _, rfl, by simpa using HOF.out, HBF.out⟩
   case round =>
    clear HBF HOF
    obtain ⟨j, hj, rfl, hown, hB⟩ := hrel
    have hBq := hB.size
    by_cases hjl : j < L.length
    ·
     have q1 : (j : Int) < (L.length : Int) := by omega
     cases A2 with
     | none => have := HO2.out.2; rcases this with ⟨_, h0⟩ | ⟨g0, _, _, e, _⟩; (exact absurd h0 (by omega)); injection e with e; cases e
     | some ad =>
     obtain ⟨gq, cq, e1, hq5, hq6, _, _⟩ := own_form HO2.out (by omega)
     simp only [Value.slice.injEq, Option.some.injEq, true_and] at e1
     obtain ⟨rfl, rfl⟩ := e1
     obtain ⟨r0, r1, r2, r3, r4, r5⟩ := flatO_at L j hjl
     obtain ⟨x, hx⟩ : ∃ x, x = L[j] := ⟨_, rfl⟩
     rw [← hx] at r0 r1 r2 r3 r4 r5
     have hrow := row_belowV HO2.out hB
     have y0 := (hrow.cellAt (j * 6) (ixO0 hjl)).trans r0
     have y1 := (hrow.cellAt (j * 6 + 1) (ixO hjl 1 (by decide))).trans r1
     have y2 := (hrow.cellAt (j * 6 + 2) (ixO hjl 2 (by decide))).trans r2
     have y3 := (hrow.cellAt (j * 6 + 3) (ixO hjl 3 (by decide))).trans r3
     have y4 := (hrow.cellAt (j * 6 + 4) (ixO hjl 4 (by decide))).trans r4
     have y5 := (hrow.cellAt (j * 6 + 5) (ixO hjl 5 (by decide))).trans r5
     have HOX : Hid (OkO x) := Lib.hid (HLOK.out x (by rw [hx]; exact List.getElem_mem hjl))
     obtain ⟨hp, hhp⟩ : ∃ hp, hp = heldP x := ⟨_, rfl⟩
     have HHP := Lib.hid hhp
     obtain ⟨a0, a1, a2, a3⟩ := hp
     have htk : (rowsP l).map (·.2) ++ (L.take (j + 1)).map heldP = ((rowsP l).map (·.2) ++ (L.take j).map heldP) ++ [(a0, a1, a2, a3)] := by
      rw [List.take_add_one, List.getElem?_eq_getElem hjl, ← hx, hhp]; simp
     have HTK := Lib.hid htk
     have HB := Lib.hid hB
     have HOW := Lib.hid hown
     clear r0 r1 r2 r3 r4 r5 hrow hx htk hown hB hhp
     go_wp2_with (first
      | (go_at_call 42; go_loud (refine (vtHeld x _ HOX.out).mono ?_; rintro e w5 ⟨he, hb5⟩; rw [← HHP.out] at he; simp only [itV] at he; subst he; have hs5 := hb5.size; simp at hs5; have HB5 : Hid (Below w2.heap.size w2 w5) := Lib.hid ((HB.out.alloc hBq _).trans (hb5.mono (by simp; omega))); have HT : Hid ((w5.alloc (.cells #[.int .i64 a0, .int .i64 a1, .int .i64 a2, .int .i64 a3] 36)).ownsRow w2.heap.size 36 4 _ (l.length + j) (flatI ((rowsP l).map (·.2) ++ (L.take j).map heldP))) := Lib.hid (row_belowV (row_belowV (row_belowV HOW.out ((Below.refl _ _).alloc (Nat.le_refl _) _)) hb5) ((Below.refl _ _).alloc (Nat.le_refl _) _)); have HC : Hid (Cells (w5.alloc (.cells #[.int .i64 a0, .int .i64 a1, .int .i64 a2, .int .i64 a3] 36)) (w5.heap.size + 1) (some ⟨w5.heap.size, 0, none⟩) 1 1 4 [.int .i64 a0, .int .i64 a1, .int .i64 a2, .int .i64 a3]) := Lib.hid ⟨rfl, (fun e => by cases e), fun k u hu => ⟨_, _, rfl, by omega, by rw [Nat.zero_add, (Whl.new rfl).cell]; simpa using hu⟩⟩; clear hb5))
      | (at_builtin; go_must (refine wpList_append_row rfl (.tmp 39) (.tmp 42) 133 rfl w2.heap.size 36 i0 (.agg #[.int .i64 0, .int .i64 0, .int .i64 0, .int .i64 0]) 4 32 Tryz.underlying133 hi hz0 hz1 hz2 rfl (by decide) u7 (l.length + j) (flatI ((rowsP l).map (·.2) ++ (L.take j).map heldP)) rfl HT.out (w5.heap.size + 1) (some ⟨w5.heap.size, 0, none⟩) 1 1 [.int .i64 a0, .int .i64 a1, .int .i64 a2, .int .i64 a3] rfl HC.out (by intro u hu; simp at hu; rcases hu with rfl | rfl | rfl | rfl <;> rfl) (by unfold maxLen; omega) (by omega) (by simp; omega) ?_); intro v6 w6 hown6 hb6; have HO6 := Lib.hid hown6; have HB6 := Lib.hid hb6; clear hown6 hb6)
      | fail)
     have h6 := HO6.out
     refine ⟨⟨j + 1, by omega, by go_num, ?_, ?_⟩, by simp [intOf]; omega⟩
     · rw [HTK.out, flatI_app]; exact h6
     · exact (HB5.out.alloc (by omega) _).trans HB6.out
    ·
     obtain rfl : j = L.length := by omega
     rw [List.take_of_length_le (Nat.le_refl _)] at hown
     have hlen2 : (allP l L).length = l.length + L.length := by simp [allP, rowsP_len]
     have hown2 := hown
     rw [← hlen2] at hown2
     obtain ⟨At, kt, hvt, _, _, _⟩ := own_slice hown2
     subst hvt
     have hpu := purses_own (xs := allP l L) hown2 rfl
     have HPU := Lib.hid hpu
     have HBq := Lib.hid hB
     have hPz := (HP1.out.below HB2.out (by omega)).below hB (by omega)
     have HPZ := Lib.hid hPz
     clear hown hown2 hB hpu
     have hl6 : (allP l L).length ≤ 1000000 := by omega
     have HA2 := HADD
     clear hlen2
     obtain ⟨ys, hys⟩ : ∃ x, x = allP l L := ⟨_, rfl⟩
     rw [← hys] at HPU hl6 HA2 ⊢
     clear hys
     go_wp2_with (first
      | (go_at_call 58; go_loud (refine (purseAdd At kt ys _ hl6 HPU.out).mono ?_; rintro e w8 ⟨he, hb8⟩; rw [HA2.out] at he; subst he; have hs8 := hb8.size; have HB8 := Lib.hid hb8; have P8 := HPZ.out.below hb8 (by have := HB2.out.size; omega); have z0 := P8.cell 0; have z1 := P8.cell 1; have z2 := P8.cell 2; have z3 := P8.cell 3; have f0 := P8.free 0; have f1 := P8.free 1; have f2 := P8.free 2; have f3 := P8.free 3; simp only [List.getElem?_toArray, List.getElem?_cons_succ, List.getElem?_cons_zero] at z0 z1 z2 z3; clear hb8 P8))
      | fail)
     have hbw : Below w.heap.size w w8 := ((HB1.out.trans (HB2.out.mono (by omega))).trans (HBq.out.mono (by omega))).trans (HB8.out.mono (by omega))
     refine bodyPost_ret (v := .tuple #[.agg #[.int .i64 t0, .int .i64 t1, .int .i64 t2, .int .i64 t3], .bool ff]) (by simp [results, Tryz.results26, go_sem, ↓IntWalk.iteOmega, *]) rfl ⟨by rw [HVV.out], by exact tB⟩
set_option maxHeartbeats 8000000 in
set_option maxRecDepth 10000 in
theorem refTotal (B d x : Nat) (u u2 : Value) (l : Pm) (L : List Od) (last nx : Int) (w : World) (h : RvH w B d x u u2 (rowsP l) L last nx) (hk : ∀ o ∈ L, OkO o) (h32 : L.length ≤ 32) (hlen : l.length ≤ 1000) :
  Calls Tryz.prog 27 #[.pointer (some ⟨d, 0, none⟩)] w fun e w' => e = .returned (addV (addTo (0, 0, 0, 0) (allP l L))) ∧ Below w.heap.size w w' := by
 obtain ⟨i0, hi, hz0, hz1, hz2⟩ := info_parts Tryz.infoIts
 obtain ⟨t0, t1, t2, t3, ff, hadd⟩ : ∃ (t0 t1 t2 t3 : Int) (f : Bool), addV (addTo (0, 0, 0, 0) (allP l L)) = .tuple #[.agg #[.int .i64 t0, .int .i64 t1, .int .i64 t2, .int .i64 t3], .bool f] := addV_form _
 obtain ⟨V, hV⟩ : ∃ V, V = addV (addTo (0, 0, 0, 0) (allP l L)) := ⟨_, rfl⟩
 rw [← hV]
 have HVV : Hid (V = .tuple #[.agg #[.int .i64 t0, .int .i64 t1, .int .i64 t2, .int .i64 t3], .bool ff]) := Lib.hid (by rw [hV]; exact hadd)
 clear hV
 obtain ⟨W1, hW1⟩ : ∃ W1, W1 = w.alloc (.cells #[.int .i64 0, .int .i64 0, .int .i64 0, .int .i64 0] 36) := ⟨_, rfl⟩
 have hs1 : W1.heap.size = w.heap.size + 1 := by rw [hW1]; simp
 have B1 : Below w.heap.size w W1 := by rw [hW1]; exact (Below.refl _ _).alloc (Nat.le_refl _) _
 have P1 : Whl W1 w.heap.size 36 #[.int .i64 0, .int .i64 0, .int .i64 0, .int .i64 0] := by rw [hW1]; exact Whl.new rfl
 have h1 := h.below B1
 obtain ⟨Ar, cr, rfl, _, _, _⟩ := own_slice h1.row
 obtain ⟨A2, c2, rfl, _, _, _⟩ := own_slice h1.bk.row
 have hdl := h1.whl.low
 have hxl := h1.bk.blk.low
 have k0 := h1.whl.cell 0
 have k1 := h1.whl.cell 1
 have k3 := h1.bk.blk.cell 0
 simp only [List.getElem?_toArray, List.getElem?_cons_succ, List.getElem?_cons_zero] at k0 k1 k3
 have HO1 := Lib.hid h1.row
 have HO2 := Lib.hid h1.bk.row
 have HB1 := Lib.hid B1
 have HP1 := Lib.hid P1
 have HADD := Lib.hid hadd
 have HLOK := Lib.hid hk
 have hrl : (rowsP l).length = l.length := rowsP_len l
 have HRL := Lib.hid hrl
 clear h h1 B1 P1 hadd hk hrl
 go_enter Tryz.func27, Tryz.ntmps27
 go_wp2_with fail
 rw [← hW1]
 clear hW1
 go_loopw [4, 5] (fun t iv wr => ∃ j : Nat, j ≤ (rowsP l).length ∧ iv = .int .i64 j ∧ wr.ownsRow W1.heap.size 36 4 t j (flatI (((rowsP l).map (·.2)).take j)) ∧ Below W1.heap.size W1 wr) (fun _ iv _ => (rowsP l).length - (intOf iv).toNat)
 case atStart => exact ⟨0, Nat.zero_le _, rfl, World.ownsRow_nil _ _ _ _, Below.refl _ _⟩
 case round =>
  obtain ⟨j, hj, rfl, hown, hB⟩ := hrel
  have hBs := hB.size
  have m0 := bkeep hB k0 hdl
  have hll : (rowsP l).length ≤ 1000 := by rw [HRL.out]; exact hlen
  by_cases hjl : j < (rowsP l).length
  ·
   have q1 : (j : Int) < ((rowsP l).length : Int) := by omega
   cases Ar with
   | none => have := HO1.out.2; rcases this with ⟨_, h0⟩ | ⟨g0, _, _, e, _⟩; (exact absurd h0 (by omega)); injection e with e; cases e
   | some ad =>
   obtain ⟨gq, cq, e1, hq5, hq6, _, _⟩ := own_form HO1.out (by omega)
   simp only [Value.slice.injEq, Option.some.injEq, true_and] at e1
   obtain ⟨rfl, rfl⟩ := e1
   obtain ⟨_, r1, r2, r3, r4⟩ := flatH_at (rowsP l) j hjl
   have hrow := row_belowV HO1.out hB
   obtain ⟨r, hr⟩ : ∃ r, r = (rowsP l)[j] := ⟨_, rfl⟩
   rw [← hr] at r1 r2 r3 r4
   have y1 := (hrow.cellAt (j * 5 + 1) (by omega)).trans r1
   have y2 := (hrow.cellAt (j * 5 + 2) (by omega)).trans r2
   have y3 := (hrow.cellAt (j * 5 + 3) (by omega)).trans r3
   have y4 := (hrow.cellAt (j * 5 + 4) (by omega)).trans r4
   obtain ⟨ky, a0, a1, a2, a3⟩ := r
   simp only at y1 y2 y3 y4
   have htk : ((rowsP l).map (·.2)).take (j + 1) = ((rowsP l).map (·.2)).take j ++ [(a0, a1, a2, a3)] := by
    rw [List.take_add_one, List.getElem?_map, List.getElem?_eq_getElem hjl, ← hr]; rfl
   have HTK := Lib.hid htk
   have HB := Lib.hid hB
   have HT : Hid ((wr.alloc (.cells #[.int .i64 a0, .int .i64 a1, .int .i64 a2, .int .i64 a3] 36)).ownsRow W1.heap.size 36 4 _ j (flatI (((rowsP l).map (·.2)).take j))) := Lib.hid (row_belowV hown ((Below.refl _ _).alloc (Nat.le_refl _) _))
   have HC : Hid (Cells (wr.alloc (.cells #[.int .i64 a0, .int .i64 a1, .int .i64 a2, .int .i64 a3] 36)) (wr.heap.size + 1) (some ⟨wr.heap.size, 0, none⟩) 1 1 4 [.int .i64 a0, .int .i64 a1, .int .i64 a2, .int .i64 a3]) := Lib.hid ⟨rfl, (fun e => by cases e), fun k u hu => ⟨_, _, rfl, by omega, by rw [Nat.zero_add, (Whl.new rfl).cell]; simpa using hu⟩⟩
   clear r1 r2 r3 r4 hr hrow htk hown hB
   go_wp2_with (first
    | (at_builtin; go_must (refine wpList_append_row rfl (.tmp 16) (.tmp 25) 133 rfl W1.heap.size 36 i0 (.agg #[.int .i64 0, .int .i64 0, .int .i64 0, .int .i64 0]) 4 32 Tryz.underlying133 hi hz0 hz1 hz2 rfl (by decide) u4 j (flatI (((rowsP l).map (·.2)).take j)) rfl HT.out (wr.heap.size + 1) (some ⟨wr.heap.size, 0, none⟩) 1 1 [.int .i64 a0, .int .i64 a1, .int .i64 a2, .int .i64 a3] rfl HC.out (by intro u hu; simp at hu; rcases hu with rfl | rfl | rfl | rfl <;> rfl) (by unfold maxLen; omega) (by omega) (by simp; omega) ?_); intro v6 w6 hown6 hb6; have HO6 := Lib.hid hown6; have HB6 := Lib.hid hb6; clear hown6 hb6)
    | fail)
   have h6 := HO6.out
   refine ⟨⟨j + 1, by omega, by go_num, ?_, ?_⟩, by simp [intOf]; omega⟩
   · rw [HTK.out, flatI_app]; exact h6
   · exact (HB.out.alloc hBs _).trans HB6.out
  ·
   obtain rfl : (rowsP l).length = j := by omega
   rw [List.take_of_length_le (by simp)] at hown
   have HBF := Lib.hid hB
   have HOF := Lib.hid hown
   clear hown hB
   go_wp2_with fail
   go_loopw [4, 6] (fun t iv wq => ∃ j : Nat, j ≤ L.length ∧ iv = .int .i64 j ∧ wq.ownsRow W1.heap.size 36 4 t ((rowsP l).length + j) (flatI ((rowsP l).map (·.2) ++ (L.take j).map heldP)) ∧ Below W1.heap.size W1 wq) (fun _ iv _ => L.length - (intOf iv).toNat)
   case atStart => exact ⟨0, Nat.zero_le _, rfl, by simpa using HOF.out, HBF.out⟩
   case round =>
    clear HBF HOF m0
    obtain ⟨j, hj, rfl, hown, hB⟩ := hrel
    have hBq := hB.size
    have m1 := bkeep hB k1 hdl
    have m3 := bkeep hB k3 hxl
    by_cases hjl : j < L.length
    ·
     have q1 : (j : Int) < (L.length : Int) := by omega
     cases A2 with
     | none => have := HO2.out.2; rcases this with ⟨_, h0⟩ | ⟨g0, _, _, e, _⟩; (exact absurd h0 (by omega)); injection e with e; cases e
     | some ad =>
     obtain ⟨gq, cq, e1, hq5, hq6, _, _⟩ := own_form HO2.out (by omega)
     simp only [Value.slice.injEq, Option.some.injEq, true_and] at e1
     obtain ⟨rfl, rfl⟩ := e1
     obtain ⟨r0, r1, r2, r3, r4, r5⟩ := flatO_at L j hjl
     obtain ⟨z, hz⟩ : ∃ z, z = L[j] := ⟨_, rfl⟩
     rw [← hz] at r0 r1 r2 r3 r4 r5
     have hrow := row_belowV HO2.out hB
     have y0 := (hrow.cellAt (j * 6) (ixO0 hjl)).trans r0
     have y1 := (hrow.cellAt (j * 6 + 1) (ixO hjl 1 (by decide))).trans r1
     have y2 := (hrow.cellAt (j * 6 + 2) (ixO hjl 2 (by decide))).trans r2
     have y3 := (hrow.cellAt (j * 6 + 3) (ixO hjl 3 (by decide))).trans r3
     have y4 := (hrow.cellAt (j * 6 + 4) (ixO hjl 4 (by decide))).trans r4
     have y5 := (hrow.cellAt (j * 6 + 5) (ixO hjl 5 (by decide))).trans r5
     have HOZ : Hid (OkO z) := Lib.hid (HLOK.out z (by rw [hz]; exact List.getElem_mem hjl))
     obtain ⟨hp, hhp⟩ : ∃ hp, hp = heldP z := ⟨_, rfl⟩
     have HHP := Lib.hid hhp
     obtain ⟨a0, a1, a2, a3⟩ := hp
     have htk : (rowsP l).map (·.2) ++ (L.take (j + 1)).map heldP = ((rowsP l).map (·.2) ++ (L.take j).map heldP) ++ [(a0, a1, a2, a3)] := by
      rw [List.take_add_one, List.getElem?_eq_getElem hjl, ← hz, hhp]; simp
     have HTK := Lib.hid htk
     have HB := Lib.hid hB
     have HOW := Lib.hid hown
     clear r0 r1 r2 r3 r4 r5 hrow hz htk hown hB hhp
     go_wp2_with (first
      | (go_at_call 48; go_loud (refine (refHolds z _ HOZ.out).mono ?_; rintro e w5 ⟨he, hb5⟩; rw [← HHP.out] at he; simp only [itV] at he; subst he; have hs5 := hb5.size; have HB5 : Hid (Below W1.heap.size W1 w5) := Lib.hid (HB.out.trans (hb5.mono hBq)); have HT : Hid ((w5.alloc (.cells #[.int .i64 a0, .int .i64 a1, .int .i64 a2, .int .i64 a3] 36)).ownsRow W1.heap.size 36 4 _ ((rowsP l).length + j) (flatI ((rowsP l).map (·.2) ++ (L.take j).map heldP))) := Lib.hid (row_belowV (row_belowV HOW.out hb5) ((Below.refl _ _).alloc (Nat.le_refl _) _)); have HC : Hid (Cells (w5.alloc (.cells #[.int .i64 a0, .int .i64 a1, .int .i64 a2, .int .i64 a3] 36)) (w5.heap.size + 1) (some ⟨w5.heap.size, 0, none⟩) 1 1 4 [.int .i64 a0, .int .i64 a1, .int .i64 a2, .int .i64 a3]) := Lib.hid ⟨rfl, (fun e => by cases e), fun k u hu => ⟨_, _, rfl, by omega, by rw [Nat.zero_add, (Whl.new rfl).cell]; simpa using hu⟩⟩; clear hb5))
      | (at_builtin; go_must (refine wpList_append_row rfl (.tmp 39) (.tmp 51) 133 rfl W1.heap.size 36 i0 (.agg #[.int .i64 0, .int .i64 0, .int .i64 0, .int .i64 0]) 4 32 Tryz.underlying133 hi hz0 hz1 hz2 rfl (by decide) u4 ((rowsP l).length + j) (flatI ((rowsP l).map (·.2) ++ (L.take j).map heldP)) rfl HT.out (w5.heap.size + 1) (some ⟨w5.heap.size, 0, none⟩) 1 1 [.int .i64 a0, .int .i64 a1, .int .i64 a2, .int .i64 a3] rfl HC.out (by intro u hu; simp at hu; rcases hu with rfl | rfl | rfl | rfl <;> rfl) (by unfold maxLen; omega) (by omega) (by simp; omega) ?_); intro v6 w6 hown6 hb6; have HO6 := Lib.hid hown6; have HB6 := Lib.hid hb6; clear hown6 hb6)
      | fail)
     have h6 := HO6.out
     refine ⟨⟨j + 1, by omega, by go_num, ?_, ?_⟩, by simp [intOf]; omega⟩
     · rw [HTK.out, flatI_app]; exact h6
     · exact (HB5.out.alloc (by omega) _).trans HB6.out
    ·
     obtain rfl : L.length = j := by omega
     rw [List.take_of_length_le (Nat.le_refl _)] at hown
     have hlen2 : (allP l L).length = (rowsP l).length + L.length := by simp [allP]
     have hown2 := hown
     rw [← hlen2] at hown2
     obtain ⟨At, kt, hvt, _, _, _⟩ := own_slice hown2
     subst hvt
     have hpu := purses_own (xs := allP l L) hown2 rfl
     have HPU := Lib.hid hpu
     have HBq := Lib.hid hB
     have HPZ := Lib.hid (HP1.out.below hB (by omega))
     have hl6 : (allP l L).length ≤ 1000000 := by omega
     have HA2 := HADD
     clear hown hown2 hB hpu hlen2
     obtain ⟨ys, hys⟩ : ∃ x, x = allP l L := ⟨_, rfl⟩
     rw [← hys] at HPU hl6 HA2 ⊢
     clear hys
     go_wp2_with (first
      | (go_at_call 62; go_loud (refine (refAdd At kt ys _ hl6 HPU.out).mono ?_; rintro e w8 ⟨he, hb8⟩; rw [HA2.out] at he; subst he; have hs8 := hb8.size; have HB8 := Lib.hid hb8; have P8 := HPZ.out.below hb8 (by omega); have z0 := P8.cell 0; have z1 := P8.cell 1; have z2 := P8.cell 2; have z3 := P8.cell 3; have f0 := P8.free 0; have f1 := P8.free 1; have f2 := P8.free 2; have f3 := P8.free 3; simp only [List.getElem?_toArray, List.getElem?_cons_succ, List.getElem?_cons_zero] at z0 z1 z2 z3; clear hb8 P8))
      | fail)
     have hbw : Below w.heap.size w w8 := (HB1.out.trans (HBq.out.mono (by omega))).trans (HB8.out.mono (by omega))
     refine bodyPost_ret (v := .tuple #[.agg #[.int .i64 t0, .int .i64 t1, .int .i64 t2, .int .i64 t3], .bool ff]) (by simp [results, Tryz.results27, go_sem, ↓IntWalk.iteOmega, *]) rfl ⟨by rw [HVV.out], by exact tB⟩
end Go.Proofs.YtdlbiobjnohfbaaGreat
