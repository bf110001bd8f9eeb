/- vault: its bytes; the code's Encode. -/
import Derived.Test.YtdlbiobjnohfbaaGreatVb38
namespace Go.Proofs.YtdlbiobjnohfbaaGreat
open Go.RowKit Go.ChangeMaps Go.MapKept
set_option linter.unusedVariables false
set_option linter.unusedSimpArgs false
theorem Wr.newV (w : World) : Wr (w.alloc (.cells #[.slice none 0 0] 82)) w.heap.size (w.heap.size + 1) [] := by
 have hc0 : (w.alloc (.cells #[.slice none 0 0] 82)).cell? ⟨w.heap.size, 0, none⟩ = some (.slice none 0 0) := by
  rw [cell_of_row _ _ _ _ _ _ (heap_alloc_new w _)]; rfl
 exact ⟨⟨_, hc0, World.ownsRow_nil _ _ _ _⟩, (Whl.new rfl : Whl (w.alloc (.cells #[.slice none 0 0] 82)) w.heap.size 82 #[.slice none 0 0]).free 0, by omega, by simp⟩
theorem wd_newV {w : World} {k : Nat} (hk : k ≠ w.heap.size) : ¬ WD (w.alloc (.cells #[.slice none 0 0] 82)) w.heap.size k := by
 have hc0 : (w.alloc (.cells #[.slice none 0 0] 82)).cell? ⟨w.heap.size, 0, none⟩ = some (.slice none 0 0) := by
  rw [cell_of_row _ _ _ _ _ _ (heap_alloc_new w _)]; rfl
 rintro (e | e)
 · exact hk e
 · rw [wrow_of hc0] at e; cases e
theorem WT.ownV {b : Nat} {w w' : World} (h : WT b w w') {B s n : Nat} {e : TypeId} {v : Value} {xs : List Value} (hr : w.ownsRow B e s v n xs) (hd : ∀ q, v.ownBlock = some q → ¬ WD w b q) : w'.ownsRow B e s v n xs := h.t.own hr (fun q hq e => hd q hq e)
theorem encs_leV (l : List Int) (n : Nat) (h : l.length ≤ n) : (encs l).length ≤ 10 * n := by have := encs_len l; omega
theorem encb_leV {s : ByteArray} (h : s.size ≤ 16) : (encb [bs s]).length ≤ 26 := by
 have := encb_len1 (s := s) (by omega) 1
 have e1 := enc_len (n := (bs s).length) (by rw [bs_length]; omega)
 rw [bs_length] at e1
 simp only [encb, List.flatMap_cons, List.flatMap_nil, List.append_nil, List.length_append]
 rw [bs_length]
 omega
def keyS (k : By) : ByteArray := ⟨k.toArray⟩
def fl (b : Bool) : Int := if b then 1 else 0
def rB (r : Hd) : List Nat := encb [bs (keyS r.1)] ++ encs [r.2.1, r.2.2.1, r.2.2.2.1, r.2.2.2.2]
def oB (o : Od) : List Nat := encs [o.id] ++ encb [bs o.who] ++ encs [fl o.buy, o.item, o.ct, o.pr]
def rsB (l : List Hd) : List Nat := l.flatMap rB
def osB (l : List Od) : List Nat := l.flatMap oB
def vB (l : Pm) (L : List Od) (nx : Int) : List Nat := encs [((rowsP l).length : Int)] ++ rsB (rowsP l) ++ encs [(L.length : Int)] ++ osB L ++ encs [nx]
theorem keyS_len {k : By} (h : k.length ≤ 16) : (keyS k).size ≤ 16 := by show k.toArray.size ≤ 16; simp; omega
theorem rB_len {r : Hd} (h : r.1.length ≤ 16) : (rB r).length ≤ 66 := by
 have h1 := encb_leV (s := keyS r.1) (keyS_len h)
 have h2 := encs_leV [r.2.1, r.2.2.1, r.2.2.2.1, r.2.2.2.2] 4 (by simp)
 unfold rB
 rw [List.length_append]; omega
theorem oB_len {o : Od} (h : o.who.size ≤ 16) : (oB o).length ≤ 76 := by
 have h1 := encb_leV (s := o.who) h
 have h2 := encs_leV [o.id] 1 (by simp)
 have h3 := encs_leV [fl o.buy, o.item, o.ct, o.pr] 4 (by simp)
 unfold oB
 rw [List.length_append, List.length_append]; omega
theorem rsB_len : ∀ (l : List Hd), (∀ r ∈ l, r.1.length ≤ 16) → (rsB l).length ≤ 66 * l.length
 | [], _ => by simp [rsB]
 | a :: r, h => by
  have h1 := rB_len (h a List.mem_cons_self)
  have h2 := rsB_len r (fun x hx => h x (List.mem_cons_of_mem _ hx))
  simp only [rsB, List.flatMap_cons, List.length_append, List.length_cons] at h2 ⊢
  omega
theorem osB_len : ∀ (l : List Od), (∀ r ∈ l, r.who.size ≤ 16) → (osB l).length ≤ 76 * l.length
 | [], _ => by simp [osB]
 | a :: r, h => by
  have h1 := oB_len (h a List.mem_cons_self)
  have h2 := osB_len r (fun x hx => h x (List.mem_cons_of_mem _ hx))
  simp only [osB, List.flatMap_cons, List.length_append, List.length_cons] at h2 ⊢
  omega
theorem rsB_snoc {l : List Hd} {k : Nat} (h : k < l.length) : rsB (l.take (k + 1)) = rsB (l.take k) ++ rB l[k] := by
 unfold rsB
 rw [List.take_add_one, List.getElem?_eq_getElem h, List.flatMap_append]
 simp
theorem osB_snoc {l : List Od} {k : Nat} (h : k < l.length) : osB (l.take (k + 1)) = osB (l.take k) ++ oB l[k] := by
 unfold osB
 rw [List.take_add_one, List.getElem?_eq_getElem h, List.flatMap_append]
 simp
theorem measV {j L : Nat} (h : j < L) : L - (intOf (.int .i64 ((j : Int) + 1))).toNat < L - (intOf (.int .i64 (j : Int))).toNat := by simp [intOf]; omega
theorem nums_row {w : World} {b q o : Nat} {l : List Int} (hd : ¬ WD w b q) (h : ∀ k (hk : k < l.length), w.cell? ⟨q, o + k, none⟩ = some (.int .i64 l[k])) : NumsAt w b (some ⟨q, o, none⟩) l := fun k hk => ⟨q, o, rfl, hd, h k hk⟩
theorem vtFlag (x : Bool) (w : World) : Calls Tryz.prog 38 #[.bool x] w fun e w' => e = .returned (.int .i64 (fl x)) ∧ w' = w := by
 cases x
 all_goals
  go_enter Tryz.func38, Tryz.ntmps38
  go_wp2_with fail
  go_ret
  exact ⟨rfl, rfl⟩
set_option maxHeartbeats 8000000 in
set_option maxRecDepth 10000 in
theorem vtEncode (b : Nat) (p : Value) (v : Nat → Value) (l : Pm) (L : List Od) (last gone : Int) (w : World) (h : VtAt w b p v l L last gone) (hlen : l.length ≤ 300) :
  Calls Tryz.prog 11 #[.pointer (some ⟨b, 0, none⟩)] w fun e w' => ∃ v', e = .returned v' ∧ w'.ownsRow w.heap.size 5 1 v' (vB l L (gone + 1)).length (flatU (vB l L (gone + 1))) ∧ Below w.heap.size w w' := by
 have cv : ∀ (w : World) (s : ByteArray), (convert 9 33 (.string s)).run Tryz.prog w = .ok (.slice (some ⟨w.heap.size, 0, none⟩) s.size (grownCap w s.size 0 5)) (Lib.bytesWorld w 5 s) := fun w s => Lib.run_convert_string_bytes w _ _ _ s Tryz.underlying9 Tryz.underlying33 Tryz.underlying5
 have hkeys : ∀ r ∈ rowsP l, r.1.length ≤ 16 := by
  obtain ⟨S, hv, _⟩ := h
  intro r hr
  exact (hv.ok.2 r ((rowsP_perm hv.ok.1).mem_iff.1 hr)).2.2.2
 have hwho : ∀ o ∈ L, o.who.size ≤ 16 := by
  obtain ⟨S, _, _, hk, _⟩ := h
  exact fun o ho => (hk.ok o ho).who.2
 have h32 : L.length ≤ 32 := by obtain ⟨S, _, _, _, h5, _⟩ := h; exact h5
 have hrl : (rowsP l).length = l.length := rowsP_len l
 have HKEYS := Lib.hid hkeys
 have HWHO := Lib.hid hwho
 have HV := Lib.hid h
 have HRL := Lib.hid hrl
 obtain ⟨R, hR⟩ : ∃ R, R = vB l L (gone + 1) := ⟨_, rfl⟩
 rw [← hR]
 have HRR := Lib.hid hR
 clear h hkeys hwho hrl hR
 go_enter Tryz.func11, Tryz.ntmps11
 go_wp2_with (first
  | (go_at_call 25; go_loud (refine (vtList b p v l L last gone _ HV.out (by omega)).mono ?_; rintro e w1 ⟨v1, v2, rfl, h1, h2, hb1⟩; obtain ⟨A1, c1, rfl, _, _, _⟩ := own_slice h1; obtain ⟨A2, c2, rfl, _, _, _⟩ := own_slice h2; have HO1 := Lib.hid h1; have HO2 := Lib.hid h2; have HB1 := Lib.hid hb1; have hs1 := hb1.size; clear h1 h2 hb1))
  | fail)
 obtain ⟨bw, hbw⟩ : ∃ x, x = w1.heap.size := ⟨_, rfl⟩
 have hWr : Wr (w1.alloc (.cells #[.slice none 0 0] 82)) bw (bw + 1) [] := by rw [hbw]; exact Wr.newV w1
 have hDU : ∀ q, q < bw → ¬ WD (w1.alloc (.cells #[.slice none 0 0] 82)) bw q := fun q hq => by have := wd_newV (w := w1) (k := q) (by omega); rw [← hbw] at this; exact this
 have O1 := row_belowV HO1.out ((Below.refl w1.heap.size w1).alloc (Nat.le_refl _) (.cells #[.slice none 0 0] 82))
 have O2 := row_belowV HO2.out ((Below.refl w1.heap.size w1).alloc (Nat.le_refl _) (.cells #[.slice none 0 0] 82))
 have BU : Below w.heap.size w (w1.alloc (.cells #[.slice none 0 0] 82)) := HB1.out.alloc hs1 _
 have hsU : (w1.alloc (.cells #[.slice none 0 0] 82)).heap.size = bw + 1 := by simp [hbw]
 have hg1 : ∀ q, (Value.slice A1 l.length c1).ownBlock = some q → q < bw := fun q hq => by have := (HO1.out.lt q hq).2; omega
 have hg2 : ∀ q, (Value.slice A2 L.length c2).ownBlock = some q → q < bw := fun q hq => by have := (HO2.out.lt q hq).2; omega
 rw [← hbw]
 have hbwl : w.heap.size ≤ bw := by omega
 generalize (w1.alloc (.cells #[.slice none 0 0] 82)) = U at *
 clear hbw hs1 HB1 HO1 HO2
 obtain ⟨H, hH⟩ : ∃ H, H = encs [(l.length : Int)] := ⟨_, rfl⟩
 have hHl : H.length ≤ 10 := by rw [hH]; exact encs_leV _ 1 (by simp)
 refine (wNumsH (l := [(l.length : Int)]) _ (by omega) (by simp) rfl (by simp) hWr).mono ?_
 rintro e w2 ⟨rfl, hW2, hT2⟩
 rw [← hH, List.nil_append] at hW2
 have HO1 := Lib.hid (hT2.ownV O1 (fun q hq => hDU q (hg1 q hq)))
 have HO2 := Lib.hid (hT2.ownV O2 (fun q hq => hDU q (hg2 q hq)))
 have HD2 : Hid (∀ q, q < bw → ¬ WD w2 bw q) := Lib.hid (fun q hq => hT2.far (by omega) (hDU q hq))
 have HB2 := Lib.hid (BU.trans ((hT2.base hWr).mono (by omega)))
 have HW2 := Lib.hid hW2
 have hs2 := hT2.size
 have HG1 := Lib.hid hg1
 have HG2 := Lib.hid hg2
 have HHH := Lib.hid hH
 clear hWr hDU O1 O2 BU hg1 hg2 hW2 hT2 hH
 go_wp2_with fail
 go_loopw [25] (fun kv wr => ∃ k : Nat, k ≤ l.length ∧ kv = .int .i64 k ∧ Wr wr bw (bw + 1) (H ++ rsB ((rowsP l).take k)) ∧ WT bw w2 wr) (fun kv _ => l.length - (intOf kv).toNat)
 case atStart => exact ⟨0, Nat.zero_le _, rfl, by simpa [rsB] using HW2.out, WT.refl _ _⟩
 case round =>
  obtain ⟨k, hkl, rfl, hW, hT⟩ := hrel
  have hwr := hT.size
  have hlow := hW.lowH
  by_cases hkt : k < l.length
  ·
   have q5 : (k : Int) < (l.length : Int) := by omega
   have hrow := hT.ownV HO1.out (fun q hq => HD2.out q (HG1.out q hq))
   cases A1 with
   | none => have := HO1.out.2; rcases this with ⟨_, h0⟩ | ⟨g0, _, _, e, _⟩; (exact absurd h0 (by omega)); injection e with e; cases e
   | some ad =>
   obtain ⟨gq, cq, e1, hq5, hq6, _, _⟩ := own_form hrow (by omega)
   simp only [Value.slice.injEq, Option.some.injEq, true_and] at e1
   obtain ⟨rfl, rfl⟩ := e1
   have hkr : k < (rowsP l).length := by rw [HRL.out]; exact hkt
   obtain ⟨r0, r1, r2, r3, r4⟩ := flatH_at (rowsP l) k hkr
   obtain ⟨r, hr⟩ : ∃ r, r = (rowsP l)[k] := ⟨_, rfl⟩
   rw [← hr] at r0 r1 r2 r3 r4
   have y0 := (hrow.cellAt (k * 5) (by omega)).trans r0
   have y1 := (hrow.cellAt (k * 5 + 1) (by omega)).trans r1
   have y2 := (hrow.cellAt (k * 5 + 2) (by omega)).trans r2
   have y3 := (hrow.cellAt (k * 5 + 3) (by omega)).trans r3
   have y4 := (hrow.cellAt (k * 5 + 4) (by omega)).trans r4
   have hsn := rsB_snoc hkr
   rw [← hr] at hsn
   have hxl : (rsB ((rowsP l).take k)).length ≤ 66 * k := by
    have := rsB_len ((rowsP l).take k) (fun x hx => HKEYS.out x (List.mem_of_mem_take hx))
    rw [List.length_take] at this; omega
   have hkk : r.1.length ≤ 16 := HKEYS.out r (by rw [hr]; exact List.getElem_mem hkr)
   obtain ⟨ky, i0, i1, i2, i3⟩ := r
   simp only at y1 y2 y3 y4 hkk
   obtain ⟨s, hs⟩ : ∃ s : ByteArray, s = keyS ky := ⟨_, rfl⟩
   have hes : encB ky = .string s := by rw [hs]; rfl
   have hss : s.size ≤ 16 := by rw [hs]; exact keyS_len hkk
   have hrb : rB (ky, i0, i1, i2, i3) = encb [bs s] ++ encs [i0, i1, i2, i3] := by rw [hs]; rfl
   simp only at y0
   rw [hes] at y0
   obtain ⟨X, hX⟩ : ∃ X, X = H ++ rsB ((rowsP l).take k) := ⟨_, rfl⟩
   have hXl : X.length ≤ 19900 := by rw [hX, List.length_append]; omega
   rw [← hX] at hW
   have HSN : Hid (H ++ rsB ((rowsP l).take (k + 1)) = X ++ encb [bs s] ++ encs [i0, i1, i2, i3]) := Lib.hid (by rw [hsn, hX, hrb]; simp only [List.append_assoc])
   have HW := Lib.hid hW
   have HT := Lib.hid hT
   clear r0 r1 r2 r3 r4 hr hrow hX hsn hW hT hxl hrb hes hs hkk
   go_wp2_with fail
   have W0 := HW.out.allocH (.cells #[.string s, .int .i64 i0, .int .i64 i1, .int .i64 i2, .int .i64 i3] 85)
   have T0 := HT.out.alloc HW.out.lowH (.cells #[.string s, .int .i64 i0, .int .i64 i1, .int .i64 i2, .int .i64 i3] 85)
   have Q0 : Whl (wr.alloc (.cells #[.string s, .int .i64 i0, .int .i64 i1, .int .i64 i2, .int .i64 i3] 85)) wr.heap.size 85 #[.string s, .int .i64 i0, .int .i64 i1, .int .i64 i2, .int .i64 i3] := Whl.new rfl
   have D0 : ¬ WD (wr.alloc (.cells #[.string s, .int .i64 i0, .int .i64 i1, .int .i64 i2, .int .i64 i3] 85)) bw wr.heap.size := HW.out.farA _
   have s0 : (wr.alloc (.cells #[.string s, .int .i64 i0, .int .i64 i1, .int .i64 i2, .int .i64 i3] 85)).heap.size = wr.heap.size + 1 := by simp
   generalize (wr.alloc (.cells #[.string s, .int .i64 i0, .int .i64 i1, .int .i64 i2, .int .i64 i3] 85)) = x0 at *
   clear y0 y1 y2 y3 y4
   have yy1 : (Lib.bytesWorld x0 5 s).heap.size = x0.heap.size + 1 := bw_size _ _ _
   generalize hp1 : grownCap x0 s.size 0 5 = p1 at *
   generalize hY1 : Lib.bytesWorld x0 5 s = Y1 at *
   refine (wBytesH1 _ p1 _ _ hY1.symm (by omega) (by omega) (by omega) (by omega) W0).mono ?_
   rintro e x1 ⟨rfl, W1, t0⟩
   obtain ⟨X1, hX1⟩ : ∃ y, y = X ++ encb [bs s] := ⟨_, rfl⟩
   have hXl1 : X1.length ≤ X.length + 26 := by have := encb_leV (s := s) (by omega); rw [hX1, List.length_append]; omega
   rw [← hX1] at W1
   have HX1 := Lib.hid hX1
   have s1 := t0.size
   have T1 := T0.trans t0
   have Q1 := t0.whl Q0 D0
   have D1 := t0.far Q0.low D0
   have qq0 := Q1.low
   clear hX1 t0 T0 Q0 D0 W0
   go_wp2_with fail
   refine (wNumsT bw (bw + 1) _ _ [i0, i1, i2, i3] X1 _ (by simp) (by omega) W1 (nums_row D1 (fun k hk => ?_))).mono ?_
   ·
    match k, hk with
    | 0, _ => exact Q1.cell 1
    | 1, _ => exact Q1.cell 2
    | 2, _ => exact Q1.cell 3
    | 3, _ => exact Q1.cell 4
    | k + 4, h => exact absurd h (by simp)
   rintro e x2 ⟨rfl, W2, t2, n2⟩
   have T2 := T1.trans (⟨t2, n2⟩ : WT bw x1 x2)
   have HT2' := Lib.hid T2
   have HW2' := Lib.hid W2
   have hs2' := T2.size
   clear T1 T2 W1 W2 t2 n2 Q1 D1
   go_wp2_with fail
   refine ⟨⟨k + 1, hkt, by go_num, ?_, HT2'.out⟩, measV hkt⟩
   rw [HSN.out, ← HX1.out]
   exact HW2'.out
  ·
   obtain rfl : l.length = k := by omega
   have HWb := hW
   rw [show (rowsP l).take l.length = rowsP l by rw [← HRL.out, List.take_length]] at hW
   have hxr : (rsB (rowsP l)).length ≤ 19800 := by
    have := rsB_len (rowsP l) HKEYS.out
    rw [HRL.out] at this; omega
   obtain ⟨X, hX⟩ : ∃ X, X = H ++ rsB (rowsP l) := ⟨_, rfl⟩
   have hXl : X.length ≤ 19810 := by rw [hX, List.length_append]; omega
   rw [← hX] at hW
   have HX := Lib.hid hX
   have HW := Lib.hid hW
   have HT := Lib.hid hT
   clear HWb hW hX hT
   go_wp2_with fail
   obtain ⟨X3, hX3⟩ : ∃ y, y = X ++ encs [(L.length : Int)] := ⟨_, rfl⟩
   have hXl3 : X3.length ≤ 19820 := by have := encs_leV [(L.length : Int)] 1 (by simp); rw [hX3, List.length_append]; omega
   refine (wNumsH (l := [(L.length : Int)]) _ rfl (by simp) rfl (by omega) HW.out).mono ?_
   rintro e w3 ⟨rfl, hW3, hT3⟩
   rw [← hX3] at hW3
   have HT3 := Lib.hid (HT.out.trans hT3)
   have HW3 := Lib.hid hW3
   have HX3 := Lib.hid hX3
   have hs3 := hT3.size
   clear hW3 hT3 hX3 HT HW
   go_wp2_with fail
   go_loopw [44] (fun kv wr => ∃ k : Nat, k ≤ L.length ∧ kv = .int .i64 k ∧ Wr wr bw (bw + 1) (X3 ++ osB (L.take k)) ∧ WT bw w2 wr) (fun kv _ => L.length - (intOf kv).toNat)
   case atStart => exact ⟨0, Nat.zero_le _, rfl, by simpa [osB] using HW3.out, HT3.out⟩
   case round =>
    obtain ⟨k, hkl, rfl, hW, hT⟩ := hrel
    have hwr := hT.size
    have hlow := hW.lowH
    by_cases hkt : k < L.length
    ·
     have q5 : (k : Int) < (L.length : Int) := by omega
     have hrow := hT.ownV HO2.out (fun q hq => HD2.out q (HG2.out q hq))
     cases A2 with
     | none => have := HO2.out.2; rcases this with ⟨_, h0⟩ | ⟨g0, _, _, e, _⟩; (exact absurd h0 (by omega)); injection e with e; cases e
     | some ad =>
     obtain ⟨gq, cq, e1, hq5, hq6, _, _⟩ := own_form hrow (by omega)
     simp only [Value.slice.injEq, Option.some.injEq, true_and] at e1
     obtain ⟨rfl, rfl⟩ := e1
     obtain ⟨r0, r1, r2, r3, r4, r5⟩ := flatO_at L k hkt
     obtain ⟨o, ho⟩ : ∃ o, o = L[k] := ⟨_, rfl⟩
     rw [← ho] at r0 r1 r2 r3 r4 r5
     have y0 := (hrow.cellAt (k * 6) (by omega)).trans r0
     have y1 := (hrow.cellAt (k * 6 + 1) (by omega)).trans r1
     have y2 := (hrow.cellAt (k * 6 + 2) (by omega)).trans r2
     have y3 := (hrow.cellAt (k * 6 + 3) (by omega)).trans r3
     have y4 := (hrow.cellAt (k * 6 + 4) (by omega)).trans r4
     have y5 := (hrow.cellAt (k * 6 + 5) (by omega)).trans r5
     have hsn := osB_snoc hkt
     rw [← ho] at hsn
     have hxl : (osB (L.take k)).length ≤ 76 * k := by
      have := osB_len (L.take k) (fun x hx => HWHO.out x (List.mem_of_mem_take hx))
      rw [List.length_take] at this; omega
     have hss : o.who.size ≤ 16 := HWHO.out o (by rw [ho]; exact List.getElem_mem hkt)
     obtain ⟨Y, hY⟩ : ∃ Y, Y = X3 ++ osB (L.take k) := ⟨_, rfl⟩
     have hYl : Y.length ≤ 24000 := by rw [hY, List.length_append]; omega
     rw [← hY] at hW
     have HSN : Hid (X3 ++ osB (L.take (k + 1)) = Y ++ encs [o.id] ++ encb [bs o.who] ++ encs [fl o.buy, o.item, o.ct, o.pr]) := Lib.hid (by rw [hsn, hY, oB]; simp only [List.append_assoc])
     have HW := Lib.hid hW
     have HT := Lib.hid hT
     clear r0 r1 r2 r3 r4 r5 ho hrow hY hsn hW hT hxl
     go_wp2_with fail
     have W0 := HW.out.allocH (.cells #[.int .i64 o.id, .string o.who, .bool o.buy, .int .i64 o.item, .int .i64 o.ct, .int .i64 o.pr] 38)
     have T0 := HT.out.alloc HW.out.lowH (.cells #[.int .i64 o.id, .string o.who, .bool o.buy, .int .i64 o.item, .int .i64 o.ct, .int .i64 o.pr] 38)
     have Q0 : Whl (wr.alloc (.cells #[.int .i64 o.id, .string o.who, .bool o.buy, .int .i64 o.item, .int .i64 o.ct, .int .i64 o.pr] 38)) wr.heap.size 38 #[.int .i64 o.id, .string o.who, .bool o.buy, .int .i64 o.item, .int .i64 o.ct, .int .i64 o.pr] := Whl.new rfl
     have D0 : ¬ WD (wr.alloc (.cells #[.int .i64 o.id, .string o.who, .bool o.buy, .int .i64 o.item, .int .i64 o.ct, .int .i64 o.pr] 38)) bw wr.heap.size := HW.out.farA _
     have s0 : (wr.alloc (.cells #[.int .i64 o.id, .string o.who, .bool o.buy, .int .i64 o.item, .int .i64 o.ct, .int .i64 o.pr] 38)).heap.size = wr.heap.size + 1 := by simp
     generalize (wr.alloc (.cells #[.int .i64 o.id, .string o.who, .bool o.buy, .int .i64 o.item, .int .i64 o.ct, .int .i64 o.pr] 38)) = x0 at *
     clear y0 y1 y2 y3 y4 y5
     refine (wNumsH (l := [o.id]) _ (by omega) (by simp) rfl (by omega) W0).mono ?_
     rintro e x1 ⟨rfl, W1, t0⟩
     obtain ⟨X1, hX1⟩ : ∃ y, y = Y ++ encs [o.id] := ⟨_, rfl⟩
     have hXl1 : X1.length ≤ Y.length + 10 := by have := encs_leV [o.id] 1 (by simp); rw [hX1, List.length_append]; omega
     rw [← hX1] at W1
     have HX1 := Lib.hid hX1
     have s1 := t0.size
     have T1 := T0.trans t0
     have Q1 := t0.whl Q0 D0
     have D1 := t0.far Q0.low D0
     have qq0 := Q1.low
     clear hX1 t0 T0 Q0 D0 W0
     have v1 := Q1.cell 1
     simp only [List.getElem?_toArray, List.getElem?_cons_succ, List.getElem?_cons_zero] at v1
     go_wp2_with fail
     clear v1
     have yy1 : (Lib.bytesWorld x1 5 o.who).heap.size = x1.heap.size + 1 := bw_size _ _ _
     generalize hp1 : grownCap x1 o.who.size 0 5 = p1 at *
     generalize hY1 : Lib.bytesWorld x1 5 o.who = Y1 at *
     refine (wBytesH1 _ p1 _ _ hY1.symm rfl (by omega) (by omega) (by omega) W1).mono ?_
     rintro e x2 ⟨rfl, W2, t1⟩
     obtain ⟨X2, hX2⟩ : ∃ y, y = X1 ++ encb [bs o.who] := ⟨_, rfl⟩
     have hXl2 : X2.length ≤ X1.length + 26 := by have := encb_leV (s := o.who) (by omega); rw [hX2, List.length_append]; omega
     rw [← hX2] at W2
     have HX2 := Lib.hid hX2
     have s2 := t1.size
     have T2 := T1.trans t1
     have Q2 := t1.whl Q1 D1
     have D2 := t1.far Q1.low D1
     have qq1 := Q2.low
     clear hX2 t1 T1 Q1 D1 W1
     have HW2' := Lib.hid W2
     have HT2' := Lib.hid T2
     clear W2 T2
     have f2 := Q2.cell 2
     have f3 := Q2.cell 3
     have f4 := Q2.cell 4
     have f5 := Q2.cell 5
     simp only [List.getElem?_toArray, List.getElem?_cons_succ, List.getElem?_cons_zero] at f2 f3 f4 f5
     go_wp2_with fail
     refine wp_region_held_drew (S := (fun W => W.cell? ⟨wr.heap.size, 2, none⟩ = some (.bool o.buy) ∧ W.cell? ⟨wr.heap.size, 3, none⟩ = some (.int .i64 o.item) ∧ W.cell? ⟨wr.heap.size, 4, none⟩ = some (.int .i64 o.ct) ∧ W.cell? ⟨wr.heap.size, 5, none⟩ = some (.int .i64 o.pr))) (by kernel_rfl) ⟨f2, f3, f4, f5⟩ (fun hHeld => ?_)
     refine tkY 0 (some 57) ?v0f rfl ?y0f ?r0f
     case y0f => exact tY
     case r0f =>
     try simp only [q1,q2,q3,q4,q5]
     refine tkY 1 (some 58) ?v1f rfl ?y1f ?r1f
     case y1f => exact tY
     case r1f =>
     try simp only [q1,q2,q3,q4,q5]
     refine tkY 3 (some 60) ?v3f rfl ?y3f ?r3f
     case y3f => exact tY
     case r3f =>
     try simp only [q1,q2,q3,q4,q5]
     refine tkY 4 (some 61) ?v4f rfl ?y4f ?r4f
     case y4f => exact tY
     case r4f =>
     try simp only [q1,q2,q3,q4,q5]
     refine tkY 5 (some 62) ?v5f rfl ?y5f ?r5f
     case y5f => exact tY
     case r5f =>
     try simp only [q1,q2,q3,q4,q5]
     refine tkY 6 (some 63) ?v6f rfl ?y6f ?r6f
     case y6f => exact tY
     case r6f =>
     try simp only [q1,q2,q3,q4,q5]
     refine tkY 7 (some 64) ?v7f rfl ?y7f ?r7f
     case y7f => exact tY
     case r7f =>
     try simp only [q1,q2,q3,q4,q5]
     refine tkY 8 (some 65) ?v8f rfl ?y8f ?r8f
     case y8f => exact tY
     case r8f =>
     try simp only [q1,q2,q3,q4,q5]
     refine wpAnyH_ready (rs := [2]) (by kernel_rfl) (by simp) ?_
     refine AllReadyH.cons (o := ⟨some 59, _, _, _, _, _⟩) rfl (fun K hK => ?_) AllReadyH.nil
     go_simp
     refine (vtFlag o.buy _).mono ?_
     rintro e w7 ⟨rfl, rfl⟩
     go_wp2_with fail
     have PX := Q2.below ((Below.refl _ _).drew) Q2.low
     refine hK.out _ _ ⟨PX.cell 2, PX.cell 3, PX.cell 4, PX.cell 5⟩ (fun hHeld => ?_)
     clear hK K
     try simp only [q1,q2,q3,q4,q5]
     refine wpAnyH_ready (rs := [9]) (by kernel_rfl) (by simp) ?_
     refine AllReadyH.cons (o := ⟨some 66, _, _, _, _, _⟩) rfl (fun K hK => ?_) AllReadyH.nil
     go_simp
     have PX := (Q2.below ((Below.refl _ _).drew) Q2.low).alloc (.cells #[.int .i64 (fl o.buy), .int .i64 o.item, .int .i64 o.ct, .int .i64 o.pr] 3)
     refine hK.out _ _ ⟨PX.cell 2, PX.cell 3, PX.cell 4, PX.cell 5⟩ (fun hHeld => ?_)
     clear hK K
     try simp only [q1,q2,q3,q4,q5]
     refine wpAnyH_ready (rs := [10]) (by kernel_rfl) (by simp) ?_
     refine AllReadyH.cons (o := ⟨some 67, _, _, _, _, _⟩) rfl (fun K hK => ?_) AllReadyH.nil
     go_simp
     refine (wNumsH (l := [fl o.buy, o.item, o.ct, o.pr]) _ rfl (by simp) rfl (by omega) (HW2'.out.below ((Below.refl _ _).drew))).mono ?_
     rintro e x3 ⟨rfl, W3, t2⟩
     have T3 := (HT2'.out.trans (WT.below HW2'.out.lowH ((Below.refl _ _).drew))).trans t2
     have PX := t2.whl (Q2.below ((Below.refl _ _).drew) Q2.low) ((WT.below HW2'.out.lowH ((Below.refl _ _).drew)).far Q2.low D2)
     go_wp2_with fail
     refine hK.out _ _ ⟨PX.cell 2, PX.cell 3, PX.cell 4, PX.cell 5⟩ (fun hHeld => ?_)
     clear hK K
     try simp only [q1,q2,q3,q4,q5]
     refine wpAnyH_done (by kernel_rfl) ?_ _
     have HW3' := Lib.hid W3
     have HT3' := Lib.hid T3
     have hs3' := T3.size
     clear W3 T3 t2 PX hHeld
     go_wp2_with fail
     refine ⟨⟨k + 1, hkt, by go_num, ?_, HT3'.out⟩, measV hkt⟩
     rw [HSN.out, ← HX1.out, ← HX2.out]
     exact HW3'.out
    ·
     obtain rfl : L.length = k := by omega
     rw [List.take_length] at hW
     have hxo : (osB L).length ≤ 2432 := by have := osB_len L HWHO.out; omega
     obtain ⟨X4, hX4⟩ : ∃ y, y = X3 ++ osB L := ⟨_, rfl⟩
     have hXl4 : X4.length ≤ 23000 := by rw [hX4, List.length_append]; omega
     rw [← hX4] at hW
     have HX4 := Lib.hid hX4
     have HW := Lib.hid hW
     have HT := Lib.hid hT
     clear hW hX4 hT
     go_wp2_with fail
     refine (wNumsH (l := [gone + 1]) _ rfl (by simp) rfl (by omega) HW.out).mono ?_
     rintro e w5 ⟨rfl, hW5, hT5⟩
     have hR : X4 ++ encs [gone + 1] = R := by rw [HRR.out, HX4.out, HX3.out, HX.out, HHH.out, vB, HRL.out]
     rw [hR] at hW5
     have hRl : R.length ≤ 24000 := by rw [← hR, List.length_append]; have := encs_leV [gone + 1] 1 (by simp); omega
     have HBF := Lib.hid (HB2.out.trans (((HT.out.trans hT5).base HW2.out).mono (by omega)))
     have HW5 := Lib.hid hW5
     have hs5 := hT5.size
     clear hW5 hT5 hR
     go_wp2_with fail
     refine (wOut _ _ _ _ (Nat.le_trans hRl (by decide)) HW5.out).mono ?_
     rintro e w7 ⟨v7, rfl, hown7, hb7⟩
     have HO7 := Lib.hid hown7
     have HB7 := Lib.hid (HBF.out.trans (hb7.mono HBF.out.size))
     clear hown7 hb7
     go_wp2_with fail
     go_ret
     exact ⟨_, rfl, HO7.out.mono HBF.out.size, HB7.out⟩
end Go.Proofs.YtdlbiobjnohfbaaGreat
