/- vault: Cancel. -/
import Derived.Test.YtdlbiobjnohfbaaGreatVb25
namespace Go.Proofs.YtdlbiobjnohfbaaGreat
open Go.RowKit Go.ChangeMaps Go.MapKept
set_option linter.unusedVariables false
set_option linter.unusedSimpArgs false
def compI (h : It4) (k : Nat) : Int := match k with
 | 0 => h.1
 | 1 => h.2.1
 | 2 => h.2.2.1
 | _ => h.2.2.2
def gainsP (l : Pm) (s : ByteArray) (h : It4) : Nat → Pm
 | 0 => l
 | k + 1 => gainP (gainsP l s h k) s k (compI h k)
theorem held_comp {o : Od} (h : OkO o) (k : Nat) : 0 ≤ compI (heldP o) k ∧ compI (heldP o) k ≤ 1125899906842624 := by
 have hp := prod_ok (a := o.ct) (c := o.pr) (m := 1048576) (n := 1024) (by have := h.ct; omega) (by have := h.pr; omega)
 have hc := h.ct
 unfold heldP compI
 repeat' split
 all_goals (simp; try omega)
theorem toL_inj {a b : ByteArray} (h : a.toList = b.toList) : a = b := by
 rw [Lib.toList_data, Lib.toList_data] at h
 cases a; cases b
 simp only [ByteArray.mk.injEq]
 exact Array.toList_inj.1 h
def VCancelQ (b : Nat) (p : Value) (v : Nat → Value) (l : Pm) (L : List Od) (last gone : Int) (who : ByteArray) (id : Int) (w : World) (e : Ending) (w' : World) : Prop :=
 ((∀ x ∈ L, ¬ (x.id = id ∧ x.who = who)) ∧ e = .returned (.int .i64 7) ∧ Below w.heap.size w w') ∨
 (∃ x ∈ L, x.id = id ∧ x.who = who ∧ e = .returned (.int .i64 0) ∧ ∃ (p' : Value) (v' : Nat → Value), VtAt w' b p' v' (gainsP l who (heldP x) 4) (goneO id L) last gone ∧ Touch (Fv b p v) w w' ∧ (∀ y, Fv b p' v' y → Fv b p v y ∨ w.heap.size ≤ y))
set_option maxHeartbeats 8000000 in
set_option maxRecDepth 10000 in
theorem vtCancel (b : Nat) (p : Value) (v : Nat → Value) (l : Pm) (L : List Od) (last gone : Int) (who : ByteArray) (id : Int) (w : World) (h : VtAt w b p v l L last gone) :
  Calls Tryz.prog 21 #[.pointer (some ⟨b, 0, none⟩), .string who, .int .i64 id] w fun e w' => VCancelQ b p v l L last gone who id w e w' := by
 have HBOOK := Lib.hid h.book
 obtain ⟨S, hv, hrs, hbk, hlen, hlg, hgt⟩ := h
 have HV := Lib.hid hv
 have HRS := Lib.hid hrs
 have HBK := Lib.hid hbk
 have HLOW := Lib.hid hv.lows
 have hbl := hv.bk.whl.low
 clear hv hrs hbk
 have i0 : ∀ (h0 h1 h2 h3 : Int) w, (Instr.index 36 (.agg #[.int .i64 h0, .int .i64 h1, .int .i64 h2, .int .i64 h3]) (.int .i64 0)).run Tryz.prog w = .ok (.int .i64 h0) w := fun _ _ _ _ _ => by kernel_rfl
 have i1 : ∀ (h0 h1 h2 h3 : Int) w, (Instr.index 36 (.agg #[.int .i64 h0, .int .i64 h1, .int .i64 h2, .int .i64 h3]) (.int .i64 1)).run Tryz.prog w = .ok (.int .i64 h1) w := fun _ _ _ _ _ => by kernel_rfl
 have i2 : ∀ (h0 h1 h2 h3 : Int) w, (Instr.index 36 (.agg #[.int .i64 h0, .int .i64 h1, .int .i64 h2, .int .i64 h3]) (.int .i64 2)).run Tryz.prog w = .ok (.int .i64 h2) w := fun _ _ _ _ _ => by kernel_rfl
 have i3 : ∀ (h0 h1 h2 h3 : Int) w, (Instr.index 36 (.agg #[.int .i64 h0, .int .i64 h1, .int .i64 h2, .int .i64 h3]) (.int .i64 3)).run Tryz.prog w = .ok (.int .i64 h3) w := fun _ _ _ _ _ => by kernel_rfl
 go_enter Tryz.func21, Tryz.ntmps21
 go_wp2_with fail
 refine (list (lay1 p (.int .i64 gone)) b v L last _ HBOOK.out).mono ?_
 rintro e w1 ⟨u, rfl, hown, hb1⟩
 obtain ⟨Au, cu, rfl, hcu1, hcu2, _⟩ := own_slice hown
 have HO := Lib.hid hown
 have HB1 := Lib.hid hb1
 have hs1 := hb1.size
 clear hown hb1
 go_wp2_with fail
 go_loopw [18] (fun iv wr => ∃ i : Nat, i ≤ L.length ∧ iv = .int .i64 i ∧ (∀ j (hj : j < L.length), j < i → ¬ (L[j].id = id ∧ L[j].who = who)) ∧ Below w1.heap.size w1 wr) (fun iv _ => L.length - (intOf iv).toNat)
 case atStart => exact ⟨0, Nat.zero_le _, rfl, fun j hj hji => by omega, Below.refl _ _⟩
 case round =>
  obtain ⟨i, hil, rfl, hno, hBr⟩ := hrel
  have HNO := Lib.hid hno
  have HBR := Lib.hid hBr
  have hsr := hBr.size
  clear hno
  by_cases hlt : i < L.length
  ·
   have q3 : (i : Int) < (L.length : Int) := by omega
   have hor := row_below (HO.out.mono (show 0 ≤ w.heap.size by omega)) hBr
   obtain ⟨gx, cx, e5, _, hgx, _, _⟩ := own_form hor (by omega)
   injection e5 with e5 e6 e7
   subst e5 e7
   obtain ⟨r0, r1, r2, r3, r4, r5⟩ := flatO_at L i hlt
   obtain ⟨x, hx⟩ : ∃ x, x = L[i] := ⟨_, rfl⟩
   rw [← hx] at r0 r1 r2 r3 r4 r5
   have y0 := (hor.cellAt (i * 6) (ixO0 hlt)).trans r0
   have y1 := (hor.cellAt (i * 6 + 1) (ixO hlt 1 (by decide))).trans r1
   have y2 := (hor.cellAt (i * 6 + 2) (ixO hlt 2 (by decide))).trans r2
   have y3 := (hor.cellAt (i * 6 + 3) (ixO hlt 3 (by decide))).trans r3
   have y4 := (hor.cellAt (i * 6 + 4) (ixO hlt 4 (by decide))).trans r4
   have y5 := (hor.cellAt (i * 6 + 5) (ixO hlt 5 (by decide))).trans r5
   have HXE := Lib.hid hx
   have HXL : Hid (x ∈ L) := Lib.hid (by rw [hx]; exact List.getElem_mem hlt)
   have HST : Hid (¬ (x.id = id ∧ x.who = who) → ∀ j (hj : j < L.length), j < i + 1 → ¬ (L[j].id = id ∧ L[j].who = who)) := Lib.hid (fun hn j hj hji => by
    by_cases e : j = i
    · subst e; rw [← hx]; exact hn
    · exact HNO.out j hj (by omega))
   clear r0 r1 r2 r3 r4 r5 hx hor hBr
   by_cases hid : x.id = id
   ·
    by_cases hw : x.who = who
    ·
     subst hid
     subst hw
     have HOX := Lib.hid (HBK.out.ok x HXL.out)
     obtain ⟨hp, hhp⟩ : ∃ hp, hp = heldP x := ⟨_, rfl⟩
     have hcmp := fun k => held_comp HOX.out k
     rw [← hhp] at hcmp
     have HCM := Lib.hid hcmp
     have HHP := Lib.hid hhp
     obtain ⟨h0, h1, h2, h3⟩ := hp
     clear hcmp hhp HST HNO
     have BA : Below w.heap.size w (wr.alloc (.cells #[.int .i64 x.id, .string x.who, .bool x.buy, .int .i64 x.item, .int .i64 x.ct, .int .i64 x.pr] 38)) := (HB1.out.trans (HBR.out.mono hs1)).alloc (by omega) _
     have PA : Whl (wr.alloc (.cells #[.int .i64 x.id, .string x.who, .bool x.buy, .int .i64 x.item, .int .i64 x.ct, .int .i64 x.pr] 38)) wr.heap.size 38 #[.int .i64 x.id, .string x.who, .bool x.buy, .int .i64 x.item, .int .i64 x.ct, .int .i64 x.pr] := Whl.new rfl
     have HBA := Lib.hid BA
     have HPA := Lib.hid PA
     have HVA := Lib.hid (HV.out.below BA)
     clear BA PA
     go_wp2_with (first
      | (go_at_call 42; have hgg := HV5; clear hgg; go_loud (refine (vtHeld x _ HOX.out).mono ?_; rintro e w6 ⟨he, hb6⟩; rw [← HHP.out] at he; simp only [itV] at he; subst he; have HB6 := Lib.hid hb6; clear hb6))
      | (go_at_call 67; go_loud (refine (cancel (lay1 p (.int .i64 gone)) b v L last x.id _ ⟨S, HVA.out.bk, HRS.out, HBK.out, hlen⟩).mono ?_; rintro e w5 ⟨x', c, v', rfl, _, hb5, ht5, hf5⟩; obtain ⟨S', k1, k2, k3, k4⟩ := hb5; have HV5 := Lib.hid (HVA.out.booked k1 ht5 (fun y hy => .inl (hf5 y hy))); have HK5 := Lib.hid (And.intro k2 (And.intro k3 k4)); have HT5 := Lib.hid ht5; have HF5 := Lib.hid hf5; have P5 := HPA.out.keepT ht5 (fun h => by have := HV.out.bk.lows _ h; omega); have x0 := P5.cell 0; have x1 := P5.cell 1; have x2 := P5.cell 2; have x3 := P5.cell 3; have x4 := P5.cell 4; have x5 := P5.cell 5; simp only [List.getElem?_toArray, List.getElem?_cons_succ, List.getElem?_cons_zero] at x0 x1 x2 x3 x4 x5; clear k1 k2 k3 k4 ht5 hf5 P5))
      | fail)
     have HV6 := Lib.hid (HV5.out.below HB6.out)
     go_loopw [39] (fun kv wq => ∃ (k : Nat) (pi : Value), k ≤ 4 ∧ kv = .int .i64 k ∧ VtH wq b pi v' S' (gainsP l x.who (h0, h1, h2, h3) k) last gone ∧ Touch (Fv b p v') w6 wq ∧ (∀ y, Fv b pi v' y → Fv b p v' y ∨ w6.heap.size ≤ y)) (fun kv _ => 4 - (intOf kv).toNat)
     case atStart => exact ⟨0, p, by omega, rfl, HV6.out, Touch.refl _ _, fun y hy => .inl hy⟩
     case round =>
      obtain ⟨k, pi, hk4, rfl, hVq, hTq, hFq⟩ := hrel
      have HVQ := Lib.hid hVq
      have HTQ := Lib.hid hTq
      have HFQ := Lib.hid hFq
      have HKO : Hid (KeyOk x.who.data.toList) := Lib.hid (keyOk_of HOX.out.who)
      clear hVq hTq hFq
      by_cases hk : k < 4
      ·
       rcases (show k = 0 ∨ k = 1 ∨ k = 2 ∨ k = 3 by omega) with rfl | rfl | rfl | rfl
       ·
        go_wp2_with (first
         | (go_at_call 46; have hgg := HB7; clear hgg; go_loud (refine (vtGain b pi v' S' _ last gone x.who HKO.out 0 (by omega) h0 (HCM.out 0) _ (HVQ.out.below HB7.out)).mono ?_; rintro e w8 ⟨rfl, hq⟩; obtain ⟨pj, hq⟩ : ∃ pj, SetQ' b pi v' S' _ last gone _ w8 pj := SetQ.ahead HB7.out HVQ.out.lows hq; have HQ8 := Lib.hid hq; clear hq))
         | (go_at_call 45; go_loud (refine (vtPurse b x.who _).mono ?_; rintro e w7 ⟨rfl, hb7⟩; have HB7 := Lib.hid hb7; clear hb7))
         | fail)
        refine ⟨⟨1, pj, by omega, by go_num, HQ8.out.1, HTQ.out.trans HQ8.out.2.1 (fun y hy hf => ?_), fun y hy => ?_⟩, by simp [intOf]⟩
        ·
         rcases HFQ.out y hf with h | h
         · exact h
         · omega
        ·
         rcases HQ8.out.2.2 y hy with h | h
         · exact HFQ.out y h
         · exact .inr (Nat.le_trans HTQ.out.size h)
       ·
        go_wp2_with (first
         | (go_at_call 46; have hgg := HB7; clear hgg; go_loud (refine (vtGain b pi v' S' _ last gone x.who HKO.out 1 (by omega) h1 (HCM.out 1) _ (HVQ.out.below HB7.out)).mono ?_; rintro e w8 ⟨rfl, hq⟩; obtain ⟨pj, hq⟩ : ∃ pj, SetQ' b pi v' S' _ last gone _ w8 pj := SetQ.ahead HB7.out HVQ.out.lows hq; have HQ8 := Lib.hid hq; clear hq))
         | (go_at_call 45; go_loud (refine (vtPurse b x.who _).mono ?_; rintro e w7 ⟨rfl, hb7⟩; have HB7 := Lib.hid hb7; clear hb7))
         | fail)
        refine ⟨⟨2, pj, by omega, by go_num, HQ8.out.1, HTQ.out.trans HQ8.out.2.1 (fun y hy hf => ?_), fun y hy => ?_⟩, by simp [intOf]⟩
        ·
         rcases HFQ.out y hf with h | h
         · exact h
         · omega
        ·
         rcases HQ8.out.2.2 y hy with h | h
         · exact HFQ.out y h
         · exact .inr (Nat.le_trans HTQ.out.size h)
       ·
        go_wp2_with (first
         | (go_at_call 46; have hgg := HB7; clear hgg; go_loud (refine (vtGain b pi v' S' _ last gone x.who HKO.out 2 (by omega) h2 (HCM.out 2) _ (HVQ.out.below HB7.out)).mono ?_; rintro e w8 ⟨rfl, hq⟩; obtain ⟨pj, hq⟩ : ∃ pj, SetQ' b pi v' S' _ last gone _ w8 pj := SetQ.ahead HB7.out HVQ.out.lows hq; have HQ8 := Lib.hid hq; clear hq))
         | (go_at_call 45; go_loud (refine (vtPurse b x.who _).mono ?_; rintro e w7 ⟨rfl, hb7⟩; have HB7 := Lib.hid hb7; clear hb7))
         | fail)
        refine ⟨⟨3, pj, by omega, by go_num, HQ8.out.1, HTQ.out.trans HQ8.out.2.1 (fun y hy hf => ?_), fun y hy => ?_⟩, by simp [intOf]⟩
        ·
         rcases HFQ.out y hf with h | h
         · exact h
         · omega
        ·
         rcases HQ8.out.2.2 y hy with h | h
         · exact HFQ.out y h
         · exact .inr (Nat.le_trans HTQ.out.size h)
       ·
        go_wp2_with (first
         | (go_at_call 46; have hgg := HB7; clear hgg; go_loud (refine (vtGain b pi v' S' _ last gone x.who HKO.out 3 (by omega) h3 (HCM.out 3) _ (HVQ.out.below HB7.out)).mono ?_; rintro e w8 ⟨rfl, hq⟩; obtain ⟨pj, hq⟩ : ∃ pj, SetQ' b pi v' S' _ last gone _ w8 pj := SetQ.ahead HB7.out HVQ.out.lows hq; have HQ8 := Lib.hid hq; clear hq))
         | (go_at_call 45; go_loud (refine (vtPurse b x.who _).mono ?_; rintro e w7 ⟨rfl, hb7⟩; have HB7 := Lib.hid hb7; clear hb7))
         | fail)
        refine ⟨⟨4, pj, by omega, by go_num, HQ8.out.1, HTQ.out.trans HQ8.out.2.1 (fun y hy hf => ?_), fun y hy => ?_⟩, by simp [intOf]⟩
        ·
         rcases HFQ.out y hf with h | h
         · exact h
         · omega
        ·
         rcases HQ8.out.2.2 y hy with h | h
         · exact HFQ.out y h
         · exact .inr (Nat.le_trans HTQ.out.size h)
      ·
       obtain rfl : k = 4 := by omega
       go_wp2_with fail
       have hfin := HVQ.out
       rw [HHP.out] at hfin
       refine bodyPost_ret (v := .int .i64 0) (by simp [results, Tryz.results21, go_sem]) rfl (.inr ⟨x, HXL.out, rfl, rfl, rfl, pi, v', ⟨S', hfin, HK5.out.1, HK5.out.2.1, HK5.out.2.2, hlg, hgt⟩, ?_, ?_⟩)
       ·
        have t1 : Touch (Fv b p v) w w5 := ((Touch.of_below HBA.out).mono'' (fun k hk hd => by omega)).trans HT5.out (fun y hy h => .inl h)
        have t2 : Touch (Fv b p v) w w6 := t1.trans (Touch.of_below HB6.out) (fun y hy h => by have := t1.size; omega)
        refine t2.trans HTQ.out (fun y hy h => ?_)
        rcases h with h | h
        · exact .inl (HF5.out y h)
        · exact .inr h
       ·
        intro y hy
        rcases HFQ.out y hy with h | h
        ·
         rcases h with h | h
         · exact .inl (.inl (HF5.out y h))
         · exact .inl (.inr h)
        ·
         have h1 := HBA.out.size
         have h2 := HT5.out.size
         have h3 := HB6.out.size
         exact .inr (by omega)
    ·
     have hneq : (x.who.toList == who.toList) = false := by rw [beq_eq_false_iff_ne]; exact fun h => hw (toL_inj h)
     have HN := Lib.hid (HST.out (fun h => hw h.2))
     go_wp2_with fail
     exact ⟨⟨i + 1, hlt, by go_num, HN.out, HBR.out.alloc hsr _⟩, measI hlt⟩
   ·
    have HN := Lib.hid (HST.out (fun h => hid h.1))
    go_wp2_with fail
    exact ⟨⟨i + 1, hlt, by go_num, HN.out, HBR.out.alloc hsr _⟩, measI hlt⟩
  ·
   obtain rfl : i = L.length := by omega
   go_wp2_with fail
   refine bodyPost_ret (v := .int .i64 7) (by simp [results, Tryz.results21, go_sem]) rfl (.inl ⟨fun x hx => ?_, rfl, HB1.out.trans (HBR.out.mono hs1)⟩)
   obtain ⟨j, hj, rfl⟩ := List.getElem_of_mem hx
   exact HNO.out j hj hj
end Go.Proofs.YtdlbiobjnohfbaaGreat
