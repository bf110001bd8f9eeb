/- book: Place. book: Cancel. -/
import Derived.Test.YtdlbiobjnohfbaaGreatVb8
import Derived.Test.YtdlbiobjnohfbaaGreatVb9
namespace Go.Proofs.YtdlbiobjnohfbaaGreat
open Go.RowKit
set_option linter.unusedVariables false
set_option linter.unusedSimpArgs false
theorem bkPlace (Y : Lay) (b : Nat) (v : Nat → Value) (S : Nat → List Od) (last : Int) (L : List Od) (o : Od) (w : World) (h : BkH Y w b v S last) (hr : RelS S L) (hk : Bk L last) (hlen : L.length ≤ 1000) :
  Calls Tryz.prog 43 #[.pointer (some ⟨b, Y.o, none⟩), odA o] w fun e w' => PlaceQ Y b v L last o w e w' := by
 cases hb : o.buy with
 | true => exact bkPlaceT Y b v S last L o w h hr hk hlen hb
 | false => exact bkPlaceF Y b v S last L o w h hr hk hlen hb
theorem RelS.q' {S : Nat → List Od} {L : List Od} {last : Int} (h : RelS S L) (hk : Bk L last) {j : Nat} (hj : j < 8) : SideQ (decide (j < 4)) (S j) := by
 intro o ho
 obtain ⟨hL, hs⟩ := List.mem_filter.1 ((h j hj).1.mem_iff.1 ho)
 refine ⟨?_, (hk.ok o hL).id⟩
 unfold sideP at hs
 by_cases h4 : j < 4
 · rw [if_pos h4] at hs; simp only [Bool.and_eq_true] at hs; simp [h4, hs.1]
 · rw [if_neg h4] at hs; simp only [Bool.and_eq_true, Bool.not_eq_true'] at hs; simp [h4, hs.1]
theorem RelS.len {S : Nat → List Od} {L : List Od} (h : RelS S L) {j : Nat} (hj : j < 8) : (S j).length ≤ L.length := by
 rw [(h j hj).1.length_eq]; exact List.length_filter_le _ _
theorem ord8_lt {k : Nat} (h : k < 8) : ord8 k < 8 := by unfold ord8; split <;> omega
theorem ord8_all {i : Nat} (h : i < 8) : ∃ k, k < 8 ∧ ord8 k = i := by
 rcases lt8 h with rfl | rfl | rfl | rfl | rfl | rfl | rfl | rfl
 · exact ⟨0, by decide, rfl⟩
 · exact ⟨2, by decide, rfl⟩
 · exact ⟨4, by decide, rfl⟩
 · exact ⟨6, by decide, rfl⟩
 · exact ⟨1, by decide, rfl⟩
 · exact ⟨3, by decide, rfl⟩
 · exact ⟨5, by decide, rfl⟩
 · exact ⟨7, by decide, rfl⟩
theorem none_of {S : Nat → List Od} {L : List Od} {last id : Int} (h : RelS S L) (hk : Bk L last) (hn : ∀ j, j < 8 → ∀ x ∈ S (ord8 j), x.id ≠ id) : ∀ x ∈ L, x.id ≠ id := by
 intro x hx
 obtain ⟨i, hi, hs, _⟩ := sideP_one (hk.ok x hx).item
 obtain ⟨k, hk8, hki⟩ := ord8_all hi
 exact hn k hk8 x (by rw [hki]; exact (h i hi).1.mem_iff.2 (List.mem_filter.2 ⟨hx, hs⟩))
theorem Touch.mono'' {D D' : Nat → Prop} {w w' : World} (h : Touch D w w') (hD : ∀ k, k < w.heap.size → D k → D' k) : Touch D' w w' := ⟨h.os, h.tape, h.output, h.size, fun k hk hn => h.block k hk (fun hd => hn (hD k hk hd))⟩
theorem Touch.setN {D : Nat → Prop} {w w' : World} (h : Touch D w w') {a : Addr} {v : Value} (ha : w.heap.size ≤ a.block) : Touch D w (w'.setCell a v) := h.set (fun hl => by omega)
theorem measI {j L : Nat} (h : j < L) : L - (intOf (.int .i64 ((j : Int) + 1))).toNat < L - (intOf (.int .i64 (j : Int))).toNat := by simp [intOf]; omega
def CancelQ (Y : Lay) (b : Nat) (v : Nat → Value) (L : List Od) (last id : Int) (w : World) (e : Ending) (w' : World) : Prop :=
 (∃ x ∈ L, x.id = id ∧ ∃ (v' : Nat → Value) (S' : Nat → List Od), e = .returned (.tuple #[odA x, .int .i64 0]) ∧ BkH Y w' b v' S' last ∧ RelS S' (goneO id L) ∧ Touch (Ft b v) w w' ∧ (∀ g, Ft b v' g → Ft b v g)) ∨
 ((∀ x ∈ L, x.id ≠ id) ∧ e = .returned (.tuple #[.agg #[.int .i64 0, .string ⟨#[]⟩, .bool false, .int .i64 0, .int .i64 0, .int .i64 0], .int .i64 7]) ∧ Below w.heap.size w w')
set_option maxHeartbeats 4000000 in
set_option maxRecDepth 10000 in
theorem bkCancel (Y : Lay) (b : Nat) (v : Nat → Value) (S : Nat → List Od) (last : Int) (L : List Od) (id : Int) (w : World) (h : BkH Y w b v S last) (hr : RelS S L) (hk : Bk L last) (hlen : L.length ≤ 1000) :
  Calls Tryz.prog 67 #[.pointer (some ⟨b, Y.o, none⟩), .int .i64 id] w fun e w' => CancelQ Y b v L last id w e w' := by
 have HR := Lib.hid hr
 have HK := Lib.hid hk
 have HB0 := Lib.hid h
 have hbl := h.whl.low
 clear h hr hk
 go_enter Tryz.func67, Tryz.ntmps67
 go_wp2_with fail
 refine (bkSides b Y.o _).mono ?_
 rintro e w1 ⟨g, cap, rfl, hown, hb1⟩
 obtain ⟨A, c, hA, hc1, hc2, hx⟩ := row_cells hown
 injection hA with hA1 hA2 hA3
 subst hA1 hA3
 have hglt := (hown.lt g rfl).2
 have HX := Lib.hid hx
 have HB : Hid (BkH Y w1 b v S last) := Lib.hid ((HB0.out.keep (D := fun _ => False) ((Touch.refl _ _).alloc _) (fun _ _ h => h)).below hb1)
 have HP : Hid (Whl w1 w.heap.size 38 #[.int .i64 0, .string ⟨#[]⟩, .bool false, .int .i64 0, .int .i64 0, .int .i64 0]) := Lib.hid ((Whl.new rfl).below hb1 (by simp))
 have HW1 : Hid (Below w.heap.size w w1) := Lib.hid (((Below.refl _ _).alloc (Nat.le_refl _) _).trans (hb1.mono (by simp)))
 have hs1 := HP.out.low
 clear hx hown hb1
 go_wp2_with fail
 go_loopw [16] (fun kv wr => ∃ k : Nat, k ≤ 8 ∧ kv = .int .i64 k ∧ (∀ j, j < k → ∀ x ∈ S (ord8 j), x.id ≠ id) ∧ Below w1.heap.size w1 wr) (fun kv _ => 8 - (intOf kv).toNat)
 case atStart => exact ⟨0, by omega, rfl, fun j hj => by omega, Below.refl _ _⟩
 case round =>
  obtain ⟨k, hk8, rfl, hno, hBr⟩ := hrel
  have HNO := Lib.hid hno
  have HBR := Lib.hid hBr
  have hsr := hBr.size
  clear hno
  by_cases hlt : k < 8
  ·
   obtain ⟨j, hj, hsv, hjk⟩ := sv_get b Y.o k hlt
   obtain ⟨g', o', e1, _, h1⟩ := HX.out.2.2 k _ hsv
   injection e1 with e1; injection e1 with e1 e2 e3
   subst e1 e2
   rw [Nat.zero_add] at h1
   unfold pt at h1
   have h1 := bkeep hBr h1 hglt
   have hBk := HB.out.below hBr
   have HBK := Lib.hid hBk
   have hsd := hBk.sd hj
   have h2 := hsd.cell
   obtain ⟨A, c, e4, _⟩ := own_slice hsd.own
   rw [e4] at h2
   have HSD := Lib.hid hsd
   have HE4 := Lib.hid e4
   have hjk2 : j = ord8 k := hjk
   have HJ := Lib.hid hjk2
   have hle := HR.out.len hj
   obtain ⟨n, hn⟩ : ∃ n, n = (S j).length := ⟨_, rfl⟩
   rw [← hn] at h2 hle
   have HN := Lib.hid hn
   have qk : (k : Int) < 8 := by omega
   clear hjk hjk2 hsd e4 hBk hn hBr
   go_wp2_with fail
   go_loopw [24] (fun iv wq => ∃ i : Nat, i ≤ n ∧ iv = .int .i64 i ∧ (∀ q (hq : q < i) (hq2 : q < (S j).length), ((S j)[q]).id ≠ id) ∧ Below wr.heap.size wr wq) (fun iv _ => n - (intOf iv).toNat)
   case atStart => exact ⟨0, Nat.zero_le _, rfl, fun q hq => by omega, Below.refl _ _⟩
   case round =>
    obtain ⟨i, hin, rfl, hni, hBq⟩ := hrel
    have HNI := Lib.hid hni
    have HBQ := Lib.hid hBq
    have hsq := hBq.size
    clear hni
    by_cases hil : i < n
    ·
     have hiS : i < (S j).length := by rw [← HN.out]; exact hil
     have hsdq := HSD.out.below hBq
     have HSQ := Lib.hid hsdq
     have hoq := hsdq.own
     rw [HE4.out] at hoq
     obtain ⟨gx, cx, e5, _, hgx, _, _⟩ := own_form hoq (by omega)
     injection e5 with e5 e6 e7
     subst e5 e7
     obtain ⟨x0, x1, x2, x3, x4, x5⟩ := flatO_at (S j) i hiS
     obtain ⟨x, hx⟩ : ∃ x, x = (S j)[i] := ⟨_, rfl⟩
     rw [← hx] at x0 x1 x2 x3 x4 x5
     have y0 := (hoq.cellAt (i * 6) (ixO0 hiS)).trans x0
     have y1 := (hoq.cellAt (i * 6 + 1) (ixO hiS 1 (by decide))).trans x1
     have y2 := (hoq.cellAt (i * 6 + 2) (ixO hiS 2 (by decide))).trans x2
     have y3 := (hoq.cellAt (i * 6 + 3) (ixO hiS 3 (by decide))).trans x3
     have y4 := (hoq.cellAt (i * 6 + 4) (ixO hiS 4 (by decide))).trans x4
     have y5 := (hoq.cellAt (i * 6 + 5) (ixO hiS 5 (by decide))).trans x5
     have qi : (i : Int) < (n : Int) := by omega
     have HXX := Lib.hid hx
     clear x0 x1 x2 x3 x4 x5 hsdq hoq hx hBq
     by_cases hid : x.id = id
     ·
      have HID := Lib.hid hid
      have hlows := HB0.out.lows
      have hnb : ∀ q, w.heap.size ≤ q → ¬ (q = b ∨ (v j).ownBlock = some q) := fun q hq h => by have := hlows q (h.imp (fun h => h) (fun h => ⟨j, hj, h⟩)); omega
      have HNB := Lib.hid hnb
      have hPq := (HP.out.below HBR.out hs1).below HBQ.out (by omega)
      have HPQ := Lib.hid hPq
      have hsw := HW1.out.size
      have hlq := hPq.low
      clear hnb hlows hPq
      go_wp2_with (first
       | (go_at_call 99; go_loud (refine (heapRemove b (Y.o + j) Y.T (Y.C v last) (decide (j < 4)) (S j) (v j) i _ (HSQ.out.below ((Below.refl _ _).alloc (Nat.le_refl _) _)) (HR.out.q' HK.out hj) (HR.out j hj).2 (Nat.le_trans (HR.out.len hj) hlen) hiS).mono ?_; rintro e w5 ⟨⟨u5, rfl⟩, v5, l5, hp5, hh5, hS5, hT5, hb5⟩; have hs5 := hT5.size; have hD5 := (hT5.block _ (by simp; omega) (HNB.out _ (Nat.le_refl _))).trans (HPQ.out.alloc _); have hC5 := (hT5.block _ (by simp) (HNB.out _ (by omega))).trans (Whl.new rfl); have p0 := Whl.cell hC5 0; have c0 := Whl.cell hD5 0; have f0 := Whl.free hD5 0; have p1 := Whl.cell hC5 1; have c1 := Whl.cell hD5 1; have f1 := Whl.free hD5 1; have p2 := Whl.cell hC5 2; have c2 := Whl.cell hD5 2; have f2 := Whl.free hD5 2; have p3 := Whl.cell hC5 3; have c3 := Whl.cell hD5 3; have f3 := Whl.free hD5 3; have p4 := Whl.cell hC5 4; have c4 := Whl.cell hD5 4; have f4 := Whl.free hD5 4; have p5 := Whl.cell hC5 5; have c5 := Whl.cell hD5 5; have f5 := Whl.free hD5 5; simp only [List.getElem?_toArray, List.getElem?_cons_succ, List.getElem?_cons_zero] at p0 p1 p2 p3 p4 p5 c0 c1 c2 c3 c4 c5; have HS5 := Lib.hid hS5; have HT5 := Lib.hid hT5; have HP5 := Lib.hid hp5; have HH5 := Lib.hid hh5; have HB5 := Lib.hid hb5; have HD5 : Hid (Whl w5 w.heap.size 38 #[.int .i64 0, .string ⟨#[]⟩, .bool false, .int .i64 0, .int .i64 0, .int .i64 0]) := Lib.hid hD5; clear hS5 hT5 hp5 hh5 hb5 hD5 hC5))
       | fail)
      have hrem := (HBK.out.below (HBQ.out.trans ((Below.refl _ _).alloc (Nat.le_refl _) _ |>.mono hsq))).turn hj (u := v5) (l := l5) HS5.out HT5.out (.inl HB5.out)
      have hxL : x ∈ L := by
       have := (HR.out j hj).1.mem_iff.1 (show x ∈ S j by rw [HXX.out]; exact List.getElem_mem hiS)
       exact (List.mem_filter.1 this).1
      have hrel := HR.out.gone HK.out hj (x := x) (l' := l5) (by rw [HXX.out]; exact List.getElem_mem hiS) (by rw [HXX.out]; exact HP5.out) HH5.out
      rw [hid] at hrel
      have hfar : ∀ q, Ft b (upd v j v5) q → Ft b v q := fun q hq => by
       rcases hq with e | ⟨p, hp, e⟩
       · exact .inl e
       ·
        by_cases ep : p = j
        · subst ep; rw [upd_same] at e; exact .inr ⟨_, hj, HB5.out ▸ e⟩
        · rw [upd_ne _ _ ep] at e; exact .inr ⟨p, hp, e⟩
      have hbelow : Below w.heap.size w (wr.alloc (.cells #[.int .i64 id, .string x.who, .bool x.buy, .int .i64 x.item, .int .i64 x.ct, .int .i64 x.pr] 38)) := (((HW1.out.trans (HBR.out.mono HW1.out.size)).trans (HBQ.out.mono (by have := HW1.out.size; have := HBR.out.size; omega)))).alloc (by have := HW1.out.size; have := HBR.out.size; have := HBQ.out.size; omega) _
      have htch : Touch (Ft b v) w w5 := ((Touch.of_below hbelow).mono'' (fun k hk hd => by omega)).trans hrem.2.1 (fun _ _ h => h)
      have hfin : Whl ((((((w5.setCell ⟨w.heap.size, 0, none⟩ (.int .i64 id)).setCell ⟨w.heap.size, 1, none⟩ (.string x.who)).setCell ⟨w.heap.size, 2, none⟩ (.bool x.buy)).setCell ⟨w.heap.size, 3, none⟩ (.int .i64 x.item)).setCell ⟨w.heap.size, 4, none⟩ (.int .i64 x.ct)).setCell ⟨w.heap.size, 5, none⟩ (.int .i64 x.pr)) w.heap.size 38 #[.int .i64 id, .string x.who, .bool x.buy, .int .i64 x.item, .int .i64 x.ct, .int .i64 x.pr] := by
       have h0 : Whl w5 w.heap.size 38 #[.int .i64 0, .string ⟨#[]⟩, .bool false, .int .i64 0, .int .i64 0, .int .i64 0] := HD5.out
       have h1 : Whl (w5.setCell ⟨w.heap.size, 0, none⟩ (.int .i64 id)) w.heap.size 38 #[.int .i64 id, .string ⟨#[]⟩, .bool false, .int .i64 0, .int .i64 0, .int .i64 0] := h0.set 0 _
       have h2 : Whl ((w5.setCell ⟨w.heap.size, 0, none⟩ (.int .i64 id)).setCell ⟨w.heap.size, 1, none⟩ (.string x.who)) w.heap.size 38 #[.int .i64 id, .string x.who, .bool false, .int .i64 0, .int .i64 0, .int .i64 0] := h1.set 1 _
       have h3 : Whl (((w5.setCell ⟨w.heap.size, 0, none⟩ (.int .i64 id)).setCell ⟨w.heap.size, 1, none⟩ (.string x.who)).setCell ⟨w.heap.size, 2, none⟩ (.bool x.buy)) w.heap.size 38 #[.int .i64 id, .string x.who, .bool x.buy, .int .i64 0, .int .i64 0, .int .i64 0] := h2.set 2 _
       have h4 : Whl ((((w5.setCell ⟨w.heap.size, 0, none⟩ (.int .i64 id)).setCell ⟨w.heap.size, 1, none⟩ (.string x.who)).setCell ⟨w.heap.size, 2, none⟩ (.bool x.buy)).setCell ⟨w.heap.size, 3, none⟩ (.int .i64 x.item)) w.heap.size 38 #[.int .i64 id, .string x.who, .bool x.buy, .int .i64 x.item, .int .i64 0, .int .i64 0] := h3.set 3 _
       have h5 : Whl (((((w5.setCell ⟨w.heap.size, 0, none⟩ (.int .i64 id)).setCell ⟨w.heap.size, 1, none⟩ (.string x.who)).setCell ⟨w.heap.size, 2, none⟩ (.bool x.buy)).setCell ⟨w.heap.size, 3, none⟩ (.int .i64 x.item)).setCell ⟨w.heap.size, 4, none⟩ (.int .i64 x.ct)) w.heap.size 38 #[.int .i64 id, .string x.who, .bool x.buy, .int .i64 x.item, .int .i64 x.ct, .int .i64 0] := h4.set 4 _
       have h6 : Whl ((((((w5.setCell ⟨w.heap.size, 0, none⟩ (.int .i64 id)).setCell ⟨w.heap.size, 1, none⟩ (.string x.who)).setCell ⟨w.heap.size, 2, none⟩ (.bool x.buy)).setCell ⟨w.heap.size, 3, none⟩ (.int .i64 x.item)).setCell ⟨w.heap.size, 4, none⟩ (.int .i64 x.ct)).setCell ⟨w.heap.size, 5, none⟩ (.int .i64 x.pr)) w.heap.size 38 #[.int .i64 id, .string x.who, .bool x.buy, .int .i64 x.item, .int .i64 x.ct, .int .i64 x.pr] := h5.set 5 _
       exact h6
      have t0 : Touch (fun k => k = w.heap.size) w5 w5 := Touch.refl _ _
      have u0 : Touch (Ft b v) w w5 := htch
      have t1 : Touch (fun k => k = w.heap.size) w5 (w5.setCell ⟨w.heap.size, 0, none⟩ (.int .i64 id)) := t0.set (fun _ => rfl)
      have u1 : Touch (Ft b v) w (w5.setCell ⟨w.heap.size, 0, none⟩ (.int .i64 id)) := u0.setN (Nat.le_refl _)
      have t2 : Touch (fun k => k = w.heap.size) w5 ((w5.setCell ⟨w.heap.size, 0, none⟩ (.int .i64 id)).setCell ⟨w.heap.size, 1, none⟩ (.string x.who)) := t1.set (fun _ => rfl)
      have u2 : Touch (Ft b v) w ((w5.setCell ⟨w.heap.size, 0, none⟩ (.int .i64 id)).setCell ⟨w.heap.size, 1, none⟩ (.string x.who)) := u1.setN (Nat.le_refl _)
      have t3 : Touch (fun k => k = w.heap.size) w5 (((w5.setCell ⟨w.heap.size, 0, none⟩ (.int .i64 id)).setCell ⟨w.heap.size, 1, none⟩ (.string x.who)).setCell ⟨w.heap.size, 2, none⟩ (.bool x.buy)) := t2.set (fun _ => rfl)
      have u3 : Touch (Ft b v) w (((w5.setCell ⟨w.heap.size, 0, none⟩ (.int .i64 id)).setCell ⟨w.heap.size, 1, none⟩ (.string x.who)).setCell ⟨w.heap.size, 2, none⟩ (.bool x.buy)) := u2.setN (Nat.le_refl _)
      have t4 : Touch (fun k => k = w.heap.size) w5 ((((w5.setCell ⟨w.heap.size, 0, none⟩ (.int .i64 id)).setCell ⟨w.heap.size, 1, none⟩ (.string x.who)).setCell ⟨w.heap.size, 2, none⟩ (.bool x.buy)).setCell ⟨w.heap.size, 3, none⟩ (.int .i64 x.item)) := t3.set (fun _ => rfl)
      have u4 : Touch (Ft b v) w ((((w5.setCell ⟨w.heap.size, 0, none⟩ (.int .i64 id)).setCell ⟨w.heap.size, 1, none⟩ (.string x.who)).setCell ⟨w.heap.size, 2, none⟩ (.bool x.buy)).setCell ⟨w.heap.size, 3, none⟩ (.int .i64 x.item)) := u3.setN (Nat.le_refl _)
      have t5 : Touch (fun k => k = w.heap.size) w5 (((((w5.setCell ⟨w.heap.size, 0, none⟩ (.int .i64 id)).setCell ⟨w.heap.size, 1, none⟩ (.string x.who)).setCell ⟨w.heap.size, 2, none⟩ (.bool x.buy)).setCell ⟨w.heap.size, 3, none⟩ (.int .i64 x.item)).setCell ⟨w.heap.size, 4, none⟩ (.int .i64 x.ct)) := t4.set (fun _ => rfl)
      have u5 : Touch (Ft b v) w (((((w5.setCell ⟨w.heap.size, 0, none⟩ (.int .i64 id)).setCell ⟨w.heap.size, 1, none⟩ (.string x.who)).setCell ⟨w.heap.size, 2, none⟩ (.bool x.buy)).setCell ⟨w.heap.size, 3, none⟩ (.int .i64 x.item)).setCell ⟨w.heap.size, 4, none⟩ (.int .i64 x.ct)) := u4.setN (Nat.le_refl _)
      have t6 : Touch (fun k => k = w.heap.size) w5 ((((((w5.setCell ⟨w.heap.size, 0, none⟩ (.int .i64 id)).setCell ⟨w.heap.size, 1, none⟩ (.string x.who)).setCell ⟨w.heap.size, 2, none⟩ (.bool x.buy)).setCell ⟨w.heap.size, 3, none⟩ (.int .i64 x.item)).setCell ⟨w.heap.size, 4, none⟩ (.int .i64 x.ct)).setCell ⟨w.heap.size, 5, none⟩ (.int .i64 x.pr)) := t5.set (fun _ => rfl)
      have u6 : Touch (Ft b v) w ((((((w5.setCell ⟨w.heap.size, 0, none⟩ (.int .i64 id)).setCell ⟨w.heap.size, 1, none⟩ (.string x.who)).setCell ⟨w.heap.size, 2, none⟩ (.bool x.buy)).setCell ⟨w.heap.size, 3, none⟩ (.int .i64 x.item)).setCell ⟨w.heap.size, 4, none⟩ (.int .i64 x.ct)).setCell ⟨w.heap.size, 5, none⟩ (.int .i64 x.pr)) := u5.setN (Nat.le_refl _)
      have hkeep := t6
      have htch2 := u6
      clear t0 t1 t2 t3 t4 t5 t6 u0 u1 u2 u3 u4 u5 u6
      generalize (((((w5.setCell ⟨w.heap.size, 0, none⟩ (.int .i64 id)).setCell ⟨w.heap.size, 1, none⟩ (.string x.who)).setCell ⟨w.heap.size, 2, none⟩ (.bool x.buy)).setCell ⟨w.heap.size, 3, none⟩ (.int .i64 x.item)).setCell ⟨w.heap.size, 4, none⟩ (.int .i64 x.ct)).setCell ⟨w.heap.size, 5, none⟩ (.int .i64 x.pr) = W6 at hfin hkeep htch2 ⊢
      have r0 := hfin.cell 0
      have r1 := hfin.cell 1
      have r2 := hfin.cell 2
      have r3 := hfin.cell 3
      have r4 := hfin.cell 4
      have r5 := hfin.cell 5
      simp only [List.getElem?_toArray, List.getElem?_cons_succ, List.getElem?_cons_zero] at r0 r1 r2 r3 r4 r5
      refine bodyPost_ret (v := .tuple #[.agg #[.int .i64 id, .string x.who, .bool x.buy, .int .i64 x.item, .int .i64 x.ct, .int .i64 x.pr], .int .i64 0]) (by simp [results, Tryz.results67, go_sem, r0, r1, r2, r3, r4, r5]) rfl (.inl ⟨x, hxL, hid, upd v j v5, upd S j l5, by rw [← hid]; rfl, ?_, hrel, htch2, hfar⟩)
      refine hrem.1.keep hkeep ?_
      intro q hq e
      have := HB0.out.lows q (hfar q hq)
      omega
     ·
      have q6 : ¬ x.id = id := hid
      go_wp2_with fail
      refine ⟨⟨i + 1, by omega, by go_num, ?_, ?_⟩, measI hil⟩
      ·
       intro q hq hq2
       by_cases e : q = i
       · subst e; rw [← HXX.out]; exact hid
       · exact HNI.out q (by omega) hq2
      · have := HBQ.out; exact tB
    ·
     obtain rfl : i = n := by omega
     go_wp2_with fail
     refine ⟨⟨k + 1, by omega, by go_num, ?_, ?_⟩, measI hlt⟩
     ·
      intro q hq y hy
      by_cases e : q = k
      ·
       subst e
       rw [← HJ.out] at hy
       obtain ⟨p, hp, rfl⟩ := List.getElem_of_mem hy
       exact HNI.out p (by rw [HN.out]; exact hp) hp
      · exact HNO.out q (by omega) y hy
     · exact HBR.out.trans (HBQ.out.mono hsr)
  ·
   obtain rfl : k = 8 := by omega
   have hP := HP.out.below HBR.out hs1
   have c0 := hP.cell 0
   have f0 := hP.free 0
   have c1 := hP.cell 1
   have f1 := hP.free 1
   have c2 := hP.cell 2
   have f2 := hP.free 2
   have c3 := hP.cell 3
   have f3 := hP.free 3
   have c4 := hP.cell 4
   have f4 := hP.free 4
   have c5 := hP.cell 5
   have f5 := hP.free 5
   simp only [List.getElem?_toArray, List.getElem?_cons_succ, List.getElem?_cons_zero] at c0 c1 c2 c3 c4 c5
   have hnone := none_of HR.out HK.out HNO.out
   go_wp2_with fail
   refine bodyPost_ret (v := .tuple #[.agg #[.int .i64 0, .string ⟨#[]⟩, .bool false, .int .i64 0, .int .i64 0, .int .i64 0], .int .i64 7]) (by simp [results, Tryz.results67, go_sem, *]) rfl (.inr ⟨hnone, rfl, ?_⟩)
   have := HW1.out.trans (HBR.out.mono HW1.out.size)
   exact tB
end Go.Proofs.YtdlbiobjnohfbaaGreat
