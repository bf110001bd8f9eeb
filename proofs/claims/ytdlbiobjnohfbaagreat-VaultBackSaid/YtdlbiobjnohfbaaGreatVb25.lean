/- vault: Order. -/
import Derived.Test.YtdlbiobjnohfbaaGreatVb24
namespace Go.Proofs.YtdlbiobjnohfbaaGreat
open Go.RowKit Go.ChangeMaps Go.MapKept
set_option linter.unusedVariables false
set_option linter.unusedSimpArgs false
theorem k0Vb25 {p : Prop} (h : p := by exact ⟨PX.cell 0, PX.cell 1, PX.cell 2, PX.cell 3, PX.cell 4, PX.cell 5⟩) : p := h
theorem VtH.num {w : World} {b : Nat} {p : Value} {v : Nat → Value} {S : Nat → List Od} {l : Pm} {last gone : Int} (h : VtH w b p v S l last gone) (g : Int) : VtH (w.setCell ⟨b, 10, none⟩ (.int .i64 g)) b p v S l last g :=
 ⟨⟨h.bk.whl.set 10 _, fun i hi => own_set_ne (h.bk.own i hi) (fun q hq e => h.bk.far i hi (by rw [hq, e])), h.bk.far, h.bk.apart⟩, h.pu.keep (D := fun x => x = b) ((Touch.refl _ _).set (fun _ => rfl)) (fun x hx e => h.ne (by rw [hx, e])), h.ok, h.ne, h.apart⟩
theorem VtH.booked {w w' : World} {b : Nat} {p : Value} {v v' : Nat → Value} {S S' : Nat → List Od} {l : Pm} {last last' gone : Int} (h : VtH w b p v S l last gone) (hb : BkH (lay1 p (.int .i64 gone)) w' b v' S' last') (ht : Touch (Ft b v) w w') (hf : ∀ x, Ft b v' x → Ft b v x ∨ w.heap.size ≤ x) : VtH w' b p v' S' l last' gone := by
 have hap : ∀ x, Ft b v x → mb p ≠ some x := by
  rintro x (rfl | ⟨i, hi, hx⟩)
  · exact h.ne
  · exact h.apart i hi x hx
 refine ⟨hb, h.pu.keep ht (fun x hx hf => hap x hf hx), h.ok, h.ne, fun i hi x hx e => ?_⟩
 rcases hf x (.inr ⟨i, hi, hx⟩) with h1 | h1
 · exact hap x h1 e
 · have := h.pu.lows x e; omega
theorem take_succT {L : List Td} {i : Nat} (h : i < L.length) : L.take (i + 1) = L.take i ++ [L[i]] := by rw [List.take_add_one, List.getElem?_eq_getElem h]; rfl
theorem SetQ'.ahead {b : Nat} {p p1 : Value} {v : Nat → Value} {S : Nat → List Od} {l : Pm} {last gone : Int} {w w1 w' : World} (hb : Below w.heap.size w w1) (hl : ∀ x, Fv b p v x → x < w.heap.size) (h : SetQ' b p v S l last gone w1 w' p1) : SetQ' b p v S l last gone w w' p1 := by
 obtain ⟨h1, h2, h3⟩ := h
 refine ⟨h1, ((Touch.of_below hb).mono'' (fun k hk hd => by omega)).trans h2 (fun _ _ h => h), fun x hx => ?_⟩
 rcases h3 x hx with h | h
 · exact .inl h
 · exact .inr (Nat.le_trans hb.size h)
theorem Placed.sure {L : List Od} {last : Int} {o : Od} {T : List Td} {n e : Int} {L' : List Od} {last' : Int} (h : Placed L last o T n e L' last') (ho : OkO o) (hl : last < o.id) (hlen : L.length < 32) : e = 0 ∧ ∃ o1 L1, Places o L T o1 L1 ∧ L' = laid o1 L1 ∧ last' = o.id ∧ T.length ≤ 1048576 := by
 cases h with
 | bad h => exact absurd ⟨ho, hl⟩ h
 | full h1 h2 h => omega
 | ok h1 h2 h T o1 L1 hp hl => exact ⟨rfl, o1, L1, hp, rfl, rfl, hl⟩
theorem mayB_held {o : Od} (h : OkO (o.num 1)) : mayB o.who (heldP (o.num 1)) = true := by
 have hw : 1 ≤ o.who.size ∧ o.who.size ≤ 16 := h.who
 unfold mayB
 rw [held_is h]
 simp [hw.1, hw.2]
def room (L : List Od) (gone : Int) : Prop := L.length < 32 ∧ gone < 1099511627776
def OrderQ (b : Nat) (p : Value) (v : Nat → Value) (l : Pm) (L : List Od) (last gone : Int) (o : Od) (w : World) (e : Ending) (w' : World) : Prop :=
 (∃ c : Int, 1 ≤ c ∧ ((OkO (o.num 1) → room L gone → c = 14) ∧ (¬ OkO (o.num 1) → c = 1) ∧ (OkO (o.num 1) → ¬ room L gone → c = 6)) ∧ ¬ (OkO (o.num 1) ∧ room L gone ∧ lessI (hasP l o.who.data.toList) (heldP o) = false) ∧ e = .returned (.tuple #[.int .i64 0, .int .i64 c]) ∧ Below w.heap.size w w') ∨
 (OkO (o.num 1) ∧ room L gone ∧ lessI (hasP l o.who.data.toList) (heldP o) = false ∧ e = .returned (.tuple #[.int .i64 (gone + 1), .int .i64 0]) ∧
  ∃ (T : List Td) (o1 : Od) (L1 : List Od) (p' : Value) (v' : Nat → Value), Places (o.num (gone + 1)) L T o1 L1 ∧
   VtAt w' b p' v' (T.foldl settleP (setP l o.who.data.toList (subI (hasP l o.who.data.toList) (heldP o)))) (laid o1 L1) (gone + 1) (gone + 1) ∧
   Touch (Fv b p v) w w' ∧ (∀ x, Fv b p' v' x → Fv b p v x ∨ w.heap.size ≤ x))
theorem OrderQ.no {b : Nat} {p : Value} {v : Nat → Value} {l : Pm} {L : List Od} {last gone : Int} {o : Od} {w : World} {w' : World} {c : Int} (hc : 1 ≤ c) (h14 : (OkO (o.num 1) → room L gone → c = 14) ∧ (¬ OkO (o.num 1) → c = 1) ∧ (OkO (o.num 1) → ¬ room L gone → c = 6)) (h : ¬ (OkO (o.num 1) ∧ room L gone ∧ lessI (hasP l o.who.data.toList) (heldP o) = false)) (hb : Below w.heap.size w w') : OrderQ b p v l L last gone o w (.returned (.tuple #[.int .i64 0, .int .i64 c])) w' :=
 .inl ⟨c, hc, h14, h, rfl, hb⟩
set_option maxHeartbeats 8000000 in
set_option maxRecDepth 10000 in
theorem vtOrder (b : Nat) (p : Value) (v : Nat → Value) (l : Pm) (L : List Od) (last gone : Int) (o : Od) (w : World) (h : VtAt w b p v l L last gone) :
  Calls Tryz.prog 12 #[.pointer (some ⟨b, 0, none⟩), odA o] w fun e w' => OrderQ b p v l L last gone o w e w' := by
 obtain ⟨S, hv, hrs, hbk, hlen, hlg, hgt⟩ := h
 have HV := Lib.hid hv
 have HRS := Lib.hid hrs
 have HBK := Lib.hid hbk
 have HLOW := Lib.hid hv.lows
 have hbl := hv.bk.whl.low
 have hz := hbk.zero
 obtain ⟨W, hW⟩ : ∃ W, W = w.alloc (.cells #[.int .i64 1, .string o.who, .bool o.buy, .int .i64 o.item, .int .i64 o.ct, .int .i64 o.pr] 38) := ⟨_, rfl⟩
 obtain ⟨W2, hW2⟩ : ∃ W2, W2 = W.alloc (.cells #[.int .i64 1, .string o.who, .bool o.buy, .int .i64 o.item, .int .i64 o.ct, .int .i64 o.pr] 38) := ⟨_, rfl⟩
 have hs1 : W.heap.size = w.heap.size + 1 := by rw [hW]; simp
 have hs2 : W2.heap.size = w.heap.size + 2 := by rw [hW2]; simp; omega
 have B2 : Below w.heap.size w W2 := by rw [hW2, hW]; exact ((Below.refl _ _).alloc (Nat.le_refl _) _).alloc (by simp) _
 have P2 : Whl W2 w.heap.size 38 #[.int .i64 1, .string o.who, .bool o.buy, .int .i64 o.item, .int .i64 o.ct, .int .i64 o.pr] := by rw [hW2, hW]; exact (Whl.new rfl).alloc _
 have C2 : Cells W2 W2.heap.size (some ⟨w.heap.size + 1, 0, none⟩) 1 1 6 (flatO [o.num 1]) := by
  rw [hW2, ← hs1]
  have := ord_cells (w := W) (e := 38) (id := 1) (item := o.item) (ct := o.ct) (pr := o.pr) (who := o.who) (buy := o.buy)
  simpa [flatO, odV, Od.num] using this
 have HB2 := Lib.hid B2
 have HP2 := Lib.hid P2
 have HC2 := Lib.hid C2
 clear hv hrs hbk B2 P2 C2
 rw [hW] at hW2
 unfold odA
 by_cases hok : OkO (o.num 1)
 case neg =>
  have HNO := Lib.hid hok
  go_enter Tryz.func12, Tryz.ntmps12
  go_wp2_with (first
   | (go_at_call 40; rw [← hW2]; clear hW2; go_loud (refine (bkOf _ _ 1 [o.num 1] _ HC2.out (Nat.le_refl _) (by simp)).mono ?_; rintro e w3 ⟨hb3, h3⟩; obtain rfl : e = .returned (.tuple #[.pointer none, .int .i64 1]) := (by rcases h3 with ⟨h, _⟩ | ⟨_, h⟩; exact absurd ((ofK_one _).1 h) HNO.out; exact h)))
   | fail)
  refine bodyPost_ret (v := .tuple #[.int .i64 0, .int .i64 1]) (by simp [results, Tryz.results12, go_sem]) rfl (OrderQ.no (by omega) ⟨fun h _ => absurd h HNO.out, fun _ => rfl, fun h _ => absurd h HNO.out⟩ (fun h => HNO.out h.1) (HB2.out.trans (hb3.mono HB2.out.size)))
 have HOK := Lib.hid hok
 clear hok
 by_cases hrm : room L gone
 case neg =>
  have HRM := Lib.hid hrm
  by_cases h32 : 32 ≤ L.length
  ·
   have q32 : (32 : Int) ≤ (L.length : Int) := by omega
   clear hrm
   go_enter Tryz.func12, Tryz.ntmps12
   go_wp2_with (first
    | (go_at_call 41; have hgg := HV3; clear hgg; go_loud (refine (bkLen (lay1 p (.int .i64 gone)) b v S last L _ HV3.out.bk HRS.out HBK.out (by omega)).mono ?_; rintro e w4 ⟨rfl, hb4⟩; have HV4 := Lib.hid (HV3.out.below hb4); have P4 := HP3.out.below hb4 hs3; have hs4 := P4.low; have HP4 := Lib.hid P4; have HB4 := Lib.hid (HB3.out.trans (hb4.mono HB3.out.size)); have g10 := HV4.out.cellG; clear hb4 P4))
    | (go_at_call 40; rw [← hW2]; clear hW2; go_loud (refine (bkOf _ _ 1 [o.num 1] _ HC2.out (Nat.le_refl _) (by simp)).mono ?_; rintro e w3 ⟨hb3, h3⟩; obtain ⟨qb, rfl⟩ : ∃ qb, e = .returned (.tuple #[.pointer (some ⟨qb, 0, none⟩), .int .i64 0]) := (by rcases h3 with ⟨_, qb, _, h, _⟩ | ⟨h, _⟩; exact ⟨qb, h⟩; exact absurd ((ofK_one _).2 HOK.out) h); have HB3 := Lib.hid (HB2.out.trans (hb3.mono HB2.out.size)); have P3 := HP2.out.below hb3 (by omega); have hs3 := P3.low; have HP3 := Lib.hid P3; have HV3 := Lib.hid (HV.out.below HB3.out); have g10 := HV3.out.cellG; clear hb3 h3 P3))
    | fail)
   refine bodyPost_ret (v := .tuple #[.int .i64 0, .int .i64 6]) (by simp [results, Tryz.results12, go_sem]) rfl (OrderQ.no (by omega) ⟨fun _ h => absurd h HRM.out, fun h => absurd HOK.out h, fun _ _ => rfl⟩ (fun h => HRM.out h.2.1) HB4.out)
  ·
   have q32 : ¬ (32 : Int) ≤ (L.length : Int) := by omega
   have qg : (1099511627776 : Int) ≤ gone := by unfold room at hrm; omega
   clear hrm
   go_enter Tryz.func12, Tryz.ntmps12
   go_wp2_with (first
    | (go_at_call 41; have hgg := HV3; clear hgg; go_loud (refine (bkLen (lay1 p (.int .i64 gone)) b v S last L _ HV3.out.bk HRS.out HBK.out (by omega)).mono ?_; rintro e w4 ⟨rfl, hb4⟩; have HV4 := Lib.hid (HV3.out.below hb4); have P4 := HP3.out.below hb4 hs3; have hs4 := P4.low; have HP4 := Lib.hid P4; have HB4 := Lib.hid (HB3.out.trans (hb4.mono HB3.out.size)); have g10 := HV4.out.cellG; clear hb4 P4))
    | (go_at_call 40; rw [← hW2]; clear hW2; go_loud (refine (bkOf _ _ 1 [o.num 1] _ HC2.out (Nat.le_refl _) (by simp)).mono ?_; rintro e w3 ⟨hb3, h3⟩; obtain ⟨qb, rfl⟩ : ∃ qb, e = .returned (.tuple #[.pointer (some ⟨qb, 0, none⟩), .int .i64 0]) := (by rcases h3 with ⟨_, qb, _, h, _⟩ | ⟨h, _⟩; exact ⟨qb, h⟩; exact absurd ((ofK_one _).2 HOK.out) h); have HB3 := Lib.hid (HB2.out.trans (hb3.mono HB2.out.size)); have P3 := HP2.out.below hb3 (by omega); have hs3 := P3.low; have HP3 := Lib.hid P3; have HV3 := Lib.hid (HV.out.below HB3.out); have g10 := HV3.out.cellG; clear hb3 h3 P3))
    | fail)
   refine bodyPost_ret (v := .tuple #[.int .i64 0, .int .i64 6]) (by simp [results, Tryz.results12, go_sem]) rfl (OrderQ.no (by omega) ⟨fun _ h => absurd h HRM.out, fun h => absurd HOK.out h, fun _ _ => rfl⟩ (fun h => HRM.out h.2.1) HB4.out)
 have HRM := Lib.hid hrm
 have q32 : ¬ (32 : Int) ≤ (L.length : Int) := by have := hrm.1; omega
 have qg : ¬ (1099511627776 : Int) ≤ gone := by have := hrm.2; omega
 clear hrm
 go_enter Tryz.func12, Tryz.ntmps12
 go_wp2_with (first
  | (go_at_call 41; have hgg := HV3; clear hgg; go_loud (refine (bkLen (lay1 p (.int .i64 gone)) b v S last L _ HV3.out.bk HRS.out HBK.out (by omega)).mono ?_; rintro e w4 ⟨rfl, hb4⟩; have HV4 := Lib.hid (HV3.out.below hb4); have P4 := HP3.out.below hb4 hs3; have hs4 := P4.low; have HP4 := Lib.hid P4; have HB4 := Lib.hid (HB3.out.trans (hb4.mono HB3.out.size)); have g10 := HV4.out.cellG; clear hb4 P4))
  | (go_at_call 40; rw [← hW2]; clear hW2; go_loud (refine (bkOf _ _ 1 [o.num 1] _ HC2.out (Nat.le_refl _) (by simp)).mono ?_; rintro e w3 ⟨hb3, h3⟩; obtain ⟨qb, rfl⟩ : ∃ qb, e = .returned (.tuple #[.pointer (some ⟨qb, 0, none⟩), .int .i64 0]) := (by rcases h3 with ⟨_, qb, _, h, _⟩ | ⟨h, _⟩; exact ⟨qb, h⟩; exact absurd ((ofK_one _).2 HOK.out) h); have HB3 := Lib.hid (HB2.out.trans (hb3.mono HB2.out.size)); have P3 := HP2.out.below hb3 (by omega); have hs3 := P3.low; have HP3 := Lib.hid P3; have HV3 := Lib.hid (HV.out.below HB3.out); have g10 := HV3.out.cellG; clear hb3 h3 P3))
  | fail)
 have x0 : w4.cell? ⟨w.heap.size, 0, none⟩ = some (.int .i64 1) := HP4.out.cell 0
 have x1 : w4.cell? ⟨w.heap.size, 1, none⟩ = some (.string o.who) := HP4.out.cell 1
 have x2 : w4.cell? ⟨w.heap.size, 2, none⟩ = some (.bool o.buy) := HP4.out.cell 2
 have x3 : w4.cell? ⟨w.heap.size, 3, none⟩ = some (.int .i64 o.item) := HP4.out.cell 3
 have x4 : w4.cell? ⟨w.heap.size, 4, none⟩ = some (.int .i64 o.ct) := HP4.out.cell 4
 have x5 : w4.cell? ⟨w.heap.size, 5, none⟩ = some (.int .i64 o.pr) := HP4.out.cell 5
 cases hle : lessI (hasP l o.who.data.toList) (heldP o) with
 | true =>
  have HLE := Lib.hid hle
  clear hle
  refine wp_region_held_drew (S := (fun W => W.cell? ⟨w.heap.size, 0, none⟩ = some (.int .i64 1) ∧ W.cell? ⟨w.heap.size, 1, none⟩ = some (.string o.who) ∧ W.cell? ⟨w.heap.size, 2, none⟩ = some (.bool o.buy) ∧ W.cell? ⟨w.heap.size, 3, none⟩ = some (.int .i64 o.item) ∧ W.cell? ⟨w.heap.size, 4, none⟩ = some (.int .i64 o.ct) ∧ W.cell? ⟨w.heap.size, 5, none⟩ = some (.int .i64 o.pr))) (by kernel_rfl) ⟨x0, x1, x2, x3, x4, x5⟩ (fun hHeld => ?_)
  refine tkY 0 (some 39) ?v0n rfl ?y0n ?r0n
  case y0n => exact tY
  case r0n =>
  try simp only [q1,q2,q3,q4,q5]
  refine tkY 1 (some 40) ?v1n rfl ?y1n ?r1n
  case y1n => exact tY
  case r1n =>
  try simp only [q1,q2,q3,q4,q5]
  refine tkY 2 (some 41) ?v2n rfl ?y2n ?r2n
  case y2n => exact tY
  case r2n =>
  try simp only [q1,q2,q3,q4,q5]
  refine tkY 3 (some 42) ?v3n rfl ?y3n ?r3n
  case y3n => exact tY
  case r3n =>
  try simp only [q1,q2,q3,q4,q5]
  refine wpAnyH_ready (rs := [4]) (by kernel_rfl) (by simp) ?_
  refine AllReadyH.cons (o := ⟨some 43, _, _, _, _, _⟩) rfl (fun K hK => ?_) AllReadyH.nil
  go_simp
  refine (vtHeld (o.num 1) _ HOK.out).mono ?_; rintro e w5 ⟨rfl, hb5⟩
  go_wp2_with fail
  have hh5 : Below w4.heap.size w4 w5 := ((Below.refl w4.heap.size w4).drew).trans hb5
  have PX := HP4.out.below hh5 hs4
  refine hK.out _ _ k0Vb25 (fun hHeld => ?_)
  clear hK K
  try simp only [q1,q2,q3,q4,q5]
  refine wpAnyH_ready (rs := [5]) (by kernel_rfl) (by simp) ?_
  refine AllReadyH.cons (o := ⟨some 44, _, _, _, _, _⟩) rfl (fun K hK => ?_) AllReadyH.nil
  go_simp
  refine (vtTake b p v S l last gone o.who (heldP (o.num 1)) _ (HV4.out.below hh5)).mono ?_
  rintro e w6 hq
  obtain ⟨rfl, hb6⟩ : e = .returned (.int .i64 14) ∧ Below w5.heap.size w5 w6 := (by
   rcases hq with ⟨h, _⟩ | ⟨_, _, h⟩ | ⟨_, h, _⟩
   · rw [mayB_held HOK.out] at h; cases h
   · exact h
   · rw [held_num, HLE.out] at h; cases h)
  go_wp2_with fail
  have hh6 := hh5.trans (hb6.mono hh5.size)
  have PX := HP4.out.below hh6 hs4
  clear hq
  refine hK.out _ _ k0Vb25 (fun hHeld => ?_)
  clear hK K
  try simp only [q1,q2,q3,q4,q5]
  refine tkY 6 (some 8) ?v6n rfl ?y6n ?r6n
  case y6n => exact tY
  case r6n =>
  try simp only [q1,q2,q3,q4,q5]
  refine wpAnyH_done (by kernel_rfl) ?_ _
  go_wp2_with fail
  refine bodyPost_ret (v := .tuple #[.int .i64 0, .int .i64 14]) (by simp [results, Tryz.results12, go_sem]) rfl (OrderQ.no (by omega) ⟨fun _ _ => rfl, fun h => absurd HOK.out h, fun _ h => absurd HRM.out h⟩ (fun h => by rw [HLE.out] at h; cases h.2.2) (HB4.out.trans (hh6.mono HB4.out.size)))
 | false =>
  have HLE := Lib.hid hle
  clear hle
  refine wp_region_held_drew (S := (fun W => W.cell? ⟨w.heap.size, 0, none⟩ = some (.int .i64 1) ∧ W.cell? ⟨w.heap.size, 1, none⟩ = some (.string o.who) ∧ W.cell? ⟨w.heap.size, 2, none⟩ = some (.bool o.buy) ∧ W.cell? ⟨w.heap.size, 3, none⟩ = some (.int .i64 o.item) ∧ W.cell? ⟨w.heap.size, 4, none⟩ = some (.int .i64 o.ct) ∧ W.cell? ⟨w.heap.size, 5, none⟩ = some (.int .i64 o.pr))) (by kernel_rfl) ⟨x0, x1, x2, x3, x4, x5⟩ (fun hHeld => ?_)
  refine tkY 0 (some 39) ?v0y rfl ?y0y ?r0y
  case y0y => exact tY
  case r0y =>
  try simp only [q1,q2,q3,q4,q5]
  refine tkY 1 (some 40) ?v1y rfl ?y1y ?r1y
  case y1y => exact tY
  case r1y =>
  try simp only [q1,q2,q3,q4,q5]
  refine tkY 2 (some 41) ?v2y rfl ?y2y ?r2y
  case y2y => exact tY
  case r2y =>
  try simp only [q1,q2,q3,q4,q5]
  refine tkY 3 (some 42) ?v3y rfl ?y3y ?r3y
  case y3y => exact tY
  case r3y =>
  try simp only [q1,q2,q3,q4,q5]
  refine wpAnyH_ready (rs := [4]) (by kernel_rfl) (by simp) ?_
  refine AllReadyH.cons (o := ⟨some 43, _, _, _, _, _⟩) rfl (fun K hK => ?_) AllReadyH.nil
  go_simp
  refine (vtHeld (o.num 1) _ HOK.out).mono ?_; rintro e w5 ⟨rfl, hb5⟩
  go_wp2_with fail
  have hh5 : Below w4.heap.size w4 w5 := ((Below.refl w4.heap.size w4).drew).trans hb5
  have PX := HP4.out.below hh5 hs4
  refine hK.out _ _ k0Vb25 (fun hHeld => ?_)
  clear hK K
  try simp only [q1,q2,q3,q4,q5]
  refine wpAnyH_ready (rs := [5]) (by kernel_rfl) (by simp) ?_
  refine AllReadyH.cons (o := ⟨some 44, _, _, _, _, _⟩) rfl (fun K hK => ?_) AllReadyH.nil
  go_simp
  refine (vtTake b p v S l last gone o.who (heldP (o.num 1)) _ (HV4.out.below hh5)).mono ?_
  rintro e w6 hq
  obtain ⟨rfl, hq6⟩ : e = .returned (.int .i64 0) ∧ SetQ b p v S (setP l o.who.data.toList (subI (hasP l o.who.data.toList) (heldP o))) last gone w5 w6 := (by
   rcases hq with ⟨h, _⟩ | ⟨_, h, _⟩ | ⟨_, _, h⟩
   · rw [mayB_held HOK.out] at h; cases h
   · rw [held_num, HLE.out] at h; cases h
   · exact h)
  go_wp2_with fail
  obtain ⟨p1, hq6⟩ : ∃ p1, SetQ' b p v S (setP l o.who.data.toList (subI (hasP l o.who.data.toList) (heldP o))) last gone w5 w6 p1 := hq6
  have hnf : ¬ Fv b p v w.heap.size := (fun hf => by have := HLOW.out _ hf; omega)
  have hnp : ¬ Fv b p1 v w.heap.size := (fun hf => by
   rcases hq6.2.2 _ hf with h | h
   · exact hnf h
   · have := hh5.size; omega)
  have hq6 := SetQ'.ahead (HB4.out.trans (hh5.mono HB4.out.size)) HLOW.out hq6
  have hq5 := hq
  clear hq
  have PX : Whl w6 w.heap.size 38 #[.int .i64 1, .string o.who, .bool o.buy, .int .i64 o.item, .int .i64 o.ct, .int .i64 o.pr] := by
   have P5 := HP4.out.below hh5 hs4
   rcases hq5 with ⟨_, _, h⟩ | ⟨_, _, _, h⟩ | ⟨_, _, _, h⟩
   · exact P5.below h P5.low
   · exact P5.below h P5.low
   ·
    obtain ⟨_, _, h, _⟩ := h
    exact P5.keepT h hnf
  clear hq5
  refine hK.out _ _ k0Vb25 (fun hHeld => ?_)
  clear hK K
  try simp only [q1,q2,q3,q4,q5]
  refine tkY 6 (some 8) ?v6y rfl ?y6y ?r6y
  case y6y => exact tY
  case r6y =>
  try simp only [q1,q2,q3,q4,q5]
  refine wpAnyH_done (by kernel_rfl) ?_ _
  have HQ6 := Lib.hid hq6
  have HNF := Lib.hid hnf
  have HNP := Lib.hid hnp
  have HP6 := Lib.hid PX
  have y10 := hq6.1.cellG
  have z10 := hq6.1.bk.whl.free 10
  have z0 := PX.free 0
  have y0 : w6.cell? ⟨w.heap.size, 0, none⟩ = some (.int .i64 1) := PX.cell 0
  have hnb : w.heap.size ≠ b := by omega
  have hnb' : b ≠ w.heap.size := by omega
  clear x0 x1 x2 x3 x4 x5 hq6 hnf hnp PX hHeld
  have hw1 : IntKind.i64.wrap (gone + 1) = gone + 1 := by rw [IntKind.wrap_i64]; omega
  obtain ⟨W8, hW8⟩ : ∃ W8, W8 = (w6.setCell ⟨b, 10, none⟩ (.int .i64 (gone + 1))).setCell ⟨w.heap.size, 0, none⟩ (.int .i64 (gone + 1)) := ⟨_, rfl⟩
  have HV8 : Hid (VtH W8 b p1 v S (setP l o.who.data.toList (subI (hasP l o.who.data.toList) (heldP o))) last (gone + 1)) := Lib.hid (by
   rw [hW8]
   exact (HQ6.out.1.num (gone + 1)).keep (D := fun x => x = w.heap.size) ((Touch.refl _ _).set (fun _ => rfl)) (fun x hx e => by
    subst e
    exact HNP.out hx))
  have HT8 : Hid (Touch (Fv b p v) w W8) := Lib.hid (by
   rw [hW8]
   exact (HQ6.out.2.1.set (fun _ => .inl (.inl rfl))).set (fun hl => by simp at hl))
  have HP8 : Hid (Whl W8 w.heap.size 38 #[.int .i64 (gone + 1), .string o.who, .bool o.buy, .int .i64 o.item, .int .i64 o.ct, .int .i64 o.pr]) := Lib.hid (by
   rw [hW8]
   exact (HP6.out.far (a := ⟨b, 10, none⟩) hnb).set 0 _)
  have HNX : Hid (¬ Ft b v w.heap.size) := Lib.hid (fun h => HNF.out (.inl h))
  have HF8 : Hid (∀ x, Fv b p1 v x → Fv b p v x ∨ w.heap.size ≤ x) := Lib.hid HQ6.out.2.2
  go_wp2_with fail
  rw [← hW8]
  clear hW8 y10 z10 z0 y0 HP6
  have x0 : W8.cell? ⟨w.heap.size, 0, none⟩ = some (.int .i64 (gone + 1)) := HP8.out.cell 0
  have x1 : W8.cell? ⟨w.heap.size, 1, none⟩ = some (.string o.who) := HP8.out.cell 1
  have x2 : W8.cell? ⟨w.heap.size, 2, none⟩ = some (.bool o.buy) := HP8.out.cell 2
  have x3 : W8.cell? ⟨w.heap.size, 3, none⟩ = some (.int .i64 o.item) := HP8.out.cell 3
  have x4 : W8.cell? ⟨w.heap.size, 4, none⟩ = some (.int .i64 o.ct) := HP8.out.cell 4
  have x5 : W8.cell? ⟨w.heap.size, 5, none⟩ = some (.int .i64 o.pr) := HP8.out.cell 5
  have HOG : Hid (OkO (o.num (gone + 1))) := Lib.hid ⟨by show 1 ≤ gone + 1 ∧ gone + 1 ≤ 1099511627776; omega, HOK.out.who, HOK.out.item, HOK.out.ct, HOK.out.pr⟩
  refine wp_region_held_drew (S := (fun W => W.cell? ⟨w.heap.size, 0, none⟩ = some (.int .i64 (gone + 1)) ∧ W.cell? ⟨w.heap.size, 1, none⟩ = some (.string o.who) ∧ W.cell? ⟨w.heap.size, 2, none⟩ = some (.bool o.buy) ∧ W.cell? ⟨w.heap.size, 3, none⟩ = some (.int .i64 o.item) ∧ W.cell? ⟨w.heap.size, 4, none⟩ = some (.int .i64 o.ct) ∧ W.cell? ⟨w.heap.size, 5, none⟩ = some (.int .i64 o.pr))) (by kernel_rfl) ⟨x0, x1, x2, x3, x4, x5⟩ (fun hHeld => ?_)
  refine tkY 0 (some 61) ?v0p rfl ?y0p ?r0p
  case y0p => exact tY
  case r0p =>
  try simp only [q1,q2,q3,q4,q5]
  refine tkY 1 (some 62) ?v1p rfl ?y1p ?r1p
  case y1p => exact tY
  case r1p =>
  try simp only [q1,q2,q3,q4,q5]
  refine tkY 2 (some 63) ?v2p rfl ?y2p ?r2p
  case y2p => exact tY
  case r2p =>
  try simp only [q1,q2,q3,q4,q5]
  refine tkY 3 (some 64) ?v3p rfl ?y3p ?r3p
  case y3p => exact tY
  case r3p =>
  try simp only [q1,q2,q3,q4,q5]
  refine wpAnyH_ready (rs := [4]) (by kernel_rfl) (by simp) ?_
  refine AllReadyH.cons (o := ⟨some 65, _, _, _, _, _⟩) rfl (fun K hK => ?_) AllReadyH.nil
  have hbk8 : BookAt (lay1 p1 (.int .i64 (gone + 1))) W8.drew b v L last := ⟨S, HV8.out.bk.keep (D := fun _ => False) (Touch.refl _ _).drew' (fun _ _ h => h), HRS.out, HBK.out, hlen⟩
  go_simp
  refine (place (lay1 p1 (.int .i64 (gone + 1))) b v L last (o.num (gone + 1)) _ hbk8).mono ?_
  rintro e w9 ⟨T, n, c, L', last', v', tv, rfl, hp, hb, ho, ha, ht, hf⟩
  obtain ⟨rfl, o1, L1, hpl, rfl, rfl, hTl⟩ := hp.sure HOG.out (by show last < gone + 1; omega) (by have := HRM.out.1; exact this)
  go_wp2_with fail
  have PX := HP8.out.keepT (((Touch.refl (Ft b v) W8).drew').trans ht (fun _ _ h => h)) HNX.out
  obtain ⟨At, kt, hvt, hkt1, hkt2, _⟩ := own_slice ho
  subst hvt
  refine hK.out _ _ k0Vb25 (fun hHeld => ?_)
  clear hK K
  try simp only [q1,q2,q3,q4,q5]
  refine tkY 5 (some 60) ?v5p rfl ?y5p ?r5p
  case y5p => exact tY
  case r5p =>
  try simp only [q1,q2,q3,q4,q5]
  refine tkY 6 (some 66) ?v6p rfl ?y6p ?r6p
  case y6p => exact tY
  case r6p =>
  try simp only [q1,q2,q3,q4,q5]
  refine tkY 7 (some 67) ?v7p rfl ?y7p ?r7p
  case y7p => exact tY
  case r7p =>
  try simp only [q1,q2,q3,q4,q5]
  refine tkY 8 (some 68) ?v8p rfl ?y8p ?r8p
  case y8p => exact tY
  case r8p =>
  try simp only [q1,q2,q3,q4,q5]
  refine tkY 9 (some 9) ?v9p rfl ?y9p ?r9p
  case y9p => exact tY
  case r9p =>
  try simp only [q1,q2,q3,q4,q5]
  refine tkY 10 (some 10) ?v10p rfl ?y10p ?r10p
  case y10p => exact tY
  case r10p =>
  try simp only [q1,q2,q3,q4,q5]
  refine tkY 11 (some 11) ?v11p rfl ?y11p ?r11p
  case y11p => exact tY
  case r11p =>
  try simp only [q1,q2,q3,q4,q5]
  refine wpAnyH_done (by kernel_rfl) ?_ _
  obtain ⟨S', hb1, hb2, hb3, hb4⟩ := hb
  have hV9 := (HV8.out.keep (D := fun _ => False) (Touch.refl _ _).drew' (fun _ _ h => h)).booked hb1 ht hf
  have hap9 : ∀ g, (Value.slice At T.length kt).ownBlock = some g → ¬ Fv b p1 v' g := (fun g hg h => by
   rcases h with h | h
   · exact ha g hg h
   ·
    have h1 := HV8.out.pu.lows g h
    have h2 := (ho.lt g hg).1
    simp at h2
    omega)
  have HTDS : Hid (∀ t ∈ T, TdOk t) := Lib.hid (hpl.tds HOG.out.r HBK.out)
  have HV9 := Lib.hid hV9
  have HO9 := Lib.hid ho
  have HP9 := Lib.hid PX
  have HAP := Lib.hid hap9
  have HT9 := Lib.hid ((((Touch.refl (Ft b v) W8).drew')).trans ht (fun _ _ h => h))
  have HF9 := Lib.hid hf
  have HNQ : Hid (¬ Fv b p1 v' w.heap.size) := Lib.hid (fun h => by
   rcases h with h | h
   ·
    rcases hf _ h with h2 | h2
    · exact HNX.out h2
    ·
     have := HP8.out.low
     simp at h2
     omega
   · exact HNP.out (.inr h))
  have HRS9 := Lib.hid hb2
  have HBK9 := Lib.hid hb3
  have HPL := Lib.hid hpl
  clear hb1 hb2 hb3 hpl hp hV9 hap9 ho PX ha ht hf x0 x1 x2 x3 x4 x5 hHeld
  go_wp2_with fail
  go_loopw [74] (fun iv wr => ∃ (i : Nat) (pi : Value), i ≤ T.length ∧ iv = .int .i64 i ∧ VtH wr b pi v' S' ((T.take i).foldl settleP (setP l o.who.data.toList (subI (hasP l o.who.data.toList) (heldP o)))) (gone + 1) (gone + 1) ∧ Touch (Fv b p1 v') w9 wr ∧ (∀ x, Fv b pi v' x → Fv b p1 v' x ∨ w9.heap.size ≤ x)) (fun iv _ => T.length - (intOf iv).toNat)
  case atStart => exact ⟨0, p1, Nat.zero_le _, rfl, HV9.out, Touch.refl _ _, fun x hx => .inl hx⟩
  case round =>
   obtain ⟨i, pi, hil, rfl, hVr, hTr, hFr⟩ := hrel
   have HVR := Lib.hid hVr
   have HTR := Lib.hid hTr
   have HFR := Lib.hid hFr
   clear hVr hTr hFr
   by_cases hlt : i < T.length
   ·
    have q3 : (i : Int) < (T.length : Int) := by omega
    have hor := HTR.out.own HO9.out (fun g hg => HAP.out g hg)
    obtain ⟨gx, cx, e5, _, hgx, _, _⟩ := own_form hor (by omega)
    injection e5 with e5 e6 e7
    subst e5 e7
    obtain ⟨r0, r1, r2, r3, r4, r5, r6, r7⟩ := flatT_at T i hlt
    obtain ⟨t, ht⟩ : ∃ t, t = T[i] := ⟨_, rfl⟩
    rw [← ht] at r0 r1 r2 r3 r4 r5 r6 r7
    have y0 := (hor.cellAt (i * 8) (by omega)).trans r0
    have y1 := (hor.cellAt (i * 8 + 1) (by omega)).trans r1
    have y2 := (hor.cellAt (i * 8 + 2) (by omega)).trans r2
    have y3 := (hor.cellAt (i * 8 + 3) (by omega)).trans r3
    have y4 := (hor.cellAt (i * 8 + 4) (by omega)).trans r4
    have y5 := (hor.cellAt (i * 8 + 5) (by omega)).trans r5
    have y6 := (hor.cellAt (i * 8 + 6) (by omega)).trans r6
    have y7 := (hor.cellAt (i * 8 + 7) (by omega)).trans r7
    have HTE := Lib.hid ht
    have HTO : Hid (TdOk t) := Lib.hid (by rw [ht]; exact HTDS.out _ (List.getElem_mem hlt))
    clear r0 r1 r2 r3 r4 r5 r6 r7 ht hor
    have B11 : Below wr.heap.size wr (wr.alloc (.cells #[.string t.buyer, .string t.seller, .int .i64 t.buy, .int .i64 t.sell, .int .i64 t.item, .int .i64 t.ct, .int .i64 t.pr, .int .i64 t.bid] 97)) := (Below.refl _ _).alloc (Nat.le_refl _) _
    have P11 : Whl (wr.alloc (.cells #[.string t.buyer, .string t.seller, .int .i64 t.buy, .int .i64 t.sell, .int .i64 t.item, .int .i64 t.ct, .int .i64 t.pr, .int .i64 t.bid] 97)) wr.heap.size 97 #[.string t.buyer, .string t.seller, .int .i64 t.buy, .int .i64 t.sell, .int .i64 t.item, .int .i64 t.ct, .int .i64 t.pr, .int .i64 t.bid] := Whl.new rfl
    obtain ⟨W11, hW11⟩ : ∃ W11, W11 = wr.alloc (.cells #[.string t.buyer, .string t.seller, .int .i64 t.buy, .int .i64 t.sell, .int .i64 t.item, .int .i64 t.ct, .int .i64 t.pr, .int .i64 t.bid] 97) := ⟨_, rfl⟩
    rw [← hW11] at B11 P11
    have HB11 := Lib.hid B11
    have HP11 := Lib.hid P11
    have hsr : wr.heap.size < W11.heap.size := P11.low
    clear B11 P11
    go_wp2_with fail
    rw [← hW11]
    clear hW11 y0 y1 y2 y3 y4 y5 y6 y7
    have x0 : W11.cell? ⟨wr.heap.size, 0, none⟩ = some (.string t.buyer) := HP11.out.cell 0
    have x1 : W11.cell? ⟨wr.heap.size, 1, none⟩ = some (.string t.seller) := HP11.out.cell 1
    have x2 : W11.cell? ⟨wr.heap.size, 2, none⟩ = some (.int .i64 t.buy) := HP11.out.cell 2
    have x3 : W11.cell? ⟨wr.heap.size, 3, none⟩ = some (.int .i64 t.sell) := HP11.out.cell 3
    have x4 : W11.cell? ⟨wr.heap.size, 4, none⟩ = some (.int .i64 t.item) := HP11.out.cell 4
    have x5 : W11.cell? ⟨wr.heap.size, 5, none⟩ = some (.int .i64 t.ct) := HP11.out.cell 5
    have x6 : W11.cell? ⟨wr.heap.size, 6, none⟩ = some (.int .i64 t.pr) := HP11.out.cell 6
    have x7 : W11.cell? ⟨wr.heap.size, 7, none⟩ = some (.int .i64 t.bid) := HP11.out.cell 7
    refine wp_region_held_drew (S := (fun W => W.cell? ⟨wr.heap.size, 0, none⟩ = some (.string t.buyer) ∧ W.cell? ⟨wr.heap.size, 1, none⟩ = some (.string t.seller) ∧ W.cell? ⟨wr.heap.size, 2, none⟩ = some (.int .i64 t.buy) ∧ W.cell? ⟨wr.heap.size, 3, none⟩ = some (.int .i64 t.sell) ∧ W.cell? ⟨wr.heap.size, 4, none⟩ = some (.int .i64 t.item) ∧ W.cell? ⟨wr.heap.size, 5, none⟩ = some (.int .i64 t.ct) ∧ W.cell? ⟨wr.heap.size, 6, none⟩ = some (.int .i64 t.pr) ∧ W.cell? ⟨wr.heap.size, 7, none⟩ = some (.int .i64 t.bid))) (by kernel_rfl) ⟨x0, x1, x2, x3, x4, x5, x6, x7⟩ (fun hHeld => ?_)
    refine tkY 0 (some 78) ?v0q rfl ?y0q ?r0q
    case y0q => exact tY
    case r0q =>
    try simp only [q1,q2,q3,q4,q5]
    refine tkY 1 (some 79) ?v1q rfl ?y1q ?r1q
    case y1q => exact tY
    case r1q =>
    try simp only [q1,q2,q3,q4,q5]
    refine tkY 2 (some 80) ?v2q rfl ?y2q ?r2q
    case y2q => exact tY
    case r2q =>
    try simp only [q1,q2,q3,q4,q5]
    refine tkY 3 (some 81) ?v3q rfl ?y3q ?r3q
    case y3q => exact tY
    case r3q =>
    try simp only [q1,q2,q3,q4,q5]
    refine tkY 6 (some 84) ?v6q rfl ?y6q ?r6q
    case y6q => exact tY
    case r6q =>
    try simp only [q1,q2,q3,q4,q5]
    refine tkY 7 (some 85) ?v7q rfl ?y7q ?r7q
    case y7q => exact tY
    case r7q =>
    try simp only [q1,q2,q3,q4,q5]
    refine tkY 8 (some 86) ?v8q rfl ?y8q ?r8q
    case y8q => exact tY
    case r8q =>
    try simp only [q1,q2,q3,q4,q5]
    refine wpAnyH_ready (rs := [4]) (by kernel_rfl) (by simp) ?_
    refine AllReadyH.cons (o := ⟨some 82, _, _, _, _, _⟩) rfl (fun K hK => ?_) AllReadyH.nil
    go_simp
    refine (vtPurse b t.buyer _).mono ?_; rintro e w12 ⟨rfl, hb12⟩
    go_wp2_with fail
    have hh12 : Below W11.heap.size W11 w12 := ((Below.refl W11.heap.size W11).drew).trans hb12
    have PX := HP11.out.below hh12 hsr
    refine hK.out _ _ ⟨PX.cell 0, PX.cell 1, PX.cell 2, PX.cell 3, PX.cell 4, PX.cell 5, PX.cell 6, PX.cell 7⟩ (fun hHeld => ?_)
    clear hK K
    try simp only [q1,q2,q3,q4,q5]
    refine tkY 5 (some 83) ?v5q rfl ?y5q ?r5q
    case y5q => exact tY
    case r5q =>
    try simp only [q1,q2,q3,q4,q5]
    refine wpAnyH_ready (rs := [9]) (by kernel_rfl) (by simp) ?_
    refine AllReadyH.cons (o := ⟨some 87, _, _, _, _, _⟩) rfl (fun K hK => ?_) AllReadyH.nil
    go_simp
    refine (vtPurse b t.seller _).mono ?_; rintro e w13 ⟨rfl, hb13⟩
    go_wp2_with fail
    have hh13 := hh12.trans (hb13.mono hh12.size)
    have PX := HP11.out.below hh13 hsr
    refine hK.out _ _ ⟨PX.cell 0, PX.cell 1, PX.cell 2, PX.cell 3, PX.cell 4, PX.cell 5, PX.cell 6, PX.cell 7⟩ (fun hHeld => ?_)
    clear hK K
    try simp only [q1,q2,q3,q4,q5]
    refine tkY 10 (some 88) ?v10q rfl ?y10q ?r10q
    case y10q => exact tY
    case r10q =>
    try simp only [q1,q2,q3,q4,q5]
    refine wpAnyH_ready (rs := [11]) (by kernel_rfl) (by simp) ?_
    refine AllReadyH.cons (o := ⟨some 89, _, _, _, _, _⟩) rfl (fun K hK => ?_) AllReadyH.nil
    go_simp
    have hb0 := HB11.out.trans (hh13.mono HB11.out.size)
    refine (vtSettle b pi v' S' _ (gone + 1) (gone + 1) t HTO.out _ (HVR.out.below hb0)).mono ?_
    rintro e w14 ⟨rfl, hq14⟩
    go_wp2_with fail
    have PX : Whl w14 wr.heap.size 97 #[.string t.buyer, .string t.seller, .int .i64 t.buy, .int .i64 t.sell, .int .i64 t.item, .int .i64 t.ct, .int .i64 t.pr, .int .i64 t.bid] := by
     obtain ⟨_, _, h, _⟩ := hq14
     exact (HP11.out.below hh13 hsr).keepT h (fun hf => by have := HVR.out.lows _ hf; omega)
    replace hq14 := SetQ.ahead hb0 HVR.out.lows hq14
    refine hK.out _ _ ⟨PX.cell 0, PX.cell 1, PX.cell 2, PX.cell 3, PX.cell 4, PX.cell 5, PX.cell 6, PX.cell 7⟩ (fun hHeld => ?_)
    clear hK K
    try simp only [q1,q2,q3,q4,q5]
    refine wpAnyH_done (by kernel_rfl) ?_ _
    obtain ⟨pj, hq⟩ : ∃ pj, SetQ' b pi v' S' _ (gone + 1) (gone + 1) wr w14 pj := hq14
    go_wp2_with fail
    refine ⟨⟨i + 1, pj, hlt, by go_num, ?_, HTR.out.trans hq.2.1 (fun x hx hf => ?_), fun x hx => ?_⟩, measI hlt⟩
    ·
     rw [take_succT hlt, List.foldl_append, ← HTE.out]
     exact hq.1
    ·
     rcases HFR.out x hf with h | h
     · exact h
     · omega
    ·
     rcases hq.2.2 x hx with h | h
     · exact HFR.out x h
     · exact .inr (Nat.le_trans HTR.out.size h)
   ·
    obtain rfl : i = T.length := by omega
    have PB := HP9.out.keepT HTR.out HNQ.out
    have y0 : wr.cell? ⟨w.heap.size, 0, none⟩ = some (.int .i64 (gone + 1)) := PB.cell 0
    clear PB
    go_wp2_with fail
    have hvr := HVR.out
    rw [List.take_length] at hvr
    refine bodyPost_ret (v := .tuple #[.int .i64 (gone + 1), .int .i64 0]) (by simp [results, Tryz.results12, go_sem]) rfl (.inr ⟨HOK.out, HRM.out, HLE.out, rfl, T, o1, L1, pi, v', HPL.out, ⟨S', hvr, HRS9.out, HBK9.out, hb4, Int.le_refl _, by omega⟩, ?_, ?_⟩)
    ·
     refine (HT8.out.trans HT9.out (fun x hx hf => .inl hf)).trans HTR.out (fun x hx hf => ?_)
     rcases hf with h | h
     ·
      rcases HF9.out x h with h2 | h2
      · exact .inl h2
      ·
       have := HT8.out.size
       simp at h2
       omega
     ·
      rcases HF8.out x (.inr h) with h2 | h2
      · exact h2
      · omega
    ·
     intro x hx
     have hs8 := HT8.out.size
     have hs9 := HT9.out.size
     rcases HFR.out x hx with h | h
     ·
      rcases h with h | h
      ·
       rcases HF9.out x h with h2 | h2
       · exact .inl (.inl h2)
       ·
        simp at h2
        exact .inr (by omega)
      · exact HF8.out x (.inr h)
     · exact .inr (by omega)
end Go.Proofs.YtdlbiobjnohfbaaGreat
