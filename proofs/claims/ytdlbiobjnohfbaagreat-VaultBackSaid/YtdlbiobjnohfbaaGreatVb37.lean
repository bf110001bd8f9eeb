/- The document's vault: Order. -/
import Derived.Deep.CutBlock
import Derived.Deep.DeepCutAuto
import Derived.Test.YtdlbiobjnohfbaaGreatVb36
namespace Go.Proofs.YtdlbiobjnohfbaaGreat
open Go.RowKit Go.ChangeMaps Go.MapKept
set_option linter.unusedVariables false
set_option linter.unusedSimpArgs false
theorem k0Vb37 {p : Prop} (h : p := by exact ⟨PX.cell 0, PX.cell 1, PX.cell 2, PX.cell 3, PX.cell 4, PX.cell 5⟩) : p := h
theorem rowOk_of {l : Pm} (h : PmOk l) (hlen : l.length ≤ 1000) : RowOk (rowsP l) :=
 ⟨rowsP_sorted h.1, fun k => by rw [rowsP_has h.1]; exact h.has k, by rw [rowsP_len]; exact hlen⟩
theorem refTakeP (B d x : Nat) (u u2 : Value) (l : Pm) (L : List Od) (last nx : Int) (s : ByteArray) (i : It4) (w : World) (h : RvH w B d x u u2 (rowsP l) L last nx) (hl : PmOk l) (hlen : l.length ≤ 1000) :
  Calls Tryz.prog 20 #[.pointer (some ⟨d, 0, none⟩), .string s, itV i] w fun e w' =>
   (mayB s i = false ∧ e = .returned (.int .i64 1) ∧ Below w.heap.size w w') ∨
   (mayB s i = true ∧ lessI (hasP l s.data.toList) i = true ∧ e = .returned (.int .i64 14) ∧ Below w.heap.size w w') ∨
   (mayB s i = true ∧ lessI (hasP l s.data.toList) i = false ∧ e = .returned (.int .i64 0) ∧ SetR B d x u2 (rowsP (setP l s.data.toList (subI (hasP l s.data.toList) i))) L last nx w w') := by
 refine (refTake B d x u u2 (rowsP l) L last nx s i w h (rowOk_of hl hlen)).mono ?_
 intro e w' hq
 unfold RTakeQ at hq
 rw [rowsP_has hl.1, ← rowsP_set hl] at hq
 exact hq
theorem refPutP (B d x : Nat) (u u2 : Value) (l : Pm) (L : List Od) (last nx : Int) (s : ByteArray) (i : It4) (w : World) (h : RvH w B d x u u2 (rowsP l) L last nx) (hl : PmOk l) (hlen : l.length ≤ 1000) :
  Calls Tryz.prog 18 #[.pointer (some ⟨d, 0, none⟩), .string s, itV i] w fun e w' =>
   (mayB s i = false ∧ e = .returned (.int .i64 1) ∧ Below w.heap.size w w') ∨
   (mayB s i = true ∧ isI (addI (hasP l s.data.toList) i) = false ∧ e = .returned (.int .i64 6) ∧ Below w.heap.size w w') ∨
   (mayB s i = true ∧ isI (addI (hasP l s.data.toList) i) = true ∧ e = .returned (.int .i64 0) ∧ SetR B d x u2 (rowsP (setP l s.data.toList (addI (hasP l s.data.toList) i))) L last nx w w') := by
 refine (refPut B d x u u2 (rowsP l) L last nx s i w h (rowOk_of hl hlen)).mono ?_
 intro e w' hq
 unfold RPutQ at hq
 rw [rowsP_has hl.1, ← rowsP_set hl] at hq
 exact hq
theorem refPaysP (B d x : Nat) (u u2 : Value) (l : Pm) (L : List Od) (last nx : Int) (s : ByteArray) (k : Nat) (hk : k ≤ 3) (n : Int) (hn : 0 ≤ n ∧ n ≤ 1125899906842624) (w : World) (h : RvH w B d x u u2 (rowsP l) L last nx) (hl : PmOk l) (hlen : l.length ≤ 1000) :
  Calls Tryz.prog 50 #[.pointer (some ⟨d, 0, none⟩), .string s, .int .i64 (k : Int), .int .i64 n] w fun e w' => e = .returned (.tuple #[]) ∧ SetR B d x u2 (rowsP (gainP l s k n)) L last nx w w' := by
 refine (refPays B d x u u2 (rowsP l) L last nx s k hk n hn w h (rowOk_of hl hlen)).mono ?_
 rintro e w' ⟨h1, h2⟩
 rw [rowsP_has hl.1, ← rowsP_set hl] at h2
 exact ⟨h1, h2⟩
noncomputable def ordC (L : List Od) (nx : Int) (o : Od) : Int := by classical exact if OkO (o.num 1) then (if L.length < 32 ∧ nx ≤ 1099511627776 then 14 else 6) else 1
def ROrderQ (B d x : Nat) (u u2 : Value) (l : Pm) (L : List Od) (last nx : Int) (o : Od) (w : World) (e : Ending) (w' : World) : Prop :=
 (¬ (OkO (o.num 1) ∧ (L.length < 32 ∧ nx ≤ 1099511627776) ∧ lessI (hasP l o.who.data.toList) (heldP o) = false) ∧ e = .returned (.tuple #[.int .i64 0, .int .i64 (ordC L nx o)]) ∧ Below w.heap.size w w') ∨
 (OkO (o.num 1) ∧ (L.length < 32 ∧ nx ≤ 1099511627776) ∧ lessI (hasP l o.who.data.toList) (heldP o) = false ∧ e = .returned (.tuple #[.int .i64 nx, .int .i64 0]) ∧
  ∃ (T : List Td) (o1 : Od) (L1 : List Od) (u' u2' : Value), Places (o.num nx) L T o1 L1 ∧
   RvH w' B d x u' u2' (rowsP (T.foldl settleP (setP l o.who.data.toList (subI (hasP l o.who.data.toList) (heldP o))))) (laid o1 L1) nx (nx + 1) ∧
   Touch (Fr d x u u2) w w' ∧ (∀ k, Fr d x u' u2' k → Fr d x u u2 k ∨ w.heap.size ≤ k))
theorem refPaysP0 (B d x : Nat) (u u2 : Value) (l : Pm) (L : List Od) (last nx : Int) (s : ByteArray) (n : Int) (hn : 0 ≤ n ∧ n ≤ 1125899906842624) (w : World) (h : RvH w B d x u u2 (rowsP l) L last nx) (hl : PmOk l) (hlen : l.length ≤ 1000) :
  Calls Tryz.prog 50 #[.pointer (some ⟨d, 0, none⟩), .string s, .int .i64 0, .int .i64 n] w fun e w' => e = .returned (.tuple #[]) ∧ SetR B d x u2 (rowsP (gainP l s 0 n)) L last nx w w' := by
 refine (refPays0 B d x u u2 (rowsP l) L last nx s n hn w h (rowOk_of hl hlen)).mono ?_
 rintro e w' ⟨h1, h2⟩
 rw [rowsP_has hl.1, ← rowsP_set hl] at h2
 exact ⟨h1, h2⟩
theorem PlacedR.sure {L : List Od} {last : Int} {o : Od} {T : List Td} {n e : Int} {L' : List Od} {last' : Int} (h : PlacedR L last o T n e L' last') (ho : OkO o) (hl : last < o.id) (hlen : L.length < 32) : e = 0 ∧ ∃ o1 L1, Places o L T o1 L1 ∧ L' = laid o1 L1 ∧ last' = o.id ∧ T.length ≤ 1048576 := by
 cases h with
 | bad h => exact absurd ⟨ho, hl⟩ h
 | full h1 h2 h => omega
 | ok h1 h2 h T o1 L1 hp hl => exact ⟨rfl, o1, L1, hp, rfl, rfl, hl⟩
theorem PmOk.gainV {l : Pm} (h : PmOk l) {s : ByteArray} (hs : KeyOk s.data.toList) {k : Nat} (hk : k ≤ 3) {n : Int} (hn : 0 ≤ n) : PmOk (gainP l s k n) := h.set hs (gainI_is (h.has _) hk hn)
theorem PmOk.settleV {l : Pm} (h : PmOk l) {t : Td} (ht : TdOk t) : PmOk (settleP l t) := by
 have hit : t.item.toNat ≤ 3 := by have := ht.item; omega
 exact ((h.gainV ht.buyer hit ht.ct.1).gainV ht.buyer (k := 0) (by omega) (Int.mul_nonneg ht.ct.1 (by have := ht.pr; omega))).gainV ht.seller (k := 0) (by omega) (Int.mul_nonneg ht.ct.1 ht.pr.1)
theorem PmOk.settlesV : ∀ {T : List Td} {l : Pm}, PmOk l → (∀ t ∈ T, TdOk t) → PmOk (T.foldl settleP l)
 | [], l, h, _ => h
 | t :: T, l, h, ht => PmOk.settlesV (T := T) (h.settleV (ht t List.mem_cons_self)) (fun x hx => ht x (List.mem_cons_of_mem _ hx))
theorem pm_len {l : Pm} {N : List By} (h : PmOk l) (hn : ∀ p ∈ l, p.1 ∈ N) : l.length ≤ N.length := by
 have := len_names h.1 (N := N) (fun k hk => by obtain ⟨p, hp, rfl⟩ := List.mem_map.1 hk; exact hn p hp)
 simpa using this
theorem RvH.next {w : World} {B d x : Nat} {u u2 : Value} {r : Pm} {L : List Od} {last nx : Int} (h : RvH w B d x u u2 r L last nx) (z : Int) : RvH (w.setCell ⟨d, 2, none⟩ (.int .i64 z)) B d x u u2 r L last z :=
 ⟨h.whl.set 2 _, own_set_ne h.row (fun g hg (e : g = d) => h.ud (by rw [← e]; exact hg)), h.bk.keep (D := fun k => k = d) ((Touch.refl _ _).set (fun _ => rfl)) (fun k hk e => by
  subst e
  rcases hk with e | e
  · exact h.dx e
  · exact h.vd e), h.low, h.dx, h.ud, h.ux, h.vd, h.uv⟩
theorem RvH.booked {w w' : World} {B d x : Nat} {u u2 v2 : Value} {r : Pm} {L L' : List Od} {last last' nx : Int} (h : RvH w B d x u u2 r L last nx) (hb : RfB w' B x v2 L' last') (ht : Touch (Fx x u2) w w') (hf : ∀ k, Fx x v2 k → Fx x u2 k ∨ w.heap.size ≤ k) : RvH w' B d x u v2 r L' last' nx := by
 have hd := h.whl.low
 have hur := fun g hg => (h.row.lt g hg).2
 refine ⟨h.whl.keepT ht (fun e => ?_), ht.own h.row (fun g hg e => ?_), hb, h.low, h.dx, h.ud, h.ux, fun e => ?_, fun g hg e => ?_⟩
 ·
  rcases e with e | e
  · exact h.dx e
  · exact h.vd e
 ·
  rcases e with e | e
  · exact h.ux (e ▸ hg)
  · exact h.uv g hg e
 ·
  rcases hf d (.inr e) with e | e
  ·
   rcases e with e | e
   · exact h.dx e
   · exact h.vd e
  · omega
 ·
  rcases hf g (.inr e) with e | e
  ·
   rcases e with e | e
   · exact h.ux (e ▸ hg)
   · exact h.uv g hg e
  · have := hur g hg; omega
set_option maxHeartbeats 8000000 in
set_option maxRecDepth 10000 in
theorem refOrder (B d x : Nat) (u u2 : Value) (l : Pm) (L : List Od) (last nx : Int) (o : Od) (Nm : List By) (w : World) (h : RvH w B d x u u2 (rowsP l) L last nx) (hl : PmOk l) (hk : Bk L last) (h32 : L.length ≤ 32) (hnx : last < nx ∧ nx ≤ 1099511627777) (hnm : Nms Nm l L) (hNl : Nm.length ≤ 900) :
  Calls Tryz.prog 13 #[.pointer (some ⟨d, 0, none⟩), odA o] w fun e w' => ROrderQ B d x u u2 l L last nx o w e w' := by
 have hlen : l.length ≤ 900 := by have := hnm.len hl.1; omega
 have hz := hk.zero
 obtain ⟨W1, hW1⟩ : ∃ W, W = w.alloc (.cells #[.int .i64 nx, .string o.who, .bool o.buy, .int .i64 o.item, .int .i64 o.ct, .int .i64 o.pr] 38) := ⟨_, rfl⟩
 obtain ⟨W2, hW2⟩ : ∃ W, W = W1.alloc (.cells #[.int .i64 1, .string o.who, .bool o.buy, .int .i64 o.item, .int .i64 o.ct, .int .i64 o.pr] 38) := ⟨_, rfl⟩
 have hs1 : W1.heap.size = w.heap.size + 1 := by rw [hW1]; simp
 have hs2 : W2.heap.size = w.heap.size + 2 := by rw [hW2]; simp; omega
 have B2 : Below w.heap.size w W2 := by rw [hW2, hW1]; exact ((Below.refl _ _).alloc (Nat.le_refl _) _).alloc (by simp) _
 have P2 : Whl W2 w.heap.size 38 #[.int .i64 nx, .string o.who, .bool o.buy, .int .i64 o.item, .int .i64 o.ct, .int .i64 o.pr] := by rw [hW2, hW1]; exact (Whl.new rfl).alloc _
 have h2 := h.below B2
 have HH2 := Lib.hid h2
 have HB2 := Lib.hid B2
 have HP2 := Lib.hid P2
 have cd := h.whl.cell 0
 have HH := Lib.hid h
 have c2 := h.whl.cell 2
 simp only [List.getElem?_toArray, List.getElem?_cons_succ, List.getElem?_cons_zero] at c2
 have hdl := h.whl.low
 clear cd h h2 B2 P2
 unfold odA
 by_cases hok : OkO (o.num 1)
 case neg =>
  have HOK : Hid (decide (OkO (o.num 1)) = false) := Lib.hid (decide_eq_false hok)
  have HNO := Lib.hid hok
  have HCC : Hid (ordC L nx o = 1) := Lib.hid (by unfold ordC; rw [if_neg hok])
  clear hok
  go_enter Tryz.func13, Tryz.ntmps13
  go_wp2_with (first
   | (go_at_call 47; rw [← hW1, ← hW2]; clear hW1 hW2; go_loud (refine (refMay (o.num 1) _).mono ?_; rintro e w3 ⟨he, hb3⟩; rw [show decide (OkO (o.num 1)) = false from HOK.out] at he; subst he; have hs3 := hb3.size; have HB3 := Lib.hid (HB2.out.trans (hb3.mono HB2.out.size)); have HH3 := Lib.hid (HH2.out.below hb3); have HP3 := Lib.hid (HP2.out.below hb3 HP2.out.low); have k0 := HH3.out.whl.cell 0; have k1 := HH3.out.whl.cell 1; have k2 := HH3.out.whl.cell 2; have k3 := HH3.out.bk.blk.cell 0; simp only [List.getElem?_toArray, List.getElem?_cons_succ, List.getElem?_cons_zero] at k0 k1 k2 k3; clear hb3))
   | fail)
  refine bodyPost_ret (v := .tuple #[.int .i64 0, .int .i64 1]) (by simp [results, Tryz.results13, go_sem]) rfl (.inl ⟨fun h => HNO.out h.1, by rw [HCC.out], HB3.out⟩)
 case pos =>
 have HOK : Hid (decide (OkO (o.num 1)) = true) := Lib.hid (decide_eq_true hok)
 have HO1 := Lib.hid hok
 obtain ⟨A2, cu2, rfl, _, _, _⟩ := own_slice HH2.out.bk.row
 by_cases hrm : L.length < 32 ∧ nx ≤ 1099511627776
 case neg =>
  have HCC : Hid (ordC L nx o = 6) := Lib.hid (by unfold ordC; rw [if_pos hok, if_neg hrm])
  have HRM := Lib.hid hrm
  clear hok
  by_cases hL : L.length < 32
  ·
   have q1 : ¬ (32 : Int) ≤ (L.length : Int) := by omega
   have q2 : (1099511627776 : Int) < nx := by omega
   clear hrm
   go_enter Tryz.func13, Tryz.ntmps13
   go_wp2_with (first
    | (go_at_call 47; rw [← hW1, ← hW2]; clear hW1 hW2; go_loud (refine (refMay (o.num 1) _).mono ?_; rintro e w3 ⟨he, hb3⟩; rw [show decide (OkO (o.num 1)) = true from HOK.out] at he; subst he; have hs3 := hb3.size; have HB3 := Lib.hid (HB2.out.trans (hb3.mono HB2.out.size)); have HH3 := Lib.hid (HH2.out.below hb3); have HP3 := Lib.hid (HP2.out.below hb3 HP2.out.low); have k0 := HH3.out.whl.cell 0; have k1 := HH3.out.whl.cell 1; have k2 := HH3.out.whl.cell 2; have k3 := HH3.out.bk.blk.cell 0; simp only [List.getElem?_toArray, List.getElem?_cons_succ, List.getElem?_cons_zero] at k0 k1 k2 k3; clear hb3))
    | fail)
   refine bodyPost_ret (v := .tuple #[.int .i64 0, .int .i64 6]) (by simp [results, Tryz.results13, go_sem]) rfl (.inl ⟨fun h => HRM.out h.2.1, by rw [HCC.out], HB3.out⟩)
  ·
   have q1 : (32 : Int) ≤ (L.length : Int) := by omega
   clear hrm
   go_enter Tryz.func13, Tryz.ntmps13
   go_wp2_with (first
    | (go_at_call 47; rw [← hW1, ← hW2]; clear hW1 hW2; go_loud (refine (refMay (o.num 1) _).mono ?_; rintro e w3 ⟨he, hb3⟩; rw [show decide (OkO (o.num 1)) = true from HOK.out] at he; subst he; have hs3 := hb3.size; have HB3 := Lib.hid (HB2.out.trans (hb3.mono HB2.out.size)); have HH3 := Lib.hid (HH2.out.below hb3); have HP3 := Lib.hid (HP2.out.below hb3 HP2.out.low); have k0 := HH3.out.whl.cell 0; have k1 := HH3.out.whl.cell 1; have k2 := HH3.out.whl.cell 2; have k3 := HH3.out.bk.blk.cell 0; simp only [List.getElem?_toArray, List.getElem?_cons_succ, List.getElem?_cons_zero] at k0 k1 k2 k3; clear hb3))
    | fail)
   refine bodyPost_ret (v := .tuple #[.int .i64 0, .int .i64 6]) (by simp [results, Tryz.results13, go_sem]) rfl (.inl ⟨fun h => HRM.out h.2.1, by rw [HCC.out], HB3.out⟩)
 case pos =>
 have HRM := Lib.hid hrm
 have q1 : ¬ (32 : Int) ≤ (L.length : Int) := by omega
 have q2 : ¬ (1099511627776 : Int) < nx := by omega
 have HON : Hid (OkO (o.num nx)) := Lib.hid ⟨by show 1 ≤ nx ∧ nx ≤ 1099511627776; omega, hok.who, hok.item, hok.ct, hok.pr⟩
 have HKEY := Lib.hid (keyOk_of hok.who)
 have HCC : Hid (ordC L nx o = 14) := Lib.hid (by unfold ordC; rw [if_pos hok, if_pos hrm])
 have HPM := Lib.hid hl
 have HBK := Lib.hid hk
 have HNM := Lib.hid hnm
 clear hok hrm hl hk hnm
 go_enter Tryz.func13, Tryz.ntmps13
 go_wp2_with (first
  | (go_at_call 47; rw [← hW1, ← hW2]; clear hW1 hW2; go_loud (refine (refMay (o.num 1) _).mono ?_; rintro e w3 ⟨he, hb3⟩; rw [show decide (OkO (o.num 1)) = true from HOK.out] at he; subst he; have hs3 := hb3.size; have HB3 := Lib.hid (HB2.out.trans (hb3.mono HB2.out.size)); have HH3 := Lib.hid (HH2.out.below hb3); have HP3 := Lib.hid (HP2.out.below hb3 HP2.out.low); have k0 := HH3.out.whl.cell 0; have k1 := HH3.out.whl.cell 1; have k2 := HH3.out.whl.cell 2; have k3 := HH3.out.bk.blk.cell 0; simp only [List.getElem?_toArray, List.getElem?_cons_succ, List.getElem?_cons_zero] at k0 k1 k2 k3; clear hb3))
  | fail)
 have x0 : w3.cell? ⟨w.heap.size, 0, none⟩ = some (.int .i64 nx) := HP3.out.cell 0
 have x1 : w3.cell? ⟨w.heap.size, 1, none⟩ = some (.string o.who) := HP3.out.cell 1
 have x2 : w3.cell? ⟨w.heap.size, 2, none⟩ = some (.bool o.buy) := HP3.out.cell 2
 have x3 : w3.cell? ⟨w.heap.size, 3, none⟩ = some (.int .i64 o.item) := HP3.out.cell 3
 have x4 : w3.cell? ⟨w.heap.size, 4, none⟩ = some (.int .i64 o.ct) := HP3.out.cell 4
 have x5 : w3.cell? ⟨w.heap.size, 5, none⟩ = some (.int .i64 o.pr) := HP3.out.cell 5
 cases hle : lessI (hasP l o.who.data.toList) (heldP o) with
 | true =>
  have HLE := Lib.hid hle
  clear hle
  refine wp_region_held_drew (S := (fun W => W.cell? ⟨w.heap.size, 0, none⟩ = some (.int .i64 nx) ∧ W.cell? ⟨w.heap.size, 1, none⟩ = some (.string o.who) ∧ W.cell? ⟨w.heap.size, 2, none⟩ = some (.bool o.buy) ∧ W.cell? ⟨w.heap.size, 3, none⟩ = some (.int .i64 o.item) ∧ W.cell? ⟨w.heap.size, 4, none⟩ = some (.int .i64 o.ct) ∧ W.cell? ⟨w.heap.size, 5, none⟩ = some (.int .i64 o.pr))) (by kernel_rfl) ⟨x0, x1, x2, x3, x4, x5⟩ (fun hHeld => ?_)
  refine tkY 0 (some 38) ?v0n rfl ?y0n ?r0n
  case y0n => exact tY
  case r0n =>
  try simp only [q1,q2,q3,q4,q5]
  refine tkY 1 (some 39) ?v1n rfl ?y1n ?r1n
  case y1n => exact tY
  case r1n =>
  try simp only [q1,q2,q3,q4,q5]
  refine tkY 2 (some 40) ?v2n rfl ?y2n ?r2n
  case y2n => exact tY
  case r2n =>
  try simp only [q1,q2,q3,q4,q5]
  refine tkY 3 (some 41) ?v3n rfl ?y3n ?r3n
  case y3n => exact tY
  case r3n =>
  try simp only [q1,q2,q3,q4,q5]
  refine wpAnyH_ready (rs := [4]) (by kernel_rfl) (by simp) ?_
  refine AllReadyH.cons (o := ⟨some 42, _, _, _, _, _⟩) rfl (fun K hK => ?_) AllReadyH.nil
  go_simp
  refine (refHolds (o.num nx) _ HON.out).mono ?_; rintro e w5 ⟨rfl, hb5⟩
  go_wp2_with fail
  have hh5 : Below w3.heap.size w3 w5 := ((Below.refl w3.heap.size w3).drew).trans hb5
  have PX := HP3.out.below hh5 HP3.out.low
  refine hK.out _ _ k0Vb37 (fun hHeld => ?_)
  clear hK K
  try simp only [q1,q2,q3,q4,q5]
  refine wpAnyH_ready (rs := [5]) (by kernel_rfl) (by simp) ?_
  refine AllReadyH.cons (o := ⟨some 43, _, _, _, _, _⟩) rfl (fun K hK => ?_) AllReadyH.nil
  go_simp
  refine (refTakeP B d x u (.slice A2 L.length cu2) l L last nx o.who (heldP (o.num nx)) _ (HH3.out.below hh5) HPM.out (by omega)).mono ?_
  rintro e w6 hq
  obtain ⟨rfl, hq6⟩ : e = .returned (.int .i64 14) ∧ Below w5.heap.size w5 w6 := (by
   rcases hq with ⟨h, _⟩ | ⟨_, _, h⟩ | ⟨_, h, _⟩
   · rw [held_num, ← held_num o 1, mayB_held HO1.out] at h; cases h
   · exact h
   · rw [held_num, HLE.out] at h; cases h)
  go_wp2_with fail
  clear hq
  have hh6 := hh5.trans (hq6.mono hh5.size)
  have PX := HP3.out.below hh6 HP3.out.low
  refine hK.out _ _ k0Vb37 (fun hHeld => ?_)
  clear hK K
  try simp only [q1,q2,q3,q4,q5]
  refine tkY 6 (some 7) ?v6n rfl ?y6n ?r6n
  case y6n => exact tY
  case r6n =>
  try simp only [q1,q2,q3,q4,q5]
  refine wpAnyH_done (by kernel_rfl) ?_ _
  go_wp2_with fail
  refine bodyPost_ret (v := .tuple #[.int .i64 0, .int .i64 14]) (by simp [results, Tryz.results13, go_sem]) rfl (.inl ⟨fun h => (by rw [HLE.out] at h; exact absurd h.2.2 (by simp)), by rw [HCC.out], HB3.out.trans (hh6.mono HB3.out.size)⟩)
 | false =>
  have HLE := Lib.hid hle
  clear hle
  refine wp_region_held_drew (S := (fun W => W.cell? ⟨w.heap.size, 0, none⟩ = some (.int .i64 nx) ∧ W.cell? ⟨w.heap.size, 1, none⟩ = some (.string o.who) ∧ W.cell? ⟨w.heap.size, 2, none⟩ = some (.bool o.buy) ∧ W.cell? ⟨w.heap.size, 3, none⟩ = some (.int .i64 o.item) ∧ W.cell? ⟨w.heap.size, 4, none⟩ = some (.int .i64 o.ct) ∧ W.cell? ⟨w.heap.size, 5, none⟩ = some (.int .i64 o.pr))) (by kernel_rfl) ⟨x0, x1, x2, x3, x4, x5⟩ (fun hHeld => ?_)
  refine tkY 0 (some 38) ?v0y rfl ?y0y ?r0y
  case y0y => exact tY
  case r0y =>
  try simp only [q1,q2,q3,q4,q5]
  refine tkY 1 (some 39) ?v1y rfl ?y1y ?r1y
  case y1y => exact tY
  case r1y =>
  try simp only [q1,q2,q3,q4,q5]
  refine tkY 2 (some 40) ?v2y rfl ?y2y ?r2y
  case y2y => exact tY
  case r2y =>
  try simp only [q1,q2,q3,q4,q5]
  refine tkY 3 (some 41) ?v3y rfl ?y3y ?r3y
  case y3y => exact tY
  case r3y =>
  try simp only [q1,q2,q3,q4,q5]
  refine wpAnyH_ready (rs := [4]) (by kernel_rfl) (by simp) ?_
  refine AllReadyH.cons (o := ⟨some 42, _, _, _, _, _⟩) rfl (fun K hK => ?_) AllReadyH.nil
  go_simp
  refine (refHolds (o.num nx) _ HON.out).mono ?_; rintro e w5 ⟨rfl, hb5⟩
  go_wp2_with fail
  have hh5 : Below w3.heap.size w3 w5 := ((Below.refl w3.heap.size w3).drew).trans hb5
  have PX := HP3.out.below hh5 HP3.out.low
  refine hK.out _ _ k0Vb37 (fun hHeld => ?_)
  clear hK K
  try simp only [q1,q2,q3,q4,q5]
  refine wpAnyH_ready (rs := [5]) (by kernel_rfl) (by simp) ?_
  refine AllReadyH.cons (o := ⟨some 43, _, _, _, _, _⟩) rfl (fun K hK => ?_) AllReadyH.nil
  go_simp
  refine (refTakeP B d x u (.slice A2 L.length cu2) l L last nx o.who (heldP (o.num nx)) _ (HH3.out.below hh5) HPM.out (by omega)).mono ?_
  rintro e w6 hq
  obtain ⟨rfl, hq6⟩ : e = .returned (.int .i64 0) ∧ SetR B d x (.slice A2 L.length cu2) (rowsP (setP l o.who.data.toList (subI (hasP l o.who.data.toList) (heldP o)))) L last nx w5 w6 := (by
   rcases hq with ⟨h, _⟩ | ⟨_, h, _⟩ | ⟨_, _, h⟩
   · rw [held_num, ← held_num o 1, mayB_held HO1.out] at h; cases h
   · rw [held_num, HLE.out] at h; cases h
   · exact h)
  go_wp2_with fail
  clear hq
  obtain ⟨u6, h6, t6, g6⟩ := hq6
  have ht6 : Touch (fun j => j = d) w3 w6 := ((Touch.of_below hh5).mono'' (fun k hk hd => by omega)).trans t6 (fun _ _ h => h)
  have PX := HP3.out.keepT ht6 (fun e => by omega)
  refine hK.out _ _ k0Vb37 (fun hHeld => ?_)
  clear hK K
  try simp only [q1,q2,q3,q4,q5]
  refine tkY 6 (some 7) ?v6y rfl ?y6y ?r6y
  case y6y => exact tY
  case r6y =>
  try simp only [q1,q2,q3,q4,q5]
  refine wpAnyH_done (by kernel_rfl) ?_ _
  have HP6 := Lib.hid PX
  have hs6 := ht6.size
  have hs5 := hh5.size
  have HT6 := Lib.hid ht6
  have HH6 := Lib.hid h6
  have HG6 := Lib.hid g6
  have f6 := fun j => h6.whl.free j
  have z0 := h6.whl.cell 0
  have z1 := h6.whl.cell 1
  have z2 := h6.whl.cell 2
  simp only [List.getElem?_toArray, List.getElem?_cons_succ, List.getElem?_cons_zero] at z0 z1 z2
  have hwr : IntKind.i64.wrap (nx + 1) = nx + 1 := by rw [IntKind.wrap_i64]; omega
  clear PX ht6 h6 g6 x0 x1 x2 x3 x4 x5 t6 hh5 hHeld k0 k1 k2 k3
  obtain ⟨W8, hW8⟩ : ∃ W8, W8 = w6.setCell ⟨d, 2, none⟩ (.int .i64 (nx + 1)) := ⟨_, rfl⟩
  have hs8 : W8.heap.size = w6.heap.size := by rw [hW8]; simp [World.setCell]
  have HH8 : Hid (RvH W8 B d x u6 (.slice A2 L.length cu2) (rowsP (setP l o.who.data.toList (subI (hasP l o.who.data.toList) (heldP o)))) L last (nx + 1)) := Lib.hid (by rw [hW8]; exact HH6.out.next (nx + 1))
  have HP8 : Hid (Whl W8 w.heap.size 38 #[.int .i64 nx, .string o.who, .bool o.buy, .int .i64 o.item, .int .i64 o.ct, .int .i64 o.pr]) := Lib.hid (by rw [hW8]; exact HP6.out.far (by show w.heap.size ≠ d; omega))
  have HT8 : Hid (Touch (fun j => j = d) w3 W8) := Lib.hid (by rw [hW8]; exact HT6.out.set (fun _ => rfl))
  go_upto_region 12 with fail
  rw [← hW8]
  clear hW8
  have k1 := HH8.out.whl.cell 1
  simp only [List.getElem?_toArray, List.getElem?_cons_succ, List.getElem?_cons_zero] at k1
  have x0 : W8.cell? ⟨w.heap.size, 0, none⟩ = some (.int .i64 nx) := HP8.out.cell 0
  have x1 : W8.cell? ⟨w.heap.size, 1, none⟩ = some (.string o.who) := HP8.out.cell 1
  have x2 : W8.cell? ⟨w.heap.size, 2, none⟩ = some (.bool o.buy) := HP8.out.cell 2
  have x3 : W8.cell? ⟨w.heap.size, 3, none⟩ = some (.int .i64 o.item) := HP8.out.cell 3
  have x4 : W8.cell? ⟨w.heap.size, 4, none⟩ = some (.int .i64 o.ct) := HP8.out.cell 4
  have x5 : W8.cell? ⟨w.heap.size, 5, none⟩ = some (.int .i64 o.pr) := HP8.out.cell 5
  refine wp_region_held_drew (S := (fun W => W.cell? ⟨w.heap.size, 0, none⟩ = some (.int .i64 nx) ∧ W.cell? ⟨w.heap.size, 1, none⟩ = some (.string o.who) ∧ W.cell? ⟨w.heap.size, 2, none⟩ = some (.bool o.buy) ∧ W.cell? ⟨w.heap.size, 3, none⟩ = some (.int .i64 o.item) ∧ W.cell? ⟨w.heap.size, 4, none⟩ = some (.int .i64 o.ct) ∧ W.cell? ⟨w.heap.size, 5, none⟩ = some (.int .i64 o.pr) ∧ W.cell? ⟨d, 1, none⟩ = some (.pointer (some ⟨x, 0, none⟩)))) (by kernel_rfl) ⟨x0, x1, x2, x3, x4, x5, k1⟩ (fun hHeld => ?_)
  refine tkY 0 (some 55) ?v0p rfl ?y0p ?r0p
  case y0p => exact tY
  case r0p =>
  try simp only [q1,q2,q3,q4,q5]
  refine tkY 1 (some 56) ?v1p rfl ?y1p ?r1p
  case y1p => exact tY
  case r1p =>
  try simp only [q1,q2,q3,q4,q5]
  refine tkY 2 (some 57) ?v2p rfl ?y2p ?r2p
  case y2p => exact tY
  case r2p =>
  try simp only [q1,q2,q3,q4,q5]
  refine tkY 3 (some 58) ?v3p rfl ?y3p ?r3p
  case y3p => exact tY
  case r3p =>
  try simp only [q1,q2,q3,q4,q5]
  refine tkY 4 (some 59) ?v4p rfl ?y4p ?r4p
  case y4p => exact tY
  case r4p =>
  try simp only [q1,q2,q3,q4,q5]
  refine wpAnyH_ready (rs := [5]) (by kernel_rfl) (by simp) ?_
  refine AllReadyH.cons (o := ⟨some 60, _, _, _, _, _⟩) rfl (fun K hK => ?_) AllReadyH.nil
  go_simp
  refine (refPlace B x (.slice A2 L.length cu2) last L (o.num nx) _ (HH8.out.bk.keep (D := fun _ => False) (Touch.refl _ _).drew' (fun _ _ h => h)) HBK.out (by omega)).mono ?_
  rintro e w9 ⟨T, n9, c9, L9, last9, u9, tv, rfl, hp, hb, hot, hap, ht, hf⟩
  obtain ⟨rfl, o1, L1, hpl, rfl, hl9, hTl⟩ := hp.sure HON.out (by show last < nx; omega) HRM.out.1
  rw [show last9 = nx from hl9] at hb
  go_wp2_with fail
  have ht9 : Touch (Fx x (.slice A2 L.length cu2)) W8 w9 := ((Touch.refl (Fx x (.slice A2 L.length cu2)) W8).drew').trans ht (fun _ _ h => h)
  have hnx9 : ¬ Fx x (.slice A2 L.length cu2) w.heap.size := (fun e => by have := (HH.out.lows _ (.inr e)).2; omega)
  have hnd9 : ¬ Fx x (.slice A2 L.length cu2) d := (fun e => by
   rcases e with e | e
   · exact HH.out.dx e
   · exact HH.out.vd e)
  have PX := HP8.out.keepT ht9 hnx9
  have PD := HH8.out.whl.keepT ht9 hnd9
  obtain ⟨At, kt, hvt, _, _, _⟩ := own_slice hot
  subst hvt
  refine hK.out _ _ ⟨PX.cell 0, PX.cell 1, PX.cell 2, PX.cell 3, PX.cell 4, PX.cell 5, PD.cell 1⟩ (fun hHeld => ?_)
  clear hK K
  try simp only [q1,q2,q3,q4,q5]
  refine tkY 6 (some 54) ?v6p rfl ?y6p ?r6p
  case y6p => exact tY
  case r6p =>
  try simp only [q1,q2,q3,q4,q5]
  refine tkY 7 (some 61) ?v7p rfl ?y7p ?r7p
  case y7p => exact tY
  case r7p =>
  try simp only [q1,q2,q3,q4,q5]
  refine tkY 8 (some 62) ?v8p rfl ?y8p ?r8p
  case y8p => exact tY
  case r8p =>
  try simp only [q1,q2,q3,q4,q5]
  refine tkY 9 (some 63) ?v9p rfl ?y9p ?r9p
  case y9p => exact tY
  case r9p =>
  try simp only [q1,q2,q3,q4,q5]
  refine tkY 10 (some 8) ?v10p rfl ?y10p ?r10p
  case y10p => exact tY
  case r10p =>
  try simp only [q1,q2,q3,q4,q5]
  refine tkY 11 (some 9) ?v11p rfl ?y11p ?r11p
  case y11p => exact tY
  case r11p =>
  try simp only [q1,q2,q3,q4,q5]
  refine tkY 12 (some 10) ?v12p rfl ?y12p ?r12p
  case y12p => exact tY
  case r12p =>
  try simp only [q1,q2,q3,q4,q5]
  refine wpAnyH_done (by kernel_rfl) ?_ _
  have HH9 := Lib.hid (HH8.out.booked hb ht9 (fun k hk => by
   rcases hf k hk with e | e
   · exact .inl e
   · exact .inr e))
  have HP9 := Lib.hid PX
  have HT9 := Lib.hid ht9
  have HF9 := Lib.hid hf
  have HO9 := Lib.hid hot
  have HPL := Lib.hid hpl
  have HL1 : Hid (PmOk (setP l o.who.data.toList (subI (hasP l o.who.data.toList) (heldP o)))) := Lib.hid (HPM.out.set HKEY.out (subI_is (HPM.out.has _) (by have := held_is HO1.out; rwa [held_num] at this) HLE.out))
  have HTDS : Hid (∀ t ∈ T, TdOk t) := Lib.hid (hpl.tds HON.out.r HBK.out)
  obtain ⟨hna, hnb, hnc⟩ := hpl.names (N := o.who.data.toList :: Nm) (List.mem_cons_self) (fun y hy => List.mem_cons_of_mem _ (HNM.out.2 y hy))
  have HNT := Lib.hid hna
  have HN1 : Hid (∀ p ∈ setP l o.who.data.toList (subI (hasP l o.who.data.toList) (heldP o)), p.1 ∈ o.who.data.toList :: Nm) := Lib.hid (setP_names (fun p hp => List.mem_cons_of_mem _ (HNM.out.1 p hp)) List.mem_cons_self)
  obtain ⟨l1, hl1⟩ : ∃ l1, l1 = setP l o.who.data.toList (subI (hasP l o.who.data.toList) (heldP o)) := ⟨_, rfl⟩
  rw [← hl1] at HH9 HL1 HN1
  have HLE1 := Lib.hid hl1
  have hs9 := ht9.size
  clear hl1 hna hnb hnc hb hp hot hap ht hf PX PD ht9 hpl x0 x1 x2 x3 x4 x5 k1 z0 z1 z2 f6 hHeld HH8 HP8
  go_wp2_with fail
  go_loopw [11] (fun iv wr => ∃ (i : Nat) (uj : Value), i ≤ T.length ∧ iv = .int .i64 i ∧ RvH wr B d x uj u9 (rowsP ((T.take i).foldl settleP l1)) (laid o1 L1) nx (nx + 1) ∧ Touch (fun j => j = d) w9 wr ∧ (∀ g, uj.ownBlock = some g → u6.ownBlock = some g ∨ w9.heap.size ≤ g)) (fun iv _ => T.length - (intOf iv).toNat)
  case atStart => exact ⟨0, u6, Nat.zero_le _, rfl, HH9.out, Touch.refl _ _, fun g hg => .inl hg⟩
  case round =>
   obtain ⟨i, uj, hil, rfl, hHj, hTj, hGj⟩ := hrel
   have HHJ := Lib.hid hHj
   have HTJ := Lib.hid hTj
   have HGJ := Lib.hid hGj
   have hsj := hTj.size
   clear hHj hTj hGj
   by_cases hlt : i < T.length
   ·
    have q3 : (i : Int) < (T.length : Int) := by omega
    have hor := HTJ.out.own HO9.out (fun g hg e => by have h1 := (HO9.out.lt g hg).1; have : d < w.heap.size := hdl; simp at h1; omega)
    obtain ⟨gx, cx, e5, hgx0, hgx, _, _⟩ := own_form hor (by omega)
    injection e5 with e5 e6 e7
    subst e5 e7
    have hgd : gx ≠ d := by simp at hgx0; omega
    obtain ⟨r0, r1, r2, r3, r4, r5, r6, r7⟩ := flatT_at T i hlt
    obtain ⟨t, ht⟩ : ∃ t, t = T[i] := ⟨_, rfl⟩
    rw [← ht] at r0 r1 r2 r3 r4 r5 r6 r7
    have hto : TdOk t := by rw [ht]; exact HTDS.out _ (List.getElem_mem hlt)
    obtain ⟨ki, hki⟩ : ∃ k : Nat, t.item = (k : Int) := ⟨t.item.toNat, by have := hto.item; omega⟩
    rw [hki] at r4
    have HKI := Lib.hid hki
    have hk3 : ki ≤ 3 := by have := hto.item; omega
    have y0 := (hor.cellAt (i * 8) (by omega)).trans r0
    have y1 := (hor.cellAt (i * 8 + 1) (by omega)).trans r1
    have y2 := (hor.cellAt (i * 8 + 2) (by omega)).trans r2
    have y3 := (hor.cellAt (i * 8 + 3) (by omega)).trans r3
    have y4 := (hor.cellAt (i * 8 + 4) (by omega)).trans r4
    have y5 := (hor.cellAt (i * 8 + 5) (by omega)).trans r5
    have y6 := (hor.cellAt (i * 8 + 6) (by omega)).trans r6
    have y7 := (hor.cellAt (i * 8 + 7) (by omega)).trans r7
    have p1 := prod_ok (a := t.ct) (c := t.bid - t.pr) (m := 1048576) (n := 1024) hto.ct (by have := hto.pr; have := hto.bid; omega)
    have p2 := prod_ok (a := t.ct) (c := t.pr) (m := 1048576) (n := 1024) hto.ct (by have := hto.pr; have := hto.bid; omega)
    have hwa : IntKind.i64.wrap (t.bid - t.pr) = t.bid - t.pr := by rw [IntKind.wrap_i64]; have := hto.pr; have := hto.bid; omega
    have hwb : IntKind.i64.wrap (t.ct * (t.bid - t.pr)) = t.ct * (t.bid - t.pr) := by rw [IntKind.wrap_i64]; omega
    have hwc : IntKind.i64.wrap (t.ct * t.pr) = t.ct * t.pr := by rw [IntKind.wrap_i64]; omega
    have HTE := Lib.hid ht
    have HPA := Lib.hid (show 0 ≤ t.ct ∧ t.ct ≤ 1125899906842624 by have := hto.ct; omega)
    have HPB := Lib.hid (show 0 ≤ t.ct * (t.bid - t.pr) ∧ t.ct * (t.bid - t.pr) ≤ 1125899906842624 by omega)
    have HPC := Lib.hid (show 0 ≤ t.ct * t.pr ∧ t.ct * t.pr ≤ 1125899906842624 by omega)
    obtain ⟨lj, hlj⟩ : ∃ lj, lj = (T.take i).foldl settleP l1 := ⟨_, rfl⟩
    have HPJ : Hid (PmOk lj) := Lib.hid (by rw [hlj]; exact HL1.out.settlesV (fun t ht => HTDS.out t (List.mem_of_mem_take ht)))
    have HNJ : Hid (∀ p ∈ lj, p.1 ∈ o.who.data.toList :: Nm) := Lib.hid (by rw [hlj]; exact settles_names HN1.out (fun t ht => HNT.out t (List.mem_of_mem_take ht)))
    have hnt := HNT.out t (by rw [ht]; exact List.getElem_mem hlt)
    have HLA : Hid (PmOk (gainP lj t.buyer ki t.ct)) := Lib.hid (HPJ.out.gainV hto.buyer hk3 hto.ct.1)
    have HNA : Hid (∀ p ∈ gainP lj t.buyer ki t.ct, p.1 ∈ o.who.data.toList :: Nm) := Lib.hid (setP_names HNJ.out hnt.1)
    have HLB : Hid (PmOk (gainP (gainP lj t.buyer ki t.ct) t.buyer 0 (t.ct * (t.bid - t.pr)))) := Lib.hid (HLA.out.gainV hto.buyer (by omega) p1.1)
    have HNB : Hid (∀ p ∈ gainP (gainP lj t.buyer ki t.ct) t.buyer 0 (t.ct * (t.bid - t.pr)), p.1 ∈ o.who.data.toList :: Nm) := Lib.hid (setP_names HNA.out hnt.1)
    rw [← hlj] at HHJ
    have HLJ := Lib.hid hlj
    clear r0 r1 r2 r3 r4 r5 r6 r7 ht hor hto hki p1 p2 hnt hlj
    go_wp2_with fail
    refine wp_region_held_drew (S := (fun W => W.cell? ⟨gx, i * 8, none⟩ = some (.string t.buyer) ∧ W.cell? ⟨gx, i * 8 + 1, none⟩ = some (.string t.seller) ∧ W.cell? ⟨gx, i * 8 + 2, none⟩ = some (.int .i64 t.buy) ∧ W.cell? ⟨gx, i * 8 + 3, none⟩ = some (.int .i64 t.sell) ∧ W.cell? ⟨gx, i * 8 + 4, none⟩ = some (.int .i64 (ki : Int)) ∧ W.cell? ⟨gx, i * 8 + 5, none⟩ = some (.int .i64 t.ct) ∧ W.cell? ⟨gx, i * 8 + 6, none⟩ = some (.int .i64 t.pr) ∧ W.cell? ⟨gx, i * 8 + 7, none⟩ = some (.int .i64 t.bid))) (by kernel_rfl) ⟨y0, y1, y2, y3, y4, y5, y6, y7⟩ (fun hHeld => ?_)
    refine tkY 0 (some 70) ?v0u rfl ?y0u ?r0u
    case y0u => exact tY
    case r0u =>
    try simp only [q1,q2,q3,q4,q5]
    refine tkY 1 (some 71) ?v1u rfl ?y1u ?r1u
    case y1u => exact tY
    case r1u =>
    try simp only [q1,q2,q3,q4,q5]
    refine tkY 2 (some 72) ?v2u rfl ?y2u ?r2u
    case y2u => exact tY
    case r2u =>
    try simp only [q1,q2,q3,q4,q5]
    refine tkY 3 (some 73) ?v3u rfl ?y3u ?r3u
    case y3u => exact tY
    case r3u =>
    try simp only [q1,q2,q3,q4,q5]
    refine tkY 4 (some 74) ?v4u rfl ?y4u ?r4u
    case y4u => exact tY
    case r4u =>
    try simp only [q1,q2,q3,q4,q5]
    refine tkY 5 (some 75) ?v5u rfl ?y5u ?r5u
    case y5u => exact tY
    case r5u =>
    try simp only [q1,q2,q3,q4,q5]
    refine tkY 6 (some 76) ?v6u rfl ?y6u ?r6u
    case y6u => exact tY
    case r6u =>
    try simp only [q1,q2,q3,q4,q5]
    refine tkY 7 (some 77) ?v7u rfl ?y7u ?r7u
    case y7u => exact tY
    case r7u =>
    try simp only [q1,q2,q3,q4,q5]
    refine tkY 8 (some 78) ?v8u rfl ?y8u ?r8u
    case y8u => exact tY
    case r8u =>
    try simp only [q1,q2,q3,q4,q5]
    refine tkY 9 (some 79) ?v9u rfl ?y9u ?r9u
    case y9u => exact tY
    case r9u =>
    try simp only [q1,q2,q3,q4,q5]
    refine tkY 10 (some 80) ?v10u rfl ?y10u ?r10u
    case y10u => exact tY
    case r10u =>
    try simp only [q1,q2,q3,q4,q5]
    refine tkY 11 (some 81) ?v11u rfl ?y11u ?r11u
    case y11u => exact tY
    case r11u =>
    try simp only [q1,q2,q3,q4,q5]
    refine tkY 12 (some 82) ?v12u rfl ?y12u ?r12u
    case y12u => exact tY
    case r12u =>
    try simp only [q1,q2,q3,q4,q5]
    refine tkY 13 (some 83) ?v13u rfl ?y13u ?r13u
    case y13u => exact tY
    case r13u =>
    try simp only [q1,q2,q3,q4,q5]
    refine tkY 14 (some 84) ?v14u rfl ?y14u ?r14u
    case y14u => exact tY
    case r14u =>
    try simp only [q1,q2,q3,q4,q5]
    refine tkY 15 (some 85) ?v15u rfl ?y15u ?r15u
    case y15u => exact tY
    case r15u =>
    try simp only [q1,q2,q3,q4,q5]
    refine wpAnyH_ready (rs := [16]) (by kernel_rfl) (by simp) ?_
    refine AllReadyH.cons (o := ⟨some 86, _, _, _, _, _⟩) rfl (fun K hK => ?_) AllReadyH.nil
    go_simp
    refine (refPaysP B d x uj u9 (lj) (laid o1 L1) nx (nx + 1) t.buyer ki hk3 (t.ct) HPA.out _ (HHJ.out.below ((Below.refl _ _).drew)) HPJ.out (by have := pm_len HPJ.out (N := o.who.data.toList :: Nm) (by first | exact HNJ.out | exact HNA.out | exact HNB.out); rw [List.length_cons] at this; omega)).mono ?_
    rintro e wa ⟨rfl, hqwa⟩
    go_wp2_with fail
    obtain ⟨ua, ha, ta, ga⟩ := hqwa
    have tta : Touch (fun j => j = d) wr wa := ((Touch.refl (fun j => j = d) wr).drew').trans ta (fun _ _ h => h)
    refine hK.out _ _ ⟨tta.cell y0 hgd, tta.cell y1 hgd, tta.cell y2 hgd, tta.cell y3 hgd, tta.cell y4 hgd, tta.cell y5 hgd, tta.cell y6 hgd, tta.cell y7 hgd⟩ (fun hHeld => ?_)
    clear hK K
    try simp only [q1,q2,q3,q4,q5]
    refine wpAnyH_done (by kernel_rfl) ?_ _
    have ya0 := tta.cell y0 hgd
    have ya1 := tta.cell y1 hgd
    have ya2 := tta.cell y2 hgd
    have ya3 := tta.cell y3 hgd
    have ya4 := tta.cell y4 hgd
    have ya5 := tta.cell y5 hgd
    have ya6 := tta.cell y6 hgd
    have ya7 := tta.cell y7 hgd
    have HHA := Lib.hid ha
    have HTA := Lib.hid tta
    have HGA := Lib.hid ga
    clear ha ta ga tta hHeld
    go_wp2_with fail
    refine wp_region_held_drew (S := (fun W => W.cell? ⟨gx, i * 8, none⟩ = some (.string t.buyer) ∧ W.cell? ⟨gx, i * 8 + 1, none⟩ = some (.string t.seller) ∧ W.cell? ⟨gx, i * 8 + 2, none⟩ = some (.int .i64 t.buy) ∧ W.cell? ⟨gx, i * 8 + 3, none⟩ = some (.int .i64 t.sell) ∧ W.cell? ⟨gx, i * 8 + 4, none⟩ = some (.int .i64 (ki : Int)) ∧ W.cell? ⟨gx, i * 8 + 5, none⟩ = some (.int .i64 t.ct) ∧ W.cell? ⟨gx, i * 8 + 6, none⟩ = some (.int .i64 t.pr) ∧ W.cell? ⟨gx, i * 8 + 7, none⟩ = some (.int .i64 t.bid))) (by kernel_rfl) ⟨ya0, ya1, ya2, ya3, ya4, ya5, ya6, ya7⟩ (fun hHeld => ?_)
    refine tkY 0 (some 87) ?v0v rfl ?y0v ?r0v
    case y0v => exact tY
    case r0v =>
    try simp only [q1,q2,q3,q4,q5]
    refine tkY 1 (some 88) ?v1v rfl ?y1v ?r1v
    case y1v => exact tY
    case r1v =>
    try simp only [q1,q2,q3,q4,q5]
    refine tkY 2 (some 89) ?v2v rfl ?y2v ?r2v
    case y2v => exact tY
    case r2v =>
    try simp only [q1,q2,q3,q4,q5]
    refine tkY 3 (some 90) ?v3v rfl ?y3v ?r3v
    case y3v => exact tY
    case r3v =>
    try simp only [q1,q2,q3,q4,q5]
    refine tkY 4 (some 91) ?v4v rfl ?y4v ?r4v
    case y4v => exact tY
    case r4v =>
    try simp only [q1,q2,q3,q4,q5]
    refine tkY 5 (some 92) ?v5v rfl ?y5v ?r5v
    case y5v => exact tY
    case r5v =>
    try simp only [q1,q2,q3,q4,q5]
    refine tkY 6 (some 93) ?v6v rfl ?y6v ?r6v
    case y6v => exact tY
    case r6v =>
    try simp only [q1,q2,q3,q4,q5]
    refine tkY 7 (some 94) ?v7v rfl ?y7v ?r7v
    case y7v => exact tY
    case r7v =>
    try simp only [q1,q2,q3,q4,q5]
    refine tkY 8 (some 95) ?v8v rfl ?y8v ?r8v
    case y8v => exact tY
    case r8v =>
    try simp only [q1,q2,q3,q4,q5]
    refine tkY 9 (some 96) ?v9v rfl ?y9v ?r9v
    case y9v => exact tY
    case r9v =>
    try simp only [q1,q2,q3,q4,q5]
    refine tkY 10 (some 97) ?v10v rfl ?y10v ?r10v
    case y10v => exact tY
    case r10v =>
    try simp only [q1,q2,q3,q4,q5]
    refine tkY 11 (some 98) ?v11v rfl ?y11v ?r11v
    case y11v => exact tY
    case r11v =>
    try simp only [q1,q2,q3,q4,q5]
    refine tkY 12 (some 99) ?v12v rfl ?y12v ?r12v
    case y12v => exact tY
    case r12v =>
    try simp only [q1,q2,q3,q4,q5]
    refine tkY 13 (some 100) ?v13v rfl ?y13v ?r13v
    case y13v => exact tY
    case r13v =>
    try simp only [q1,q2,q3,q4,q5]
    refine tkY 14 (some 101) ?v14v rfl ?y14v ?r14v
    case y14v => exact tY
    case r14v =>
    try simp only [q1,q2,q3,q4,q5]
    refine tkY 15 (some 102) ?v15v rfl ?y15v ?r15v
    case y15v => exact tY
    case r15v =>
    try simp only [q1,q2,q3,q4,q5]
    refine tkY 16 (some 103) ?v16v rfl ?y16v ?r16v
    case y16v => exact tY
    case r16v =>
    try simp only [q1,q2,q3,q4,q5]
    refine tkY 17 (some 104) ?v17v rfl ?y17v ?r17v
    case y17v => exact tY
    case r17v =>
    try simp only [q1,q2,q3,q4,q5]
    refine tkY 18 (some 105) ?v18v rfl ?y18v ?r18v
    case y18v => exact tY
    case r18v =>
    try simp only [q1,q2,q3,q4,q5]
    refine tkY 19 (some 106) ?v19v rfl ?y19v ?r19v
    case y19v => exact tY
    case r19v =>
    try simp only [q1,q2,q3,q4,q5]
    refine tkY 20 (some 107) ?v20v rfl ?y20v ?r20v
    case y20v => exact tY
    case r20v =>
    try simp only [q1,q2,q3,q4,q5]
    refine tkY 21 (some 108) ?v21v rfl ?y21v ?r21v
    case y21v => exact tY
    case r21v =>
    try simp only [q1,q2,q3,q4,q5]
    refine tkY 22 (some 109) ?v22v rfl ?y22v ?r22v
    case y22v => exact tY
    case r22v =>
    try simp only [q1,q2,q3,q4,q5]
    refine wpAnyH_ready (rs := [23]) (by kernel_rfl) (by simp) ?_
    refine AllReadyH.cons (o := ⟨some 110, _, _, _, _, _⟩) rfl (fun K hK => ?_) AllReadyH.nil
    go_simp
    refine (refPaysP0 B d x ua u9 (gainP lj t.buyer ki t.ct) (laid o1 L1) nx (nx + 1) t.buyer (t.ct * (t.bid - t.pr)) HPB.out _ (HHA.out.below ((Below.refl _ _).drew)) HLA.out (by have := pm_len HLA.out (N := o.who.data.toList :: Nm) (by first | exact HNJ.out | exact HNA.out | exact HNB.out); rw [List.length_cons] at this; omega)).mono ?_
    rintro e wb ⟨rfl, hqwb⟩
    go_wp2_with fail
    obtain ⟨ub, hb, tb, gb⟩ := hqwb
    have ttb : Touch (fun j => j = d) wa wb := ((Touch.refl (fun j => j = d) wa).drew').trans tb (fun _ _ h => h)
    refine hK.out _ _ ⟨ttb.cell ya0 hgd, ttb.cell ya1 hgd, ttb.cell ya2 hgd, ttb.cell ya3 hgd, ttb.cell ya4 hgd, ttb.cell ya5 hgd, ttb.cell ya6 hgd, ttb.cell ya7 hgd⟩ (fun hHeld => ?_)
    clear hK K
    try simp only [q1,q2,q3,q4,q5]
    refine wpAnyH_done (by kernel_rfl) ?_ _
    have yb0 := ttb.cell ya0 hgd
    have yb1 := ttb.cell ya1 hgd
    have yb2 := ttb.cell ya2 hgd
    have yb3 := ttb.cell ya3 hgd
    have yb4 := ttb.cell ya4 hgd
    have yb5 := ttb.cell ya5 hgd
    have yb6 := ttb.cell ya6 hgd
    have yb7 := ttb.cell ya7 hgd
    have HHB := Lib.hid hb
    have HTB := Lib.hid ttb
    have HGB := Lib.hid gb
    clear hb tb gb ttb hHeld
    go_wp2_with fail
    refine wp_region_held_drew (S := (fun W => W.cell? ⟨gx, i * 8, none⟩ = some (.string t.buyer) ∧ W.cell? ⟨gx, i * 8 + 1, none⟩ = some (.string t.seller) ∧ W.cell? ⟨gx, i * 8 + 2, none⟩ = some (.int .i64 t.buy) ∧ W.cell? ⟨gx, i * 8 + 3, none⟩ = some (.int .i64 t.sell) ∧ W.cell? ⟨gx, i * 8 + 4, none⟩ = some (.int .i64 (ki : Int)) ∧ W.cell? ⟨gx, i * 8 + 5, none⟩ = some (.int .i64 t.ct) ∧ W.cell? ⟨gx, i * 8 + 6, none⟩ = some (.int .i64 t.pr) ∧ W.cell? ⟨gx, i * 8 + 7, none⟩ = some (.int .i64 t.bid))) (by kernel_rfl) ⟨yb0, yb1, yb2, yb3, yb4, yb5, yb6, yb7⟩ (fun hHeld => ?_)
    refine tkY 0 (some 111) ?v0w rfl ?y0w ?r0w
    case y0w => exact tY
    case r0w =>
    try simp only [q1,q2,q3,q4,q5]
    refine tkY 1 (some 112) ?v1w rfl ?y1w ?r1w
    case y1w => exact tY
    case r1w =>
    try simp only [q1,q2,q3,q4,q5]
    refine tkY 2 (some 113) ?v2w rfl ?y2w ?r2w
    case y2w => exact tY
    case r2w =>
    try simp only [q1,q2,q3,q4,q5]
    refine tkY 3 (some 114) ?v3w rfl ?y3w ?r3w
    case y3w => exact tY
    case r3w =>
    try simp only [q1,q2,q3,q4,q5]
    refine tkY 4 (some 115) ?v4w rfl ?y4w ?r4w
    case y4w => exact tY
    case r4w =>
    try simp only [q1,q2,q3,q4,q5]
    refine tkY 5 (some 116) ?v5w rfl ?y5w ?r5w
    case y5w => exact tY
    case r5w =>
    try simp only [q1,q2,q3,q4,q5]
    refine tkY 6 (some 117) ?v6w rfl ?y6w ?r6w
    case y6w => exact tY
    case r6w =>
    try simp only [q1,q2,q3,q4,q5]
    refine tkY 7 (some 118) ?v7w rfl ?y7w ?r7w
    case y7w => exact tY
    case r7w =>
    try simp only [q1,q2,q3,q4,q5]
    refine tkY 8 (some 119) ?v8w rfl ?y8w ?r8w
    case y8w => exact tY
    case r8w =>
    try simp only [q1,q2,q3,q4,q5]
    refine tkY 9 (some 120) ?v9w rfl ?y9w ?r9w
    case y9w => exact tY
    case r9w =>
    try simp only [q1,q2,q3,q4,q5]
    refine tkY 10 (some 121) ?v10w rfl ?y10w ?r10w
    case y10w => exact tY
    case r10w =>
    try simp only [q1,q2,q3,q4,q5]
    refine tkY 11 (some 122) ?v11w rfl ?y11w ?r11w
    case y11w => exact tY
    case r11w =>
    try simp only [q1,q2,q3,q4,q5]
    refine tkY 12 (some 123) ?v12w rfl ?y12w ?r12w
    case y12w => exact tY
    case r12w =>
    try simp only [q1,q2,q3,q4,q5]
    refine tkY 13 (some 124) ?v13w rfl ?y13w ?r13w
    case y13w => exact tY
    case r13w =>
    try simp only [q1,q2,q3,q4,q5]
    refine tkY 14 (some 125) ?v14w rfl ?y14w ?r14w
    case y14w => exact tY
    case r14w =>
    try simp only [q1,q2,q3,q4,q5]
    refine tkY 15 (some 126) ?v15w rfl ?y15w ?r15w
    case y15w => exact tY
    case r15w =>
    try simp only [q1,q2,q3,q4,q5]
    refine tkY 16 (some 127) ?v16w rfl ?y16w ?r16w
    case y16w => exact tY
    case r16w =>
    try simp only [q1,q2,q3,q4,q5]
    refine wpAnyH_ready (rs := [17]) (by kernel_rfl) (by simp) ?_
    refine AllReadyH.cons (o := ⟨some 128, _, _, _, _, _⟩) rfl (fun K hK => ?_) AllReadyH.nil
    go_simp
    refine (refPaysP0 B d x ub u9 (gainP (gainP lj t.buyer ki t.ct) t.buyer 0 (t.ct * (t.bid - t.pr))) (laid o1 L1) nx (nx + 1) t.seller (t.ct * t.pr) HPC.out _ (HHB.out.below ((Below.refl _ _).drew)) HLB.out (by have := pm_len HLB.out (N := o.who.data.toList :: Nm) (by first | exact HNJ.out | exact HNA.out | exact HNB.out); rw [List.length_cons] at this; omega)).mono ?_
    rintro e wc2 ⟨rfl, hqwc2⟩
    go_wp2_with fail
    obtain ⟨uc, hc, tc, gc⟩ := hqwc2
    have ttc : Touch (fun j => j = d) wb wc2 := ((Touch.refl (fun j => j = d) wb).drew').trans tc (fun _ _ h => h)
    refine hK.out _ _ ⟨ttc.cell yb0 hgd, ttc.cell yb1 hgd, ttc.cell yb2 hgd, ttc.cell yb3 hgd, ttc.cell yb4 hgd, ttc.cell yb5 hgd, ttc.cell yb6 hgd, ttc.cell yb7 hgd⟩ (fun hHeld => ?_)
    clear hK K
    try simp only [q1,q2,q3,q4,q5]
    refine wpAnyH_done (by kernel_rfl) ?_ _
    go_wp2_with fail
    refine ⟨⟨i + 1, uc, hlt, by go_num, ?_, ?_, fun g hg => ?_⟩, measI hlt⟩
    ·
     rw [take_succT hlt, List.foldl_append, ← HTE.out, ← HLJ.out]
     have e := hc
     rw [show ki = t.item.toNat by have := HKI.out; omega] at e
     exact e
    · exact ((HTJ.out.trans HTA.out (fun _ _ h => h)).trans HTB.out (fun _ _ h => h)).trans ttc (fun _ _ h => h)
    ·
     have sa := HTA.out.size
     have sb := HTB.out.size
     have h7 : wb.heap.size ≤ g := gc g hg
     exact .inr (by omega)
   ·
    obtain rfl : i = T.length := by omega
    have PB := HP9.out.keepT HTJ.out (fun e => by omega)
    have yy : wr.cell? ⟨w.heap.size, 0, none⟩ = some (.int .i64 nx) := PB.cell 0
    clear PB
    go_wp2_with fail
    have hj := HHJ.out
    rw [List.take_of_length_le (Nat.le_refl _), HLE1.out] at hj
    refine bodyPost_ret (v := .tuple #[.int .i64 nx, .int .i64 0]) (by simp [results, Tryz.results13, go_sem]) rfl (.inr ⟨HO1.out, HRM.out, HLE.out, rfl, T, o1, L1, uj, u9, HPL.out, hj, ?_, fun k hk => ?_⟩)
    ·
     have t0 : Touch (fun j => j = d) w W8 := ((Touch.of_below HB3.out).mono'' (fun k hk hd => by omega)).trans HT8.out (fun _ _ h => h)
     have t1 : Touch (Fr d x u (.slice A2 L.length cu2)) w W8 := t0.mono (fun k e => .inl (.inl e))
     have t2 := t1.trans HT9.out (fun k _ e => .inr e)
     exact t2.trans HTJ.out (fun k _ e => .inl (.inl e))
    ·
     rcases hk with (e | e) | e
     · exact .inl (.inl (.inl e))
     ·
      rcases HGJ.out k e with e | e
      ·
       have h7 : w5.heap.size ≤ k := HG6.out k e
       exact .inr (by omega)
      · exact .inr (by omega)
     ·
      rcases HF9.out k e with e | e
      · exact .inl (.inr e)
      ·
       have h8 : W8.heap.size ≤ k := e
       exact .inr (by omega)
end Go.Proofs.YtdlbiobjnohfbaaGreat
