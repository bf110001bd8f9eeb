/- Books, pure: the best one is on top of its side; what is traded, laid, taken away. book: may, meet, tradeOf, New. book: Place. -/
import Derived.Test.YtdlbiobjnohfbaaGreatVb6
namespace Go.Proofs.YtdlbiobjnohfbaaGreat
set_option linter.unusedVariables false
set_option linter.unusedSimpArgs false
def sIdx (bb : Bool) (it : Nat) : Nat := if bb then it else 4 + it
theorem sIdx_lt {bb : Bool} {it : Nat} (h : it ≤ 3) : sIdx bb it < 8 := by unfold sIdx; split <;> omega
theorem sideP_idx {o : Od} {bb : Bool} {it : Nat} (h1 : 1 ≤ it) (h3 : it ≤ 3) : sideP (sIdx bb it) o = (decide (o.buy = bb) && decide (o.item = (it : Int))) := by
 unfold sIdx sideP
 cases bb with
 | true =>
  simp only [if_true]
  rw [if_pos (by omega)]
  cases o.buy <;> simp
 | false =>
  simp only [Bool.false_eq_true, if_false]
  rw [if_neg (by omega)]
  have : (o.item + 4 = ((4 + it : Nat) : Int)) ↔ o.item = (it : Int) := by omega
  cases o.buy <;> simp <;> omega
theorem RelS.q {S : Nat → List Od} {L : List Od} {last : Int} (h : RelS S L) (hk : Bk L last) {bb : Bool} {it : Nat} (h1 : 1 ≤ it) (h3 : it ≤ 3) : SideQ bb (S (sIdx bb it)) := by
 intro o ho
 have hm := (h _ (sIdx_lt h3)).1.mem_iff.1 ho
 obtain ⟨hL, hs⟩ := List.mem_filter.1 hm
 rw [sideP_idx h1 h3] at hs
 simp only [Bool.and_eq_true, decide_eq_true_eq] at hs
 exact ⟨hs.1, (hk.ok o hL).id⟩
theorem RelS.mem {S : Nat → List Od} {L : List Od} (h : RelS S L) {bb : Bool} {it : Nat} (h1 : 1 ≤ it) (h3 : it ≤ 3) (o : Od) : o ∈ S (sIdx bb it) ↔ o ∈ L ∧ o.buy = bb ∧ o.item = (it : Int) := by
 rw [(h _ (sIdx_lt h3)).1.mem_iff, List.mem_filter, sideP_idx h1 h3]
 simp
theorem meets_iff {o y : Od} {it : Nat} (hi : o.item = (it : Int)) : meets o y = true ↔ y.buy = (!o.buy) ∧ y.item = (it : Int) ∧ meetP o y = true := by
 unfold meets
 rw [hi]
 simp only [Bool.and_eq_true, decide_eq_true_eq, bne_iff_ne, ne_eq]
 constructor
 ·
  rintro ⟨⟨a, b⟩, c⟩
  refine ⟨?_, a.symm, c⟩
  revert b
  cases o.buy <;> cases y.buy <;> simp
 ·
  rintro ⟨a, b, c⟩
  refine ⟨⟨b.symm, ?_⟩, c⟩
  rw [a]
  cases o.buy <;> simp
theorem meetP_mono {o x y : Od} (hx : x.buy = (!o.buy)) (hy : y.buy = (!o.buy)) (ix : 1 ≤ x.id ∧ x.id ≤ 1099511627776) (iy : 1 ≤ y.id ∧ y.id ≤ 1099511627776) (hk : key x ≤ key y) (h : meetP o y = true) : meetP o x = true := by
 unfold key at hk
 unfold meetP at *
 rw [hx, hy] at hk
 cases hb : o.buy <;> rw [hb] at hk h <;> simp at hk h ⊢ <;> omega
theorem top_none {S : Nat → List Od} {L : List Od} {last : Int} (h : RelS S L) (hk : Bk L last) {o : Od} {it : Nat} (h1 : 1 ≤ it) (h3 : it ≤ 3) (hi : o.item = (it : Int)) (he : S (sIdx (!o.buy) it) = []) : NoneMeets o L := by
 intro y hy
 cases hm : meets o y with
 | false => rfl
 | true =>
  obtain ⟨a, b, _⟩ := (meets_iff hi).1 hm
  have := (h.mem (bb := !o.buy) h1 h3 y).2 ⟨hy, a, b⟩
  rw [he] at this; cases this
theorem top_least {l : List Od} {x : Od} {r : List Od} (hl : l = x :: r) (hh : Heap l) : ∀ y ∈ l, key x ≤ key y := by
 intro y hy
 obtain ⟨i, hi, rfl⟩ := List.getElem_of_mem hy
 have := hh.least i hi
 rw [kf_at hi, kf_at (show 0 < l.length by rw [hl]; simp)] at this
 have e : l[0]'(by rw [hl]; simp) = x := by subst hl; rfl
 rw [e] at this
 exact this
theorem top_no {S : Nat → List Od} {L : List Od} {last : Int} (h : RelS S L) (hk : Bk L last) {o x : Od} {r : List Od} {it : Nat} (h1 : 1 ≤ it) (h3 : it ≤ 3) (hi : o.item = (it : Int)) (he : S (sIdx (!o.buy) it) = x :: r) (hm : meetP o x = false) : NoneMeets o L := by
 intro y hy
 cases hq : meets o y with
 | false => rfl
 | true =>
  obtain ⟨a, b, c⟩ := (meets_iff hi).1 hq
  have hyS := (h.mem (bb := !o.buy) h1 h3 y).2 ⟨hy, a, b⟩
  have hx := (h.mem (bb := !o.buy) h1 h3 x).1 (by rw [he]; exact List.mem_cons_self)
  have := meetP_mono hx.2.1 a (hk.ok x hx.1).id (hk.ok y hy).id (top_least he (h _ (sIdx_lt h3)).2 y hyS) c
  rw [this] at hm; cases hm
theorem top_best {S : Nat → List Od} {L : List Od} {last : Int} (h : RelS S L) (hk : Bk L last) {o x : Od} {r : List Od} {it : Nat} (h1 : 1 ≤ it) (h3 : it ≤ 3) (hi : o.item = (it : Int)) (he : S (sIdx (!o.buy) it) = x :: r) (hm : meetP o x = true) : Best o x L := by
 have hx := (h.mem (bb := !o.buy) h1 h3 x).1 (by rw [he]; exact List.mem_cons_self)
 refine ⟨hx.1, (meets_iff hi).2 ⟨hx.2.1, hx.2.2, hm⟩, fun y hy hq => ?_⟩
 obtain ⟨a, b, c⟩ := (meets_iff hi).1 hq
 exact top_least he (h _ (sIdx_lt h3)).2 y ((h.mem (bb := !o.buy) h1 h3 y).2 ⟨hy, a, b⟩)
theorem Ids.nodup {L : List Od} (h : Ids L) : (L.map (·.id)).Nodup := by
 unfold List.Nodup
 refine List.pairwise_map.2 (List.Pairwise.imp (fun {a b} hab => ?_) h)
 omega
theorem perm_nodup {l m : List Od} (h : l.Perm m) (hm : (m.map (·.id)).Nodup) : (l.map (·.id)).Nodup := (h.map _).nodup_iff.2 hm
theorem RelS.nodup {S : Nat → List Od} {L : List Od} {last : Int} (h : RelS S L) (hk : Bk L last) {k : Nat} (hk8 : k < 8) : ((S k).map (·.id)).Nodup :=
 perm_nodup (h k hk8).1 (Ids.nodup (List.Pairwise.filter _ hk.ids))
theorem tail_ne {x : Od} {r : List Od} (h : ((x :: r).map (·.id)).Nodup) : ∀ y ∈ r, y.id ≠ x.id := by
 simp only [List.map_cons, List.nodup_cons, List.mem_map, not_exists, not_and] at h
 exact fun y hy e => h.1 y hy e
theorem filter_tail {x : Od} {r : List Od} (h : ((x :: r).map (·.id)).Nodup) : (x :: r).filter (fun y => decide (y.id ≠ x.id)) = r := by
 rw [List.filter_cons_of_neg (by simp), List.filter_eq_self.2 (fun y hy => decide_eq_true (tail_ne h y hy))]
theorem map_tail {x : Od} {r : List Od} {n : Int} (h : ((x :: r).map (·.id)).Nodup) : (x :: r).map (fun y => if y.id = x.id then less y n else y) = less x n :: r := by
 rw [List.map_cons, if_pos rfl]
 congr 1
 conv => rhs; rw [← List.map_id r]
 refine List.map_congr_left (fun y hy => ?_)
 rw [if_neg (tail_ne h y hy)]; rfl
theorem filter_map_less {k : Nat} {x : Od} {n : Int} (L : List Od) : (L.map fun y => if y.id = x.id then less y n else y).filter (sideP k) = (L.filter (sideP k)).map fun y => if y.id = x.id then less y n else y := by
 induction L with
 | nil => rfl
 | cons a r ih =>
  have e : sideP k (if a.id = x.id then less a n else a) = sideP k a := by split <;> rfl
  rw [List.map_cons, List.filter_cons, e]
  by_cases hs : sideP k a = true
  · rw [if_pos hs, ih, List.filter_cons_of_pos hs, List.map_cons]
  · rw [if_neg hs, ih, List.filter_cons_of_neg hs]
theorem sideP_uniq {o : Od} (h : 1 ≤ o.item ∧ o.item ≤ 3) {i j : Nat} (hi : i < 8) (hj : j < 8) (h1 : sideP i o = true) (h2 : sideP j o = true) : i = j := by
 obtain ⟨k, _, _, hu⟩ := sideP_one h
 rw [hu i hi h1, hu j hj h2]
theorem side_ne {L : List Od} {last : Int} (hk : Bk L last) {x : Od} (hx : x ∈ L) {i k : Nat} (hi : i < 8) (hk8 : k < 8) (hs : sideP k x = true) (hik : i ≠ k) : ∀ y ∈ L.filter (sideP i), y.id ≠ x.id := by
 intro y hy e
 obtain ⟨hyL, hys⟩ := List.mem_filter.1 hy
 have := hk.ids.inj hyL hx e
 subst this
 exact hik (sideP_uniq (hk.ok y hx).item hi hk8 hys hs)
theorem heap_set0 {l : List Od} {x : Od} {r : List Od} (hl : l = x :: r) (hh : Heap l) (n : Int) : Heap (less x n :: r) := by
 subst hl
 refine HeapF.congr hh (fun i hi => ?_)
 cases i with
 | zero => rfl
 | succ i => rfl
theorem RelS.fewer {S : Nat → List Od} {L : List Od} {last : Int} (h : RelS S L) (hk : Bk L last) {x : Od} {r : List Od} {k : Nat} (hk8 : k < 8) (he : S k = x :: r) {n : Int} (hn : x.ct ≠ n) : RelS (upd S k (less x n :: r)) (takeN x n L) := by
 have hx0 : x ∈ L.filter (sideP k) := (h k hk8).1.mem_iff.1 (by rw [he]; exact List.mem_cons_self)
 obtain ⟨hxL, hxs⟩ := List.mem_filter.1 hx0
 have hnd := h.nodup hk hk8
 rw [he] at hnd
 intro i hi
 unfold takeN
 rw [if_neg hn, filter_map_less]
 by_cases e : i = k
 ·
  subst e
  rw [upd_same]
  refine ⟨?_, heap_set0 he (h i hi).2 n⟩
  have := ((h i hi).1.map fun y => if y.id = x.id then Go.Proofs.YtdlbiobjnohfbaaGreat.less y n else y)
  rw [he, map_tail hnd] at this
  exact this
 ·
  rw [upd_ne _ _ e]
  refine ⟨?_, (h i hi).2⟩
  have : (L.filter (sideP i)).map (fun y => if y.id = x.id then Go.Proofs.YtdlbiobjnohfbaaGreat.less y n else y) = L.filter (sideP i) := by
   conv => rhs; rw [← List.map_id (L.filter (sideP i))]
   refine List.map_congr_left (fun y hy => ?_)
   rw [if_neg (side_ne hk hxL hi hk8 hxs e y hy)]; rfl
  rw [this]
  exact (h i hi).1
theorem RelS.gone {S : Nat → List Od} {L : List Od} {last : Int} (h : RelS S L) (hk : Bk L last) {x : Od} {k : Nat} (hk8 : k < 8) (hx : x ∈ S k) {l' : List Od} (hp : (x :: l').Perm (S k)) (hh : Heap l') : RelS (upd S k l') (goneO x.id L) := by
 have hx0 : x ∈ L.filter (sideP k) := (h k hk8).1.mem_iff.1 hx
 obtain ⟨hxL, hxs⟩ := List.mem_filter.1 hx0
 have hnd := perm_nodup hp (h.nodup hk hk8)
 intro i hi
 unfold goneO
 rw [List.filter_filter, show (fun a => sideP i a && decide (a.id ≠ x.id)) = (fun a => decide (a.id ≠ x.id) && sideP i a) from funext fun a => Bool.and_comm _ _, ← List.filter_filter]
 by_cases e : i = k
 ·
  subst e
  rw [upd_same]
  refine ⟨?_, hh⟩
  have := (hp.trans (h i hi).1).filter (fun y => decide (y.id ≠ x.id))
  rw [filter_tail hnd] at this
  exact this
 ·
  rw [upd_ne _ _ e, List.filter_eq_self.2 (fun y hy => decide_eq_true (side_ne hk hxL hi hk8 hxs e y hy))]
  exact h i hi
theorem RelS.taken {S : Nat → List Od} {L : List Od} {last : Int} (h : RelS S L) (hk : Bk L last) {x : Od} {r : List Od} {k : Nat} (hk8 : k < 8) (he : S k = x :: r) {n : Int} (hn : x.ct = n) {l' : List Od} (hp : (less x n :: l').Perm (less x n :: r)) (hh : Heap l') : RelS (upd S k l') (takeN x n L) := by
 have h1 := h.gone hk hk8 (x := x) (l' := l') (by rw [he]; exact List.mem_cons_self) (by rw [he]; exact (List.Perm.cons x ((List.perm_cons _).1 hp))) hh
 unfold takeN
 rw [if_pos hn]
 exact h1
theorem RelS.more {S : Nat → List Od} {L : List Od} (h : RelS S L) {o : Od} (ho : 1 ≤ o.item ∧ o.item ≤ 3) {k : Nat} (hk8 : k < 8) (hs : sideP k o = true) {l' : List Od} (hp : l'.Perm (S k ++ [o])) (hh : Heap l') : RelS (upd S k l') (L ++ [o]) := by
 intro i hi
 rw [List.filter_append]
 by_cases e : i = k
 ·
  subst e
  rw [upd_same, List.filter_cons_of_pos hs]
  exact ⟨hp.trans ((h i hi).1.append_right _), hh⟩
 ·
  rw [upd_ne _ _ e, List.filter_cons_of_neg (fun h2 => e (sideP_uniq ho hi hk8 h2 hs)), List.filter_nil, List.append_nil]
  exact h i hi
theorem RelS.nil : RelS (fun _ => []) [] := fun i hi => ⟨List.Perm.refl _, fun j h0 h1 => by simp at h1⟩
open Go.RowKit
theorem OkO_iff (o : Od) : OkO o ↔ (1 ≤ o.id ∧ o.id ≤ 1099511627776 ∧ 1 ≤ o.who.size ∧ o.who.size ≤ 16 ∧ 1 ≤ o.item ∧ o.item < 4 ∧ 1 ≤ o.ct ∧ o.ct ≤ 1048576 ∧ 1 ≤ o.pr ∧ o.pr ≤ 1024) :=
 ⟨fun h => ⟨h.id.1, h.id.2, h.who.1, h.who.2, h.item.1, by have := h.item.2; omega, h.ct.1, h.ct.2, h.pr.1, h.pr.2⟩, fun ⟨a, b, c, d, e, f, g, h, i, j⟩ => ⟨⟨a, b⟩, ⟨c, d⟩, ⟨e, by omega⟩, ⟨g, h⟩, ⟨i, j⟩⟩⟩
instance (o : Od) : Decidable (OkO o) := decidable_of_iff _ (OkO_iff o).symm
set_option maxHeartbeats 2000000 in
theorem bkMay (o : Od) (w : World) :
  Calls Tryz.prog 84 #[.agg #[.int .i64 o.id, .string o.who, .bool o.buy, .int .i64 o.item, .int .i64 o.ct, .int .i64 o.pr]] w fun e w' => e = .returned (.bool (decide (OkO o))) ∧ Below w.heap.size w w' := by
 by_cases h0 : 1 ≤ o.id
 case neg =>
  have hno : decide (OkO o) = false := decide_eq_false (fun h => h0 (by have := (OkO_iff o).1 h; omega))
  rw [hno]
  go_enter Tryz.func84, Tryz.ntmps84
  go_wp2_with fail
  go_ret
  exact ⟨ret_bool (by simp [*]), by exact tB⟩
 by_cases h1 : o.id ≤ 1099511627776
 case neg =>
  have hno : decide (OkO o) = false := decide_eq_false (fun h => h1 (by have := (OkO_iff o).1 h; omega))
  rw [hno]
  go_enter Tryz.func84, Tryz.ntmps84
  go_wp2_with fail
  go_ret
  exact ⟨ret_bool (by simp [*]), by exact tB⟩
 by_cases h2 : 1 ≤ o.who.size
 case neg =>
  have hno : decide (OkO o) = false := decide_eq_false (fun h => h2 (by have := (OkO_iff o).1 h; omega))
  rw [hno]
  have g2 : ¬ (1 : Int) ≤ (o.who.size : Int) := by omega
  go_enter Tryz.func84, Tryz.ntmps84
  go_wp2_with fail
  go_ret
  exact ⟨ret_bool (by simp [*]), by exact tB⟩
 have g2 : (1 : Int) ≤ (o.who.size : Int) := by omega
 by_cases h3 : o.who.size ≤ 16
 case neg =>
  have hno : decide (OkO o) = false := decide_eq_false (fun h => h3 (by have := (OkO_iff o).1 h; omega))
  rw [hno]
  have g3 : ¬ (o.who.size : Int) ≤ 16 := by omega
  go_enter Tryz.func84, Tryz.ntmps84
  go_wp2_with fail
  go_ret
  exact ⟨ret_bool (by simp [*]), by exact tB⟩
 have g3 : (o.who.size : Int) ≤ 16 := by omega
 by_cases h4 : 1 ≤ o.item
 case neg =>
  have hno : decide (OkO o) = false := decide_eq_false (fun h => h4 (by have := (OkO_iff o).1 h; omega))
  rw [hno]
  go_enter Tryz.func84, Tryz.ntmps84
  go_wp2_with fail
  go_ret
  exact ⟨ret_bool (by simp [*]), by exact tB⟩
 by_cases h5 : o.item < 4
 case neg =>
  have hno : decide (OkO o) = false := decide_eq_false (fun h => h5 (by have := (OkO_iff o).1 h; omega))
  rw [hno]
  go_enter Tryz.func84, Tryz.ntmps84
  go_wp2_with fail
  go_ret
  exact ⟨ret_bool (by simp [*]), by exact tB⟩
 by_cases h6 : 1 ≤ o.ct
 case neg =>
  have hno : decide (OkO o) = false := decide_eq_false (fun h => h6 (by have := (OkO_iff o).1 h; omega))
  rw [hno]
  go_enter Tryz.func84, Tryz.ntmps84
  go_wp2_with fail
  go_ret
  exact ⟨ret_bool (by simp [*]), by exact tB⟩
 by_cases h7 : o.ct ≤ 1048576
 case neg =>
  have hno : decide (OkO o) = false := decide_eq_false (fun h => h7 (by have := (OkO_iff o).1 h; omega))
  rw [hno]
  go_enter Tryz.func84, Tryz.ntmps84
  go_wp2_with fail
  go_ret
  exact ⟨ret_bool (by simp [*]), by exact tB⟩
 by_cases h8 : 1 ≤ o.pr
 case neg =>
  have hno : decide (OkO o) = false := decide_eq_false (fun h => h8 (by have := (OkO_iff o).1 h; omega))
  rw [hno]
  go_enter Tryz.func84, Tryz.ntmps84
  go_wp2_with fail
  go_ret
  exact ⟨ret_bool (by simp [*]), by exact tB⟩
 by_cases h9 : o.pr ≤ 1024
 case neg =>
  have hno : decide (OkO o) = false := decide_eq_false (fun h => h9 (by have := (OkO_iff o).1 h; omega))
  rw [hno]
  go_enter Tryz.func84, Tryz.ntmps84
  go_wp2_with fail
  go_ret
  exact ⟨ret_bool (by simp [*]), by exact tB⟩
 have hyes : decide (OkO o) = true := decide_eq_true ((OkO_iff o).2 ⟨h0, h1, h2, h3, h4, h5, h6, h7, h8, h9⟩)
 rw [hyes]
 go_enter Tryz.func84, Tryz.ntmps84
 go_wp2_with fail
 go_ret
 exact ⟨ret_bool (by simp [*]), by exact tB⟩
set_option maxHeartbeats 1000000 in
theorem bkMeet (o x : Od) (w : World) :
  Calls Tryz.prog 85 #[.agg #[.int .i64 o.id, .string o.who, .bool o.buy, .int .i64 o.item, .int .i64 o.ct, .int .i64 o.pr], .agg #[.int .i64 x.id, .string x.who, .bool x.buy, .int .i64 x.item, .int .i64 x.ct, .int .i64 x.pr]] w fun e w' => e = .returned (.bool (meetP o x)) ∧ Below w.heap.size w w' := by
 cases hb : o.buy with
 | true =>
  go_enter Tryz.func85, Tryz.ntmps85
  go_wp2_with fail
  go_ret
  exact ⟨ret_bool (by simp [meetP, hb]), by exact tB⟩
 | false =>
  go_enter Tryz.func85, Tryz.ntmps85
  go_wp2_with fail
  go_ret
  exact ⟨ret_bool (by simp [meetP, hb]), by exact tB⟩
def tdA (t : Td) : Value := .agg #[.string t.buyer, .string t.seller, .int .i64 t.buy, .int .i64 t.sell, .int .i64 t.item, .int .i64 t.ct, .int .i64 t.pr, .int .i64 t.bid]
set_option maxHeartbeats 4000000 in
set_option maxRecDepth 10000 in
theorem bkTrade (o x : Od) (n : Int) (w : World) :
  Calls Tryz.prog 86 #[.agg #[.int .i64 o.id, .string o.who, .bool o.buy, .int .i64 o.item, .int .i64 o.ct, .int .i64 o.pr], .agg #[.int .i64 x.id, .string x.who, .bool x.buy, .int .i64 x.item, .int .i64 x.ct, .int .i64 x.pr], .int .i64 n] w fun e w' => e = .returned (tdA (tradeP o x n)) ∧ Below w.heap.size w w' := by
 cases hb : o.buy with
 | true =>
  go_enter Tryz.func86, Tryz.ntmps86
  go_wp2_with fail
  all_goals go_region
  all_goals go_wp2_with fail
  all_goals go_region
  all_goals go_wp2_with fail
  all_goals (refine bodyPost_ret (v := tdA (tradeP o x n)) (by simp [results, Tryz.results86, go_sem, ↓IntWalk.iteOmega, tdA, tradeP, hb, *]) rfl ⟨rfl, ?_⟩; exact tB)
 | false =>
  go_enter Tryz.func86, Tryz.ntmps86
  go_wp2_with fail
  all_goals go_region
  all_goals go_wp2_with fail
  all_goals (refine bodyPost_ret (v := tdA (tradeP o x n)) (by simp [results, Tryz.results86, go_sem, ↓IntWalk.iteOmega, tdA, tradeP, hb, *]) rfl ⟨rfl, ?_⟩; exact tB)
theorem bkNew (w : World) :
  Calls Tryz.prog 82 #[] w fun e w' => e = .returned (.pointer (some ⟨w.heap.size, 0, none⟩)) ∧ w' = w.alloc (.cells #[.slice none 0 0, .slice none 0 0, .slice none 0 0, .slice none 0 0, .slice none 0 0, .slice none 0 0, .slice none 0 0, .slice none 0 0, .int .i64 0] 78) := by
 go_enter Tryz.func82, Tryz.ntmps82
 go_wp2_with fail
 go_ret
 exact ⟨rfl, rfl⟩
theorem Touch.mono' {D D' : Nat → Prop} {w w' : World} (h : Touch D w w') (hD : ∀ k, k < w.heap.size → D k → D' k) : Touch D' w w' := ⟨h.os, h.tape, h.output, h.size, fun k hk hn => h.block k hk (fun hd => hn (hD k hk hd))⟩
theorem Tryz.infoTrade : (Tryz.prog.info? 97).map (fun i => (i.zero, i.size, i.bytes)) = some (some (.agg #[.string ⟨#[]⟩, .string ⟨#[]⟩, .int .i64 0, .int .i64 0, .int .i64 0, .int .i64 0, .int .i64 0, .int .i64 0]), 8, 80) := by kernel_rfl
theorem td_cells {w : World} {e : TypeId} (t : Td) : Cells (w.alloc (.cells #[.string t.buyer, .string t.seller, .int .i64 t.buy, .int .i64 t.sell, .int .i64 t.item, .int .i64 t.ct, .int .i64 t.pr, .int .i64 t.bid] e)) (w.alloc (.cells #[.string t.buyer, .string t.seller, .int .i64 t.buy, .int .i64 t.sell, .int .i64 t.item, .int .i64 t.ct, .int .i64 t.pr, .int .i64 t.bid] e)).heap.size (some ⟨w.heap.size, 0, none⟩) 1 1 8 (tdV t) := by
 refine ⟨rfl, (fun e => by cases e), ?_⟩
 intro j u hu
 refine ⟨w.heap.size, 0, rfl, by simp, ?_⟩
 rw [Nat.zero_add, cell_of_row _ _ _ _ _ _ (heap_alloc_new w _)]
 simpa [tdV] using hu
theorem td_one (t : Td) : ∀ u ∈ tdV t, u.oneCell' = true := by
 intro u hu
 simp only [tdV, List.mem_cons, List.not_mem_nil, or_false] at hu
 rcases hu with rfl | rfl | rfl | rfl | rfl | rfl | rfl | rfl <;> rfl
theorem upd_self {α : Type} (f : Nat → α) (k : Nat) : upd f k (f k) = f := by
 funext i; unfold upd; split
 · rename_i e; rw [e]
 · rfl
theorem upd_upd {α : Type} (f : Nat → α) (k : Nat) (u v : α) : upd (upd f k u) k v = upd f k v := by
 funext i; unfold upd; split <;> rfl
theorem Touch.setNew {D : Nat → Prop} {w w' : World} (h : Touch D w w') {a : Addr} {v : Value} (ha : w.heap.size ≤ a.block) : Touch D w (w'.setCell a v) := h.set (fun hl => by omega)
def Od.at (o : Od) (ct : Int) : Od := ⟨o.id, o.who, o.buy, o.item, ct, o.pr⟩
def PlaceQ (Y : Lay) (b : Nat) (v : Nat → Value) (L : List Od) (last : Int) (o : Od) (w : World) (e : Ending) (w' : World) : Prop :=
 (¬ (OkO o ∧ last < o.id) ∧ e = .returned (.tuple #[.slice none 0 0, .int .i64 0, .int .i64 1]) ∧ Below w.heap.size w w') ∨
 (OkO o ∧ last < o.id ∧ 32 ≤ L.length ∧ e = .returned (.tuple #[.slice none 0 0, .int .i64 0, .int .i64 6]) ∧ Below w.heap.size w w') ∨
 (OkO o ∧ last < o.id ∧ L.length < 32 ∧ ∃ (T : List Td) (o1 : Od) (L1 : List Od) (v' : Nat → Value) (S' : Nat → List Od) (tv : Value), Places o L T o1 L1 ∧ T.length ≤ 1048576 ∧ e = .returned (.tuple #[tv, .int .i64 o1.ct, .int .i64 0]) ∧ BkH Y w' b v' S' o.id ∧ RelS S' (laid o1 L1) ∧ w'.ownsRow w.heap.size 97 8 tv T.length (flatT T) ∧ (∀ x, tv.ownBlock = some x → ¬ Ft b v' x) ∧ Touch (Ft b v) w w' ∧ (∀ x, Ft b v' x → Ft b v x ∨ w.heap.size ≤ x))
end Go.Proofs.YtdlbiobjnohfbaaGreat
