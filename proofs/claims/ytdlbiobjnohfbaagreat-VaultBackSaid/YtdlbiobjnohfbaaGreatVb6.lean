/- container/heap on a side: Push, Pop, Remove. A book in memory: eight sides, the last number; Len. -/
import Derived.Test.YtdlbiobjnohfbaaGreatVb4
import Derived.Test.YtdlbiobjnohfbaaGreatVb5
namespace Go.Proofs.YtdlbiobjnohfbaaGreat
open Go.RowKit
set_option linter.unusedVariables false
set_option linter.unusedSimpArgs false
theorem Heap.ofF {l : List Od} {n : Nat} (h : HeapF (kf l) n) (hn : l.length = n) : Heap l := by unfold Heap; rw [hn]; exact h
theorem len_pre {n : Nat} (h : n + 1 ≤ 1000) : wrap64 (((n + 1 : Nat) : Int) - 1) = (n : Int) := by unfold wrap64; omega
set_option maxHeartbeats 2000000 in
set_option maxRecDepth 10000 in
theorem heapPush (b k : Nat) (t : TypeId) (cs : Array Value) (bb : Bool) (l : List Od) (v : Value) (o : Od) (w : World) (h : Sd w b k t cs l v) (hq : SideQ bb (l ++ [o])) (hh : Heap l) (hlen : l.length < 1000) :
  Calls Tryz.prog 88 #[.iface 148 (.pointer (some ⟨b, k, none⟩)), .iface 38 (.agg #[.int .i64 o.id, .string o.who, .bool o.buy, .int .i64 o.item, .int .i64 o.ct, .int .i64 o.pr])] w fun e w' => e = .returned (.tuple #[]) ∧ ∃ v' l', l'.Perm (l ++ [o]) ∧ Heap l' ∧ Sd w' b k t (cs.setIfInBounds k v') l' v' ∧ Touch (fun x => x = b ∨ v.ownBlock = some x) w w' ∧ (v'.ownBlock = v.ownBlock ∨ ∃ g, v'.ownBlock = some g ∧ w.heap.size ≤ g) := by
 have hm := meth_push
 have HS := Lib.hid h
 have HQ := Lib.hid hq
 have HH := Lib.hid hh
 clear h hq hh
 have hn1 : wrap64 (((l ++ [o]).length : Int) - 1) = (l.length : Int) := by rw [List.length_append]; exact len_pre hlen
 go_enter Tryz.func88, Tryz.ntmps88
 go_wp2_with (first
  | (go_at_call 165; refine (sidePush b k t cs l v o _ HS.out (by omega)).mono ?_; rintro e w1 ⟨rfl, v1, hS1, hT1, hb1⟩; have hml := hS1.meth.1; have HS1 := Lib.hid hS1; have HT1 := Lib.hid hT1; have HB1 := Lib.hid hb1; clear hS1 hT1 hb1)
  | (go_at_call 161; refine (sideLenV HS1.out.own _).mono ?_; rintro e wL ⟨rfl, rfl⟩)
  | (go_at_call 105; refine (heapUp b k t _ bb (l ++ [o]) v1 l.length _ HS1.out HQ.out (l.length + 1) (by simp) (Heap.push HH.out o) (Nat.lt_succ_self _) (by simp; omega)).mono ?_; rintro e w2 ⟨rfl, l2, hp2, hh2, hf2, hS2, hT2⟩)
  | fail)
 refine bodyPost_end (v := .tuple #[]) (by simp [results, Tryz.results88, go_sem]) rfl ⟨rfl, v1, l2, hp2, Heap.ofF hh2 (by rw [hp2.length_eq]; simp), hS2, HT1.out.trans hT2 (fun x hx hg => ?_), HB1.out⟩
 rcases HB1.out with e | ⟨g, e, hg2⟩
 · exact .inr (e.symm.trans hg)
 ·
  rw [e] at hg
  injection hg with hg
  omega
theorem take_perm {l : List Od} {n : Nat} (h : l.length = n + 1) : (l[n]'(by omega) :: l.take n).Perm l := by
 have e : l.take n ++ [l[n]'(by omega)] = l := by
  have := List.take_append_getElem (l := l) (i := n) (by omega)
  rw [this, List.take_of_length_le (by omega)]
 exact (List.perm_append_comm (l₁ := [l[n]'(by omega)])).trans (by rw [e])
set_option maxHeartbeats 2000000 in
set_option maxRecDepth 10000 in
theorem heapPop (b k : Nat) (t : TypeId) (cs : Array Value) (bb : Bool) (l : List Od) (v : Value) (w : World) (h : Sd w b k t cs l v) (hq : SideQ bb l) (hh : Heap l) (hlen : l.length ≤ 1000) (h0 : 0 < l.length) :
  Calls Tryz.prog 87 #[.iface 148 (.pointer (some ⟨b, k, none⟩))] w fun e w' => e = .returned (.iface 38 (odA (l[0]'h0))) ∧ ∃ v' l', (l[0]'h0 :: l').Perm l ∧ Heap l' ∧ Sd w' b k t (cs.setIfInBounds k v') l' v' ∧ Touch (fun x => x = b ∨ v.ownBlock = some x) w w' ∧ v'.ownBlock = v.ownBlock := by
 obtain ⟨n, hn⟩ : ∃ n, l.length = n + 1 := ⟨l.length - 1, by omega⟩
 have hml := h.meth
 have hmp := meth_pop
 have HS := Lib.hid h
 have HQ := Lib.hid hq
 have HH := Lib.hid hh
 clear h hq hh
 have hn1 : wrap64 ((l.length : Int) - 1) = (n : Int) := by rw [hn]; exact len_pre (by omega)
 have hsl := sideSwap 0 l v l.length 0 n rfl (by omega) (by omega)
 have HD : Hid (DownI (kf (swapL l 0 n)) n 0 true) := Lib.hid (by
  by_cases hz : n = 0
  · subst hz; exact ⟨fun k h0 h1 => by omega, fun h0 => by omega⟩
  ·
   rw [swapL_kf (by omega) (by omega)]
   have hH := HH.out
   unfold Heap at hH
   rw [hn] at hH
   exact hH.remove (i := 0) (by omega))
 have HQ1 : Hid (SideQ bb (swapL l 0 n)) := Lib.hid (HQ.out.perm (swapL_perm (by omega) (by omega)))
 have hl1 := swapL_len l 0 n
 have HE : Hid ((swapL l 0 n)[n]? = some (l[0]'h0)) := Lib.hid (by
  rw [swapL_eq (by omega) (by omega), List.getElem?_set_self (by simp; omega)])
 have HP : Hid ((swapL l 0 n).Perm l) := Lib.hid (swapL_perm (by omega) (by omega))
 go_enter Tryz.func87, Tryz.ntmps87
 go_wp2_with (first
  | (go_at_call 161; refine (sideLenV HS.out.own _).mono ?_; rintro e wL ⟨rfl, rfl⟩)
  | (go_at_call 163; refine (hsl _ HS.out.own).mono ?_; rintro e w1 ⟨rfl, ho1, ht1⟩; have HT1 := Lib.hid ht1; have HS1 := Lib.hid (HS.out.row ht1 (l' := swapL l 0 n) (by rw [swapL_len]; exact ho1)); clear ho1 ht1)
  | (go_at_call 104; refine (heapDown b k t cs bb true (swapL l 0 n) v 0 n _ HS1.out HQ1.out HD.out (by omega) (by omega) (by omega)).mono ?_; rintro e w2 ⟨mv, l2, rfl, hp2, hf2, _, hh2, hS2, hT2⟩; have hl2 := hp2.length_eq; have HS2 := Lib.hid hS2; have HT2 := Lib.hid hT2; have HP2 := Lib.hid hp2; have HF2 := Lib.hid hf2; have HH2 := Lib.hid (hh2 (.inr rfl)); clear hp2 hf2 hh2 hS2 hT2)
  | (go_at_call 164; refine (sidePop b k t cs l2 v n (by omega) _ HS2.out (by omega)).mono ?_; rintro e w3 ⟨rfl, v3, hS3, hT3, hb3⟩; have HS3 := Lib.hid hS3; have HT3 := Lib.hid hT3; have HB3 := Lib.hid hb3; clear hS3 hT3 hb3)
  | fail)
 go_ret
 have hel : l2[n]'(by omega) = l[0]'h0 := by
  have := HF2.out n (Nat.le_refl _)
  rw [HE.out, List.getElem?_eq_getElem (by omega)] at this
  injection this
 refine ⟨by rw [hel]; rfl, v3, l2.take n, ?_, Heap.ofF (HeapF.congr HH2.out (fun i hi => (kf_take hi).symm)) (by rw [List.length_take]; omega), HS3.out, ?_, HB3.out⟩
 ·
  rw [← hel]
  exact (take_perm (by omega)).trans (HP2.out.trans HP.out)
 · exact ((HT1.out.mono fun x hx => .inr hx).trans (HT2.out.mono fun x hx => .inr hx) (fun x _ hx => hx)).trans HT3.out (fun x _ hx => hx)
set_option maxHeartbeats 2000000 in
set_option maxRecDepth 10000 in
theorem heapRemove (b k : Nat) (t : TypeId) (cs : Array Value) (bb : Bool) (l : List Od) (v : Value) (i : Nat) (w : World) (h : Sd w b k t cs l v) (hq : SideQ bb l) (hh : Heap l) (hlen : l.length ≤ 1000) (hi : i < l.length) :
  Calls Tryz.prog 99 #[.iface 148 (.pointer (some ⟨b, k, none⟩)), .int .i64 i] w fun e w' => (∃ u, e = .returned u) ∧ ∃ v' l', (l[i]'hi :: l').Perm l ∧ Heap l' ∧ Sd w' b k t (cs.setIfInBounds k v') l' v' ∧ Touch (fun x => x = b ∨ v.ownBlock = some x) w w' ∧ v'.ownBlock = v.ownBlock := by
 obtain ⟨n, hn⟩ : ∃ n, l.length = n + 1 := ⟨l.length - 1, by omega⟩
 have hml := h.meth
 have hmp := meth_pop
 have HS := Lib.hid h
 have HQ := Lib.hid hq
 have HH := Lib.hid hh
 clear h hq hh
 have hn1 : wrap64 ((l.length : Int) - 1) = (n : Int) := by rw [hn]; exact len_pre (by omega)
 by_cases hin : n = i
 ·
  subst hin
  go_enter Tryz.func99, Tryz.ntmps99
  go_wp2_with (first
   | (go_at_call 161; refine (sideLenV HS.out.own _).mono ?_; rintro e wL ⟨rfl, rfl⟩)
   | (go_at_call 164; refine (sidePop b k t cs l v n hn _ HS.out (by omega)).mono ?_; rintro e w3 ⟨rfl, v3, hS3, hT3, hb3⟩; have HS3 := Lib.hid hS3; have HT3 := Lib.hid hT3; have HB3 := Lib.hid hb3; clear hS3 hT3 hb3)
   | fail)
  go_ret
  have hH := HH.out
  unfold Heap at hH
  exact ⟨⟨_, rfl⟩, v3, l.take n, take_perm hn, Heap.ofF (HeapF.congr (hH.less (m := n) (by omega)) (fun i hi => (kf_take hi).symm)) (by rw [List.length_take]; omega), HS3.out, HT3.out, HB3.out⟩
 ·
  have hne : ¬ (n : Int) = (i : Int) := by omega
  have hin2 : i < n := by omega
  have hsl := sideSwap 0 l v l.length i n rfl (by omega) (by omega)
  have HD : Hid (DownI (kf (swapL l i n)) n i (i == 0)) := Lib.hid (by
   rw [swapL_kf (by omega) (by omega)]
   have hH := HH.out
   unfold Heap at hH
   rw [hn] at hH
   exact hH.remove (i := i) hin2)
  have HQ1 : Hid (SideQ bb (swapL l i n)) := Lib.hid (HQ.out.perm (swapL_perm (by omega) (by omega)))
  have hl1 := swapL_len l i n
  have HE : Hid ((swapL l i n)[n]? = some (l[i]'hi)) := Lib.hid (by
   rw [swapL_eq (by omega) (by omega), List.getElem?_set_self (by simp; omega)])
  have HP : Hid ((swapL l i n).Perm l) := Lib.hid (swapL_perm (by omega) (by omega))
  go_enter Tryz.func99, Tryz.ntmps99
  go_wp2_with (first
   | (go_at_call 161; refine (sideLenV HS.out.own _).mono ?_; rintro e wL ⟨rfl, rfl⟩)
   | (go_at_call 163; refine (hsl _ HS.out.own).mono ?_; rintro e w1 ⟨rfl, ho1, ht1⟩; have HT1 := Lib.hid ht1; have HS1 := Lib.hid (HS.out.row ht1 (l' := swapL l i n) (by rw [swapL_len]; exact ho1)); clear ho1 ht1)
   | fail)
  refine (heapDown b k t cs bb (i == 0) (swapL l i n) v i n _ HS1.out HQ1.out HD.out (by omega) (by omega) (by omega)).mono ?_
  rintro e w2 ⟨mv, l2, rfl, hp2, hf2, hu2, hh2, hS2, hT2⟩
  have hl2 := hp2.length_eq
  have HS2 := Lib.hid hS2
  have HT2 := Lib.hid hT2
  have HP2 := Lib.hid hp2
  have HF2 := Lib.hid hf2
  have HH2 := Lib.hid hh2
  have HU2 := Lib.hid hu2
  clear hp2 hf2 hh2 hS2 hT2 hu2
  cases mv with
  | true =>
   have HH3 := Lib.hid (HH2.out (.inl rfl))
   clear HH2 HU2
   go_wp2_with (first
    | (go_at_call 164; refine (sidePop b k t cs l2 v n (by omega) _ HS2.out (by omega)).mono ?_; rintro e w3 ⟨rfl, v3, hS3, hT3, hb3⟩; have HS3 := Lib.hid hS3; have HT3 := Lib.hid hT3; have HB3 := Lib.hid hb3; clear hS3 hT3 hb3)
    | fail)
   go_ret
   have hel : l2[n]'(by omega) = l[i]'hi := by
    have := HF2.out n (Nat.le_refl _)
    rw [HE.out, List.getElem?_eq_getElem (by omega)] at this
    injection this
   refine ⟨⟨_, rfl⟩, v3, l2.take n, ?_, Heap.ofF (HeapF.congr HH3.out (fun i hi => (kf_take hi).symm)) (by rw [List.length_take]; omega), HS3.out, ?_, HB3.out⟩
   ·
    rw [← hel]
    exact (take_perm (by omega)).trans (HP2.out.trans HP.out)
   · exact ((HT1.out.mono fun x hx => .inr hx).trans (HT2.out.mono fun x hx => .inr hx) (fun x _ hx => hx)).trans HT3.out (fun x _ hx => hx)
  | false =>
   have HU3 := Lib.hid (HU2.out rfl)
   clear HH2 HU2
   go_wp2_with (first
    | (go_at_call 105; refine (heapUp b k t cs bb l2 v i _ HS2.out (HQ1.out.perm HP2.out) n (by omega) HU3.out hin2 (by omega)).mono ?_; rintro e w4 ⟨rfl, l4, hp4, hh4, hf4, hS4, hT4⟩; have hl4 := hp4.length_eq; have HS4 := Lib.hid hS4; have HT4 := Lib.hid hT4; have HP4 := Lib.hid hp4; have HF4 := Lib.hid hf4; have HH4 := Lib.hid hh4; clear hp4 hf4 hh4 hS4 hT4)
    | (go_at_call 164; refine (sidePop b k t cs l4 v n (by omega) _ HS4.out (by omega)).mono ?_; rintro e w3 ⟨rfl, v3, hS3, hT3, hb3⟩; have HS3 := Lib.hid hS3; have HT3 := Lib.hid hT3; have HB3 := Lib.hid hb3; clear hS3 hT3 hb3)
    | fail)
   go_ret
   have hel : l4[n]'(by omega) = l[i]'hi := by
    have h1 := HF4.out n (Nat.le_refl _)
    have h2 := HF2.out n (Nat.le_refl _)
    rw [h2, HE.out, List.getElem?_eq_getElem (by omega)] at h1
    injection h1
   refine ⟨⟨_, rfl⟩, v3, l4.take n, ?_, Heap.ofF (HeapF.congr HH4.out (fun i hi => (kf_take hi).symm)) (by rw [List.length_take]; omega), HS3.out, ?_, HB3.out⟩
   ·
    rw [← hel]
    exact (take_perm (by omega)).trans (HP4.out.trans (HP2.out.trans HP.out))
   · exact (((HT1.out.mono fun x hx => .inr hx).trans (HT2.out.mono fun x hx => .inr hx) (fun x _ hx => hx)).trans (HT4.out.mono fun x hx => .inr hx) (fun x _ hx => hx)).trans HT3.out (fun x _ hx => hx)
def upd {α : Type} (f : Nat → α) (k : Nat) (u : α) : Nat → α := fun i => if i = k then u else f i
theorem upd_same {α : Type} (f : Nat → α) (k : Nat) (u : α) : upd f k u k = u := by simp [upd]
theorem upd_ne {α : Type} (f : Nat → α) {i k : Nat} (u : α) (h : i ≠ k) : upd f k u i = f i := by simp [upd, h]
theorem lt8 {k : Nat} (h : k < 8) : k = 0 ∨ k = 1 ∨ k = 2 ∨ k = 3 ∨ k = 4 ∨ k = 5 ∨ k = 6 ∨ k = 7 := by omega
structure Lay where
 o : Nat
 T : TypeId
 C : (Nat → Value) → Int → Array Value
 at_ : ∀ (v : Nat → Value) (last : Int) {k : Nat}, k < 8 → (C v last)[o + k]? = some (v k)
 set_ : ∀ (v : Nat → Value) (last : Int) (u : Value) {k : Nat}, k < 8 → (C v last).setIfInBounds (o + k) u = C (upd v k u) last
 num : ∀ (v : Nat → Value) (last : Int), (C v last)[o + 8]? = some (.int .i64 last)
 put : ∀ (v : Nat → Value) (last z : Int), (C v last).setIfInBounds (o + 8) (.int .i64 z) = C v z
def lay0 : Lay where
 o := 0
 T := 78
 C v last := #[v 0, v 1, v 2, v 3, v 4, v 5, v 6, v 7, .int .i64 last]
 at_ v last k h := by rcases lt8 h with rfl | rfl | rfl | rfl | rfl | rfl | rfl | rfl <;> rfl
 set_ v last u k h := by rcases lt8 h with rfl | rfl | rfl | rfl | rfl | rfl | rfl | rfl <;> rfl
 num v last := rfl
 put v last z := rfl
def lay1 (p g : Value) : Lay where
 o := 1
 T := 80
 C v last := #[p, v 0, v 1, v 2, v 3, v 4, v 5, v 6, v 7, .int .i64 last, g]
 at_ v last k h := by rcases lt8 h with rfl | rfl | rfl | rfl | rfl | rfl | rfl | rfl <;> rfl
 set_ v last u k h := by rcases lt8 h with rfl | rfl | rfl | rfl | rfl | rfl | rfl | rfl <;> rfl
 num v last := rfl
 put v last z := rfl
structure BkH (Y : Lay) (w : World) (b : Nat) (v : Nat → Value) (S : Nat → List Od) (last : Int) : Prop where
 whl : Whl w b Y.T (Y.C v last)
 own : ∀ i, i < 8 → w.ownsRow 0 38 6 (v i) (S i).length (flatO (S i))
 far : ∀ i, i < 8 → (v i).ownBlock ≠ some b
 apart : ∀ i j, i < 8 → j < 8 → i ≠ j → ∀ x, (v i).ownBlock = some x → (v j).ownBlock ≠ some x
def Ft (b : Nat) (v : Nat → Value) (x : Nat) : Prop := x = b ∨ ∃ i, i < 8 ∧ (v i).ownBlock = some x
theorem BkH.lows {Y : Lay} {w : World} {b : Nat} {v : Nat → Value} {S : Nat → List Od} {last : Int} (h : BkH Y w b v S last) : ∀ x, Ft b v x → x < w.heap.size := by
 rintro x (rfl | ⟨i, hi, e⟩)
 · exact h.whl.low
 · exact ((h.own i hi).lt x e).2
theorem BkH.sd {Y : Lay} {w : World} {b : Nat} {v : Nat → Value} {S : Nat → List Od} {last : Int} (h : BkH Y w b v S last) {k : Nat} (hk : k < 8) : Sd w b (Y.o + k) Y.T (Y.C v last) (S k) (v k) :=
 ⟨h.whl, Y.at_ v last hk, h.own k hk, h.far k hk⟩
theorem BkH.keep {Y : Lay} {D : Nat → Prop} {w w' : World} {b : Nat} {v : Nat → Value} {S : Nat → List Od} {last : Int} (h : BkH Y w b v S last) (ht : Touch D w w') (hD : ∀ x, Ft b v x → ¬ D x) : BkH Y w' b v S last :=
 ⟨(ht.block b h.whl.low (hD b (.inl rfl))).trans h.whl, fun i hi => ht.own (h.own i hi) (fun g hg => hD g (.inr ⟨i, hi, hg⟩)), h.far, h.apart⟩
theorem BkH.below {Y : Lay} {w w' : World} {b : Nat} {v : Nat → Value} {S : Nat → List Od} {last : Int} (h : BkH Y w b v S last) (hb : Below w.heap.size w w') : BkH Y w' b v S last :=
 h.keep (Touch.of_below hb) (fun x hx hd => by have := h.lows x hx; omega)
theorem BkH.turn {Y : Lay} {w w' : World} {b : Nat} {v : Nat → Value} {S : Nat → List Od} {last : Int} (h : BkH Y w b v S last) {k : Nat} (hk : k < 8) {u : Value} {l : List Od}
  (hs : Sd w' b (Y.o + k) Y.T ((Y.C v last).setIfInBounds (Y.o + k) u) l u) (ht : Touch (fun x => x = b ∨ (v k).ownBlock = some x) w w') (hu : u.ownBlock = (v k).ownBlock ∨ ∃ g, u.ownBlock = some g ∧ w.heap.size ≤ g) :
  BkH Y w' b (upd v k u) (upd S k l) last ∧ Touch (Ft b v) w w' ∧ (∀ x, Ft b (upd v k u) x → Ft b v x ∨ w.heap.size ≤ x) := by
 have hlow := h.lows
 have key : ∀ x, u.ownBlock = some x → (v k).ownBlock = some x ∨ w.heap.size ≤ x := fun x hx => by
  rcases hu with e | ⟨g, e, hg⟩
  · exact .inl (e.symm.trans hx)
  · rw [e] at hx; injection hx with hx; exact .inr (by omega)
 refine ⟨⟨by rw [← Y.set_ v last u hk]; exact hs.whl, fun i hi => ?_, fun i hi => ?_, fun i j hi hj hij x hx => ?_⟩, ht.mono (by rintro x (rfl | hx); exact .inl rfl; exact .inr ⟨k, hk, hx⟩), ?_⟩
 ·
  by_cases e : i = k
  · subst e; rw [upd_same, upd_same]; exact hs.own
  ·
   rw [upd_ne _ _ e, upd_ne _ _ e]
   exact ht.own (h.own i hi) (by rintro g hg (rfl | hx); exact h.far i hi hg; exact h.apart i k hi hk e g hg hx)
 ·
  by_cases e : i = k
  · subst e; rw [upd_same]; exact hs.far
  · rw [upd_ne _ _ e]; exact h.far i hi
 ·
  by_cases e : i = k
  ·
   subst e
   rw [upd_same] at hx
   rw [upd_ne _ _ (fun e => hij e.symm)]
   rcases key x hx with h1 | h1
   · exact h.apart i j hi hj hij x h1
   · exact fun h2 => by have := hlow x (.inr ⟨j, hj, h2⟩); omega
  ·
   rw [upd_ne _ _ e] at hx
   by_cases e2 : j = k
   ·
    subst e2
    rw [upd_same]
    intro h2
    rcases key x h2 with h1 | h1
    · exact h.apart i j hi hj hij x hx h1
    · have := hlow x (.inr ⟨i, hi, hx⟩); omega
   · rw [upd_ne _ _ e2]; exact h.apart i j hi hj hij x hx
 ·
  rintro x (rfl | ⟨i, hi, hx⟩)
  · exact .inl (.inl rfl)
  ·
   by_cases e : i = k
   ·
    subst e
    rw [upd_same] at hx
    rcases key x hx with h1 | h1
    · exact .inl (.inr ⟨i, hi, h1⟩)
    · exact .inr h1
   ·
    rw [upd_ne _ _ e] at hx
    exact .inl (.inr ⟨i, hi, hx⟩)
theorem BkH.sdp {Y : Lay} {w : World} {b : Nat} {v : Nat → Value} {S : Nat → List Od} {last : Int} (h : BkH Y w b v S last) {k : Nat} (hk : k < 8) {p : Nat} (hp : p = Y.o + k) : Sd w b p Y.T (Y.C v last) (S k) (v k) := by subst hp; exact h.sd hk
theorem BkH.turnp {Y : Lay} {w w' : World} {b : Nat} {v : Nat → Value} {S : Nat → List Od} {last : Int} (h : BkH Y w b v S last) {k : Nat} (hk : k < 8) {p : Nat} (hp : p = Y.o + k) {u : Value} {l : List Od}
  (hs : Sd w' b p Y.T ((Y.C v last).setIfInBounds p u) l u) (ht : Touch (fun x => x = b ∨ (v k).ownBlock = some x) w w') (hu : u.ownBlock = (v k).ownBlock ∨ ∃ g, u.ownBlock = some g ∧ w.heap.size ≤ g) :
  BkH Y w' b (upd v k u) (upd S k l) last ∧ Touch (Ft b v) w w' ∧ (∀ x, Ft b (upd v k u) x → Ft b v x ∨ w.heap.size ≤ x) := by subst hp; exact h.turn hk hs ht hu
def sideP (i : Nat) (o : Od) : Bool := if i < 4 then o.buy && decide (o.item = (i : Int)) else !o.buy && decide (o.item + 4 = (i : Int))
def RelS (S : Nat → List Od) (L : List Od) : Prop := ∀ i, i < 8 → (S i).Perm (L.filter (sideP i)) ∧ Heap (S i)
def sumS (S : Nat → List Od) : Nat → Nat
 | 0 => 0
 | n + 1 => sumS S n + (S n).length
theorem sideP_one {o : Od} (h : 1 ≤ o.item ∧ o.item ≤ 3) : ∃ i, i < 8 ∧ sideP i o = true ∧ ∀ j, j < 8 → sideP j o = true → j = i := by
 obtain ⟨k, hk⟩ : ∃ k : Nat, o.item = (k : Int) := ⟨o.item.toNat, by omega⟩
 cases hb : o.buy with
 | true =>
  refine ⟨k, by omega, by simp [sideP, hb, hk]; omega, fun j hj h2 => ?_⟩
  unfold sideP at h2
  rw [hb, hk] at h2
  split at h2 <;> simp at h2
  omega
 | false =>
  refine ⟨4 + k, by omega, by simp [sideP, hb, hk]; omega, fun j hj h2 => ?_⟩
  unfold sideP at h2
  rw [hb, hk] at h2
  split at h2 <;> simp at h2
  omega
def cntS (L : List Od) : Nat → Nat
 | 0 => 0
 | n + 1 => cntS L n + (L.filter (sideP n)).length
theorem sum_sides {S : Nat → List Od} {L : List Od} (h : RelS S L) : ∀ n, n ≤ 8 → sumS S n = cntS L n := by
 intro n
 induction n with
 | zero => intro _; rfl
 | succ n ih =>
  intro hn
  show sumS S n + (S n).length = cntS L n + _
  rw [ih (by omega), (h n (by omega)).1.length_eq]
theorem cnt_all {L : List Od} (h : ∀ o ∈ L, 1 ≤ o.item ∧ o.item ≤ 3) : cntS L 8 = L.length := by
 induction L with
 | nil => rfl
 | cons o r ih =>
  have hr := ih (fun x hx => h x (List.mem_cons_of_mem _ hx))
  obtain ⟨i, hi, h1, h2⟩ := sideP_one (h o List.mem_cons_self)
  have hf : ∀ j, j < 8 → ((o :: r).filter (sideP j)).length = (r.filter (sideP j)).length + (if j = i then 1 else 0) := fun j hj => by
   by_cases e : j = i
   · subst e; rw [List.filter_cons_of_pos h1]; simp
   · rw [List.filter_cons_of_neg (fun hh => e (h2 j hj hh))]; simp [e]
  simp only [cntS, List.length_cons] at hr ⊢
  rw [hf 0 (by omega), hf 1 (by omega), hf 2 (by omega), hf 3 (by omega), hf 4 (by omega), hf 5 (by omega), hf 6 (by omega), hf 7 (by omega)]
  rcases lt8 hi with rfl | rfl | rfl | rfl | rfl | rfl | rfl | rfl <;> simp <;> omega
theorem sv_get (b o k : Nat) (h : k < 8) : ∃ j, j < 8 ∧ (sv b o)[k]? = some (pt b (o + j)) ∧ j = (if k % 2 = 0 then k / 2 else 4 + k / 2) := by
 rcases lt8 h with rfl | rfl | rfl | rfl | rfl | rfl | rfl | rfl
 · exact ⟨0, by decide, rfl, rfl⟩
 · exact ⟨4, by decide, rfl, rfl⟩
 · exact ⟨1, by decide, rfl, rfl⟩
 · exact ⟨5, by decide, rfl, rfl⟩
 · exact ⟨2, by decide, rfl, rfl⟩
 · exact ⟨6, by decide, rfl, rfl⟩
 · exact ⟨3, by decide, rfl, rfl⟩
 · exact ⟨7, by decide, rfl, rfl⟩
def ord8 (k : Nat) : Nat := if k % 2 = 0 then k / 2 else 4 + k / 2
def sumO (S : Nat → List Od) : Nat → Nat
 | 0 => 0
 | n + 1 => sumO S n + (S (ord8 n)).length
theorem sumO_all (S : Nat → List Od) : sumO S 8 = sumS S 8 := by
 simp [sumO, sumS, ord8]; omega
theorem sumO_le (S : Nat → List Od) : ∀ n, n ≤ 8 → sumO S n ≤ sumO S 8 := by
 intro n hn
 rcases (show n = 0 ∨ n = 1 ∨ n = 2 ∨ n = 3 ∨ n = 4 ∨ n = 5 ∨ n = 6 ∨ n = 7 ∨ n = 8 by omega) with rfl | rfl | rfl | rfl | rfl | rfl | rfl | rfl | rfl <;> simp [sumO] <;> omega
set_option maxHeartbeats 2000000 in
set_option maxRecDepth 10000 in
theorem bkLen (Y : Lay) (b : Nat) (v : Nat → Value) (S : Nat → List Od) (last : Int) (L : List Od) (w : World) (h : BkH Y w b v S last) (hr : RelS S L) (hk : Bk L last) (hlen : L.length ≤ 1000) :
  Calls Tryz.prog 41 #[.pointer (some ⟨b, Y.o, none⟩)] w fun e w' => e = .returned (.int .i64 L.length) ∧ Below w.heap.size w w' := by
 have hsum : sumO S 8 = L.length := by rw [sumO_all, sum_sides hr 8 (Nat.le_refl _), cnt_all (fun o ho => (hk.ok o ho).item)]
 go_enter Tryz.func41, Tryz.ntmps41
 go_wp2_with fail
 refine (bkSides b Y.o _).mono ?_
 rintro e w1 ⟨g, cap, rfl, hown, hb1⟩
 obtain ⟨A, c, hA, hc1, hc2, hx⟩ := row_cells hown
 injection hA with hA1 hA2 hA3
 subst hA1 hA3
 have hglt := (hown.lt g rfl).2
 have HX := Lib.hid hx
 have HB := Lib.hid (h.below hb1)
 have hs1 := hb1.size
 clear hx hown h
 go_wp2_with fail
 go_loopw [3, 11] (fun s i wr => ∃ k : Nat, k ≤ 8 ∧ i = .int .i64 k ∧ s = .int .i64 (sumO S k) ∧ wr = w1) (fun _ i _ => 8 - (intOf i).toNat)
 case atStart => exact ⟨0, by omega, rfl, rfl, rfl⟩
 case round =>
  obtain ⟨k, hk8, rfl, rfl, hw⟩ := hrel
  have hw := hw.symm
  subst hw
  by_cases hlt : k < 8
  ·
   obtain ⟨j, hj, hsv, hjk⟩ := sv_get b Y.o k hlt
   obtain ⟨g', o', e1, _, h1⟩ := HX.out.2.2 k _ hsv
   injection e1 with e1; injection e1 with e1 e2 e3
   subst e1 e2
   rw [Nat.zero_add] at h1
   unfold pt at h1
   have hsd := HB.out.sd hj
   have h2 := hsd.cell
   obtain ⟨A, c, e4, _⟩ := own_slice hsd.own
   rw [e4] at h2
   have hle := sumO_le S (k + 1) (by omega)
   have hst : sumO S (k + 1) = sumO S k + (S j).length := by rw [hjk]; rfl
   rw [hst, hsum] at hle
   obtain ⟨m, hm⟩ : ∃ m, m = (S j).length := ⟨_, rfl⟩
   obtain ⟨q, hq⟩ : ∃ q, q = sumO S k := ⟨_, rfl⟩
   rw [← hm] at h2 hst hle
   rw [← hq] at hst hle
   rw [← hq]
   have HST := Lib.hid hst
   clear hst hm hq hsd e4 hjk
   go_wp2_with fail
   refine ⟨⟨k + 1, by omega, by go_num, ?_, trivial⟩, by simp [intOf]; omega⟩
   rw [HST.out]
   go_num
  ·
   obtain rfl : k = 8 := by omega
   rw [hsum]
   go_wp2_with fail
   go_ret
   exact ⟨rfl, hb1⟩
end Go.Proofs.YtdlbiobjnohfbaaGreat
