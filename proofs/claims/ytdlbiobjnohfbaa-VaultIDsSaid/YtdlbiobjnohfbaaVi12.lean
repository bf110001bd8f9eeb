/- container/heap on a side: Push, Pop, Remove. -/
import Derived.ProofKit
import Derived.Test.YtdlbiobjnohfbaaProg
import Derived.WalkKit
import Derived.WalkSpells
import Derived.WalkLawsBesides
import Derived.Deep.QuietTactic
import Derived.BigQuiet
import Derived.RegionTactic
import Derived.BigRegion
import Derived.Outline
import Derived.LoopTactic
import Derived.Lib.Hide
import Derived.Deep.RegionHeld3
import Derived.Laws.AppendOwnNone
import Derived.Deep.AppendLies
import Derived.Maps.AppendAt
import Derived.Laws.Rows
import Derived.Laws.OwnMore
import Derived.Deep.RegionLaw
import Derived.Deep.Onto
import Derived.Test.YtdlbiobjnohfbaaVi0
import Derived.Test.YtdlbiobjnohfbaaVi1
import Derived.Test.YtdlbiobjnohfbaaVi2
import Derived.Test.YtdlbiobjnohfbaaVi3
import Derived.Test.YtdlbiobjnohfbaaVi4
import Derived.Test.YtdlbiobjnohfbaaVi5
import Derived.Test.YtdlbiobjnohfbaaVi6
import Derived.Test.YtdlbiobjnohfbaaVi7
import Derived.Test.YtdlbiobjnohfbaaVi8
import Derived.Test.YtdlbiobjnohfbaaVi11
namespace Go.Proofs.Ytdlbiobjnohfbaa
open Go.RowKit
set_option linter.unusedVariables false
set_option linter.unusedSimpArgs false
theorem Heap.ofF {l : List Od} {n : Nat} (h : HeapF (kf l) n) (hn : l.length = n) : Heap l := by unfold Heap; rw [hn]; exact h
theorem len_pre {n : Nat} (h : n + 1 ≤ 1000) : wrap64 (((n + 1 : Nat) : Int) - 1) = (n : Int) := by unfold wrap64; omega
set_option maxHeartbeats 2000000 in
set_option maxRecDepth 10000 in
theorem heapPush (b k : Nat) (t : TypeId) (cs : Array Value) (bb : Bool) (l : List Od) (v : Value) (o : Od) (w : World) (h : Sd w b k t cs l v) (hq : SideQ bb (l ++ [o])) (hh : Heap l) (hlen : l.length < 1000) :
    Calls Try.prog 39 #[.iface 88 (.pointer (some ⟨b, k, none⟩)), .iface 29 (.agg #[.int .i64 o.id, .string o.who, .bool o.buy, .int .i64 o.item, .int .i64 o.ct, .int .i64 o.pr])] w fun e w' => e = .returned (.tuple #[]) ∧ ∃ v' l', l'.Perm (l ++ [o]) ∧ Heap l' ∧ Sd w' b k t (cs.setIfInBounds k v') l' v' ∧ Touch (fun x => x = b ∨ v.ownBlock = some x) w w' ∧ (v'.ownBlock = v.ownBlock ∨ ∃ g, v'.ownBlock = some g ∧ w.heap.size ≤ g) := by
  have hm := meth_push
  have HS := Lib.hid h
  have HQ := Lib.hid hq
  have HH := Lib.hid hh
  clear h hq hh
  have hn1 : wrap64 (((l ++ [o]).length : Int) - 1) = (l.length : Int) := by rw [List.length_append]; exact len_pre hlen
  go_enter Try.func39, Try.ntmps39
  go_wp2_with (first
    | (go_at_call 107; refine (sidePush b k t cs l v o _ HS.out (by omega)).mono ?_; rintro e w1 ⟨rfl, v1, hS1, hT1, hb1⟩; have hml := hS1.meth.1; have HS1 := Lib.hid hS1; have HT1 := Lib.hid hT1; have HB1 := Lib.hid hb1; clear hS1 hT1 hb1)
    | (go_at_call 103; refine (sideLenV HS1.out.own _).mono ?_; rintro e wL ⟨rfl, rfl⟩)
    | (go_at_call 49; refine (heapUp b k t _ bb (l ++ [o]) v1 l.length _ HS1.out HQ.out (l.length + 1) (by simp) (Heap.push HH.out o) (Nat.lt_succ_self _) (by simp; omega)).mono ?_; rintro e w2 ⟨rfl, l2, hp2, hh2, hf2, hS2, hT2⟩)
    | fail)
  refine bodyPost_end (v := .tuple #[]) (by simp [results, Try.results39, go_sem]) rfl ⟨rfl, v1, l2, hp2, Heap.ofF hh2 (by rw [hp2.length_eq]; simp), hS2, HT1.out.trans hT2 (fun x hx hg => ?_), HB1.out⟩
  rcases HB1.out with e | ⟨g, e, hg2⟩
  · exact .inr (e.symm.trans hg)
  · rw [e] at hg
    injection hg with hg
    omega
theorem take_perm {l : List Od} {n : Nat} (h : l.length = n + 1) : (l[n]'(by omega) :: l.take n).Perm l := by
  have e : l.take n ++ [l[n]'(by omega)] = l := by
    have := List.take_append_getElem (l := l) (i := n) (by omega)
    rw [this, List.take_of_length_le (by omega)]
  exact (List.perm_append_comm (l₁ := [l[n]'(by omega)])).trans (by rw [e])
set_option maxHeartbeats 2000000 in
set_option maxRecDepth 10000 in
theorem heapPop (b k : Nat) (t : TypeId) (cs : Array Value) (bb : Bool) (l : List Od) (v : Value) (w : World) (h : Sd w b k t cs l v) (hq : SideQ bb l) (hh : Heap l) (hlen : l.length ≤ 1000) (h0 : 0 < l.length) :
    Calls Try.prog 38 #[.iface 88 (.pointer (some ⟨b, k, none⟩))] w fun e w' => e = .returned (.iface 29 (odA (l[0]'h0))) ∧ ∃ v' l', (l[0]'h0 :: l').Perm l ∧ Heap l' ∧ Sd w' b k t (cs.setIfInBounds k v') l' v' ∧ Touch (fun x => x = b ∨ v.ownBlock = some x) w w' ∧ v'.ownBlock = v.ownBlock := by
  obtain ⟨n, hn⟩ : ∃ n, l.length = n + 1 := ⟨l.length - 1, by omega⟩
  have hml := h.meth
  have hmp := meth_pop
  have HS := Lib.hid h
  have HQ := Lib.hid hq
  have HH := Lib.hid hh
  clear h hq hh
  have hn1 : wrap64 ((l.length : Int) - 1) = (n : Int) := by rw [hn]; exact len_pre (by omega)
  have hsl := sideSwap 0 l v l.length 0 n rfl (by omega) (by omega)
  have HD : Hid (DownI (kf (swapL l 0 n)) n 0 true) := Lib.hid (by
    by_cases hz : n = 0
    · subst hz; exact ⟨fun k h0 h1 => by omega, fun h0 => by omega⟩
    · rw [swapL_kf (by omega) (by omega)]
      have hH := HH.out
      unfold Heap at hH
      rw [hn] at hH
      exact hH.remove (i := 0) (by omega))
  have HQ1 : Hid (SideQ bb (swapL l 0 n)) := Lib.hid (HQ.out.perm (swapL_perm (by omega) (by omega)))
  have hl1 := swapL_len l 0 n
  have HE : Hid ((swapL l 0 n)[n]? = some (l[0]'h0)) := Lib.hid (by
    rw [swapL_eq (by omega) (by omega), List.getElem?_set_self (by simp; omega)])
  have HP : Hid ((swapL l 0 n).Perm l) := Lib.hid (swapL_perm (by omega) (by omega))
  go_enter Try.func38, Try.ntmps38
  go_wp2_with (first
    | (go_at_call 103; refine (sideLenV HS.out.own _).mono ?_; rintro e wL ⟨rfl, rfl⟩)
    | (go_at_call 105; refine (hsl _ HS.out.own).mono ?_; rintro e w1 ⟨rfl, ho1, ht1⟩; have HT1 := Lib.hid ht1; have HS1 := Lib.hid (HS.out.row ht1 (l' := swapL l 0 n) (by rw [swapL_len]; exact ho1)); clear ho1 ht1)
    | (go_at_call 48; refine (heapDown b k t cs bb true (swapL l 0 n) v 0 n _ HS1.out HQ1.out HD.out (by omega) (by omega) (by omega)).mono ?_; rintro e w2 ⟨mv, l2, rfl, hp2, hf2, _, hh2, hS2, hT2⟩; have hl2 := hp2.length_eq; have HS2 := Lib.hid hS2; have HT2 := Lib.hid hT2; have HP2 := Lib.hid hp2; have HF2 := Lib.hid hf2; have HH2 := Lib.hid (hh2 (.inr rfl)); clear hp2 hf2 hh2 hS2 hT2)
    | (go_at_call 106; refine (sidePop b k t cs l2 v n (by omega) _ HS2.out (by omega)).mono ?_; rintro e w3 ⟨rfl, v3, hS3, hT3, hb3⟩; have HS3 := Lib.hid hS3; have HT3 := Lib.hid hT3; have HB3 := Lib.hid hb3; clear hS3 hT3 hb3)
    | fail)
  go_ret
  have hel : l2[n]'(by omega) = l[0]'h0 := by
    have := HF2.out n (Nat.le_refl _)
    rw [HE.out, List.getElem?_eq_getElem (by omega)] at this
    injection this
  refine ⟨by rw [hel]; rfl, v3, l2.take n, ?_, Heap.ofF (HeapF.congr HH2.out (fun i hi => (kf_take hi).symm)) (by rw [List.length_take]; omega), HS3.out, ?_, HB3.out⟩
  · rw [← hel]
    exact (take_perm (by omega)).trans (HP2.out.trans HP.out)
  · exact ((HT1.out.mono fun x hx => .inr hx).trans (HT2.out.mono fun x hx => .inr hx) (fun x _ hx => hx)).trans HT3.out (fun x _ hx => hx)
set_option maxHeartbeats 2000000 in
set_option maxRecDepth 10000 in
theorem heapRemove (b k : Nat) (t : TypeId) (cs : Array Value) (bb : Bool) (l : List Od) (v : Value) (i : Nat) (w : World) (h : Sd w b k t cs l v) (hq : SideQ bb l) (hh : Heap l) (hlen : l.length ≤ 1000) (hi : i < l.length) :
    Calls Try.prog 43 #[.iface 88 (.pointer (some ⟨b, k, none⟩)), .int .i64 i] w fun e w' => (∃ u, e = .returned u) ∧ ∃ v' l', (l[i]'hi :: l').Perm l ∧ Heap l' ∧ Sd w' b k t (cs.setIfInBounds k v') l' v' ∧ Touch (fun x => x = b ∨ v.ownBlock = some x) w w' ∧ v'.ownBlock = v.ownBlock := by
  obtain ⟨n, hn⟩ : ∃ n, l.length = n + 1 := ⟨l.length - 1, by omega⟩
  have hml := h.meth
  have hmp := meth_pop
  have HS := Lib.hid h
  have HQ := Lib.hid hq
  have HH := Lib.hid hh
  clear h hq hh
  have hn1 : wrap64 ((l.length : Int) - 1) = (n : Int) := by rw [hn]; exact len_pre (by omega)
  by_cases hin : n = i
  · subst hin
    go_enter Try.func43, Try.ntmps43
    go_wp2_with (first
      | (go_at_call 103; refine (sideLenV HS.out.own _).mono ?_; rintro e wL ⟨rfl, rfl⟩)
      | (go_at_call 106; refine (sidePop b k t cs l v n hn _ HS.out (by omega)).mono ?_; rintro e w3 ⟨rfl, v3, hS3, hT3, hb3⟩; have HS3 := Lib.hid hS3; have HT3 := Lib.hid hT3; have HB3 := Lib.hid hb3; clear hS3 hT3 hb3)
      | fail)
    go_ret
    have hH := HH.out
    unfold Heap at hH
    exact ⟨⟨_, rfl⟩, v3, l.take n, take_perm hn, Heap.ofF (HeapF.congr (hH.less (m := n) (by omega)) (fun i hi => (kf_take hi).symm)) (by rw [List.length_take]; omega), HS3.out, HT3.out, HB3.out⟩
  · have hne : ¬ (n : Int) = (i : Int) := by omega
    have hin2 : i < n := by omega
    have hsl := sideSwap 0 l v l.length i n rfl (by omega) (by omega)
    have HD : Hid (DownI (kf (swapL l i n)) n i (i == 0)) := Lib.hid (by
      rw [swapL_kf (by omega) (by omega)]
      have hH := HH.out
      unfold Heap at hH
      rw [hn] at hH
      exact hH.remove (i := i) hin2)
    have HQ1 : Hid (SideQ bb (swapL l i n)) := Lib.hid (HQ.out.perm (swapL_perm (by omega) (by omega)))
    have hl1 := swapL_len l i n
    have HE : Hid ((swapL l i n)[n]? = some (l[i]'hi)) := Lib.hid (by
      rw [swapL_eq (by omega) (by omega), List.getElem?_set_self (by simp; omega)])
    have HP : Hid ((swapL l i n).Perm l) := Lib.hid (swapL_perm (by omega) (by omega))
    go_enter Try.func43, Try.ntmps43
    go_wp2_with (first
      | (go_at_call 103; refine (sideLenV HS.out.own _).mono ?_; rintro e wL ⟨rfl, rfl⟩)
      | (go_at_call 105; refine (hsl _ HS.out.own).mono ?_; rintro e w1 ⟨rfl, ho1, ht1⟩; have HT1 := Lib.hid ht1; have HS1 := Lib.hid (HS.out.row ht1 (l' := swapL l i n) (by rw [swapL_len]; exact ho1)); clear ho1 ht1)
      | fail)
    refine (heapDown b k t cs bb (i == 0) (swapL l i n) v i n _ HS1.out HQ1.out HD.out (by omega) (by omega) (by omega)).mono ?_
    rintro e w2 ⟨mv, l2, rfl, hp2, hf2, hu2, hh2, hS2, hT2⟩
    have hl2 := hp2.length_eq
    have HS2 := Lib.hid hS2
    have HT2 := Lib.hid hT2
    have HP2 := Lib.hid hp2
    have HF2 := Lib.hid hf2
    have HH2 := Lib.hid hh2
    have HU2 := Lib.hid hu2
    clear hp2 hf2 hh2 hS2 hT2 hu2
    cases mv with
    | true =>
      have HH3 := Lib.hid (HH2.out (.inl rfl))
      clear HH2 HU2
      go_wp2_with (first
        | (go_at_call 106; refine (sidePop b k t cs l2 v n (by omega) _ HS2.out (by omega)).mono ?_; rintro e w3 ⟨rfl, v3, hS3, hT3, hb3⟩; have HS3 := Lib.hid hS3; have HT3 := Lib.hid hT3; have HB3 := Lib.hid hb3; clear hS3 hT3 hb3)
        | fail)
      go_ret
      have hel : l2[n]'(by omega) = l[i]'hi := by
        have := HF2.out n (Nat.le_refl _)
        rw [HE.out, List.getElem?_eq_getElem (by omega)] at this
        injection this
      refine ⟨⟨_, rfl⟩, v3, l2.take n, ?_, Heap.ofF (HeapF.congr HH3.out (fun i hi => (kf_take hi).symm)) (by rw [List.length_take]; omega), HS3.out, ?_, HB3.out⟩
      · rw [← hel]
        exact (take_perm (by omega)).trans (HP2.out.trans HP.out)
      · exact ((HT1.out.mono fun x hx => .inr hx).trans (HT2.out.mono fun x hx => .inr hx) (fun x _ hx => hx)).trans HT3.out (fun x _ hx => hx)
    | false =>
      have HU3 := Lib.hid (HU2.out rfl)
      clear HH2 HU2
      go_wp2_with (first
        | (go_at_call 49; refine (heapUp b k t cs bb l2 v i _ HS2.out (HQ1.out.perm HP2.out) n (by omega) HU3.out hin2 (by omega)).mono ?_; rintro e w4 ⟨rfl, l4, hp4, hh4, hf4, hS4, hT4⟩; have hl4 := hp4.length_eq; have HS4 := Lib.hid hS4; have HT4 := Lib.hid hT4; have HP4 := Lib.hid hp4; have HF4 := Lib.hid hf4; have HH4 := Lib.hid hh4; clear hp4 hf4 hh4 hS4 hT4)
        | (go_at_call 106; refine (sidePop b k t cs l4 v n (by omega) _ HS4.out (by omega)).mono ?_; rintro e w3 ⟨rfl, v3, hS3, hT3, hb3⟩; have HS3 := Lib.hid hS3; have HT3 := Lib.hid hT3; have HB3 := Lib.hid hb3; clear hS3 hT3 hb3)
        | fail)
      go_ret
      have hel : l4[n]'(by omega) = l[i]'hi := by
        have h1 := HF4.out n (Nat.le_refl _)
        have h2 := HF2.out n (Nat.le_refl _)
        rw [h2, HE.out, List.getElem?_eq_getElem (by omega)] at h1
        injection h1
      refine ⟨⟨_, rfl⟩, v3, l4.take n, ?_, Heap.ofF (HeapF.congr HH4.out (fun i hi => (kf_take hi).symm)) (by rw [List.length_take]; omega), HS3.out, ?_, HB3.out⟩
      · rw [← hel]
        exact (take_perm (by omega)).trans (HP4.out.trans (HP2.out.trans HP.out))
      · exact (((HT1.out.mono fun x hx => .inr hx).trans (HT2.out.mono fun x hx => .inr hx) (fun x _ hx => hx)).trans (HT4.out.mono fun x hx => .inr hx) (fun x _ hx => hx)).trans HT3.out (fun x _ hx => hx)
end Go.Proofs.Ytdlbiobjnohfbaa
