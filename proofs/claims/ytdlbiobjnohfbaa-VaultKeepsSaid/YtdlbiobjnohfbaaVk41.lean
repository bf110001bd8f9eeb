/- vault: pure: whose purses and orders there are; what all of them come to. -/
import Derived.ProofKit
import Derived.Test.YtdlbiobjnohfbaaProg
import Derived.WalkKit
import Derived.WalkSpells
import Derived.WalkLawsBesides
import Derived.Deep.QuietTactic
import Derived.BigQuiet
import Derived.RegionTactic
import Derived.BigRegion
import Derived.Outline
import Derived.LoopTactic
import Derived.Lib.Hide
import Derived.Deep.RegionHeld3
import Derived.Laws.AppendOwnNone
import Derived.Deep.AppendLies
import Derived.Maps.AppendAt
import Derived.Laws.Rows
import Derived.Laws.OwnMore
import Derived.Deep.RegionLaw
import Derived.Deep.Onto
import Derived.Maps.Own
import Derived.Maps.RangeRun
import Derived.Carry
import Derived.Maps.Range
import Derived.Deep.DeepMust
import Derived.Deep.Cut
import Derived.StillTailTactics
import Derived.Deep.Light
import Derived.Test.YtdlbiobjnohfbaaLay
import Derived.Shelf.SlSortCmp.NoneTotal
import Derived.Test.YtdlbiobjnohfbaaVk0
import Derived.Test.YtdlbiobjnohfbaaVk1
import Derived.Test.YtdlbiobjnohfbaaVk2
import Derived.Test.YtdlbiobjnohfbaaVk3
import Derived.Test.YtdlbiobjnohfbaaVk4
import Derived.Test.YtdlbiobjnohfbaaVk5
import Derived.Test.YtdlbiobjnohfbaaVk6
import Derived.Test.YtdlbiobjnohfbaaVk7
import Derived.Test.YtdlbiobjnohfbaaVk8
import Derived.Test.YtdlbiobjnohfbaaVk9
import Derived.Test.YtdlbiobjnohfbaaVk10
import Derived.Test.YtdlbiobjnohfbaaVk11
import Derived.Test.YtdlbiobjnohfbaaVk12
import Derived.Test.YtdlbiobjnohfbaaVk13
import Derived.Test.YtdlbiobjnohfbaaVk14
import Derived.Test.YtdlbiobjnohfbaaVk15
import Derived.Test.YtdlbiobjnohfbaaVk16
import Derived.Test.YtdlbiobjnohfbaaVk17
import Derived.Test.YtdlbiobjnohfbaaVk18
import Derived.Test.YtdlbiobjnohfbaaVk20
import Derived.Test.YtdlbiobjnohfbaaVk21
import Derived.Test.YtdlbiobjnohfbaaVk22
import Derived.Test.YtdlbiobjnohfbaaVk23
import Derived.Test.YtdlbiobjnohfbaaVk24
import Derived.Test.YtdlbiobjnohfbaaVk25
import Derived.Test.YtdlbiobjnohfbaaVk26
import Derived.Test.YtdlbiobjnohfbaaVk27
import Derived.Test.YtdlbiobjnohfbaaVk28
import Derived.Test.YtdlbiobjnohfbaaVk29
import Derived.Test.YtdlbiobjnohfbaaVk30
import Derived.Test.YtdlbiobjnohfbaaVk31
import Derived.Test.YtdlbiobjnohfbaaVk32
import Derived.Test.YtdlbiobjnohfbaaVk33
import Derived.Test.YtdlbiobjnohfbaaVk34
import Derived.Test.YtdlbiobjnohfbaaVk35
import Derived.Test.YtdlbiobjnohfbaaVk36
import Derived.Test.YtdlbiobjnohfbaaVk37
import Derived.Test.YtdlbiobjnohfbaaVk38
import Derived.Test.YtdlbiobjnohfbaaVk39
import Derived.Test.YtdlbiobjnohfbaaVk40
namespace Go.Proofs.Ytdlbiobjnohfbaa
open Go.RowKit Go.ChangeMaps Go.MapKept
set_option linter.unusedVariables false
set_option linter.unusedSimpArgs false
theorem len_names : ∀ {ks N : List By}, ks.Nodup → (∀ k ∈ ks, k ∈ N) → ks.length ≤ N.length
  | [], N, _, _ => Nat.zero_le _
  | k :: r, N, hn, h => by
    obtain ⟨h1, h2⟩ := List.nodup_cons.1 hn
    have hk : k ∈ N := h k List.mem_cons_self
    have h3 := len_names (N := N.erase k) h2 (fun x hx => by
      have hne : x ≠ k := fun e => h1 (e ▸ hx)
      exact (List.mem_erase_of_ne hne).2 (h x (List.mem_cons_of_mem _ hx)))
    have he := List.length_erase_of_mem hk
    have hp : 0 < N.length := List.length_pos_of_mem hk
    simp only [List.length_cons]; omega
theorem setP_names {l : Pm} {k : By} {i : It4} {N : List By} (h : ∀ p ∈ l, p.1 ∈ N) (hk : k ∈ N) : ∀ p ∈ setP l k i, p.1 ∈ N := by
  intro p hp
  unfold setP at hp
  split at hp
  · exact h p (del1_keys p hp)
  · rcases put1_mem p hp with rfl | hp
    · exact hk
    · exact h p hp
theorem settle_names {l : Pm} {t : Td} {N : List By} (h : ∀ p ∈ l, p.1 ∈ N) (hb : t.buyer.data.toList ∈ N) (hs : t.seller.data.toList ∈ N) : ∀ p ∈ settleP l t, p.1 ∈ N :=
  setP_names (setP_names (setP_names h hb) hb) hs
theorem settles_names {N : List By} : ∀ {T : List Td} {l : Pm}, (∀ p ∈ l, p.1 ∈ N) → (∀ t ∈ T, t.buyer.data.toList ∈ N ∧ t.seller.data.toList ∈ N) → ∀ p ∈ T.foldl settleP l, p.1 ∈ N
  | [], l, h, _ => h
  | t :: T, l, h, ht => settles_names (T := T) (settle_names h (ht t List.mem_cons_self).1 (ht t List.mem_cons_self).2) (fun x hx => ht x (List.mem_cons_of_mem _ hx))
def NmO (N : List By) (o : Od) : Prop := o.who.data.toList ∈ N
theorem takeN_names {N : List By} {x : Od} {n : Int} {L : List Od} (h : ∀ y ∈ L, NmO N y) : ∀ y ∈ takeN x n L, NmO N y := by
  intro y hy
  unfold takeN at hy
  split at hy
  · exact h y (List.mem_filter.1 hy).1
  · obtain ⟨z, hz, rfl⟩ := List.mem_map.1 hy
    split
    · exact h z hz
    · exact h z hz
theorem trade_names {N : List By} {o x : Od} {n : Int} (ho : NmO N o) (hx : NmO N x) : (tradeP o x n).buyer.data.toList ∈ N ∧ (tradeP o x n).seller.data.toList ∈ N := by
  unfold tradeP
  split
  · exact ⟨ho, hx⟩
  · exact ⟨hx, ho⟩
theorem Places.names {o : Od} {L : List Od} {T : List Td} {o1 : Od} {L1 : List Od} (h : Places o L T o1 L1) {N : List By} : NmO N o → (∀ y ∈ L, NmO N y) → (∀ t ∈ T, t.buyer.data.toList ∈ N ∧ t.seller.data.toList ∈ N) ∧ NmO N o1 ∧ ∀ y ∈ L1, NmO N y := by
  induction h with
  | done o L h => exact fun h1 h2 => ⟨fun t ht => (by cases ht), h1, h2⟩
  | step o x L T o' L' h0 hb h ih =>
    intro h1 h2
    obtain ⟨a, b, c⟩ := ih h1 (takeN_names h2)
    refine ⟨fun t ht => ?_, b, c⟩
    rcases List.mem_cons.1 ht with rfl | ht
    · exact trade_names h1 (h2 x hb.1)
    · exact a t ht
theorem gains_names {N : List By} {l : Pm} {s : ByteArray} (hs : s.data.toList ∈ N) (h : ∀ p ∈ l, p.1 ∈ N) (i : It4) : ∀ k, ∀ p ∈ gainsP l s i k, p.1 ∈ N
  | 0 => h
  | k + 1 => setP_names (gains_names hs h i k) hs
/-- all names are among these -/
def Nms (N : List By) (l : Pm) (L : List Od) : Prop := (∀ p ∈ l, p.1 ∈ N) ∧ ∀ o ∈ L, NmO N o
theorem Nms.nil : Nms [] [] [] := ⟨fun p h => (by cases h), fun p h => (by cases h)⟩
theorem Nms.more {N : List By} {l : Pm} {L : List Od} (h : Nms N l L) (k : By) : Nms (k :: N) l L := ⟨fun p hp => List.mem_cons_of_mem _ (h.1 p hp), fun o ho => List.mem_cons_of_mem _ (h.2 o ho)⟩
theorem Nms.set {N : List By} {l : Pm} {L : List Od} (h : Nms N l L) (k : By) (i : It4) : Nms (k :: N) (setP l k i) L := ⟨setP_names (h.more k).1 List.mem_cons_self, (h.more k).2⟩
theorem Nms.order {N : List By} {l : Pm} {L : List Od} (h : Nms N l L) {o : Od} {i : It4} {T : List Td} {o1 : Od} {L1 : List Od} (hp : Places o L T o1 L1) : Nms (o.who.data.toList :: N) (T.foldl settleP (setP l o.who.data.toList i)) (laid o1 L1) := by
  have h2 := h.set o.who.data.toList i
  obtain ⟨a, b, c⟩ := hp.names (N := o.who.data.toList :: N) List.mem_cons_self h2.2
  refine ⟨settles_names h2.1 a, fun y hy => ?_⟩
  unfold Go.Proofs.Ytdlbiobjnohfbaa.laid at hy
  split at hy
  · rcases List.mem_append.1 hy with hy | hy
    · exact c y hy
    · simp only [List.mem_singleton] at hy; subst hy; exact b
  · exact c y hy
theorem Nms.cancel {N : List By} {l : Pm} {L : List Od} (h : Nms N l L) (s : ByteArray) (i : It4) (id : Int) : Nms (s.data.toList :: N) (gainsP l s i 4) (goneO id L) :=
  ⟨gains_names List.mem_cons_self (h.more _).1 i 4, fun y hy => (h.more _).2 y (List.mem_filter.1 hy).1⟩
theorem Nms.len {N : List By} {l : Pm} {L : List Od} (h : Nms N l L) (hn : (l.map (·.1)).Nodup) : l.length ≤ N.length := by
  have := len_names hn (N := N) (fun k hk => by obtain ⟨p, hp, rfl⟩ := List.mem_map.1 hk; exact h.1 p hp)
  simpa using this
def sumK (j : Nat) : Pm → Int
  | [] => 0
  | p :: r => compI p.2 j + sumK j r
def sumH (j : Nat) : List Od → Int
  | [] => 0
  | o :: r => compI (heldP o) j + sumH j r
theorem comp_z4 (j : Nat) : compI z4 j = 0 := by unfold compI; split <;> rfl
theorem has_cons (a : By) (x : It4) (r : Pm) (k : By) : hasP ((a, x) :: r) k = if a = k then x else hasP r k := by
  simp only [hasP, get1]
  split <;> rfl
theorem sumK_put (j : Nat) (k : By) (i : It4) : ∀ l : Pm, sumK j (put1 k i l) = sumK j l - compI (hasP l k) j + compI i j
  | [] => by show compI i j + 0 = 0 - compI z4 j + compI i j; rw [comp_z4]; omega
  | (a, x) :: r => by
    rw [has_cons]
    unfold put1
    split
    · show compI i j + sumK j r = compI x j + sumK j r - _ + _; omega
    · show compI x j + sumK j (put1 k i r) = compI x j + sumK j r - _ + _; rw [sumK_put j k i r]; omega
theorem sumK_del (j : Nat) (k : By) : ∀ l : Pm, sumK j (del1 k l) = sumK j l - compI (hasP l k) j
  | [] => by show (0 : Int) = 0 - compI z4 j; rw [comp_z4]; omega
  | (a, x) :: r => by
    rw [has_cons]
    unfold del1
    split
    · show sumK j r = compI x j + sumK j r - _; omega
    · show compI x j + sumK j (del1 k r) = compI x j + sumK j r - _; rw [sumK_del j k r]; omega
theorem sumK_set (j : Nat) (l : Pm) (k : By) (i : It4) : sumK j (setP l k i) = sumK j l - compI (hasP l k) j + compI i j := by
  unfold setP
  split
  · rename_i h; rw [sumK_del, h, comp_z4]; omega
  · rw [sumK_put]
theorem is_comp {i : It4} (h : isI i = true) (j : Nat) : 0 ≤ compI i j ∧ compI i j ≤ 1152921504606846976 := by
  unfold isI at h
  rw [isP_iff] at h
  unfold compI
  split <;> omega
theorem sumK_ge {j : Nat} {l : Pm} (h : ∀ p ∈ l, 0 ≤ compI p.2 j) (k : By) : compI (hasP l k) j ≤ sumK j l ∧ 0 ≤ sumK j l := by
  induction l with
  | nil => exact ⟨by show compI z4 j ≤ 0; rw [comp_z4]; omega, by show (0 : Int) ≤ 0; omega⟩
  | cons p r ih =>
    obtain ⟨a, x⟩ := p
    have h1 := h (a, x) List.mem_cons_self
    have h2 := ih (fun p hp => h p (List.mem_cons_of_mem _ hp))
    rw [has_cons]
    refine ⟨?_, by show 0 ≤ compI x j + sumK j r; have : 0 ≤ compI x j := h1; omega⟩
    show _ ≤ compI x j + sumK j r
    have : 0 ≤ compI x j := h1
    split <;> omega
theorem PmOk.ge {l : Pm} (h : PmOk l) (j : Nat) (k : By) : compI (hasP l k) j ≤ sumK j l ∧ 0 ≤ sumK j l := sumK_ge (fun p hp => (is_comp (h.2 p hp).2.1 j).1) k
theorem PmOk.gain {l : Pm} (h : PmOk l) {s : ByteArray} (hs : KeyOk s.data.toList) {k : Nat} (hk : k ≤ 3) {n : Int} (hn : 0 ≤ n) : PmOk (gainP l s k n) := h.set hs (gainI_is (h.has _) hk hn)
theorem comp_gain {i : It4} {k j : Nat} {n : Int} (hk : k ≤ 3) (hj : j ≤ 3) : compI (gainI i k n) j = if j = k then capI (compI i k) n else compI i j := by
  rcases (show k = 0 ∨ k = 1 ∨ k = 2 ∨ k = 3 by omega) with rfl | rfl | rfl | rfl <;> rcases (show j = 0 ∨ j = 1 ∨ j = 2 ∨ j = 3 by omega) with rfl | rfl | rfl | rfl <;> rfl
theorem sumK_gain {l : Pm} (h : PmOk l) {s : ByteArray} {k : Nat} {n : Int} (hk : k ≤ 3) (hn : 0 ≤ n) (hc : sumK k l + n ≤ 1152921504606846976) {j : Nat} (hj : j ≤ 3) : sumK j (gainP l s k n) = sumK j l + (if j = k then n else 0) := by
  unfold gainP
  rw [sumK_set, comp_gain hk hj]
  split
  · rename_i e
    subst e
    have := (h.ge j s.data.toList).1
    unfold capI
    rw [if_pos (by omega)]
    omega
  · omega
theorem settle_sum {l : Pm} (h : PmOk l) {t : Td} (ht : TdOk t) {j : Nat} (hj : j ≤ 3) (hi : sumK t.item.toNat l + t.ct ≤ 1152921504606846976) (h0 : sumK 0 l + t.ct * t.bid ≤ 1152921504606846976) :
    sumK j (settleP l t) = sumK j l + (if j = t.item.toNat then t.ct else 0) + (if j = 0 then t.ct * t.bid else 0) := by
  have hit : t.item.toNat ≤ 3 ∧ 1 ≤ t.item.toNat := by have := ht.item; omega
  have hm : t.ct * (t.bid - t.pr) + t.ct * t.pr = t.ct * t.bid := by rw [← Int.mul_add]; congr 1; omega
  have p1 : 0 ≤ t.ct * (t.bid - t.pr) := Int.mul_nonneg ht.ct.1 (by have := ht.pr; omega)
  have p2 : 0 ≤ t.ct * t.pr := Int.mul_nonneg ht.ct.1 ht.pr.1
  obtain ⟨A, hA⟩ : ∃ A, A = t.ct * (t.bid - t.pr) := ⟨_, rfl⟩
  obtain ⟨B, hB⟩ : ∃ B, B = t.ct * t.pr := ⟨_, rfl⟩
  obtain ⟨C, hC⟩ : ∃ C, C = t.ct * t.bid := ⟨_, rfl⟩
  unfold settleP
  rw [← hA, ← hB, ← hC] at hm
  rw [← hC] at h0 ⊢
  rw [← hA] at p1
  rw [← hB] at p2
  rw [← hA, ← hB]
  have o1 := h.gain ht.buyer hit.1 ht.ct.1
  have o2 := o1.gain ht.buyer (k := 0) (by omega) p1
  have e1 : ∀ j, j ≤ 3 → _ := fun j hj => sumK_gain h (s := t.buyer) hit.1 ht.ct.1 hi (j := j) hj
  have z1 := e1 0 (by omega)
  rw [if_neg (by omega)] at z1
  have e2 : ∀ j, j ≤ 3 → _ := fun j hj => sumK_gain o1 (s := t.buyer) (k := 0) (n := A) (by omega) p1 (by omega) (j := j) hj
  have z2 := e2 0 (by omega)
  rw [if_pos rfl] at z2
  have e3 := sumK_gain o2 (s := t.seller) (k := 0) (n := B) (by omega) p2 (by omega) (j := j) hj
  rw [e3, e2 j hj, e1 j hj]
  by_cases hj0 : j = 0
  · subst hj0
    simp only [if_pos]
    omega
  · simp only [if_neg hj0]; omega
theorem comp_held {o : Od} (h : OkR o) {j : Nat} (hj : j ≤ 3) : compI (heldP o) j = if o.buy then (if j = 0 then o.ct * o.pr else 0) else (if j = o.item.toNat then o.ct else 0) := by
  have hi := h.item
  unfold heldP
  cases o.buy with
  | true =>
    rcases (show j = 0 ∨ j = 1 ∨ j = 2 ∨ j = 3 by omega) with rfl | rfl | rfl | rfl <;> rfl
  | false =>
    rcases (show o.item = 1 ∨ o.item = 2 ∨ o.item = 3 by omega) with e | e | e <;> rw [e] <;> rcases (show j = 0 ∨ j = 1 ∨ j = 2 ∨ j = 3 by omega) with rfl | rfl | rfl | rfl <;> rfl
theorem sumH_app (j : Nat) (a b : List Od) : sumH j (a ++ b) = sumH j a + sumH j b := by
  induction a with
  | nil => simp [sumH]
  | cons x r ih => simp only [List.cons_append, sumH, ih]; omega
theorem sumH_filter (j : Nat) {x : Od} : ∀ {L : List Od}, Ids L → x ∈ L → sumH j (L.filter fun y => decide (y.id ≠ x.id)) = sumH j L - compI (heldP x) j
  | [], _, h => by cases h
  | a :: r, hi, h => by
    obtain ⟨h1, h2⟩ := List.pairwise_cons.1 hi
    rcases List.mem_cons.1 h with rfl | h
    · rw [List.filter_cons_of_neg (by simp), List.filter_eq_self.2 (fun y hy => by have := h1 y hy; simp; omega)]
      show _ = compI (heldP x) j + sumH j r - _; omega
    · rw [List.filter_cons_of_pos (by have := h1 x h; simp; omega)]
      show compI (heldP a) j + sumH j _ = compI (heldP a) j + sumH j r - _
      rw [sumH_filter j h2 h]; omega
theorem mapOffV {x : Od} {n : Int} : ∀ {L : List Od}, (∀ y ∈ L, x.id < y.id) → (L.map fun y => if y.id = x.id then less y n else y) = L
  | [], _ => rfl
  | a :: r, h => by
    have := h a List.mem_cons_self
    rw [List.map_cons, if_neg (by omega), mapOffV (fun y hy => h y (List.mem_cons_of_mem _ hy))]
theorem sumH_map (j : Nat) {x : Od} {n : Int} : ∀ {L : List Od}, Ids L → x ∈ L → sumH j (L.map fun y => if y.id = x.id then less y n else y) = sumH j L - compI (heldP x) j + compI (heldP (less x n)) j
  | [], _, h => by cases h
  | a :: r, hi, h => by
    obtain ⟨h1, h2⟩ := List.pairwise_cons.1 hi
    rw [List.map_cons]
    rcases List.mem_cons.1 h with rfl | h
    · rw [if_pos rfl, mapOffV h1]
      show compI (heldP (less x n)) j + sumH j r = compI (heldP x) j + sumH j r - _ + _; omega
    · have := h1 x h
      rw [if_neg (by omega)]
      show compI (heldP a) j + sumH j _ = compI (heldP a) j + sumH j r - _ + _
      rw [sumH_map j h2 h]; omega
theorem held_none {o : Od} (h : o.ct = 0) (j : Nat) : compI (heldP o) j = 0 := by
  unfold heldP
  rw [h, Int.zero_mul]
  split
  · exact comp_z4 j
  · split
    · exact comp_z4 j
    · split
      · exact comp_z4 j
      · split
        · exact comp_z4 j
        · exact comp_z4 j
theorem sumH_take (j : Nat) {x : Od} {n : Int} {L : List Od} (hi : Ids L) (hx : x ∈ L) : sumH j (takeN x n L) = sumH j L - compI (heldP x) j + compI (heldP (less x n)) j := by
  unfold takeN
  split
  · rename_i e
    rw [sumH_filter j hi hx, held_none (o := less x n) (show x.ct - n = 0 by omega) j]
    omega
  · exact sumH_map j hi hx
end Go.Proofs.Ytdlbiobjnohfbaa
