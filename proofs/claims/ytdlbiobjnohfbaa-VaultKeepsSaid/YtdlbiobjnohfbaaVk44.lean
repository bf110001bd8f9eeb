/- vault: pure: what each deed makes of all that there is. -/
import Derived.ProofKit
import Derived.Test.YtdlbiobjnohfbaaProg
import Derived.WalkKit
import Derived.WalkSpells
import Derived.WalkLawsBesides
import Derived.Deep.QuietTactic
import Derived.BigQuiet
import Derived.RegionTactic
import Derived.BigRegion
import Derived.Outline
import Derived.LoopTactic
import Derived.Lib.Hide
import Derived.Deep.RegionHeld3
import Derived.Laws.AppendOwnNone
import Derived.Deep.AppendLies
import Derived.Maps.AppendAt
import Derived.Laws.Rows
import Derived.Laws.OwnMore
import Derived.Deep.RegionLaw
import Derived.Deep.Onto
import Derived.Maps.Own
import Derived.Maps.RangeRun
import Derived.Carry
import Derived.Maps.Range
import Derived.Deep.DeepMust
import Derived.Deep.Cut
import Derived.StillTailTactics
import Derived.Deep.Light
import Derived.Test.YtdlbiobjnohfbaaLay
import Derived.Shelf.SlSortCmp.NoneTotal
import Derived.Test.YtdlbiobjnohfbaaVk0
import Derived.Test.YtdlbiobjnohfbaaVk1
import Derived.Test.YtdlbiobjnohfbaaVk2
import Derived.Test.YtdlbiobjnohfbaaVk3
import Derived.Test.YtdlbiobjnohfbaaVk4
import Derived.Test.YtdlbiobjnohfbaaVk5
import Derived.Test.YtdlbiobjnohfbaaVk6
import Derived.Test.YtdlbiobjnohfbaaVk7
import Derived.Test.YtdlbiobjnohfbaaVk8
import Derived.Test.YtdlbiobjnohfbaaVk9
import Derived.Test.YtdlbiobjnohfbaaVk10
import Derived.Test.YtdlbiobjnohfbaaVk11
import Derived.Test.YtdlbiobjnohfbaaVk12
import Derived.Test.YtdlbiobjnohfbaaVk13
import Derived.Test.YtdlbiobjnohfbaaVk14
import Derived.Test.YtdlbiobjnohfbaaVk15
import Derived.Test.YtdlbiobjnohfbaaVk16
import Derived.Test.YtdlbiobjnohfbaaVk17
import Derived.Test.YtdlbiobjnohfbaaVk18
import Derived.Test.YtdlbiobjnohfbaaVk20
import Derived.Test.YtdlbiobjnohfbaaVk21
import Derived.Test.YtdlbiobjnohfbaaVk22
import Derived.Test.YtdlbiobjnohfbaaVk23
import Derived.Test.YtdlbiobjnohfbaaVk24
import Derived.Test.YtdlbiobjnohfbaaVk25
import Derived.Test.YtdlbiobjnohfbaaVk26
import Derived.Test.YtdlbiobjnohfbaaVk27
import Derived.Test.YtdlbiobjnohfbaaVk28
import Derived.Test.YtdlbiobjnohfbaaVk29
import Derived.Test.YtdlbiobjnohfbaaVk30
import Derived.Test.YtdlbiobjnohfbaaVk31
import Derived.Test.YtdlbiobjnohfbaaVk32
import Derived.Test.YtdlbiobjnohfbaaVk33
import Derived.Test.YtdlbiobjnohfbaaVk34
import Derived.Test.YtdlbiobjnohfbaaVk35
import Derived.Test.YtdlbiobjnohfbaaVk36
import Derived.Test.YtdlbiobjnohfbaaVk37
import Derived.Test.YtdlbiobjnohfbaaVk38
import Derived.Test.YtdlbiobjnohfbaaVk39
import Derived.Test.YtdlbiobjnohfbaaVk40
import Derived.Test.YtdlbiobjnohfbaaVk41
namespace Go.Proofs.Ytdlbiobjnohfbaa
open Go.RowKit Go.ChangeMaps Go.MapKept
set_option linter.unusedVariables false
set_option linter.unusedSimpArgs false
def cap60 : Int := 1152921504606846976
theorem PmOk.settle {l : Pm} (h : PmOk l) {t : Td} (ht : TdOk t) : PmOk (settleP l t) := by
  have hit : t.item.toNat ≤ 3 := by have := ht.item; omega
  exact ((h.gain ht.buyer hit ht.ct.1).gain ht.buyer (k := 0) (by omega) (Int.mul_nonneg ht.ct.1 (by have := ht.pr; omega))).gain ht.seller (k := 0) (by omega) (Int.mul_nonneg ht.ct.1 ht.pr.1)
theorem less_ok {o : Od} (h : OkR o) (n : Int) (hn : 0 ≤ n) : OkR (less o n) := ⟨h.who, h.item, by show o.ct - n ≤ 1048576; have := h.ct; omega, h.pr⟩
theorem sumH_ge {j : Nat} {L : List Od} {last : Int} (h : Bk L last) : 0 ≤ sumH j L := by
  have hk := h.ok
  clear h
  induction L with
  | nil => show (0 : Int) ≤ 0; omega
  | cons x r ih =>
    have h1 := (held_comp (hk x List.mem_cons_self) j).1
    have h2 := ih (fun y hy => hk y (List.mem_cons_of_mem _ hy))
    show 0 ≤ compI (heldP x) j + sumH j r
    omega
theorem sumH_mem {j : Nat} {L : List Od} {last : Int} (h : Bk L last) {x : Od} (hx : x ∈ L) : compI (heldP x) j ≤ sumH j L := by
  have hk := h.ok
  clear h
  induction L with
  | nil => cases hx
  | cons y r ih =>
    have hge : ∀ M : List Od, (∀ o ∈ M, OkO o) → 0 ≤ sumH j M := by
      intro M
      induction M with
      | nil => intro _; show (0 : Int) ≤ 0; omega
      | cons a b ih2 =>
        intro hm
        have h1 := (held_comp (hm a List.mem_cons_self) j).1
        have h2 := ih2 (fun y hy => hm y (List.mem_cons_of_mem _ hy))
        show 0 ≤ compI (heldP a) j + sumH j b
        omega
    have h0 := hge r (fun o ho => hk o (List.mem_cons_of_mem _ ho))
    have h1 := (held_comp (hk y List.mem_cons_self) j).1
    show _ ≤ compI (heldP y) j + sumH j r
    rcases List.mem_cons.1 hx with rfl | hx
    · omega
    · have := ih hx (fun o ho => hk o (List.mem_cons_of_mem _ ho))
      omega
theorem held_comp0 {o : Od} (h : OkR o) (h0 : 0 ≤ o.ct) {j : Nat} (hj : j ≤ 3) : 0 ≤ compI (heldP o) j := by
  rw [comp_held h hj]
  have := Int.mul_nonneg h0 (show 0 ≤ o.pr by have := h.pr; omega)
  split
  · split <;> omega
  · split <;> omega
theorem less_held {o : Od} (h : OkR o) {n : Int} (hn : 0 ≤ n) {j : Nat} (hj : j ≤ 3) : compI (heldP (less o n)) j = compI (heldP o) j - (if o.buy then (if j = 0 then n * o.pr else 0) else (if j = o.item.toNat then n else 0)) := by
  rw [comp_held (less_ok h n hn) hj, comp_held h hj]
  show (if o.buy then (if j = 0 then (o.ct - n) * o.pr else 0) else (if j = o.item.toNat then o.ct - n else 0)) = _
  have e : (o.ct - n) * o.pr = o.ct * o.pr - n * o.pr := Int.sub_mul _ _ _
  rw [e]
  split
  · split <;> omega
  · split <;> omega
/-- one trade: what both get, both had held -/
theorem trade_keeps {o x : Od} {L : List Od} {last : Int} {l : Pm} (ho : OkR o) (hk : Bk L last) (hl : PmOk l) (h0 : 0 < o.ct) (hb : Best o x L)
    (hc : ∀ j, j ≤ 3 → sumK j l + compI (heldP o) j + sumH j L ≤ cap60) {j : Nat} (hj : j ≤ 3) :
    sumK j (settleP l (tradeP o x (mn o.ct x.ct))) + compI (heldP (less o (mn o.ct x.ct))) j + sumH j (takeN x (mn o.ct x.ct) L) = sumK j l + compI (heldP o) j + sumH j L := by
  have hx := hk.ok x hb.1
  have hmt : meets o x = true := hb.2.1
  unfold meets at hmt
  simp only [Bool.and_eq_true, decide_eq_true_eq] at hmt
  obtain ⟨⟨hitem, hside⟩, hm⟩ := hmt
  have hn1 : 1 ≤ mn o.ct x.ct := mn_pos (by omega) hx.ct.1
  have hn2 := mn_le (a := o.ct) (b := x.ct)
  obtain ⟨n, hn⟩ : ∃ n, n = mn o.ct x.ct := ⟨_, rfl⟩
  have ht := tradeP_ok ho hx hm h0
  rw [← hn] at hn1 hn2 ht ⊢
  have hi := ho.item
  have hox := hx.r
  have e1 : ∀ j, j ≤ 3 → _ := fun j hj => less_held ho (n := n) (by omega) (j := j) hj
  have e2 : ∀ j, j ≤ 3 → _ := fun j hj => less_held hox (n := n) (by omega) (j := j) hj
  have e3 : ∀ j, _ := fun j => sumH_take j (n := n) hk.ids hb.1
  have g0 : ∀ j, j ≤ 3 → 0 ≤ compI (heldP (less o n)) j := fun j hj => held_comp0 (less_ok ho n (by omega)) (show 0 ≤ o.ct - n by omega) hj
  have g1 : ∀ j, j ≤ 3 → 0 ≤ compI (heldP (less x n)) j := fun j hj => held_comp0 (less_ok hox n (by omega)) (show 0 ≤ x.ct - n by omega) hj
  have g2 : ∀ j, compI (heldP x) j ≤ sumH j L := fun j => sumH_mem hk hb.1
  have hjn : o.item.toNat ≤ 3 ∧ 1 ≤ o.item.toNat := by omega
  have hxi : x.item.toNat = o.item.toNat := by rw [hitem]
  cases hbo : o.buy with
  | true =>
    have hbx : x.buy = false := by rw [hbo] at hside; simpa using hside
    rw [hbo] at e1
    rw [hbx] at e2
    simp only [if_true, Bool.false_eq_true, if_false] at e1 e2
    have htr : tradeP o x n = ⟨o.who, x.who, o.id, x.id, o.item, n, x.pr, o.pr⟩ := by unfold tradeP; rw [hbo]; rfl
    rw [htr] at ht ⊢
    have a1 := e1 0 (by omega)
    rw [if_pos rfl] at a1
    have a2 := e2 o.item.toNat hjn.1
    rw [if_pos hxi.symm] at a2
    have b1 := g0 0 (by omega)
    have b2 := g1 o.item.toNat hjn.1
    have c1 := g2 o.item.toNat
    have c2 := g2 0
    have d1 := hc 0 (by omega)
    have d2 := hc o.item.toNat hjn.1
    have f1 := held_comp0 ho (by omega) hjn.1
    have f2 := (held_comp hx 0).1
    unfold cap60 at d1 d2
    have key := settle_sum hl ht hj (show sumK o.item.toNat l + n ≤ _ by omega) (show sumK 0 l + n * o.pr ≤ _ by omega)
    rw [key, e3 j, e1 j hj, e2 j hj, hxi]
    show sumK j l + (if j = o.item.toNat then n else 0) + (if j = 0 then n * o.pr else 0) + _ + _ = _
    omega
  | false =>
    have hbx : x.buy = true := by rw [hbo] at hside; simpa using hside
    rw [hbo] at e1
    rw [hbx] at e2
    simp only [if_true, Bool.false_eq_true, if_false] at e1 e2
    have htr : tradeP o x n = ⟨x.who, o.who, x.id, o.id, o.item, n, x.pr, x.pr⟩ := by unfold tradeP; rw [hbo]; rfl
    rw [htr] at ht ⊢
    have a1 := e1 o.item.toNat hjn.1
    rw [if_pos rfl] at a1
    have a2 := e2 0 (by omega)
    rw [if_pos rfl] at a2
    have b1 := g0 o.item.toNat hjn.1
    have b2 := g1 0 (by omega)
    have c1 := g2 o.item.toNat
    have c2 := g2 0
    have d1 := hc 0 (by omega)
    have d2 := hc o.item.toNat hjn.1
    have f1 := held_comp0 ho (by omega) (show 0 ≤ 3 by omega)
    have f2 := (held_comp hx o.item.toNat).1
    unfold cap60 at d1 d2
    have key := settle_sum hl ht hj (show sumK o.item.toNat l + n ≤ _ by omega) (show sumK 0 l + n * x.pr ≤ _ by omega)
    rw [key, e3 j, e1 j hj, e2 j hj]
    show sumK j l + (if j = o.item.toNat then n else 0) + (if j = 0 then n * x.pr else 0) + _ + _ = _
    omega
theorem Places.keeps {o : Od} {L : List Od} {T : List Td} {o1 : Od} {L1 : List Od} {last : Int} (h : Places o L T o1 L1) : ∀ {l : Pm}, OkR o → Bk L last → PmOk l → 0 ≤ o.ct →
    (∀ j, j ≤ 3 → sumK j l + compI (heldP o) j + sumH j L ≤ cap60) → 0 ≤ o1.ct ∧ ∀ j, j ≤ 3 → sumK j (T.foldl settleP l) + compI (heldP o1) j + sumH j L1 = sumK j l + compI (heldP o) j + sumH j L := by
  induction h with
  | done o L h => intro l _ _ _ hc _; exact ⟨hc, fun j _ => rfl⟩
  | step o x L T o' L' h0 hb h ih =>
    intro l ho hk hl hct hc
    have hx := hk.ok x hb.1
    have hm : meetP o x = true := by
      have := hb.2.1
      unfold meets at this
      simp only [Bool.and_eq_true] at this
      exact this.2
    have hn1 : 1 ≤ mn o.ct x.ct := mn_pos (by omega) hx.ct.1
    have hn2 := mn_le (a := o.ct) (b := x.ct)
    have ht := tradeP_ok ho hx hm h0
    have hstep := fun j hj => trade_keeps ho hk hl h0 hb hc (j := j) hj
    obtain ⟨r1, r2⟩ := ih (l := settleP l (tradeP o x (mn o.ct x.ct))) (less_ok ho _ (by omega)) (hk.takeN hb.1 (by omega) hn2.2) (hl.settle ht) (show 0 ≤ o.ct - _ by omega) (fun j hj => by rw [hstep j hj]; exact hc j hj)
    refine ⟨r1, fun j hj => ?_⟩
    rw [← hstep j hj]
    exact r2 j hj
theorem sumH_laid {o1 : Od} (h : 0 ≤ o1.ct) (L1 : List Od) (j : Nat) : sumH j (laid o1 L1) = compI (heldP o1) j + sumH j L1 := by
  unfold laid
  split
  · rw [sumH_app]; show _ + (_ + 0) = _; omega
  · rw [held_none (show o1.ct = 0 by omega) j]; omega
/-- all that there is -/
def tot (j : Nat) (l : Pm) (L : List Od) : Int := sumK j l + sumH j L
theorem comp_sub (a b : It4) (j : Nat) : compI (subI a b) j = compI a j - compI b j := by unfold compI subI; split <;> rfl
theorem comp_add (a b : It4) (j : Nat) : compI (addI a b) j = compI a j + compI b j := by unfold compI addI; split <;> rfl
theorem tot_put (j : Nat) (l : Pm) (L : List Od) (k : By) (i : It4) : tot j (setP l k (addI (hasP l k) i)) L = tot j l L + compI i j := by
  unfold tot; rw [sumK_set, comp_add]; omega
theorem tot_take (j : Nat) (l : Pm) (L : List Od) (k : By) (i : It4) : tot j (setP l k (subI (hasP l k) i)) L = tot j l L - compI i j := by
  unfold tot; rw [sumK_set, comp_sub]; omega
theorem tot_order {l : Pm} {L : List Od} {last g : Int} {o : Od} {T : List Td} {o1 : Od} {L1 : List Od} (hl : PmOk l) (hk : Bk L last) (ho : OkO (o.num 1)) (hls : lessI (hasP l o.who.data.toList) (heldP o) = false)
    (hp : Places (o.num g) L T o1 L1) (hc : ∀ j, j ≤ 3 → tot j l L ≤ cap60) {j : Nat} (hj : j ≤ 3) :
    tot j (T.foldl settleP (setP l o.who.data.toList (subI (hasP l o.who.data.toList) (heldP o)))) (laid o1 L1) = tot j l L := by
  have hor : OkR (o.num g) := ⟨ho.who, ho.item, ho.ct.2, ho.pr⟩
  have hkey : KeyOk o.who.data.toList := keyOk_of ho.who
  have hih : isI (heldP o) = true := by have := held_is ho; rwa [held_num] at this
  have hl2 : PmOk (setP l o.who.data.toList (subI (hasP l o.who.data.toList) (heldP o))) := hl.set hkey (subI_is (hl.has _) hih hls)
  have htk := fun j => tot_take j l L o.who.data.toList (heldP o)
  obtain ⟨r1, r2⟩ := hp.keeps (l := setP l o.who.data.toList (subI (hasP l o.who.data.toList) (heldP o))) hor hk hl2 (show 0 ≤ o.ct by have : 1 ≤ o.ct := ho.ct.1; omega) (fun j hj => by
    have h1 := htk j
    have h2 := hc j hj
    unfold tot at h1 h2
    rw [held_num]
    omega)
  have h3 := r2 j hj
  have h1 := htk j
  unfold tot at h1 ⊢
  rw [sumH_laid r1]
  rw [held_num] at h3
  omega
theorem sumK_gains {l : Pm} (hl : PmOk l) {s : ByteArray} (hs : KeyOk s.data.toList) {h : It4} (hh : ∀ j, 0 ≤ compI h j) (hc : ∀ j, j ≤ 3 → sumK j l + compI h j ≤ cap60) :
    ∀ k, k ≤ 4 → PmOk (gainsP l s h k) ∧ ∀ j, j ≤ 3 → sumK j (gainsP l s h k) = sumK j l + (if j < k then compI h j else 0)
  | 0, _ => ⟨hl, fun j _ => by rw [if_neg (by omega)]; show sumK j l = _; omega⟩
  | k + 1, hk => by
    obtain ⟨h1, h2⟩ := sumK_gains hl hs hh hc k (by omega)
    refine ⟨h1.gain hs (by omega) (hh k), fun j hj => ?_⟩
    have h3 := h2 k (by omega)
    rw [if_neg (by omega)] at h3
    have h4 := hc k (by omega)
    unfold cap60 at h4
    show sumK j (gainP (gainsP l s h k) s k (compI h k)) = _
    rw [sumK_gain h1 (by omega) (hh k) (by omega) hj, h2 j hj]
    by_cases e : j = k
    · subst e
      rw [if_neg (by omega), if_pos rfl, if_pos (by omega)]; omega
    · rw [if_neg e]
      by_cases e2 : j < k
      · rw [if_pos e2, if_pos (by omega)]; omega
      · rw [if_neg e2, if_neg (by omega)]; omega
theorem tot_cancel {l : Pm} {L : List Od} {last : Int} {x : Od} {s : ByteArray} (hl : PmOk l) (hk : Bk L last) (hx : x ∈ L) (hs : KeyOk s.data.toList) (hc : ∀ j, j ≤ 3 → tot j l L ≤ cap60) {j : Nat} (hj : j ≤ 3) :
    tot j (gainsP l s (heldP x) 4) (goneO x.id L) = tot j l L := by
  have h1 := (sumK_gains hl hs (h := heldP x) (fun j => (held_comp (hk.ok x hx) j).1) (fun j hj => by
    have := hc j hj
    have := sumH_mem hk hx (j := j)
    unfold tot at *
    omega) 4 (by omega)).2 j hj
  rw [if_pos (by omega)] at h1
  unfold tot goneO
  rw [h1, sumH_filter j hk.ids hx]
  omega
end Go.Proofs.Ytdlbiobjnohfbaa
