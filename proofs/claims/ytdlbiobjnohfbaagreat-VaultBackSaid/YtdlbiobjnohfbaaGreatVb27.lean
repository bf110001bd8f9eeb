/- vault: pure: whose purses and orders there are; what all of them come to. The document's book: may, meet, best. The document's book: the best one. -/
import Derived.Test.YtdlbiobjnohfbaaGreatVb26
namespace Go.Proofs.YtdlbiobjnohfbaaGreat
open Go.RowKit Go.ChangeMaps Go.MapKept
set_option linter.unusedVariables false
set_option linter.unusedSimpArgs false
theorem len_names : ∀ {ks N : List By}, ks.Nodup → (∀ k ∈ ks, k ∈ N) → ks.length ≤ N.length
 | [], N, _, _ => Nat.zero_le _
 | k :: r, N, hn, h => by
  obtain ⟨h1, h2⟩ := List.nodup_cons.1 hn
  have hk : k ∈ N := h k List.mem_cons_self
  have h3 := len_names (N := N.erase k) h2 (fun x hx => by
   have hne : x ≠ k := fun e => h1 (e ▸ hx)
   exact (List.mem_erase_of_ne hne).2 (h x (List.mem_cons_of_mem _ hx)))
  have he := List.length_erase_of_mem hk
  have hp : 0 < N.length := List.length_pos_of_mem hk
  simp only [List.length_cons]; omega
theorem setP_names {l : Pm} {k : By} {i : It4} {N : List By} (h : ∀ p ∈ l, p.1 ∈ N) (hk : k ∈ N) : ∀ p ∈ setP l k i, p.1 ∈ N := by
 intro p hp
 unfold setP at hp
 split at hp
 · exact h p (del1_keys p hp)
 ·
  rcases put1_mem p hp with rfl | hp
  · exact hk
  · exact h p hp
theorem settle_names {l : Pm} {t : Td} {N : List By} (h : ∀ p ∈ l, p.1 ∈ N) (hb : t.buyer.data.toList ∈ N) (hs : t.seller.data.toList ∈ N) : ∀ p ∈ settleP l t, p.1 ∈ N :=
 setP_names (setP_names (setP_names h hb) hb) hs
theorem settles_names {N : List By} : ∀ {T : List Td} {l : Pm}, (∀ p ∈ l, p.1 ∈ N) → (∀ t ∈ T, t.buyer.data.toList ∈ N ∧ t.seller.data.toList ∈ N) → ∀ p ∈ T.foldl settleP l, p.1 ∈ N
 | [], l, h, _ => h
 | t :: T, l, h, ht => settles_names (T := T) (settle_names h (ht t List.mem_cons_self).1 (ht t List.mem_cons_self).2) (fun x hx => ht x (List.mem_cons_of_mem _ hx))
def NmO (N : List By) (o : Od) : Prop := o.who.data.toList ∈ N
theorem takeN_names {N : List By} {x : Od} {n : Int} {L : List Od} (h : ∀ y ∈ L, NmO N y) : ∀ y ∈ takeN x n L, NmO N y := by
 intro y hy
 unfold takeN at hy
 split at hy
 · exact h y (List.mem_filter.1 hy).1
 ·
  obtain ⟨z, hz, rfl⟩ := List.mem_map.1 hy
  split
  · exact h z hz
  · exact h z hz
theorem trade_names {N : List By} {o x : Od} {n : Int} (ho : NmO N o) (hx : NmO N x) : (tradeP o x n).buyer.data.toList ∈ N ∧ (tradeP o x n).seller.data.toList ∈ N := by
 unfold tradeP
 split
 · exact ⟨ho, hx⟩
 · exact ⟨hx, ho⟩
theorem Places.names {o : Od} {L : List Od} {T : List Td} {o1 : Od} {L1 : List Od} (h : Places o L T o1 L1) {N : List By} : NmO N o → (∀ y ∈ L, NmO N y) → (∀ t ∈ T, t.buyer.data.toList ∈ N ∧ t.seller.data.toList ∈ N) ∧ NmO N o1 ∧ ∀ y ∈ L1, NmO N y := by
 induction h with
 | done o L h => exact fun h1 h2 => ⟨fun t ht => (by cases ht), h1, h2⟩
 | step o x L T o' L' h0 hb h ih =>
  intro h1 h2
  obtain ⟨a, b, c⟩ := ih h1 (takeN_names h2)
  refine ⟨fun t ht => ?_, b, c⟩
  rcases List.mem_cons.1 ht with rfl | ht
  · exact trade_names h1 (h2 x hb.1)
  · exact a t ht
theorem gains_names {N : List By} {l : Pm} {s : ByteArray} (hs : s.data.toList ∈ N) (h : ∀ p ∈ l, p.1 ∈ N) (i : It4) : ∀ k, ∀ p ∈ gainsP l s i k, p.1 ∈ N
 | 0 => h
 | k + 1 => setP_names (gains_names hs h i k) hs
def Nms (N : List By) (l : Pm) (L : List Od) : Prop := (∀ p ∈ l, p.1 ∈ N) ∧ ∀ o ∈ L, NmO N o
theorem Nms.nil : Nms [] [] [] := ⟨fun p h => (by cases h), fun p h => (by cases h)⟩
theorem Nms.more {N : List By} {l : Pm} {L : List Od} (h : Nms N l L) (k : By) : Nms (k :: N) l L := ⟨fun p hp => List.mem_cons_of_mem _ (h.1 p hp), fun o ho => List.mem_cons_of_mem _ (h.2 o ho)⟩
theorem Nms.set {N : List By} {l : Pm} {L : List Od} (h : Nms N l L) (k : By) (i : It4) : Nms (k :: N) (setP l k i) L := ⟨setP_names (h.more k).1 List.mem_cons_self, (h.more k).2⟩
theorem Nms.order {N : List By} {l : Pm} {L : List Od} (h : Nms N l L) {o : Od} {i : It4} {T : List Td} {o1 : Od} {L1 : List Od} (hp : Places o L T o1 L1) : Nms (o.who.data.toList :: N) (T.foldl settleP (setP l o.who.data.toList i)) (laid o1 L1) := by
 have h2 := h.set o.who.data.toList i
 obtain ⟨a, b, c⟩ := hp.names (N := o.who.data.toList :: N) List.mem_cons_self h2.2
 refine ⟨settles_names h2.1 a, fun y hy => ?_⟩
 unfold Go.Proofs.YtdlbiobjnohfbaaGreat.laid at hy
 split at hy
 ·
  rcases List.mem_append.1 hy with hy | hy
  · exact c y hy
  · simp only [List.mem_singleton] at hy; subst hy; exact b
 · exact c y hy
theorem Nms.cancel {N : List By} {l : Pm} {L : List Od} (h : Nms N l L) (s : ByteArray) (i : It4) (id : Int) : Nms (s.data.toList :: N) (gainsP l s i 4) (goneO id L) :=
 ⟨gains_names List.mem_cons_self (h.more _).1 i 4, fun y hy => (h.more _).2 y (List.mem_filter.1 hy).1⟩
theorem Nms.len {N : List By} {l : Pm} {L : List Od} (h : Nms N l L) (hn : (l.map (·.1)).Nodup) : l.length ≤ N.length := by
 have := len_names hn (N := N) (fun k hk => by obtain ⟨p, hp, rfl⟩ := List.mem_map.1 hk; exact h.1 p hp)
 simpa using this
theorem hasNilV (k : By) : hasP [] k = z4 := rfl
theorem has_cons (a : By) (x : It4) (r : Pm) (k : By) : hasP ((a, x) :: r) k = if a = k then x else hasP r k := by
 simp only [hasP, get1]
 split <;> rfl
end Go.Proofs.YtdlbiobjnohfbaaGreat
namespace Go.Proofs.YtdlbiobjnohfbaaGreat
open Go.RowKit
set_option linter.unusedVariables false
set_option linter.unusedSimpArgs false
set_option maxHeartbeats 2000000 in
theorem refMay (o : Od) (w : World) :
  Calls Tryz.prog 47 #[.agg #[.int .i64 o.id, .string o.who, .bool o.buy, .int .i64 o.item, .int .i64 o.ct, .int .i64 o.pr]] w fun e w' => e = .returned (.bool (decide (OkO o))) ∧ Below w.heap.size w w' := by
 by_cases h0 : 1 ≤ o.id
 case neg =>
  have hno : decide (OkO o) = false := decide_eq_false (fun h => h0 (by have := (OkO_iff o).1 h; omega))
  rw [hno]
  go_enter Tryz.func47, Tryz.ntmps47
  go_wp2_with fail
  go_ret
  exact ⟨ret_bool (by simp [*]), by exact tB⟩
 by_cases h1 : o.id ≤ 1099511627776
 case neg =>
  have hno : decide (OkO o) = false := decide_eq_false (fun h => h1 (by have := (OkO_iff o).1 h; omega))
  rw [hno]
  go_enter Tryz.func47, Tryz.ntmps47
  go_wp2_with fail
  go_ret
  exact ⟨ret_bool (by simp [*]), by exact tB⟩
 by_cases h2 : 1 ≤ o.who.size
 case neg =>
  have hno : decide (OkO o) = false := decide_eq_false (fun h => h2 (by have := (OkO_iff o).1 h; omega))
  rw [hno]
  have g2 : ¬ (1 : Int) ≤ (o.who.size : Int) := by omega
  go_enter Tryz.func47, Tryz.ntmps47
  go_wp2_with fail
  go_ret
  exact ⟨ret_bool (by simp [*]), by exact tB⟩
 have g2 : (1 : Int) ≤ (o.who.size : Int) := by omega
 by_cases h3 : o.who.size ≤ 16
 case neg =>
  have hno : decide (OkO o) = false := decide_eq_false (fun h => h3 (by have := (OkO_iff o).1 h; omega))
  rw [hno]
  have g3 : ¬ (o.who.size : Int) ≤ 16 := by omega
  go_enter Tryz.func47, Tryz.ntmps47
  go_wp2_with fail
  go_ret
  exact ⟨ret_bool (by simp [*]), by exact tB⟩
 have g3 : (o.who.size : Int) ≤ 16 := by omega
 by_cases h4 : 1 ≤ o.item
 case neg =>
  have hno : decide (OkO o) = false := decide_eq_false (fun h => h4 (by have := (OkO_iff o).1 h; omega))
  rw [hno]
  go_enter Tryz.func47, Tryz.ntmps47
  go_wp2_with fail
  go_ret
  exact ⟨ret_bool (by simp [*]), by exact tB⟩
 by_cases h5 : o.item ≤ 3
 case neg =>
  have hno : decide (OkO o) = false := decide_eq_false (fun h => h5 (by have := (OkO_iff o).1 h; omega))
  rw [hno]
  go_enter Tryz.func47, Tryz.ntmps47
  go_wp2_with fail
  go_ret
  exact ⟨ret_bool (by simp [*]), by exact tB⟩
 by_cases h6 : 1 ≤ o.ct
 case neg =>
  have hno : decide (OkO o) = false := decide_eq_false (fun h => h6 (by have := (OkO_iff o).1 h; omega))
  rw [hno]
  go_enter Tryz.func47, Tryz.ntmps47
  go_wp2_with fail
  go_ret
  exact ⟨ret_bool (by simp [*]), by exact tB⟩
 by_cases h7 : o.ct ≤ 1048576
 case neg =>
  have hno : decide (OkO o) = false := decide_eq_false (fun h => h7 (by have := (OkO_iff o).1 h; omega))
  rw [hno]
  go_enter Tryz.func47, Tryz.ntmps47
  go_wp2_with fail
  go_ret
  exact ⟨ret_bool (by simp [*]), by exact tB⟩
 by_cases h8 : 1 ≤ o.pr
 case neg =>
  have hno : decide (OkO o) = false := decide_eq_false (fun h => h8 (by have := (OkO_iff o).1 h; omega))
  rw [hno]
  go_enter Tryz.func47, Tryz.ntmps47
  go_wp2_with fail
  go_ret
  exact ⟨ret_bool (by simp [*]), by exact tB⟩
 by_cases h9 : o.pr ≤ 1024
 case neg =>
  have hno : decide (OkO o) = false := decide_eq_false (fun h => h9 (by have := (OkO_iff o).1 h; omega))
  rw [hno]
  go_enter Tryz.func47, Tryz.ntmps47
  go_wp2_with fail
  go_ret
  exact ⟨ret_bool (by simp [*]), by exact tB⟩
 have hyes : decide (OkO o) = true := decide_eq_true ((OkO_iff o).2 ⟨h0, h1, h2, h3, h4, by omega, h6, h7, h8, h9⟩)
 rw [hyes]
 go_enter Tryz.func47, Tryz.ntmps47
 go_wp2_with fail
 go_ret
 exact ⟨ret_bool (by simp [*]), by exact tB⟩
set_option maxHeartbeats 1000000 in
theorem refMeet (o x : Od) (w : World) :
  Calls Tryz.prog 106 #[.agg #[.int .i64 o.id, .string o.who, .bool o.buy, .int .i64 o.item, .int .i64 o.ct, .int .i64 o.pr], .agg #[.int .i64 x.id, .string x.who, .bool x.buy, .int .i64 x.item, .int .i64 x.ct, .int .i64 x.pr]] w fun e w' => e = .returned (.bool (meets o x)) ∧ Below w.heap.size w w' := by
 by_cases hi : o.item = x.item
 ·
  cases hb : o.buy <;> cases hc : x.buy
  all_goals
   go_enter Tryz.func106, Tryz.ntmps106
   go_wp2_with fail
   go_ret
   exact ⟨ret_bool (by simp [meets, meetP, hb, hc, hi]), by exact tB⟩
 ·
  cases hb : o.buy <;> cases hc : x.buy
  all_goals
   go_enter Tryz.func106, Tryz.ntmps106
   go_wp2_with fail
   go_ret
   exact ⟨ret_bool (by simp [meets, hi]), by exact tB⟩
structure RfB (w : World) (B x : Nat) (u : Value) (L : List Od) (last : Int) : Prop where
 blk : Whl w x 68 #[u, .int .i64 last]
 row : w.ownsRow B 38 6 u L.length (flatO L)
 apart : ∀ g, u.ownBlock = some g → g ≠ x
 low : B ≤ x
def BestAt (o : Od) (L : List Od) (i : Nat) (k : Int) : Prop := (k = -1 ∧ NoneMeets o (L.take i)) ∨ ∃ kn : Nat, k = kn ∧ kn < i ∧ ∃ h : kn < L.length, Best o L[kn] (L.take i)
theorem BestAt.zero (o : Od) (L : List Od) : BestAt o L 0 (-1) := .inl ⟨rfl, by intro y hy; simp at hy⟩
theorem BestAt.skip {o : Od} {L : List Od} {i : Nat} {k : Int} (h : BestAt o L i k) (hi : i < L.length) (hm : meets o L[i] = false) : BestAt o L (i + 1) k := by
 rcases h with ⟨rfl, hn⟩ | ⟨kn, rfl, hk, hkl, hb⟩
 ·
  refine .inl ⟨rfl, fun y hy => ?_⟩
  rw [take_succ' hi] at hy
  rcases List.mem_append.1 hy with hy | hy
  · exact hn y hy
  · simp at hy; subst hy; exact hm
 ·
  refine .inr ⟨kn, rfl, by omega, hkl, ?_, hb.2.1, fun y hy hm2 => ?_⟩
  · rw [take_succ' hi]; exact List.mem_append_left _ hb.1
  ·
   rw [take_succ' hi] at hy
   rcases List.mem_append.1 hy with hy | hy
   · exact hb.2.2 y hy hm2
   · simp at hy; subst hy; rw [hm] at hm2; cases hm2
theorem meets_buy {o x : Od} (h : meets o x = true) : x.buy = !o.buy := by
 unfold meets at h
 simp only [Bool.and_eq_true, bne_iff_ne, ne_eq] at h
 revert h; cases o.buy <;> cases x.buy <;> simp
theorem BestAt.first {o : Od} {L : List Od} {i : Nat} (h : BestAt o L i (-1)) (hi : i < L.length) (hm : meets o L[i] = true) : BestAt o L (i + 1) i := by
 rcases h with ⟨_, hn⟩ | ⟨kn, e, _⟩
 ·
  refine .inr ⟨i, rfl, by omega, hi, ?_, hm, fun y hy hm2 => ?_⟩
  · rw [take_succ' hi]; exact List.mem_append_right _ (List.mem_singleton.2 rfl)
  ·
   rw [take_succ' hi] at hy
   rcases List.mem_append.1 hy with hy | hy
   · rw [hn y hy] at hm2; cases hm2
   · simp at hy; subst hy; exact Int.le_refl _
 · omega
theorem key_lt {o a b : Od} (ha : a.buy = !o.buy) (hb : b.buy = !o.buy) (ka : 1 ≤ a.id ∧ a.id ≤ 1099511627776) (kb : 1 ≤ b.id ∧ b.id ≤ 1099511627776) (h : if o.buy then a.pr < b.pr else b.pr < a.pr) : key a < key b := by
 unfold key
 rw [ha, hb]
 cases hq : o.buy <;> rw [hq] at h <;> simp at h ⊢ <;> omega
theorem key_le {o a b : Od} (ha : a.buy = !o.buy) (hb : b.buy = !o.buy) (ka : 1 ≤ a.id ∧ a.id ≤ 1099511627776) (kb : 1 ≤ b.id ∧ b.id ≤ 1099511627776) (h : if o.buy then ¬ b.pr < a.pr else ¬ a.pr < b.pr) (hid : a.id ≤ b.id) : key a ≤ key b := by
 unfold key
 rw [ha, hb]
 cases hq : o.buy <;> rw [hq] at h <;> simp at h ⊢ <;> omega
theorem BestAt.better {o : Od} {L : List Od} {last : Int} {i kn : Nat} (hbk : Bk L last) (h : BestAt o L i kn) (hi : i < L.length) (hkl : kn < L.length) (hm : meets o L[i] = true) (hp : if o.buy then L[i].pr < L[kn].pr else L[kn].pr < L[i].pr) : BestAt o L (i + 1) i := by
 rcases h with ⟨e, _⟩ | ⟨k2, e, hk, _, hb⟩
 · omega
 ·
  obtain rfl : kn = k2 := by omega
  have hlt := key_lt (meets_buy hm) (meets_buy hb.2.1) (hbk.ok _ (List.getElem_mem hi)).id (hbk.ok _ (List.getElem_mem hkl)).id hp
  refine .inr ⟨i, rfl, by omega, hi, ?_, hm, fun y hy hm2 => ?_⟩
  · rw [take_succ' hi]; exact List.mem_append_right _ (List.mem_singleton.2 rfl)
  ·
   rw [take_succ' hi] at hy
   rcases List.mem_append.1 hy with hy | hy
   · have := hb.2.2 y hy hm2; omega
   · simp at hy; subst hy; exact Int.le_refl _
theorem BestAt.stays {o : Od} {L : List Od} {last : Int} {i kn : Nat} (hbk : Bk L last) (h : BestAt o L i kn) (hi : i < L.length) (hkl : kn < L.length) (hm : meets o L[i] = true) (hp : if o.buy then ¬ L[i].pr < L[kn].pr else ¬ L[kn].pr < L[i].pr) : BestAt o L (i + 1) kn := by
 rcases h with ⟨e, _⟩ | ⟨k2, e, hk, _, hb⟩
 · omega
 ·
  obtain rfl : kn = k2 := by omega
  have hid : L[kn].id < L[i].id := List.pairwise_iff_getElem.1 hbk.ids kn i hkl hi hk
  have hle := key_le (meets_buy hb.2.1) (meets_buy hm) (hbk.ok _ (List.getElem_mem hkl)).id (hbk.ok _ (List.getElem_mem hi)).id hp (by omega)
  refine .inr ⟨kn, rfl, by omega, hkl, ?_, hb.2.1, fun y hy hm2 => ?_⟩
  · rw [take_succ' hi]; exact List.mem_append_left _ hb.1
  ·
   rw [take_succ' hi] at hy
   rcases List.mem_append.1 hy with hy | hy
   · exact hb.2.2 y hy hm2
   · simp at hy; subst hy; exact hle
theorem BestAt.whole {o : Od} {L : List Od} {k : Int} (h : BestAt o L L.length k) : (k = -1 ∧ NoneMeets o L) ∨ ∃ kn : Nat, k = kn ∧ ∃ h : kn < L.length, Best o L[kn] L := by
 unfold BestAt at h
 rw [List.take_length] at h
 rcases h with h | ⟨kn, e, _, h, hb⟩
 · exact .inl h
 · exact .inr ⟨kn, e, h, hb⟩
set_option maxHeartbeats 4000000 in
set_option maxRecDepth 10000 in
theorem refBest (B x : Nat) (u : Value) (L : List Od) (last : Int) (o : Od) (w : World) (h : RfB w B x u L last) (hk : Bk L last) (hl : L.length ≤ 1000) :
  Calls Tryz.prog 89 #[.pointer (some ⟨x, 0, none⟩), .agg #[.int .i64 o.id, .string o.who, .bool o.buy, .int .i64 o.item, .int .i64 o.ct, .int .i64 o.pr]] w fun e w' => ∃ k, e = .returned (.int .i64 k) ∧ BestAt o L L.length k ∧ Below w.heap.size w w' := by
 have HB := Lib.hid h
 have hx0 := (h.blk.cell 0).trans (show (#[u, Value.int .i64 last] : Array Value)[0]? = some u from rfl)
 obtain ⟨A, c, rfl, _, hnc, hc⟩ := own_slice h.row
 have hxl := h.blk.low
 obtain ⟨bb, hbb⟩ : ∃ q, q = o.buy := ⟨_, rfl⟩
 obtain ⟨op, hop⟩ : ∃ q, q = o.pr := ⟨_, rfl⟩
 rw [← hbb, ← hop]
 have HBB := Lib.hid hbb
 have HOP := Lib.hid hop
 clear hbb hop h
 go_enter Tryz.func89, Tryz.ntmps89
 go_wp2_with fail
 go_loopw [5, 6] (fun kv iv wr => ∃ (i : Nat) (k : Int), i ≤ L.length ∧ iv = .int .i64 i ∧ kv = .int .i64 k ∧ BestAt o L i k ∧ Below w.heap.size w wr ∧ Whl wr w.heap.size 38 #[.int .i64 o.id, .string o.who, .bool bb, .int .i64 o.item, .int .i64 o.ct, .int .i64 op] ∧ w.heap.size < wr.heap.size) (fun _ iv _ => L.length - (intOf iv).toNat)
 case atStart => exact ⟨0, -1, Nat.zero_le _, rfl, rfl, BestAt.zero o L, by exact tB, Whl.new rfl, by simp⟩
 case round =>
  obtain ⟨i, k, hil, rfl, rfl, hB, hBw, hW, hsz⟩ := hrel
  have HBE := Lib.hid hB
  have HW := Lib.hid hW
  have HBW := Lib.hid hBw
  have b0 := hW.cell 0
  have b1 := hW.cell 1
  have b2 := hW.cell 2
  have b3 := hW.cell 3
  have b4 := hW.cell 4
  have b5 := hW.cell 5
  simp only [List.getElem?_toArray, List.getElem?_cons_zero, List.getElem?_cons_succ] at b0 b1 b2 b3 b4 b5
  have hx1 := bkeep hBw hx0 hxl
  clear hB hBw hW
  by_cases hlt : i < L.length
  ·
   have q3 : (i : Int) < (L.length : Int) := by omega
   obtain ⟨gu, ku, e5, _, hgu, _, _⟩ := own_form HB.out.row (by omega)
   injection e5 with e5 e6 e7
   subst e5 e7
   obtain ⟨y, hy⟩ : ∃ y, y = L[i] := ⟨_, rfl⟩
   obtain ⟨r0, r1, r2, r3, r4, r5⟩ := flatO_at L i hlt
   have d0 := bkeep HBW.out ((HB.out.row.cellAt (i * 6) (ixO0 hlt)).trans r0) hgu
   have d1 := bkeep HBW.out ((HB.out.row.cellAt (i * 6 + 1) (ixO hlt 1 (by decide))).trans r1) hgu
   have d2 := bkeep HBW.out ((HB.out.row.cellAt (i * 6 + 2) (ixO hlt 2 (by decide))).trans r2) hgu
   have d3 := bkeep HBW.out ((HB.out.row.cellAt (i * 6 + 3) (ixO hlt 3 (by decide))).trans r3) hgu
   have d4 := bkeep HBW.out ((HB.out.row.cellAt (i * 6 + 4) (ixO hlt 4 (by decide))).trans r4) hgu
   have d5 := bkeep HBW.out ((HB.out.row.cellAt (i * 6 + 5) (ixO hlt 5 (by decide))).trans r5) hgu
   rw [← hy] at d0 d1 d2 d3 d4 d5
   have HY := Lib.hid hy
   clear r0 r1 r2 r3 r4 r5 hy
   go_wp2_with fail
   go_still_tail 8, (by kernel_rfl)
   change wpList _ _ _ _ _ wr.drew
   have e0 : Below wr.heap.size wr wr.drew := (Below.refl _ _).drew
   have HE0 := Lib.hid e0
   have hsd : wr.drew.heap.size = wr.heap.size := rfl
   have hmt := refMeet o y
   rw [← HBB.out, ← HOP.out] at hmt
   have HMT := Lib.hid hmt
   clear e0 hmt
   generalize wr.drew = wd at *
   by_cases hm : meets o y = true
   ·
    go_wp2_with (first
     | (go_at_call 106; go_loud (refine (HMT.out _).mono ?_; rw [hm]; rintro e w2 ⟨rfl, hb2⟩; have HB2 := Lib.hid hb2))
     | fail)
    have hex : Below wr.heap.size wr w2 := HE0.out.trans (HB2.out.mono (by have := HE0.out.size; omega))
    have HEX := Lib.hid hex
    have b2 := bkeep hex b2 hsz
    have hx1 := bkeep hex hx1 (by omega)
    have d5 := bkeep hex d5 (by omega)
    clear b0 b1 b3 b4 b5 d0 d1 d2 d3 d4 hex
    have hmy := hm
    rw [HY.out] at hmy
    have HM := Lib.hid hmy
    rcases HBE.out with ⟨rfl, hn⟩ | ⟨kn, rfl, hkn, hkl, hbst⟩
    ·
     clear hn hmy
     have q4 : decide ((-1 : Int) < 0) = true := rfl
     go_quiet (fail)
     go_wp2_with fail
     refine ⟨⟨i + 1, _, hlt, by go_num, rfl, ?_, b_drewN (HBW.out.trans (HEX.out.mono (by omega))), HW.out.below (b_drewN HEX.out) hsz, Nat.lt_of_lt_of_le hsz HEX.out.size⟩, measI hlt⟩
     exact HBE.out.first hlt HM.out
    ·
     have q5 : (kn : Int) < (L.length : Int) := by omega
     obtain ⟨z, hz⟩ : ∃ z, z = L[kn] := ⟨_, rfl⟩
     obtain ⟨_, _, _, _, _, r5⟩ := flatO_at L kn hkl
     have z5 := bkeep HEX.out (bkeep HBW.out ((HB.out.row.cellAt (kn * 6 + 5) (ixO hkl 5 (by decide))).trans r5) hgu) (by omega)
     rw [← hz] at z5
     have HZ := Lib.hid hz
     obtain ⟨yp, hyp⟩ : ∃ q, q = y.pr := ⟨_, rfl⟩
     obtain ⟨zp, hzp⟩ : ∃ q, q = z.pr := ⟨_, rfl⟩
     rw [← hyp] at d5
     rw [← hzp] at z5
     have hyq : yp = (L[i]).pr := by rw [hyp, HY.out]
     have hzq : zp = (L[kn]).pr := by rw [hzp, HZ.out]
     have HYP := Lib.hid hyq
     have HZP := Lib.hid hzq
     have q4 : decide ((kn : Int) < 0) = false := decide_eq_false (by omega)
     clear r5 hbst hmy hz hyp hzp hyq hzq
     cases bb with
     | true =>
      by_cases hp : yp < zp
      ·
       go_quiet (fail)
       go_wp2_with fail
       refine ⟨⟨i + 1, _, hlt, by go_num, rfl, ?_, b_drewN (HBW.out.trans (HEX.out.mono (by omega))), HW.out.below (b_drewN HEX.out) hsz, Nat.lt_of_lt_of_le hsz HEX.out.size⟩, measI hlt⟩
       exact HBE.out.better hk hlt hkl HM.out (by rw [← HBB.out, ← HYP.out, ← HZP.out]; exact hp)
      ·
       have hp' : decide (yp < zp) = false := decide_eq_false hp
       go_quiet (fail)
       go_wp2_with fail
       refine ⟨⟨i + 1, _, hlt, by go_num, rfl, ?_, b_drewN (HBW.out.trans (HEX.out.mono (by omega))), HW.out.below (b_drewN HEX.out) hsz, Nat.lt_of_lt_of_le hsz HEX.out.size⟩, measI hlt⟩
       exact HBE.out.stays hk hlt hkl HM.out (by rw [← HBB.out, ← HYP.out, ← HZP.out]; exact hp)
     | false =>
      by_cases hp : zp < yp
      ·
       go_quiet (fail)
       go_wp2_with fail
       refine ⟨⟨i + 1, _, hlt, by go_num, rfl, ?_, b_drewN (HBW.out.trans (HEX.out.mono (by omega))), HW.out.below (b_drewN HEX.out) hsz, Nat.lt_of_lt_of_le hsz HEX.out.size⟩, measI hlt⟩
       exact HBE.out.better hk hlt hkl HM.out (by rw [← HBB.out, ← HYP.out, ← HZP.out]; exact hp)
      ·
       have hp' : decide (zp < yp) = false := decide_eq_false hp
       go_quiet (fail)
       go_wp2_with fail
       refine ⟨⟨i + 1, _, hlt, by go_num, rfl, ?_, b_drewN (HBW.out.trans (HEX.out.mono (by omega))), HW.out.below (b_drewN HEX.out) hsz, Nat.lt_of_lt_of_le hsz HEX.out.size⟩, measI hlt⟩
       exact HBE.out.stays hk hlt hkl HM.out (by rw [← HBB.out, ← HYP.out, ← HZP.out]; exact hp)
   ·
    have hm : meets o y = false := by simpa using hm
    have hmy := hm
    rw [HY.out] at hmy
    have HM := Lib.hid hmy
    clear hmy
    go_wp2_with (first
     | (go_at_call 106; go_loud (refine (HMT.out _).mono ?_; rw [hm]; rintro e w2 ⟨rfl, hb2⟩; have HB2 := Lib.hid hb2))
     | fail)
    have HEX : Hid (Below wr.heap.size wr w2) := Lib.hid (HE0.out.trans (HB2.out.mono (by have := HE0.out.size; omega)))
    exact ⟨⟨i + 1, _, hlt, by go_num, rfl, HBE.out.skip hlt HM.out, HBW.out.trans (HEX.out.mono (by omega)), HW.out.below HEX.out hsz, Nat.lt_of_lt_of_le hsz HEX.out.size⟩, measI hlt⟩
  ·
   obtain rfl : L.length = i := by omega
   go_wp2_with fail
   go_ret
   exact ⟨_, rfl, HBE.out, HBW.out⟩
end Go.Proofs.YtdlbiobjnohfbaaGreat
