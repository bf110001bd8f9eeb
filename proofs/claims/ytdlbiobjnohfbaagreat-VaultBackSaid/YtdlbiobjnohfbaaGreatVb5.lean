/- Books, pure: orders by their numbers; what an order that is placed trades. container/heap on a side: down. -/
import Derived.Test.YtdlbiobjnohfbaaGreatVb2
namespace Go.Proofs.YtdlbiobjnohfbaaGreat
set_option linter.unusedVariables false
set_option linter.unusedSimpArgs false
structure Td where
 buyer : ByteArray
 seller : ByteArray
 buy : Int
 sell : Int
 item : Int
 ct : Int
 pr : Int
 bid : Int
def tdV (t : Td) : List Value := [.string t.buyer, .string t.seller, .int .i64 t.buy, .int .i64 t.sell, .int .i64 t.item, .int .i64 t.ct, .int .i64 t.pr, .int .i64 t.bid]
def flatT (l : List Td) : List Value := l.flatMap tdV
theorem flatT_app (a b : List Td) : flatT (a ++ b) = flatT a ++ flatT b := by simp [flatT]
theorem flatT_at : ∀ (l : List Td) (j : Nat) (h : j < l.length), (flatT l)[j * 8]? = some (.string l[j].buyer) ∧ (flatT l)[j * 8 + 1]? = some (.string l[j].seller) ∧ (flatT l)[j * 8 + 2]? = some (.int .i64 l[j].buy) ∧ (flatT l)[j * 8 + 3]? = some (.int .i64 l[j].sell) ∧ (flatT l)[j * 8 + 4]? = some (.int .i64 l[j].item) ∧ (flatT l)[j * 8 + 5]? = some (.int .i64 l[j].ct) ∧ (flatT l)[j * 8 + 6]? = some (.int .i64 l[j].pr) ∧ (flatT l)[j * 8 + 7]? = some (.int .i64 l[j].bid)
 | [], j, h => by cases h
 | a :: r, 0, h => by simp [flatT, tdV]
 | a :: r, j + 1, h => by
  have := flatT_at r j (by simpa using h)
  have e : (j + 1) * 8 = j * 8 + 8 := by omega
  simp only [flatT, List.flatMap_cons, tdV, List.getElem_cons_succ] at this ⊢
  rw [e]
  exact this
def meetP (o x : Od) : Bool := if o.buy then decide (x.pr ≤ o.pr) else decide (o.pr ≤ x.pr)
def meets (o x : Od) : Bool := decide (o.item = x.item) && (o.buy != x.buy) && meetP o x
def tradeP (o x : Od) (n : Int) : Td :=
 if o.buy then ⟨o.who, x.who, o.id, x.id, o.item, n, x.pr, o.pr⟩ else ⟨x.who, o.who, x.id, o.id, o.item, n, x.pr, x.pr⟩
def less (o : Od) (n : Int) : Od := ⟨o.id, o.who, o.buy, o.item, o.ct - n, o.pr⟩
def takeN (x : Od) (n : Int) (L : List Od) : List Od := if x.ct = n then L.filter (fun y => decide (y.id ≠ x.id)) else L.map fun y => if y.id = x.id then less y n else y
def Best (o x : Od) (L : List Od) : Prop := x ∈ L ∧ meets o x = true ∧ ∀ y ∈ L, meets o y = true → key x ≤ key y
def NoneMeets (o : Od) (L : List Od) : Prop := ∀ y ∈ L, meets o y = false
def mn (a b : Int) : Int := if a ≤ b then a else b
inductive Places : Od → List Od → List Td → Od → List Od → Prop
 | done (o : Od) (L : List Od) (h : o.ct ≤ 0 ∨ NoneMeets o L) : Places o L [] o L
 | step (o x : Od) (L : List Od) (T : List Td) (o' : Od) (L' : List Od) (h0 : 0 < o.ct) (hb : Best o x L) (h : Places (less o (mn o.ct x.ct)) (takeN x (mn o.ct x.ct) L) T o' L') : Places o L (tradeP o x (mn o.ct x.ct) :: T) o' L'
def Ids (L : List Od) : Prop := L.Pairwise fun a b => a.id < b.id
theorem Ids.inj {L : List Od} (h : Ids L) {a b : Od} (ha : a ∈ L) (hb : b ∈ L) (e : a.id = b.id) : a = b := by
 induction L with
 | nil => cases ha
 | cons c r ih =>
  obtain ⟨h1, h2⟩ := List.pairwise_cons.1 h
  rcases List.mem_cons.1 ha with e1 | ha
  ·
   rcases List.mem_cons.1 hb with e2 | hb
   · rw [e1, e2]
   · have := h1 b hb; subst e1; omega
  ·
   rcases List.mem_cons.1 hb with e2 | hb
   · have := h1 a ha; subst e2; omega
   · exact ih h2 ha hb
theorem key_inj {a b : Od} (h : a.buy = b.buy) (ha : 1 ≤ a.id ∧ a.id ≤ 1099511627776) (hb : 1 ≤ b.id ∧ b.id ≤ 1099511627776) (e : key a = key b) : a.id = b.id := by
 unfold key at e
 rw [← h] at e
 cases hq : a.buy <;> rw [hq] at e <;> simp at e <;> omega
structure Bk (L : List Od) (last : Int) : Prop where
 ids : Ids L
 ok : ∀ o ∈ L, OkO o
 low : ∀ o ∈ L, o.id ≤ last
 top : last ≤ 1099511627776
 zero : 0 ≤ last
theorem Bk.nil : Bk [] 0 := ⟨List.Pairwise.nil, by simp, by simp, by omega, by omega⟩
theorem Best.one {L : List Od} {last : Int} (h : Bk L last) {o x y : Od} (hx : Best o x L) (hy : Best o y L) : x = y := by
 have k1 := hx.2.2 y hy.1 hy.2.1
 have k2 := hy.2.2 x hx.1 hx.2.1
 have e : key x = key y := by omega
 have b : x.buy = y.buy := by
  have h1 := hx.2.1
  have h2 := hy.2.1
  unfold meets at h1 h2
  simp only [Bool.and_eq_true, bne_iff_ne, ne_eq] at h1 h2
  revert h1 h2
  cases o.buy <;> cases x.buy <;> cases y.buy <;> simp
 exact h.ids.inj hx.1 hy.1 (key_inj b (h.ok x hx.1).id (h.ok y hy.1).id e)
theorem takeN_mem {x y : Od} {n : Int} {L : List Od} (h : y ∈ takeN x n L) : (∃ z ∈ L, z.id = y.id ∧ ((z.id ≠ x.id ∧ y = z) ∨ (z.id = x.id ∧ x.ct ≠ n ∧ y = less z n))) := by
 unfold takeN at h
 by_cases e : x.ct = n
 ·
  rw [if_pos e] at h
  obtain ⟨h1, h2⟩ := List.mem_filter.1 h
  exact ⟨y, h1, rfl, .inl ⟨by simpa using h2, rfl⟩⟩
 ·
  rw [if_neg e] at h
  obtain ⟨z, hz, rfl⟩ := List.mem_map.1 h
  by_cases e2 : z.id = x.id
  · exact ⟨z, hz, by simp [e2, less], .inr ⟨e2, e, by simp [e2]⟩⟩
  · exact ⟨z, hz, by simp [e2], .inl ⟨e2, by simp [e2]⟩⟩
theorem mn_le {a b : Int} : mn a b ≤ a ∧ mn a b ≤ b := by unfold mn; split <;> omega
theorem mn_pos {a b : Int} (ha : 1 ≤ a) (hb : 1 ≤ b) : 1 ≤ mn a b := by unfold mn; split <;> omega
theorem OkO.less {o : Od} (h : OkO o) {n : Int} (h0 : 0 ≤ n) (hn : n < o.ct) : OkO (less o n) := ⟨h.id, h.who, h.item, by have := h.ct; show 1 ≤ o.ct - n ∧ o.ct - n ≤ 1048576; omega, h.pr⟩
theorem takeN_ids {x : Od} {n : Int} {L : List Od} (h : Ids L) : Ids (takeN x n L) := by
 unfold takeN
 split
 · exact List.Pairwise.filter _ h
 ·
  refine List.pairwise_map.2 (List.Pairwise.imp ?_ h)
  intro a b hab
  have e : ∀ z : Od, (if z.id = x.id then Go.Proofs.YtdlbiobjnohfbaaGreat.less z n else z).id = z.id := fun z => by split <;> rfl
  rw [e, e]; exact hab
theorem Bk.takeN {L : List Od} {last : Int} (h : Bk L last) {x : Od} (hx : x ∈ L) {n : Int} (h0 : 0 ≤ n) (hn : n ≤ x.ct) : Bk (takeN x n L) last := by
 refine ⟨takeN_ids h.ids, ?_, ?_, h.top, h.zero⟩
 ·
  intro y hy
  obtain ⟨z, hz, _, ⟨_, rfl⟩ | ⟨e, hne, rfl⟩⟩ := takeN_mem hy
  · exact h.ok _ hz
  ·
   have := h.ids.inj hz hx e; subst this
   exact (h.ok _ hz).less h0 (by omega)
 ·
  intro y hy
  obtain ⟨z, hz, e, _⟩ := takeN_mem hy
  rw [← e]; exact h.low z hz
theorem Places.det {o : Od} {L : List Od} {T T' : List Td} {o1 o2 : Od} {L1 L2 : List Od} {last : Int} (h : Places o L T o1 L1) : Bk L last → Places o L T' o2 L2 → T = T' ∧ o1 = o2 ∧ L1 = L2 := by
 induction h generalizing T' o2 L2 with
 | done o L h =>
  intro hb k
  cases k with
  | done _ _ _ => exact ⟨rfl, rfl, rfl⟩
  | step o x L T o' L' h0 hbst _ =>
   rcases h with h | h
   · omega
   · have := h x hbst.1; rw [hbst.2.1] at this; cases this
 | step o x L T o' L' h0 hbst _ ih =>
  intro hb k
  cases k with
  | done _ _ h =>
   rcases h with h | h
   · omega
   · have := h x hbst.1; rw [hbst.2.1] at this; cases this
  | step _ y _ T2 _ _ _ hy k =>
   have e := Best.one hb hbst hy
   subst e
   have := ih (hb.takeN hbst.1 (by have := mn_pos (show (1 : Int) ≤ o.ct by omega) (hb.ok x hbst.1).ct.1; omega) mn_le.2) k
   exact ⟨by rw [this.1], this.2⟩
theorem Places.bk {o : Od} {L : List Od} {T : List Td} {o1 : Od} {L1 : List Od} {last : Int} (h : Places o L T o1 L1) : Bk L last → Bk L1 last ∧ o1.id = o.id ∧ o1.who = o.who ∧ o1.buy = o.buy ∧ o1.item = o.item ∧ o1.pr = o.pr ∧ o1.ct ≤ o.ct ∧ (o1.ct ≤ 0 ∨ NoneMeets o1 L1) ∧ (0 ≤ o.ct → 0 ≤ o1.ct) ∧ L1.length ≤ L.length := by
 induction h with
 | done o L h => intro hb; exact ⟨hb, rfl, rfl, rfl, rfl, rfl, Int.le_refl _, h, fun h => h, Nat.le_refl _⟩
 | step o x L T o' L' h0 hbst _ ih =>
  intro hb
  have hp := mn_pos (show (1 : Int) ≤ o.ct by omega) (hb.ok x hbst.1).ct.1
  obtain ⟨a1, a2, a3, a4, a5, a6, a7, a8, a9, a10⟩ := ih (hb.takeN hbst.1 (by omega) mn_le.2)
  have hl : (Go.Proofs.YtdlbiobjnohfbaaGreat.takeN x (mn o.ct x.ct) L).length ≤ L.length := by
   unfold Go.Proofs.YtdlbiobjnohfbaaGreat.takeN
   split
   · exact List.length_filter_le _ _
   · rw [List.length_map]; exact Nat.le_refl _
  have hm := mn_le (a := o.ct) (b := x.ct)
  refine ⟨a1, a2, a3, a4, a5, a6, ?_, a8, fun _ => a9 ?_, Nat.le_trans a10 hl⟩
  ·
   have : (less o (mn o.ct x.ct)).ct = o.ct - mn o.ct x.ct := rfl
   omega
  ·
   show 0 ≤ o.ct - mn o.ct x.ct
   omega
def laid (o : Od) (L : List Od) : List Od := if 0 < o.ct then L ++ [o] else L
theorem Bk.laid {L : List Od} {last : Int} (h : Bk L last) {o : Od} (ho : OkO o) (hl : last < o.id) {o1 : Od} (hid : o1.id = o.id) (hw : o1.who = o.who) (hi : o1.item = o.item) (hp : o1.pr = o.pr) (hc : o1.ct ≤ o.ct) : Bk (laid o1 L) o.id := by
 unfold Go.Proofs.YtdlbiobjnohfbaaGreat.laid
 have hz := h.zero
 split
 ·
  rename_i h0
  refine ⟨List.pairwise_append.2 ⟨h.ids, by simp, ?_⟩, ?_, ?_, ho.id.2, by omega⟩
  ·
   intro a ha b hb
   simp only [List.mem_singleton] at hb
   subst hb
   have := h.low a ha; omega
  ·
   intro a ha
   rcases List.mem_append.1 ha with ha | ha
   · exact h.ok a ha
   ·
    simp only [List.mem_singleton] at ha
    subst ha
    exact ⟨by rw [hid]; exact ho.id, by rw [hw]; exact ho.who, by rw [hi]; exact ho.item, by have := ho.ct; omega, by rw [hp]; exact ho.pr⟩
  ·
   intro a ha
   rcases List.mem_append.1 ha with ha | ha
   · have := h.low a ha; omega
   ·
    simp only [List.mem_singleton] at ha
    subst ha; omega
 · exact ⟨h.ids, h.ok, fun a ha => by have := h.low a ha; omega, ho.id.2, by omega⟩
def goneO (id : Int) (L : List Od) : List Od := L.filter fun y => decide (y.id ≠ id)
theorem Bk.gone {L : List Od} {last : Int} (h : Bk L last) (id : Int) : Bk (goneO id L) last :=
 ⟨List.Pairwise.filter _ h.ids, fun o ho => h.ok o (List.mem_filter.1 ho).1, fun o ho => h.low o (List.mem_filter.1 ho).1, h.top, h.zero⟩
open Go.RowKit
set_option maxHeartbeats 2000000 in
set_option maxRecDepth 10000 in
theorem heapDown (b k : Nat) (t : TypeId) (cs : Array Value) (bb bz : Bool) (l : List Od) (v : Value) (i0 n : Nat) (w : World) (h : Sd w b k t cs l v) (hq : SideQ bb l) (hd : DownI (kf l) n i0 bz) (hn : n ≤ l.length) (hi : i0 < l.length) (hlen : l.length ≤ 1000) :
  Calls Tryz.prog 104 #[.iface 148 (.pointer (some ⟨b, k, none⟩)), .int .i64 i0, .int .i64 n] w fun e w' => ∃ (mv : Bool) (l' : List Od), e = .returned (.bool mv) ∧ l'.Perm l ∧ (∀ k, n ≤ k → l'[k]? = l[k]?) ∧ (mv = false → UpI (kf l') n i0) ∧ (mv = true ∨ bz = true → HeapF (kf l') n) ∧ Sd w' b k t cs l' v ∧ Touch (fun x => v.ownBlock = some x) w w' := by
 go_enter Tryz.func104, Tryz.ntmps104
 go_wp2_with fail
 go_loopw [7, 8, 9, 10] (fun iv _ _ _ wr => ∃ (m : Nat) (l1 : List Od), m < l.length ∧ i0 ≤ m ∧ iv = .int .i64 m ∧ l1.Perm l ∧ DownI (kf l1) n m (bz || decide (i0 < m)) ∧ (∀ k, n ≤ k → l1[k]? = l[k]?) ∧ Sd wr b k t cs l1 v ∧ Touch (fun x => v.ownBlock = some x) w wr) (fun iv _ _ _ _ => l.length - (intOf iv).toNat)
 case atStart => exact ⟨i0, l, hi, Nat.le_refl _, rfl, List.Perm.refl _, by simpa using hd, fun _ _ => rfl, h, Touch.refl _ _⟩
 case round =>
  obtain ⟨m, l1, hm, him, rfl, hp, hD, hF, hS, hT⟩ := hrel
  have hl1 : l1.length = l.length := hp.length_eq
  have hms := hS.meth
  have HQ := Lib.hid (hq.perm hp)
  have HS := Lib.hid hS
  have HT := Lib.hid hT
  have HD := Lib.hid hD
  have HP := Lib.hid hp
  have HF := Lib.hid hF
  clear hS hT hD hp hF hq h hd
  by_cases hA : n ≤ 2 * m + 1
  ·
   have q1 : (n : Int) ≤ 2 * (m : Int) + 1 := by omega
   go_wp2_with fail
   go_ret
   have hst := HD.out.stop (fun k h0 hk he => by omega)
   refine ⟨decide (i0 < m), l1, ret_bool (by simp), HP.out, HF.out, ?_, ?_, HS.out, HT.out⟩
   ·
    intro hmv
    have : i0 = m := by simp at hmv; omega
    rw [this]; exact hst.1
   ·
    intro hmv
    exact hst.2 (by rcases hmv with hmv | hmv <;> simp_all)
  ·
   have q1 : ¬ (n : Int) ≤ 2 * (m : Int) + 1 := by omega
   have q0 : ¬ 2 * (m : Int) + 1 < 0 := by omega
   obtain ⟨j1, hj1⟩ : ∃ j, j = 2 * m + 1 := ⟨_, rfl⟩
   obtain ⟨j2, hj2⟩ : ∃ j, j = 2 * m + 2 := ⟨_, rfl⟩
   have e1 : 2 * (m : Int) + 1 = (j1 : Int) := by omega
   have e2 : (j1 : Int) + 1 = (j2 : Int) := by omega
   have f1 : 2 * m < j1 := by omega
   have f2 : j1 < 2 * m + 2 := by omega
   have f3 : 2 * m + 1 < j2 := by omega
   have f4 : j2 < 2 * m + 3 := by omega
   rw [e1] at q1 q0
   clear hj1 hj2
   by_cases hB : j2 < n
   ·
    have q2 : (j2 : Int) < (n : Int) := by omega
    by_cases hC : kf l1 j2 < kf l1 j1
    ·
     have HC := Lib.hid hC
     have HV : Hid (lessO (l1[j2]'(by omega)) (l1[j1]'(by omega)) = true) := Lib.hid (by rw [less_kf HQ.out (by omega) (by omega)]; exact decide_eq_true hC)
     clear hC
     by_cases hlt : kf l1 j2 < kf l1 m
     ·
      have HLT := Lib.hid hlt
      have HLE : Hid (lessO (l1[j2]'(by omega)) (l1[m]'(by omega)) = true) := Lib.hid (by rw [less_kf HQ.out (by omega) (by omega)]; exact decide_eq_true hlt)
      have hsl := sideSwap 0 l1 v l1.length m j2 rfl (by omega) (by omega)
      clear hlt
      go_wp2_with (first
       | (go_at_call 162; have hgg := HS1; clear hgg; refine (sideLess 0 l1 v l1.length j2 m rfl (by omega) (by omega) _ HS1.out.own).mono ?_; rintro e w2 ⟨he, hb2⟩; rw [HLE.out] at he; subst he; have hs2 := hb2.size; have HS2 := Lib.hid (HS1.out.below hb2); have hm2 := HS2.out.meth; have HT2 := Lib.hid (HT1.out.trans (Touch.of_below hb2) (fun x hx hg => absurd hg (by have := HT1.out.size; omega))); clear hb2)
       | (go_at_call 162; have hgg := HS; clear hgg; refine (sideLess 0 l1 v l1.length j2 j1 rfl (by omega) (by omega) _ HS.out.own).mono ?_; rintro e w1 ⟨he, hb1⟩; rw [HV.out] at he; subst he; have hs1 := hb1.size; have HS1 := Lib.hid (HS.out.below hb1); have hm1 := HS1.out.meth; have HT1 := Lib.hid (HT.out.trans (Touch.of_below hb1) (fun x hx hg => absurd hg (by have := HT.out.size; omega))); clear hb1)
       | (go_at_call 163; refine (hsl _ HS2.out.own).mono ?_; rintro e w3 ⟨rfl, ho3, ht3⟩; have HT3 := Lib.hid (HT2.out.trans ht3 (fun _ _ hg => hg)); have HS3 := Lib.hid (HS2.out.row ht3 (l' := swapL l1 m j2) (by rw [swapL_len]; exact ho3)); clear ho3 ht3)
       | fail)
      refine ⟨⟨j2, swapL l1 m j2, by omega, by omega, by go_num, (swapL_perm (by omega) (by omega)).trans HP.out, ?_, ?_, HS3.out, HT3.out⟩, by simp [intOf]; omega⟩
      ·
       rw [swapL_kf (by omega) (by omega), show (bz || decide (i0 < j2)) = true by simp; omega]
       exact HD.out.step (by omega) (by omega) (by omega) HLT.out (fun k h0 hk he => (by have h1 := HC.out; rcases (show k = j1 ∨ k = j2 by omega) with rfl | rfl <;> omega))
      ·
       intro k hk
       rw [swapL_far (by omega) (by omega)]
       exact HF.out k hk
     ·
      have HLT := Lib.hid hlt
      have HLE : Hid (lessO (l1[j2]'(by omega)) (l1[m]'(by omega)) = false) := Lib.hid (by rw [less_kf HQ.out (by omega) (by omega)]; exact decide_eq_false hlt)
      clear hlt
      go_wp2_with (first
       | (go_at_call 162; have hgg := HS1; clear hgg; refine (sideLess 0 l1 v l1.length j2 m rfl (by omega) (by omega) _ HS1.out.own).mono ?_; rintro e w2 ⟨he, hb2⟩; rw [HLE.out] at he; subst he; have hs2 := hb2.size; have HS2 := Lib.hid (HS1.out.below hb2); have hm2 := HS2.out.meth; have HT2 := Lib.hid (HT1.out.trans (Touch.of_below hb2) (fun x hx hg => absurd hg (by have := HT1.out.size; omega))); clear hb2)
       | (go_at_call 162; have hgg := HS; clear hgg; refine (sideLess 0 l1 v l1.length j2 j1 rfl (by omega) (by omega) _ HS.out.own).mono ?_; rintro e w1 ⟨he, hb1⟩; rw [HV.out] at he; subst he; have hs1 := hb1.size; have HS1 := Lib.hid (HS.out.below hb1); have hm1 := HS1.out.meth; have HT1 := Lib.hid (HT.out.trans (Touch.of_below hb1) (fun x hx hg => absurd hg (by have := HT.out.size; omega))); clear hb1)
       | fail)
      go_ret
      have hst := HD.out.stop (fun k h0 hk he => by have h1 := HLT.out; have h2 : kf l1 j2 ≤ kf l1 k := (by have h1 := HC.out; rcases (show k = j1 ∨ k = j2 by omega) with rfl | rfl <;> omega); omega)
      refine ⟨decide (i0 < m), l1, ret_bool (by simp), HP.out, HF.out, ?_, ?_, HS2.out, HT2.out⟩
      ·
       intro hmv
       have : i0 = m := by simp at hmv; omega
       rw [this]; exact hst.1
      ·
       intro hmv
       exact hst.2 (by rcases hmv with hmv | hmv <;> simp_all)
    ·
     have HC := Lib.hid hC
     have HV : Hid (lessO (l1[j2]'(by omega)) (l1[j1]'(by omega)) = false) := Lib.hid (by rw [less_kf HQ.out (by omega) (by omega)]; exact decide_eq_false hC)
     clear hC
     by_cases hlt : kf l1 j1 < kf l1 m
     ·
      have HLT := Lib.hid hlt
      have HLE : Hid (lessO (l1[j1]'(by omega)) (l1[m]'(by omega)) = true) := Lib.hid (by rw [less_kf HQ.out (by omega) (by omega)]; exact decide_eq_true hlt)
      have hsl := sideSwap 0 l1 v l1.length m j1 rfl (by omega) (by omega)
      clear hlt
      go_wp2_with (first
       | (go_at_call 162; have hgg := HS1; clear hgg; refine (sideLess 0 l1 v l1.length j1 m rfl (by omega) (by omega) _ HS1.out.own).mono ?_; rintro e w2 ⟨he, hb2⟩; rw [HLE.out] at he; subst he; have hs2 := hb2.size; have HS2 := Lib.hid (HS1.out.below hb2); have hm2 := HS2.out.meth; have HT2 := Lib.hid (HT1.out.trans (Touch.of_below hb2) (fun x hx hg => absurd hg (by have := HT1.out.size; omega))); clear hb2)
       | (go_at_call 162; have hgg := HS; clear hgg; refine (sideLess 0 l1 v l1.length j2 j1 rfl (by omega) (by omega) _ HS.out.own).mono ?_; rintro e w1 ⟨he, hb1⟩; rw [HV.out] at he; subst he; have hs1 := hb1.size; have HS1 := Lib.hid (HS.out.below hb1); have hm1 := HS1.out.meth; have HT1 := Lib.hid (HT.out.trans (Touch.of_below hb1) (fun x hx hg => absurd hg (by have := HT.out.size; omega))); clear hb1)
       | (go_at_call 163; refine (hsl _ HS2.out.own).mono ?_; rintro e w3 ⟨rfl, ho3, ht3⟩; have HT3 := Lib.hid (HT2.out.trans ht3 (fun _ _ hg => hg)); have HS3 := Lib.hid (HS2.out.row ht3 (l' := swapL l1 m j1) (by rw [swapL_len]; exact ho3)); clear ho3 ht3)
       | fail)
      refine ⟨⟨j1, swapL l1 m j1, by omega, by omega, by go_num, (swapL_perm (by omega) (by omega)).trans HP.out, ?_, ?_, HS3.out, HT3.out⟩, by simp [intOf]; omega⟩
      ·
       rw [swapL_kf (by omega) (by omega), show (bz || decide (i0 < j1)) = true by simp; omega]
       exact HD.out.step (by omega) (by omega) (by omega) HLT.out (fun k h0 hk he => (by have h1 := HC.out; rcases (show k = j1 ∨ k = j2 by omega) with rfl | rfl <;> omega))
      ·
       intro k hk
       rw [swapL_far (by omega) (by omega)]
       exact HF.out k hk
     ·
      have HLT := Lib.hid hlt
      have HLE : Hid (lessO (l1[j1]'(by omega)) (l1[m]'(by omega)) = false) := Lib.hid (by rw [less_kf HQ.out (by omega) (by omega)]; exact decide_eq_false hlt)
      clear hlt
      go_wp2_with (first
       | (go_at_call 162; have hgg := HS1; clear hgg; refine (sideLess 0 l1 v l1.length j1 m rfl (by omega) (by omega) _ HS1.out.own).mono ?_; rintro e w2 ⟨he, hb2⟩; rw [HLE.out] at he; subst he; have hs2 := hb2.size; have HS2 := Lib.hid (HS1.out.below hb2); have hm2 := HS2.out.meth; have HT2 := Lib.hid (HT1.out.trans (Touch.of_below hb2) (fun x hx hg => absurd hg (by have := HT1.out.size; omega))); clear hb2)
       | (go_at_call 162; have hgg := HS; clear hgg; refine (sideLess 0 l1 v l1.length j2 j1 rfl (by omega) (by omega) _ HS.out.own).mono ?_; rintro e w1 ⟨he, hb1⟩; rw [HV.out] at he; subst he; have hs1 := hb1.size; have HS1 := Lib.hid (HS.out.below hb1); have hm1 := HS1.out.meth; have HT1 := Lib.hid (HT.out.trans (Touch.of_below hb1) (fun x hx hg => absurd hg (by have := HT.out.size; omega))); clear hb1)
       | fail)
      go_ret
      have hst := HD.out.stop (fun k h0 hk he => by have h1 := HLT.out; have h2 : kf l1 j1 ≤ kf l1 k := (by have h1 := HC.out; rcases (show k = j1 ∨ k = j2 by omega) with rfl | rfl <;> omega); omega)
      refine ⟨decide (i0 < m), l1, ret_bool (by simp), HP.out, HF.out, ?_, ?_, HS2.out, HT2.out⟩
      ·
       intro hmv
       have : i0 = m := by simp at hmv; omega
       rw [this]; exact hst.1
      ·
       intro hmv
       exact hst.2 (by rcases hmv with hmv | hmv <;> simp_all)
   ·
    have q2 : ¬ (j2 : Int) < (n : Int) := by omega
    by_cases hlt : kf l1 j1 < kf l1 m
    ·
     have HLT := Lib.hid hlt
     have HLE : Hid (lessO (l1[j1]'(by omega)) (l1[m]'(by omega)) = true) := Lib.hid (by rw [less_kf HQ.out (by omega) (by omega)]; exact decide_eq_true hlt)
     have hsl := sideSwap 0 l1 v l1.length m j1 rfl (by omega) (by omega)
     clear hlt
     go_wp2_with (first
      | (go_at_call 162; have hgg := HS; clear hgg; refine (sideLess 0 l1 v l1.length j1 m rfl (by omega) (by omega) _ HS.out.own).mono ?_; rintro e w2 ⟨he, hb2⟩; rw [HLE.out] at he; subst he; have hs2 := hb2.size; have HS2 := Lib.hid (HS.out.below hb2); have hm2 := HS2.out.meth; have HT2 := Lib.hid (HT.out.trans (Touch.of_below hb2) (fun x hx hg => absurd hg (by have := HT.out.size; omega))); clear hb2)
      | (go_at_call 163; refine (hsl _ HS2.out.own).mono ?_; rintro e w3 ⟨rfl, ho3, ht3⟩; have HT3 := Lib.hid (HT2.out.trans ht3 (fun _ _ hg => hg)); have HS3 := Lib.hid (HS2.out.row ht3 (l' := swapL l1 m j1) (by rw [swapL_len]; exact ho3)); clear ho3 ht3)
      | fail)
     refine ⟨⟨j1, swapL l1 m j1, by omega, by omega, by go_num, (swapL_perm (by omega) (by omega)).trans HP.out, ?_, ?_, HS3.out, HT3.out⟩, by simp [intOf]; omega⟩
     ·
      rw [swapL_kf (by omega) (by omega), show (bz || decide (i0 < j1)) = true by simp; omega]
      exact HD.out.step (by omega) (by omega) (by omega) HLT.out (fun k h0 hk he => (by have h1 : k = j1 := (by omega); rw [h1]; exact Int.le_refl _))
     ·
      intro k hk
      rw [swapL_far (by omega) (by omega)]
      exact HF.out k hk
    ·
     have HLT := Lib.hid hlt
     have HLE : Hid (lessO (l1[j1]'(by omega)) (l1[m]'(by omega)) = false) := Lib.hid (by rw [less_kf HQ.out (by omega) (by omega)]; exact decide_eq_false hlt)
     clear hlt
     go_wp2_with (first
      | (go_at_call 162; have hgg := HS; clear hgg; refine (sideLess 0 l1 v l1.length j1 m rfl (by omega) (by omega) _ HS.out.own).mono ?_; rintro e w2 ⟨he, hb2⟩; rw [HLE.out] at he; subst he; have hs2 := hb2.size; have HS2 := Lib.hid (HS.out.below hb2); have hm2 := HS2.out.meth; have HT2 := Lib.hid (HT.out.trans (Touch.of_below hb2) (fun x hx hg => absurd hg (by have := HT.out.size; omega))); clear hb2)
      | fail)
     go_ret
     have hst := HD.out.stop (fun k h0 hk he => by have h1 := HLT.out; have h2 : kf l1 j1 ≤ kf l1 k := (by have h1 : k = j1 := (by omega); rw [h1]; exact Int.le_refl _); omega)
     refine ⟨decide (i0 < m), l1, ret_bool (by simp), HP.out, HF.out, ?_, ?_, HS2.out, HT2.out⟩
     ·
      intro hmv
      have : i0 = m := by simp at hmv; omega
      rw [this]; exact hst.1
     ·
      intro hmv
      exact hst.2 (by rcases hmv with hmv | hmv <;> simp_all)
end Go.Proofs.YtdlbiobjnohfbaaGreat
