/- vault: no two orders that stand meet. vault: what Encode makes comes back. -/
import Derived.Test.YtdlbiobjnohfbaaGreatVb40
import Derived.Test.YtdlbiobjnohfbaaGreatVb46
namespace Go.Proofs.YtdlbiobjnohfbaaGreat
open Go.RowKit Go.ChangeMaps Go.MapKept
set_option linter.unusedVariables false
set_option linter.unusedSimpArgs false
def Ap (L : List Od) : Prop := ∀ a ∈ L, ∀ b ∈ L, meets a b = false
theorem meets_of {o x : Od} {o' x' : Od} (h1 : o'.item = o.item) (h2 : o'.buy = o.buy) (h3 : o'.pr = o.pr) (k1 : x'.item = x.item) (k2 : x'.buy = x.buy) (k3 : x'.pr = x.pr) : meets o' x' = meets o x := by
 unfold meets meetP; rw [h1, h2, h3, k1, k2, k3]
theorem meets_symm (o x : Od) : meets o x = meets x o := by
 unfold meets meetP
 cases ho : o.buy <;> cases hx : x.buy <;> simp [eq_comm, Bool.and_comm]
theorem meets_self (o : Od) : meets o o = false := by unfold meets; simp
theorem takeN_ap {x : Od} {n : Int} {L : List Od} (h : Ap L) : Ap (takeN x n L) := by
 intro a ha b hb
 obtain ⟨a', ha', _, hca⟩ := takeN_mem ha
 obtain ⟨b', hb', _, hcb⟩ := takeN_mem hb
 have fa : a.item = a'.item ∧ a.buy = a'.buy ∧ a.pr = a'.pr := by rcases hca with ⟨_, rfl⟩ | ⟨_, _, rfl⟩ <;> exact ⟨rfl, rfl, rfl⟩
 have fb : b.item = b'.item ∧ b.buy = b'.buy ∧ b.pr = b'.pr := by rcases hcb with ⟨_, rfl⟩ | ⟨_, _, rfl⟩ <;> exact ⟨rfl, rfl, rfl⟩
 rw [meets_of fa.1 fa.2.1 fa.2.2 fb.1 fb.2.1 fb.2.2]
 exact h a' ha' b' hb'
theorem Places.ap {o : Od} {L : List Od} {T : List Td} {o1 : Od} {L1 : List Od} (h : Places o L T o1 L1) : Ap L → Ap L1 := by
 induction h with
 | done o L h => exact fun h => h
 | step o x L T o' L' h0 hb h ih => exact fun h => ih (takeN_ap h)
theorem gone_ap {L : List Od} {id : Int} (h : Ap L) : Ap (goneO id L) := fun a ha b hb => h a (List.mem_filter.1 ha).1 b (List.mem_filter.1 hb).1
theorem laid_ap {L : List Od} {last : Int} {o : Od} {T : List Td} {o1 : Od} {L1 : List Od} (hp : Places o L T o1 L1) (hk : Bk L last) (ha : Ap L) : Ap (laid o1 L1) := by
 obtain ⟨_, _, _, _, _, _, _, hnm, _, _⟩ := hp.bk hk
 have ha1 := hp.ap ha
 unfold laid
 split
 ·
  rename_i hpos
  have hn : NoneMeets o1 L1 := by
   rcases hnm with h | h
   · omega
   · exact h
  intro a ha b hb
  rcases List.mem_append.1 ha with ha2 | ha2 <;> rcases List.mem_append.1 hb with hb2 | hb2
  · exact ha1 a ha2 b hb2
  · rw [List.mem_singleton.1 hb2, meets_symm]; exact hn a ha2
  · rw [List.mem_singleton.1 ha2]; exact hn b hb2
  · rw [List.mem_singleton.1 ha2, List.mem_singleton.1 hb2]; exact meets_self _
 · exact ha1
theorem Ap.nil : Ap [] := fun a ha => by cases ha
theorem OrdX.ap {l : Pm} {L : List Od} {last g : Int} {o : Od} {n c : Int} {l' : Pm} {L' : List Od} {g' : Int} (h : OrdX l L g o n c l' L' g') (hk : Bk L last) (ha : Ap L) : Ap L' := by
 rcases h with ⟨_, _, _, _, rfl, _⟩ | ⟨_, _, _, _, _, _, T, o1, M, hp, _, rfl⟩
 · exact ha
 · exact laid_ap hp hk ha
theorem CanX.ap {l : Pm} {L : List Od} {s : ByteArray} {id c : Int} {l' : Pm} {L' : List Od} (h : CanX l L s id c l' L') (ha : Ap L) : Ap L' := by
 rcases h with ⟨_, _, _, rfl⟩ | ⟨z, _, _, _, _, _, rfl⟩
 · exact ha
 · exact gone_ap ha
def NmsA (N : List By) (l : Pm) (L : List Od) : Prop := Nms N l L ∧ Ap L
theorem NmsA.nil : NmsA [] [] [] := ⟨Nms.nil, Ap.nil⟩
theorem NmsA.len {N : List By} {l : Pm} {L : List Od} (h : NmsA N l L) (hn : (l.map (·.1)).Nodup) : l.length ≤ N.length := h.1.len hn
theorem nx_encs1 {n : Int} (h : 0 ≤ n ∧ n ≤ 4611686018427387904) (r : List Nat) : nx (some (encs [n] ++ r)) = (n.toNat, some r) := by
 have e : encs [n] = enc (clamp n) := by simp [encs]
 have e2 : clamp n = n.toNat := by unfold clamp; omega
 rw [e, e2]
 exact nx_enc (by omega) r
theorem encs_consF (n m : Int) (l : List Int) : encs (n :: m :: l) = encs [n] ++ encs (m :: l) := by simp [encs]
theorem nb_encbF {s : ByteArray} (hs : s.size ≤ 16) (r : List Nat) : nb (some (encb [bs s] ++ r)) = (bs s, some r) := by
 have e : encb [bs s] = enc (bs s).length ++ bs s := by simp [encb]
 rw [e, List.append_assoc]
 exact nb_enc (by rw [bs_length]; omega) r
def Sm (n : Int) : Prop := 0 ≤ n ∧ n ≤ 4611686018427387904
theorem it_encs {a b c d : Int} (ha : Sm a) (hb : Sm b) (hc : Sm c) (hd : Sm d) (r : List Nat) : itR (some (encs [a, b, c, d] ++ r)) = (a, b, c, d) ∧ itE (some (encs [a, b, c, d] ++ r)) = some r := by
 rw [encs_consF, encs_consF, encs_consF, List.append_assoc, List.append_assoc, List.append_assoc]
 unfold itR itE
 rw [nx_encs1 ha]
 simp only
 rw [nx_encs1 hb]
 simp only
 rw [nx_encs1 hc]
 simp only
 rw [nx_encs1 hd]
 simp only [Int.toNat_of_nonneg ha.1, Int.toNat_of_nonneg hb.1, Int.toNat_of_nonneg hc.1, Int.toNat_of_nonneg hd.1, and_self]
theorem isI_sm {i : It4} (h : isI i = true) : Sm i.1 ∧ Sm i.2.1 ∧ Sm i.2.2.1 ∧ Sm i.2.2.2 := by
 unfold isI at h
 rw [isP_iff] at h
 unfold Sm
 omega
theorem keyS_data (k : By) : (keyS k).data.toList = k := rfl
theorem keyS_size (k : By) : (keyS k).size = k.length := by show k.toArray.size = _; simp
theorem rS_back : ∀ (l : List Hd) (a : By) (r : List Nat), Chn a l → rS l.length a (some (rsB l ++ r)) = (l, some r)
 | [], _, _, _ => rfl
 | x :: t, a, r, h => by
  obtain ⟨h1, h2, h3, h4, h5⟩ := h
  obtain ⟨s0, s1, s2, s3⟩ := isI_sm h3
  have e : rsB (x :: t) ++ r = encb [bs (keyS x.1)] ++ (encs [x.2.1, x.2.2.1, x.2.2.2.1, x.2.2.2.2] ++ (rsB t ++ r)) := by
   simp only [rsB, rB, List.flatMap_cons, List.append_assoc]
  have hsz : (keyS x.1).size ≤ 16 := by rw [keyS_size]; exact h4.2
  have b := nb_encbF hsz (encs [x.2.1, x.2.2.1, x.2.2.2.1, x.2.2.2.2] ++ (rsB t ++ r))
  obtain ⟨c1, c2⟩ := it_encs s0 s1 s2 s3 (rsB t ++ r)
  have hm : mayB (keyS x.1) x.2 = true := by
   unfold mayB
   rw [keyS_size, h3]
   have := h4.1
   have := h4.2
   simp; omega
  rw [List.length_cons, rS, e, b]
  simp only [strU_bs, c1, c2, keyS_data]
  rw [if_pos ⟨by simp, by simp, by rw [keyS_data]; exact h1, h2, hm⟩, rS_back t x.1 r h5]
theorem oS_back : ∀ (L : List Od) (r : List Nat), (∀ o ∈ L, OkO o) → oS L.length (some (osB L ++ r)) = (L, some r)
 | [], _, _ => rfl
 | x :: t, r, h => by
  have ho := h x List.mem_cons_self
  have s0 : Sm x.id := by have := ho.id; unfold Sm; omega
  have s1 : Sm (fl x.buy) := by unfold Sm fl; split <;> omega
  have s2 : Sm x.item := by have := ho.item; unfold Sm; omega
  have s3 : Sm x.ct := by have := ho.ct; unfold Sm; omega
  have s4 : Sm x.pr := by have := ho.pr; unfold Sm; omega
  have e : osB (x :: t) ++ r = encs [x.id] ++ (encb [bs x.who] ++ (encs [fl x.buy, x.item, x.ct, x.pr] ++ (osB t ++ r))) := by
   simp only [osB, oB, List.flatMap_cons, List.append_assoc]
  have a := nx_encs1 s0 (encb [bs x.who] ++ (encs [fl x.buy, x.item, x.ct, x.pr] ++ (osB t ++ r)))
  have b := nb_encbF ho.who.2 (encs [fl x.buy, x.item, x.ct, x.pr] ++ (osB t ++ r))
  obtain ⟨c1, c2⟩ := it_encs s1 s2 s3 s4 (osB t ++ r)
  have hE : odE (some (osB (x :: t) ++ r)) = some (osB t ++ r) := by
   unfold odE
   rw [e, a]
   simp only
   rw [b]
   exact c2
  have hF : odF (some (osB (x :: t) ++ r)) = fl x.buy := by
   unfold odF
   rw [e, a]
   simp only
   rw [b]
   simp only [c1]
  have hR : odR (some (osB (x :: t) ++ r)) = x := by
   unfold odR
   rw [e, a]
   simp only
   rw [b]
   simp only [c1, strU_bs, Int.toNat_of_nonneg s0.1]
   obtain ⟨i, w, bu, it, ct, pr⟩ := x
   cases bu <;> rfl
  rw [List.length_cons, oS, if_pos ⟨by simp, by rw [hE]; simp, by rw [hF]; unfold fl; split <;> omega⟩, hE, hR, oS_back t r (fun o ho => h o (List.mem_cons_of_mem _ ho))]
theorem Chn.of : ∀ {l : List Hd} {a : By}, SortedH l → (∀ r ∈ l, BL a r.1 ∧ r.2 ≠ z4 ∧ isI r.2 = true ∧ KeyOk r.1) → Chn a l
 | [], _, _, _ => trivial
 | x :: t, a, hs, h => by
  obtain ⟨h1, h2, h3, h4⟩ := h x List.mem_cons_self
  have hs := List.pairwise_cons.1 hs
  exact ⟨h1, h2, h3, h4, Chn.of hs.2 (fun r hr => ⟨hs.1 r hr, (h r (List.mem_cons_of_mem _ hr)).2⟩)⟩
theorem PmOk.chn {l : Pm} (h : PmOk l) : Chn [] (rowsP l) := by
 refine Chn.of (rowsP_sorted h.1) (fun r hr => ?_)
 obtain ⟨h1, h2, h3⟩ := h.2 r ((rowsP_perm h.1).mem_iff.1 hr)
 refine ⟨?_, h1, h2, h3⟩
 unfold BL
 exact nil_less (fun e => by have := h3.1; rw [e] at this; simp at this)
theorem lastOf_le {L : List Od} {m : Int} (h : ∀ o ∈ L, o.id ≤ m) (h0 : 0 ≤ m) : lastOf L ≤ m := by
 unfold lastOf
 cases e : L.getLast? with
 | none => exact h0
 | some o => exact h o (List.mem_of_getLast? e)
theorem Bk.ofK {L : List Od} {last : Int} (h : Bk L last) (ha : Ap L) (hl : L.length ≤ 32) : OfK L := by
 refine ⟨hl, fun j hj _ => ⟨h.ok _ (List.getElem_mem hj), ?_, fun y hy => ha _ (List.getElem_mem hj) y (List.mem_of_mem_take hy)⟩⟩
 cases j with
 | zero => have := (h.ok _ (List.getElem_mem hj)).id; rw [List.take_zero, lastOf_nil]; omega
 | succ k =>
  rw [take_succ' (show k < L.length by omega), lastOf_snoc]
  exact (List.pairwise_iff_getElem.1 h.ids) k (k + 1) (by omega) hj (by omega)
theorem v_back {l : Pm} {L : List Od} {last g : Int} (hl : PmOk l) (hk : Bk L last) (ha : Ap L) (h32 : L.length ≤ 32) (hll : l.length ≤ 1000) (hg : last ≤ g ∧ g ≤ 1099511627776) :
  vOk (vB l L (g + 1)) ∧ (vR (vB l L (g + 1))).1 = rowsP l ∧ (vO (vB l L (g + 1))).1 = L ∧ vN (vB l L (g + 1)) = g + 1 := by
 have hz := hk.zero
 have hrl : (rowsP l).length = l.length := rowsP_len l
 have e : vB l L (g + 1) = encs [((rowsP l).length : Int)] ++ (rsB (rowsP l) ++ (encs [(L.length : Int)] ++ (osB L ++ encs [g + 1]))) := by
  simp only [vB, List.append_assoc]
 have a := nx_encs1 (n := ((rowsP l).length : Int)) (by omega) (rsB (rowsP l) ++ (encs [(L.length : Int)] ++ (osB L ++ encs [g + 1])))
 have hR : vR (vB l L (g + 1)) = (rowsP l, some (encs [(L.length : Int)] ++ (osB L ++ encs [g + 1]))) := by
  unfold vR
  rw [e, a]
  simp only [Int.toNat_natCast]
  exact rS_back _ _ _ hl.chn
 have b := nx_encs1 (n := (L.length : Int)) (by omega) (osB L ++ encs [g + 1])
 have hO : vO (vB l L (g + 1)) = (L, some (encs [g + 1])) := by
  unfold vO
  rw [hR]
  simp only
  rw [b]
  simp only [Int.toNat_natCast]
  exact oS_back _ _ hk.ok
 have c := nx_encs1 (n := g + 1) (by omega) []
 rw [List.append_nil] at c
 have hN : vN (vB l L (g + 1)) = g + 1 := by
  unfold vN
  rw [hO]
  simp only
  rw [c]
  simp only
  exact Int.toNat_of_nonneg (by omega)
 refine ⟨⟨by rw [hO]; simp only; rw [c]; rfl, by rw [hO]; exact hk.ofK ha h32, ?_, by rw [hN]; omega⟩, by rw [hR], by rw [hO], hN⟩
 rw [hN, hO]
 have := lastOf_le hk.low hk.zero
 simp only
 omega
theorem rowsP_idem {l : Pm} (h : PmOk l) : rowsP (rowsP l) = rowsP l := rowsP_self (rowsP_sorted h.1)
theorem Nms.rows {N : List By} {l : Pm} {L : List Od} (h : Nms N l L) (hn : (l.map (·.1)).Nodup) : Nms N (rowsP l) L := ⟨fun p hp => h.1 p ((rowsP_perm hn).mem_iff.1 hp), h.2⟩
theorem JE.back {w0 w w' : World} {b d x : Nat} {l : Pm} {L : List Od} {g nd : Int} {D : Nat → Prop} (h : JE w0 w b d x l L g l L nd D) {b2 : Nat} {p2 : Value} {v2 : Nat → Value} {last2 : Int} (hb : Below w.heap.size w w') (hv : VtAt w' b2 p2 v2 (rowsP l) L last2 g) (hf : ∀ k, Fv b2 p2 v2 k → w.heap.size ≤ k) : JE w0 w' b2 d x (rowsP l) L g (rowsP l) L nd (fun _ => False) := by
 obtain ⟨B, u, u2, last, p, v, lastc, h, _⟩ := h
 have hbel := h.bel
 refine ⟨B, u, u2, last, p2, v2, last2, ⟨hv, ⟨hbel.trans (hb.mono hbel.size), fun k hk => ?_⟩, ?_, h.low, fun k hk hn => ?_, h.bk, h.num, h.ok.chn.ok, h.len⟩, fun q hq => hq.elim⟩
 ·
  have := hf k hk
  have := hbel.size
  omega
 · rw [rowsP_idem h.ok]; exact h.rv.below hb
 ·
  have := (h.rv.lows k hk).2
  have := hf k hn
  omega
end Go.Proofs.YtdlbiobjnohfbaaGreat
