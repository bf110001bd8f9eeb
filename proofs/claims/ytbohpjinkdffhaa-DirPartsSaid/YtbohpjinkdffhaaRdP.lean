/- The directory, pure: what makes a map one that may be, and stays. -/
import Derived.Test.YtbohpjinkdffhaaDrT
import Derived.Test.YtbohpjinkdffhaaSqRAll
namespace Go.Proofs.Ytbohpjinkdffhaa
open Go.RowKit
set_option linter.unusedVariables false
set_option linter.unusedSimpArgs false

/-- a zone by itself: with whom nothing is under way that wants another one -/
structure Lone (z : Zn) : Prop where
  cases : (z.pd = 0 ∧ z.mv = 0 ∧ z.ky.size = 0 ∧ z.nw = 0) ∨ (z.pd = 3 ∧ (1 ≤ z.mv ∧ z.mv ≤ 1048576) ∧ z.mv ≠ z.ow ∧ z.ky.size = 0 ∧ z.nw = 0) ∨ (z.pd = 1 ∧ cutB z.fr z.tt z.ky = true ∧ z.mv = 0 ∧ 1 ≤ z.nw)
/-- two that merge -/
structure Pair (a b : Zn) : Prop where
  pa : a.pd = 2
  pb : b.pd = 2
  na : a.nw = b.id
  nb : b.nw = a.id
  ow : a.ow = b.ow
  ma : a.mv = 0
  mb : b.mv = 0
  ka : a.ky.size = 0
  kb : b.ky.size = 0
/-- zones and pairs, one behind the other -/
inductive Tiled : List Zn → Prop
  | nil : Tiled []
  | one {z : Zn} {r : List Zn} (h : Lone z) (t : Tiled r) : Tiled (z :: r)
  | two {a b : Zn} {r : List Zn} (h : Pair a b) (t : Tiled r) : Tiled (a :: b :: r)
theorem Tiled.app : ∀ {l r : List Zn}, Tiled l → Tiled r → Tiled (l ++ r)
  | _, _, .nil, h => h
  | _, _, .one h t, h2 => .one h (t.app h2)
  | _, _, .two h t, h2 => .two h (t.app h2)
theorem Lone.no2 {z : Zn} (h : Lone z) : z.pd ≠ 2 := by rcases h.cases with h | h | h <;> omega
/-- a zone with which no merge is under way parts the row -/
theorem Tiled.part : ∀ {l : List Zn}, Tiled l → ∀ (i : Nat) (h : i < l.length), l[i].pd ≠ 2 → Tiled (l.take i) ∧ Lone l[i] ∧ Tiled (l.drop (i + 1))
  | _, .nil, i, h, _ => by cases h
  | _, .one (z := z) (r := r) hz t, 0, h, hp => ⟨.nil, hz, by simpa using t⟩
  | _, .one (z := z) (r := r) hz t, i + 1, h, hp => by
    obtain ⟨h1, h2, h3⟩ := t.part i (by simpa using h) (by simpa using hp)
    exact ⟨.one hz h1, by simpa using h2, by simpa using h3⟩
  | _, .two (a := a) (b := b) (r := r) hz t, 0, h, hp => absurd hz.pa hp
  | _, .two (a := a) (b := b) (r := r) hz t, 1, h, hp => absurd hz.pb hp
  | _, .two (a := a) (b := b) (r := r) hz t, i + 2, h, hp => by
    obtain ⟨h1, h2, h3⟩ := t.part i (by simpa using h) (by simpa using hp)
    exact ⟨.two hz h1, by simpa using h2, by simpa using h3⟩
/-- a zone that merges has its other one beside it -/
theorem Tiled.mate : ∀ {l : List Zn}, Tiled l → ∀ (i : Nat) (h : i < l.length), l[i].pd = 2 →
    (∃ h2 : i + 1 < l.length, Pair l[i] l[i + 1] ∧ Tiled (l.take i) ∧ Tiled (l.drop (i + 2))) ∨ (∃ k, ∃ hk : k + 1 = i, Pair (l[k]'(by omega)) l[i])
  | _, .nil, i, h, _ => by cases h
  | _, .one (z := z) (r := r) hz t, 0, h, hp => absurd hp hz.no2
  | _, .one (z := z) (r := r) hz t, i + 1, h, hp => by
    rcases t.mate i (by simpa using h) (by simpa using hp) with ⟨h2, q1, q2, q3⟩ | ⟨k, hk, q⟩
    · exact .inl ⟨by simpa using h2, by simpa using q1, .one hz q2, by simpa using q3⟩
    · exact .inr ⟨k + 1, by omega, by simpa using q⟩
  | _, .two (a := a) (b := b) (r := r) hz t, 0, h, hp => .inl ⟨by simp, by simpa using hz, .nil, by simpa using t⟩
  | _, .two (a := a) (b := b) (r := r) hz t, 1, h, hp => .inr ⟨0, rfl, by simpa using hz⟩
  | _, .two (a := a) (b := b) (r := r) hz t, i + 2, h, hp => by
    rcases t.mate i (by simpa using h) (by simpa using hp) with ⟨h2, q1, q2, q3⟩ | ⟨k, hk, q⟩
    · exact .inl ⟨by simp at h2 ⊢; omega, by simpa using q1, .two hz q2, by simpa using q3⟩
    · exact .inr ⟨k + 2, by omega, by simpa using q⟩
/-- the spans of zones -/
def spansZ (l : List Zn) : List (ByteArray × ByteArray) := l.map fun z => (z.fr, z.tt)
theorem goB_ctx {r1 r2 : List (ByteArray × ByteArray)} (h : ∀ first u, goB first u r1 = true → goB first u r2 = true) : ∀ (l : List (ByteArray × ByteArray)) (first : Bool) (u : ByteArray), goB first u (l ++ r1) = true → goB first u (l ++ r2) = true
  | [], first, u, hg => h first u hg
  | (f, t) :: l, first, u, hg => by
    rw [List.cons_append] at hg ⊢
    unfold goB at hg ⊢
    split at hg
    · rename_i hc
      rw [if_pos hc]
      exact goB_ctx h l false t hg
    · cases hg
theorem goB_step {first : Bool} {u f t : ByteArray} {r : List (ByteArray × ByteArray)} (h : goB first u ((f, t) :: r) = true) : isB f t = true ∧ f.toList = u.toList ∧ (first || !u.toList.isEmpty) = true ∧ goB false t r = true := by
  unfold goB at h
  split at h
  · rename_i hc
    simp only [Bool.and_eq_true, beq_iff_eq] at hc
    exact ⟨hc.1.1, hc.1.2, hc.2, h⟩
  · cases h
theorem goB_mk {first : Bool} {u f t : ByteArray} {r : List (ByteArray × ByteArray)} (h1 : isB f t = true) (h2 : f.toList = u.toList) (h3 : (first || !u.toList.isEmpty) = true) (h4 : goB false t r = true) : goB first u ((f, t) :: r) = true := by
  unfold goB
  rw [if_pos (by rw [h1, h2, h3]; simp)]
  exact h4
theorem goB_cut {f t k : ByteArray} {r : List (ByteArray × ByteArray)} (hk : cutB f t k = true) (first : Bool) (u : ByteArray) (h : goB first u ((f, t) :: r) = true) : goB first u ((f, k) :: (k, t) :: r) = true := by
  obtain ⟨h1, h2, h3, h4⟩ := goB_step h
  obtain ⟨_, k1, _⟩ := cutB_iff.1 hk
  exact goB_mk (cut_left hk) h2 h3 (goB_mk (cut_right hk) rfl (by rw [nonempty_of k1]; rfl) h4)
theorem goB_join {f t g v : ByteArray} {r : List (ByteArray × ByteArray)} (first : Bool) (u : ByteArray) (h : goB first u ((f, t) :: (g, v) :: r) = true) : goB first u ((f, v) :: r) = true := by
  obtain ⟨h1, h2, h3, h4⟩ := goB_step h
  obtain ⟨k1, k2, k3, k4⟩ := goB_step h4
  have hte : t.toList.isEmpty = false := by simpa using k3
  refine goB_mk (isB_iff.2 ⟨(isB_iff.1 h1).1, (isB_iff.1 k1).2.1, ?_⟩) h2 h3 k4
  rcases (isB_iff.1 k1).2.2 with h | h
  · exact .inl h
  · refine .inr ?_
    rw [k2] at h
    rcases (isB_iff.1 h1).2.2 with h' | h'
    · rw [h'] at hte; cases hte
    · exact less_trans h' h
theorem goB_adj {f t g v : ByteArray} {r : List (ByteArray × ByteArray)} : ∀ (l : List (ByteArray × ByteArray)) (first : Bool) (u : ByteArray), goB first u (l ++ (f, t) :: (g, v) :: r) = true → joinB f t g v = true
  | [], first, u, h => by
    obtain ⟨h1, h2, h3, h4⟩ := goB_step h
    obtain ⟨k1, k2, k3, k4⟩ := goB_step h4
    unfold joinB
    have hte : t.toList.isEmpty = false := by simpa using k3
    rw [h1, k1, hte, k2]; simp
  | (a, b) :: l, first, u, h => by
    obtain ⟨h1, h2, h3, h4⟩ := goB_step h
    exact goB_adj l false b h4
theorem spans_app (a b : List Zn) : spansZ (a ++ b) = spansZ a ++ spansZ b := List.map_append
theorem spans_cons (z : Zn) (r : List Zn) : spansZ (z :: r) = (z.fr, z.tt) :: spansZ r := rfl
theorem spans_set {l : List Zn} {i : Nat} (h : i < l.length) {a : Zn} (e1 : a.fr = l[i].fr) (e2 : a.tt = l[i].tt) : spansZ (l.set i a) = spansZ l := by
  have e3 : spansZ l = spansZ (l.take i ++ l[i] :: l.drop (i + 1)) := congrArg spansZ (split_td h)
  rw [set_td h, e3, spans_app, spans_app, spans_cons, spans_cons, e1, e2]
theorem spans_keep {l : List Zn} {i : Nat} (h : i < l.length) (a : Zn) (e1 : a.fr = l[i].fr) (e2 : a.tt = l[i].tt) (hs : allB (spansZ l) = true) : allB (spansZ (l.set i a)) = true := by
  rw [spans_set h e1 e2]; exact hs
theorem ids_at : ∀ {l : List Zn}, (idsA l).Nodup → ∀ {i j : Nat} (hi : i < l.length) (hj : j < l.length), l[i].id = l[j].id → i = j
  | [], _, i, _, hi, _, _ => by cases hi
  | a :: r, h, i, j, hi, hj, e => by
    rw [idsA_cons, List.nodup_append] at h
    obtain ⟨_, h2, h3⟩ := h
    have ha : a.id ∈ idsZ a := by simp [idsZ]
    cases i with
    | zero =>
      cases j with
      | zero => rfl
      | succ j => exact absurd e (h3 _ ha _ (id_mem (List.getElem_mem (by simpa using hj))))
    | succ i =>
      cases j with
      | zero => exact absurd e.symm (h3 _ ha _ (id_mem (List.getElem_mem (by simpa using hi))))
      | succ j => exact congrArg (· + 1) (ids_at h2 (i := i) (j := j) (by simpa using hi) (by simpa using hj) (by simpa using e))
structure OkZ (z : Zn) : Prop where
  id : 1 ≤ z.id
  ow : 1 ≤ z.ow ∧ z.ow ≤ 1048576
  ep : 1 ≤ z.ep
/-- a map that may be, and stays one -/
structure MayI (m : Mp) : Prop where
  inv : InvZ m
  okn : OkN m
  til : Tiled m.zs
  okz : ∀ z ∈ m.zs, OkZ z
  nxt : 1 ≤ m.nxt
  spn : allB (spansZ m.zs) = true
theorem MayI.join {m : Mp} (h : MayI m) {i : Nat} (h2 : i + 1 < m.zs.length) : joinB m.zs[i].fr m.zs[i].tt m.zs[i + 1].fr m.zs[i + 1].tt = true := by
  have hs := h.spn
  have e : m.zs = m.zs.take i ++ m.zs[i] :: m.zs[i + 1] :: m.zs.drop (i + 2) := by
    rw [← List.drop_eq_getElem_cons h2, ← List.drop_eq_getElem_cons (show i < m.zs.length by omega), List.take_append_drop]
  rw [e, spans_app, spans_cons, spans_cons] at hs
  exact goB_adj _ _ _ hs
theorem MayI.begin {l : List Int} (h : 1 ≤ l.headD 0 ∧ l.headD 0 ≤ 1048576) : MayI (mp1 l) := by
  refine ⟨mp1_inv l, OkN.begin l, .one ⟨.inl ⟨rfl, rfl, rfl, rfl⟩⟩ .nil, fun z hz => ?_, by show (1 : Int) ≤ 2; decide, by show allB [(⟨#[]⟩, ⟨#[]⟩)] = true; decide +kernel⟩
  have hz : z = ⟨1, ⟨#[]⟩, ⟨#[]⟩, l.headD 0, 1, 0, 0, ⟨#[]⟩, 0⟩ := by simpa [mp1] using hz
  subst hz
  exact ⟨Int.le_refl _, h, Int.le_refl _⟩
theorem settled_lone (z : Zn) (e : Int) : Lone (settled z e) := ⟨.inl ⟨rfl, rfl, rfl, rfl⟩⟩
theorem Deed.may {hosts : List Int} {m m' : Mp} {c : Ch} {i : Nat} {h : i < m.zs.length} (hd : Deed hosts m c i h m') (hc : OkCh c) (hm : MayI m) : MayI m' := by
  have hI := hd.inv hm.inv
  have hO := hd.okn hm.okn
  have hzi := hm.okz m.zs[i] (List.getElem_mem h)
  have hn := hm.nxt
  have set_ok : ∀ (a : Zn), OkZ a → ∀ z ∈ m.zs.set i a, OkZ z := fun a ha z hz => by
    rcases mem_set' hz with rfl | hz
    · exact ha
    · exact hm.okz z hz
  cases hd with
  | split k p q n x =>
    obtain ⟨t1, t2, t3⟩ := hm.til.part i h (by omega)
    refine ⟨hI, hO, ?_, set_ok _ ⟨hzi.id, hzi.ow, hzi.ep⟩, by show 1 ≤ m.nxt + 1; omega, ?_⟩
    · show Tiled (m.zs.set i _)
      rw [set_td h]
      refine t1.app (.one ⟨.inr (.inr ⟨rfl, q, ?_, hn⟩)⟩ t3)
      rcases t2.cases with h | h | h
      · exact h.2.1
      · omega
      · exact h.2.2.1
    · show allB (spansZ (m.zs.set i _)) = true
      exact spans_keep h _ rfl rfl hm.spn
  | merge k h2 p q o =>
    obtain ⟨t1, t2, t3⟩ := hm.til.part i h (by omega)
    have hdr : m.zs.drop (i + 1) = m.zs[i + 1] :: m.zs.drop (i + 2) := List.drop_eq_getElem_cons h2
    rw [hdr] at t3
    obtain ⟨_, t4, t5⟩ := t3.part 0 (Nat.succ_pos _) (by show m.zs[i + 1].pd ≠ 2; omega)
    have t4 : Lone m.zs[i + 1] := t4
    have t5 : Tiled (m.zs.drop (i + 2)) := t5
    have el : (m.zs.set i { m.zs[i] with pd := 2, nw := m.zs[i + 1].id }).set (i + 1) { m.zs[i + 1] with pd := 2, nw := m.zs[i].id } = m.zs.take i ++ { m.zs[i] with pd := 2, nw := m.zs[i + 1].id } :: { m.zs[i + 1] with pd := 2, nw := m.zs[i].id } :: m.zs.drop (i + 2) := by
      rw [set_td (by rw [List.length_set]; exact h2), take_set1 h, List.drop_set_of_lt (by omega)]
      simp
    have hz2 := hm.okz m.zs[i + 1] (List.getElem_mem h2)
    refine ⟨hI, hO, ?_, ?_, hn, ?_⟩
    · show Tiled ((m.zs.set i _).set (i + 1) _)
      rw [el]
      refine t1.app (.two ⟨rfl, rfl, rfl, rfl, o, ?_, ?_, ?_, ?_⟩ t5)
      · rcases t2.cases with h | h | h
        · exact h.2.1
        · omega
        · omega
      · rcases t4.cases with h | h | h
        · exact h.2.1
        · omega
        · omega
      · rcases t2.cases with h | h | h
        · exact h.2.2.1
        · omega
        · omega
      · rcases t4.cases with h | h | h
        · exact h.2.2.1
        · omega
        · omega
    · intro z hz
      rcases mem_set' hz with rfl | hz
      · exact ⟨hz2.id, hz2.ow, hz2.ep⟩
      · exact set_ok { m.zs[i] with pd := 2, nw := m.zs[i + 1].id } ⟨hzi.id, hzi.ow, hzi.ep⟩ z hz
    · show allB (spansZ ((m.zs.set i _).set (i + 1) _)) = true
      exact spans_keep (by rw [List.length_set]; exact h2) _ (by rw [List.getElem_set_ne (by omega)]) (by rw [List.getElem_set_ne (by omega)]) (spans_keep h _ rfl rfl hm.spn)
  | move k p q o n =>
    obtain ⟨t1, t2, t3⟩ := hm.til.part i h (by omega)
    refine ⟨hI, hO, ?_, set_ok _ ⟨hzi.id, hzi.ow, hzi.ep⟩, hn, ?_⟩
    · show Tiled (m.zs.set i _)
      rw [set_td h]
      refine t1.app (.one ⟨.inr (.inl ⟨rfl, hc.mv.1 k, o, ?_⟩)⟩ t3)
      rcases t2.cases with h | h | h
      · exact ⟨h.2.2.1, h.2.2.2⟩
      · omega
      · omega
    · show allB (spansZ (m.zs.set i _)) = true
      exact spans_keep h _ rfl rfl hm.spn
  | splitDone k p e q x =>
    obtain ⟨t1, t2, t3⟩ := hm.til.part i h (by omega)
    have hnw : 1 ≤ m.zs[i].nw := by
      rcases t2.cases with h | h | h
      · omega
      · omega
      · exact h.2.2.2
    refine ⟨hI, hO, ?_, ?_, hn, ?_⟩
    · exact t1.app (.one (settled_lone _ _) (.one ⟨.inl ⟨rfl, rfl, rfl, rfl⟩⟩ t3))
    · intro z hz
      rcases List.mem_append.1 hz with hz | hz
      · exact hm.okz z (List.mem_of_mem_take hz)
      · rcases List.mem_cons.1 hz with rfl | hz
        · exact ⟨hzi.id, hzi.ow, by show 1 ≤ m.zs[i].ep + 1; have := hzi.ep; omega⟩
        · rcases List.mem_cons.1 hz with rfl | hz
          · exact ⟨hnw, hzi.ow, by show 1 ≤ m.zs[i].ep + 1; have := hzi.ep; omega⟩
          · exact hm.okz z (List.mem_of_mem_drop hz)
    · have hs := hm.spn
      rw [split_td h, spans_app, spans_cons] at hs
      show goB true ⟨#[]⟩ (spansZ (m.zs.take i ++ _ :: _ :: m.zs.drop (i + 1))) = true
      rw [spans_app, spans_cons, spans_cons]
      exact goB_ctx (goB_cut q) _ _ _ hs
  | mergeDone k p e h2 o q x =>
    have hmate := hm.til.mate i h p
    rcases hmate with ⟨_, hp, t1, t3⟩ | ⟨kk, hk, hp⟩
    · refine ⟨hI, hO, ?_, ?_, hn, ?_⟩
      · exact t1.app (.one (settled_lone _ _) t3)
      · intro z hz
        rcases List.mem_append.1 hz with hz | hz
        · exact hm.okz z (List.mem_of_mem_take hz)
        · rcases List.mem_cons.1 hz with rfl | hz
          · exact ⟨hzi.id, hzi.ow, by show 1 ≤ max m.zs[i].ep m.zs[i + 1].ep + 1; have := hzi.ep; omega⟩
          · exact hm.okz z (List.mem_of_mem_drop hz)
      · have hs := hm.spn
        have el : m.zs = m.zs.take i ++ m.zs[i] :: m.zs[i + 1] :: m.zs.drop (i + 2) := by
          rw [← List.drop_eq_getElem_cons h2, ← List.drop_eq_getElem_cons (show i < m.zs.length by omega), List.take_append_drop]
        rw [el, spans_app, spans_cons, spans_cons] at hs
        show goB true ⟨#[]⟩ (spansZ (m.zs.take i ++ _ :: m.zs.drop (i + 2))) = true
        rw [spans_app, spans_cons]
        exact goB_ctx goB_join _ _ _ hs
    · exfalso
      have e1 : m.zs[i + 1].id = (m.zs[kk]'(by omega)).id := by rw [o, hp.nb]
      have := ids_at hm.inv.nodup h2 (by omega) e1
      omega
  | moveDone k p p1 p2 e x =>
    obtain ⟨t1, t2, t3⟩ := hm.til.part i h p2
    have hmv : 1 ≤ m.zs[i].mv ∧ m.zs[i].mv ≤ 1048576 := by
      rcases t2.cases with h | h | h
      · exact absurd h.1 p
      · exact h.2.1
      · exact absurd h.1 p1
    refine ⟨hI, hO, ?_, set_ok _ ⟨hzi.id, hmv, by show 1 ≤ m.zs[i].ep + 1; have := hzi.ep; omega⟩, hn, ?_⟩
    · show Tiled (m.zs.set i _)
      rw [set_td h]
      exact t1.app (.one (settled_lone _ _) t3)
    · show allB (spansZ (m.zs.set i _)) = true
      exact spans_keep h _ rfl rfl hm.spn
  | abort k p e x =>
    obtain ⟨t1, t2, t3⟩ := hm.til.part i h (by omega)
    refine ⟨hI, hO, ?_, set_ok _ ⟨hzi.id, hzi.ow, by show 1 ≤ m.zs[i].ep + 1; have := hzi.ep; omega⟩, hn, ?_⟩
    · show Tiled (m.zs.set i _)
      rw [set_td h]
      exact t1.app (.one (settled_lone _ _) t3)
    · show allB (spansZ (m.zs.set i _)) = true
      exact spans_keep h _ rfl rfl hm.spn
theorem Applies.may {hosts : List Int} {m m' : Mp} {c : Ch} (h : Applies hosts m c m') (hm : MayI m) : MayI m' := by
  obtain ⟨i, hl, _, _, m1, hd, rfl⟩ := h.deed
  have := hd.may h.ok hm
  have hk := h.okn hm.okn
  exact ⟨⟨this.inv.nodup, this.inv.low⟩, hk, this.til, this.okz, this.nxt, this.spn⟩
/-- how large its numbers are -/
structure Small (m : Mp) (n : Int) : Prop where
  ver : m.ver ≤ n
  nxt : m.nxt ≤ n
  ep : ∀ z ∈ m.zs, z.ep ≤ n
theorem Deed.small {hosts : List Int} {m m' : Mp} {c : Ch} {i : Nat} {h : i < m.zs.length} (hd : Deed hosts m c i h m') {n : Int} (hs : Small m n) : Small m' (n + 1) := by
  have hv := hs.ver
  have hn := hs.nxt
  have he : ∀ z ∈ m.zs, z.ep ≤ n + 1 := fun z hz => by have := hs.ep z hz; omega
  have hi := hs.ep m.zs[i] (List.getElem_mem h)
  have set_ep : ∀ (a : Zn), a.ep ≤ n + 1 → ∀ z ∈ m.zs.set i a, z.ep ≤ n + 1 := fun a ha z hz => by
    rcases mem_set' hz with rfl | hz
    · exact ha
    · exact he z hz
  cases hd with
  | split k p q nn x => exact ⟨by show m.ver ≤ n + 1; omega, by show m.nxt + 1 ≤ n + 1; omega, set_ep _ (by show m.zs[i].ep ≤ n + 1; omega)⟩
  | merge k h2 p q o =>
    refine ⟨by show m.ver ≤ n + 1; omega, by show m.nxt ≤ n + 1; omega, fun z hz => ?_⟩
    rcases mem_set' hz with rfl | hz
    · exact he m.zs[i + 1] (List.getElem_mem h2)
    · exact set_ep { m.zs[i] with pd := 2, nw := m.zs[i + 1].id } (by show m.zs[i].ep ≤ n + 1; omega) z hz
  | move k p q o nn => exact ⟨by show m.ver ≤ n + 1; omega, by show m.nxt ≤ n + 1; omega, set_ep _ (by show m.zs[i].ep ≤ n + 1; omega)⟩
  | splitDone k p e q x =>
    refine ⟨by show m.ver ≤ n + 1; omega, by show m.nxt ≤ n + 1; omega, fun z hz => ?_⟩
    rcases List.mem_append.1 hz with hz | hz
    · exact he z (List.mem_of_mem_take hz)
    · rcases List.mem_cons.1 hz with rfl | hz
      · show m.zs[i].ep + 1 ≤ n + 1; omega
      · rcases List.mem_cons.1 hz with rfl | hz
        · show m.zs[i].ep + 1 ≤ n + 1; omega
        · exact he z (List.mem_of_mem_drop hz)
  | mergeDone k p e h2 o q x =>
    have h2e := hs.ep m.zs[i + 1] (List.getElem_mem h2)
    refine ⟨by show m.ver ≤ n + 1; omega, by show m.nxt ≤ n + 1; omega, fun z hz => ?_⟩
    rcases List.mem_append.1 hz with hz | hz
    · exact he z (List.mem_of_mem_take hz)
    · rcases List.mem_cons.1 hz with rfl | hz
      · show max m.zs[i].ep m.zs[i + 1].ep + 1 ≤ n + 1; omega
      · exact he z (List.mem_of_mem_drop hz)
  | moveDone k p p1 p2 e x => exact ⟨by show m.ver ≤ n + 1; omega, by show m.nxt ≤ n + 1; omega, set_ep _ (by show m.zs[i].ep + 1 ≤ n + 1; omega)⟩
  | abort k p e x => exact ⟨by show m.ver ≤ n + 1; omega, by show m.nxt ≤ n + 1; omega, set_ep _ (by show m.zs[i].ep + 1 ≤ n + 1; omega)⟩
theorem Applies.small {hosts : List Int} {m m' : Mp} {c : Ch} (h : Applies hosts m c m') {n : Int} (hs : Small m n) : Small m' (n + 1) := by
  obtain ⟨i, hl, _, _, m1, hd, rfl⟩ := h.deed
  have := hd.small hs
  have hv := hd.ver
  exact ⟨by show m1.ver + 1 ≤ n + 1; have := hs.ver; omega, this.nxt, this.ep⟩
end Go.Proofs.Ytbohpjinkdffhaa
