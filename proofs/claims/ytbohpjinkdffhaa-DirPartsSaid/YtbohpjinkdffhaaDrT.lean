/- The directory: what stays true of it; known. -/
import Derived.Test.YtbohpjinkdffhaaDrS
namespace Go.Proofs.Ytbohpjinkdffhaa
open Go.RowKit
set_option linter.unusedVariables false
set_option linter.unusedSimpArgs false

theorem pendN_cons (k : Int) (a : Zn) (r : List Zn) : pendN k (a :: r) = (if a.pd = k then 1 else 0) + pendN k r := by
  unfold pendN
  rw [List.filter_cons]
  by_cases h : a.pd = k
  · simp [h]; omega
  · simp [h]
theorem pendN_app (k : Int) (l r : List Zn) : pendN k (l ++ r) = pendN k l + pendN k r := by
  unfold pendN
  rw [List.filter_append, List.length_append]
theorem pendN_nil (k : Int) : pendN k [] = 0 := rfl
theorem pendN_td (k : Int) {l : List Zn} {i : Nat} (h : i < l.length) : pendN k l = pendN k (l.take i) + ((if l[i].pd = k then 1 else 0) + pendN k (l.drop (i + 1))) := by
  conv => lhs; rw [split_td h]
  rw [pendN_app, pendN_cons]
theorem pendN_set (k : Int) {l : List Zn} {i : Nat} (h : i < l.length) (a : Zn) : pendN k (l.set i a) = pendN k (l.take i) + ((if a.pd = k then 1 else 0) + pendN k (l.drop (i + 1))) := by
  rw [set_td h, pendN_app, pendN_cons]
/-- what stays true -/
structure OkN (m : Mp) : Prop where
  one : 1 ≤ m.zs.length
  sum : m.zs.length + pendN 1 m.zs ≤ 16
  mv : pendN 3 m.zs ≤ 2
  nxt : 0 ≤ m.nxt
  ver : 0 ≤ m.ver
  ep : ∀ z ∈ m.zs, 0 ≤ z.ep
theorem OkN.okm {m : Mp} (h : OkN m) : OkM m := ⟨by have := h.sum; omega, h.nxt, h.ver, h.ep⟩
theorem Deed.okn {hosts : List Int} {m m' : Mp} {c : Ch} {i : Nat} {h : i < m.zs.length} (hd : Deed hosts m c i h m') (ho : OkN m) : OkN m' := by
  have hs := ho.sum
  have hm := ho.mv
  have hn := ho.nxt
  have h1 := pendN_td 1 h
  have h3 := pendN_td 3 h
  have he := ho.ep m.zs[i] (List.getElem_mem h)
  have set_ep : ∀ (a : Zn), 0 ≤ a.ep → ∀ z ∈ m.zs.set i a, 0 ≤ z.ep := fun a ha z hz => by
    rcases mem_set' hz with rfl | hz
    · exact ha
    · exact ho.ep z hz
  cases hd with
  | split k p q n x =>
    refine ⟨by show 1 ≤ (m.zs.set i _).length; rw [List.length_set]; exact ho.one, ?_, ?_, by show 0 ≤ m.nxt + 1; omega, ho.ver, set_ep _ he⟩
    · show (m.zs.set i _).length + pendN 1 (m.zs.set i _) ≤ 16
      rw [List.length_set, pendN_set 1 h]
      rw [p] at h1
      simp at h1 ⊢
      omega
    · show pendN 3 (m.zs.set i _) ≤ 2
      rw [pendN_set 3 h]
      rw [p] at h3
      simp at h3 ⊢
      omega
  | merge k h2 p q o =>
    have e2 : (m.zs.set i { m.zs[i] with pd := 2, nw := m.zs[i + 1].id })[i + 1]'(by rw [List.length_set]; exact h2) = m.zs[i + 1] := List.getElem_set_ne (by omega) _
    have g1 := pendN_td 1 (l := m.zs.set i { m.zs[i] with pd := 2, nw := m.zs[i + 1].id }) (i := i + 1) (by rw [List.length_set]; exact h2)
    have g3 := pendN_td 3 (l := m.zs.set i { m.zs[i] with pd := 2, nw := m.zs[i + 1].id }) (i := i + 1) (by rw [List.length_set]; exact h2)
    rw [e2, pendN_set _ h] at g1 g3
    rw [p] at h1 h3
    rw [q] at g1 g3
    simp at h1 h3 g1 g3
    refine ⟨by show 1 ≤ ((m.zs.set i _).set (i + 1) _).length; rw [List.length_set, List.length_set]; exact ho.one, ?_, ?_, hn, ho.ver, ?_⟩
    · show ((m.zs.set i _).set (i + 1) _).length + pendN 1 ((m.zs.set i _).set (i + 1) _) ≤ 16
      rw [List.length_set, List.length_set, pendN_set 1 (by rw [List.length_set]; exact h2)]
      simp
      omega
    · show pendN 3 ((m.zs.set i _).set (i + 1) _) ≤ 2
      rw [pendN_set 3 (by rw [List.length_set]; exact h2)]
      simp
      omega
    · intro z hz
      rcases mem_set' hz with rfl | hz
      · exact ho.ep m.zs[i + 1] (List.getElem_mem h2)
      · exact set_ep { m.zs[i] with pd := 2, nw := m.zs[i + 1].id } he z hz
  | move k p q o n =>
    refine ⟨by show 1 ≤ (m.zs.set i _).length; rw [List.length_set]; exact ho.one, ?_, ?_, hn, ho.ver, set_ep _ he⟩
    · show (m.zs.set i _).length + pendN 1 (m.zs.set i _) ≤ 16
      rw [List.length_set, pendN_set 1 h]
      rw [p] at h1
      simp at h1 ⊢
      omega
    · show pendN 3 (m.zs.set i _) ≤ 2
      rw [pendN_set 3 h]
      rw [p] at h3
      simp at h3 ⊢
      omega
  | splitDone k p e q x =>
    have hl : (m.zs.take i).length = i := by rw [List.length_take]; omega
    have hl2 : (m.zs.drop (i + 1)).length = m.zs.length - (i + 1) := List.length_drop
    refine ⟨?_, ?_, ?_, hn, ho.ver, ?_⟩
    · show 1 ≤ (m.zs.take i ++ _ :: _ :: m.zs.drop (i + 1)).length
      rw [List.length_append, List.length_cons, List.length_cons]; omega
    · show (m.zs.take i ++ _ :: _ :: m.zs.drop (i + 1)).length + pendN 1 (m.zs.take i ++ _ :: _ :: m.zs.drop (i + 1)) ≤ 16
      rw [List.length_append, List.length_cons, List.length_cons, pendN_app, pendN_cons, pendN_cons]
      rw [p] at h1
      simp [settled] at h1 ⊢
      omega
    · show pendN 3 (m.zs.take i ++ _ :: _ :: m.zs.drop (i + 1)) ≤ 2
      rw [pendN_app, pendN_cons, pendN_cons]
      rw [p] at h3
      simp [settled] at h3 ⊢
      omega
    · intro z hz
      rcases List.mem_append.1 hz with hz | hz
      · exact ho.ep z (List.mem_of_mem_take hz)
      · rcases List.mem_cons.1 hz with rfl | hz
        · show 0 ≤ m.zs[i].ep + 1; omega
        · rcases List.mem_cons.1 hz with rfl | hz
          · show 0 ≤ m.zs[i].ep + 1; omega
          · exact ho.ep z (List.mem_of_mem_drop hz)
  | mergeDone k p e h2 o q x =>
    have hl : (m.zs.take i).length = i := by rw [List.length_take]; omega
    have hl2 : (m.zs.drop (i + 2)).length = m.zs.length - (i + 2) := List.length_drop
    have hdr : m.zs.drop (i + 1) = m.zs[i + 1] :: m.zs.drop (i + 2) := List.drop_eq_getElem_cons h2
    rw [hdr, pendN_cons] at h1 h3
    refine ⟨?_, ?_, ?_, hn, ho.ver, ?_⟩
    · show 1 ≤ (m.zs.take i ++ _ :: m.zs.drop (i + 2)).length
      rw [List.length_append, List.length_cons]; omega
    · show (m.zs.take i ++ _ :: m.zs.drop (i + 2)).length + pendN 1 (m.zs.take i ++ _ :: m.zs.drop (i + 2)) ≤ 16
      rw [List.length_append, List.length_cons, pendN_app, pendN_cons]
      simp [settled]
      omega
    · show pendN 3 (m.zs.take i ++ _ :: m.zs.drop (i + 2)) ≤ 2
      rw [pendN_app, pendN_cons]
      simp [settled]
      omega
    · intro z hz
      rcases List.mem_append.1 hz with hz | hz
      · exact ho.ep z (List.mem_of_mem_take hz)
      · rcases List.mem_cons.1 hz with rfl | hz
        · show 0 ≤ max m.zs[i].ep m.zs[i + 1].ep + 1; omega
        · exact ho.ep z (List.mem_of_mem_drop hz)
  | moveDone k p p1 p2 e x =>
    refine ⟨by show 1 ≤ (m.zs.set i _).length; rw [List.length_set]; exact ho.one, ?_, ?_, hn, ho.ver, set_ep _ (by show 0 ≤ m.zs[i].ep + 1; omega)⟩
    · show (m.zs.set i _).length + pendN 1 (m.zs.set i _) ≤ 16
      rw [List.length_set, pendN_set 1 h]
      simp [settled]
      omega
    · show pendN 3 (m.zs.set i _) ≤ 2
      rw [pendN_set 3 h]
      simp [settled]
      omega
  | abort k p e x =>
    refine ⟨by show 1 ≤ (m.zs.set i _).length; rw [List.length_set]; exact ho.one, ?_, ?_, hn, ho.ver, set_ep _ (by show 0 ≤ m.zs[i].ep + 1; omega)⟩
    · show (m.zs.set i _).length + pendN 1 (m.zs.set i _) ≤ 16
      rw [List.length_set, pendN_set 1 h]
      simp [settled]
      omega
    · show pendN 3 (m.zs.set i _) ≤ 2
      rw [pendN_set 3 h]
      simp [settled]
      omega
theorem Applies.okn {hosts : List Int} {m m' : Mp} {c : Ch} (h : Applies hosts m c m') (ho : OkN m) : OkN m' := by
  obtain ⟨i, hl, _, _, m1, hd, rfl⟩ := h.deed
  have := hd.okn ho
  exact ⟨this.one, this.sum, this.mv, this.nxt, by show 0 ≤ m1.ver + 1; have := this.ver; omega, this.ep⟩
theorem OkN.begin (l : List Int) : OkN (mp1 l) := ⟨by simp [mp1], by simp [mp1, pendN], by simp [mp1, pendN], by simp [mp1], by simp [mp1], by simp [mp1]⟩
theorem mp1_inv (l : List Int) : InvZ (mp1 l) := InvZ.begin _ rfl rfl
end Go.Proofs.Ytbohpjinkdffhaa
