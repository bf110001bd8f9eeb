/- a change that splits, merges or moves keeps a map one that may be. -/
import Derived.Test.YtepjehcmiofehaaPlV
namespace Go.Proofs.Ytepjehcmiofehaa
open Go.RowKit
set_option linter.unusedVariables false
set_option linter.unusedSimpArgs false

theorem idsA_setW : ∀ {l : List Zn} {i : Nat} (h : i < l.length) {z : Zn}, idsZ z = idsZ l[i] → idsA (l.set i z) = idsA l
  | [], i, h, z, _ => by cases h
  | a :: r, 0, h, z, e => by
    rw [List.set_cons_zero, idsA_cons, idsA_cons, e]
    rfl
  | a :: r, i + 1, h, z, e => by
    rw [List.set_cons_succ, idsA_cons, idsA_cons, idsA_setW (l := r) (i := i) (by simpa using h) e]
theorem idsA_newW : ∀ {l : List Zn} {i : Nat} (h : i < l.length) {z : Zn} {a n : Int}, idsZ l[i] = [a] → idsZ z = [a, n] → (idsA (l.set i z)).Perm (n :: idsA l)
  | [], i, h, z, _, _, _, _ => by cases h
  | b :: r, 0, h, z, a, n, e, e2 => by
    have e' : idsZ b = [a] := e
    rw [List.set_cons_zero, idsA_cons, idsA_cons, e2, e']
    exact List.Perm.swap _ _ _
  | b :: r, i + 1, h, z, a, n, e, e2 => by
    rw [List.set_cons_succ, idsA_cons, idsA_cons]
    exact ((idsA_newW (l := r) (i := i) (by simpa using h) e e2).append_left _).trans List.perm_middle
theorem spans_setW {l : List Zn} {i : Nat} (h : i < l.length) {z : Zn} (e : z.fr = l[i].fr ∧ z.tt = l[i].tt) : spansZ (l.set i z) = spansZ l := by
  unfold spansZ
  refine List.ext_getElem (by simp) fun j h1 h2 => ?_
  simp only [List.getElem_map, List.getElem_set]
  split
  · rename_i e2; subst e2; rw [e.1, e.2]
  · rfl
theorem core_setW {l : List Zn} {i : Nat} (hi : i < l.length) (hpd : l[i].pd = 0) (z : Zn) {j : Nat} (hj : j < l.length) (hne : j ≠ i) (hc : Core l j hj) : Core (l.set i z) j (by simpa using hj) := by
  have ej : (l.set i z)[j]'(by simpa using hj) = l[j] := List.getElem_set_ne (by omega) _
  refine ⟨by rw [ej]; exact hc.ow1, by rw [ej]; exact hc.ow2, by rw [ej]; exact hc.ep1, by rw [ej]; exact hc.ep2, ?_⟩
  rw [ej]
  rcases hc.st with h | h | h | ⟨h1, h2, h3, h4⟩
  · exact .inl h
  · exact .inr (.inl h)
  · exact .inr (.inr (.inl h))
  · refine .inr (.inr (.inr ⟨h1, h2, h3, ?_⟩))
    rcases h4 with ⟨k, hk, e, hp⟩ | ⟨hk, hp⟩
    · refine .inl ⟨k, by simpa using hk, e, ?_⟩
      have hki : k ≠ i := fun e => by subst e; have := hp.pb; omega
      rw [List.getElem_set_ne (by omega)]
      exact hp
    · refine .inr ⟨by simpa using hk, ?_⟩
      have hki : j + 1 ≠ i := fun e => by subst e; have := hp.pb; omega
      rw [List.getElem_set_ne (by omega)]
      exact hp
theorem st0_of {l : List Zn} {i : Nat} {hi : i < l.length} (hc : Core l i hi) (hpd : l[i].pd = 0) : St0 l[i] := by
  rcases hc.st with ⟨_, h⟩ | ⟨h, _⟩ | ⟨h, _⟩ | ⟨h, _⟩
  · exact h
  · omega
  · omega
  · omega
/-- a split, a merge, a move keeps a map one that may be -/
theorem Applies.mayP {hosts : List Int} {m m' : Mp} {c : Ch} (h : Applies hosts m c m') (hk : c.kd ≤ 3) (hm : MayP m) : MayP m' := by
  obtain ⟨i, hl, _, _, m1, hd, rfl⟩ := h.deed
  have hver := h.ver
  have hok := h.ok
  have v1 := hm.v1
  have n1 := hm.n1
  have n2 := hm.n2
  unfold topN at hver
  cases hd with
  | split k p q n x =>
    unfold topN at x
    have s0 := st0_of (hm.core i hl) p
    have hp := idsA_newW hl (z := { m.zs[i] with pd := 1, ky := c.ky, nw := m.nxt }) (a := m.zs[i].id) (n := m.nxt) (by simp [idsZ, p]) (by simp [idsZ])
    have hn : m.nxt ∉ idsA m.zs := fun hx => by have := (hm.rng _ hx).2; omega
    refine ⟨by show 1 ≤ m.ver + 1; omega, by show m.ver + 1 ≤ _; omega, by show 1 ≤ m.nxt + 1; omega, by show m.nxt + 1 ≤ _; omega, by simpa using hm.len, hp.nodup_iff.2 (List.nodup_cons.2 ⟨hn, hm.nodup⟩), fun a ha => ?_, fun j hj => ?_, ?_⟩
    · show 1 ≤ a ∧ a < m.nxt + 1
      rcases List.mem_cons.1 (hp.mem_iff.1 ha) with e | ha
      · omega
      · have := hm.rng a ha; omega
    · have hj2 : j < m.zs.length := by simpa using hj
      by_cases e : j = i
      · subst e
        have hc := hm.core j hl
        have ej : (m.zs.set j { m.zs[j] with pd := 1, ky := c.ky, nw := m.nxt })[j]'hj = { m.zs[j] with pd := 1, ky := c.ky, nw := m.nxt } := List.getElem_set_self _
        refine ⟨by show 1 ≤ (_ : Zn).ow; rw [ej]; exact hc.ow1, by show (_ : Zn).ow ≤ _; rw [ej]; exact hc.ow2, by show 1 ≤ (_ : Zn).ep; rw [ej]; exact hc.ep1, by show (_ : Zn).ep ≤ _; rw [ej]; exact hc.ep2, ?_⟩
        simp only [ej]
        exact .inr (.inr (.inl ⟨trivial, q, s0.1⟩))
      · exact core_setW hl p _ hj2 e (hm.core j hj2)
    · show allB (spansZ (m.zs.set i _)) = true
      rw [spans_setW hl (z := { m.zs[i] with pd := 1, ky := c.ky, nw := m.nxt }) ⟨rfl, rfl⟩]
      exact hm.spn
  | move k p q o n =>
    have s0 := st0_of (hm.core i hl) p
    have e0 : idsA (m.zs.set i { m.zs[i] with pd := 3, mv := c.mv }) = idsA m.zs := idsA_setW hl (by simp [idsZ, p])
    have hmv := hok.mv.1 k
    refine ⟨by show 1 ≤ m.ver + 1; omega, by show m.ver + 1 ≤ _; omega, n1, n2, by simpa using hm.len, by show (idsA _).Nodup; rw [e0]; exact hm.nodup, by show ∀ a ∈ idsA _, _; rw [e0]; exact hm.rng, fun j hj => ?_, ?_⟩
    · have hj2 : j < m.zs.length := by simpa using hj
      by_cases e : j = i
      · subst e
        have hc := hm.core j hl
        have ej : (m.zs.set j { m.zs[j] with pd := 3, mv := c.mv })[j]'hj = { m.zs[j] with pd := 3, mv := c.mv } := List.getElem_set_self _
        refine ⟨by show 1 ≤ (_ : Zn).ow; rw [ej]; exact hc.ow1, by show (_ : Zn).ow ≤ _; rw [ej]; exact hc.ow2, by show 1 ≤ (_ : Zn).ep; rw [ej]; exact hc.ep1, by show (_ : Zn).ep ≤ _; rw [ej]; exact hc.ep2, ?_⟩
        simp only [ej]
        exact .inr (.inl ⟨trivial, hmv.1, hmv.2, o, s0.2.1, s0.2.2⟩)
      · exact core_setW hl p _ hj2 e (hm.core j hj2)
    · show allB (spansZ (m.zs.set i _)) = true
      rw [spans_setW hl (z := { m.zs[i] with pd := 3, mv := c.mv }) ⟨rfl, rfl⟩]
      exact hm.spn
  | merge k h2 p q o =>
    have s0 := st0_of (hm.core i hl) p
    have s1 := st0_of (hm.core (i + 1) h2) q
    obtain ⟨z1, hz1⟩ : ∃ z, z = ({ m.zs[i] with pd := 2, nw := m.zs[i + 1].id } : Zn) := ⟨_, rfl⟩
    obtain ⟨z2, hz2⟩ : ∃ z, z = ({ m.zs[i + 1] with pd := 2, nw := m.zs[i].id } : Zn) := ⟨_, rfl⟩
    rw [← hz1, ← hz2]
    have h3 : i + 1 < (m.zs.set i z1).length := by simpa using h2
    have e4 : (m.zs.set i z1)[i + 1] = m.zs[i + 1] := List.getElem_set_ne (by omega) _
    have e0 : idsA ((m.zs.set i z1).set (i + 1) z2) = idsA m.zs := by
      rw [idsA_setW h3 (by rw [e4, hz2]; simp [idsZ, q]), idsA_setW hl (by rw [hz1]; simp [idsZ, p])]
    have hc0 := hm.core i hl
    have hc1 := hm.core (i + 1) h2
    have f1 : ∀ hj, ((m.zs.set i z1).set (i + 1) z2)[i + 1]'hj = z2 := fun hj => List.getElem_set_self _
    have f0 : ∀ hj, ((m.zs.set i z1).set (i + 1) z2)[i]'hj = z1 := fun hj => by rw [List.getElem_set_ne (by omega), List.getElem_set_self]
    have hpr : Pr z1 z2 := by rw [hz1, hz2]; exact ⟨rfl, rfl, o, rfl, rfl⟩
    have hpr2 : Pr z2 z1 := by rw [hz1, hz2]; exact ⟨rfl, rfl, o.symm, rfl, rfl⟩
    refine ⟨by show 1 ≤ m.ver + 1; omega, by show m.ver + 1 ≤ _; omega, n1, n2, by simpa using hm.len, by show (idsA _).Nodup; rw [e0]; exact hm.nodup, by show ∀ a ∈ idsA _, _; rw [e0]; exact hm.rng, fun j hj => ?_, ?_⟩
    · have hj2 : j < m.zs.length := by simpa using hj
      show Core ((m.zs.set i z1).set (i + 1) z2) j hj
      by_cases e : j = i + 1
      · subst e
        refine ⟨by rw [f1, hz2]; exact hc1.ow1, by rw [f1, hz2]; exact hc1.ow2, by rw [f1, hz2]; exact hc1.ep1, by rw [f1, hz2]; exact hc1.ep2, ?_⟩
        refine .inr (.inr (.inr ⟨by rw [f1, hz2], by rw [f1, hz2]; exact s1.1, by rw [f1, hz2]; exact s1.2.1, .inl ⟨i, by simpa using hl, rfl, ?_⟩⟩))
        rw [f1, f0]
        exact hpr2
      · by_cases e2 : j = i
        · subst e2
          refine ⟨by rw [f0, hz1]; exact hc0.ow1, by rw [f0, hz1]; exact hc0.ow2, by rw [f0, hz1]; exact hc0.ep1, by rw [f0, hz1]; exact hc0.ep2, ?_⟩
          refine .inr (.inr (.inr ⟨by rw [f0, hz1], by rw [f0, hz1]; exact s0.1, by rw [f0, hz1]; exact s0.2.1, .inr ⟨by simpa using h2, ?_⟩⟩))
          rw [f1, f0]
          exact hpr
        · exact core_setW h3 (by rw [e4]; exact q) _ (by simpa using hj2) e (core_setW hl p _ hj2 e2 (hm.core j hj2))
    · show allB (spansZ ((m.zs.set i z1).set (i + 1) z2)) = true
      rw [spans_setW h3 (by rw [e4, hz2]; exact ⟨rfl, rfl⟩), spans_setW hl (by rw [hz1]; exact ⟨rfl, rfl⟩)]
      exact hm.spn
  | splitDone k p e q x => omega
  | mergeDone k p e h2 o q x => omega
  | moveDone k p p1 p2 e x => omega
  | abort k p e x => omega
end Go.Proofs.Ytepjehcmiofehaa
