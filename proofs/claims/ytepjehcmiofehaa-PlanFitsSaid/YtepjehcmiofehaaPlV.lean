/- plan: its changes, in order, apply. -/
import Derived.Test.YtepjehcmiofehaaPlQ
namespace Go.Proofs.Ytepjehcmiofehaa
open Go.RowKit
set_option linter.unusedVariables false
set_option linter.unusedSimpArgs false

inductive Run (hs : List Int) (m : Mp) : List Ch → Mp → Prop
  | nil : Run hs m [] m
  | snoc {cs : List Ch} {m1 m2 : Mp} {c : Ch} (h : Run hs m cs m1) (ha : Applies hs m1 c m2) : Run hs m (cs ++ [c]) m2
theorem pendN_set (k : Int) : ∀ {l : List Zn} {i : Nat} (h : i < l.length) (z : Zn), pendN k (l.set i z) + (if l[i].pd = k then 1 else 0) = pendN k l + (if z.pd = k then 1 else 0)
  | [], i, h, z => by cases h
  | a :: r, 0, h, z => by
    simp only [pendN, List.set_cons_zero, List.filter_cons, List.getElem_cons_zero, decide_eq_true_eq]
    split <;> split <;> simp <;> omega
  | a :: r, i + 1, h, z => by
    have ih := pendN_set k (l := r) (i := i) (by simpa using h) z
    simp only [pendN, List.set_cons_succ, List.filter_cons, List.getElem_cons_succ, decide_eq_true_eq] at ih ⊢
    split <;> (try simp only [List.length_cons]) <;> omega
/-- a plan by now, and the map behind its changes -/
structure Fit (hs : List Int) (m : Mp) (P0 ps : List Pz) (cs : List Ch) (m1 : Mp) (n1 n3 : Nat) : Prop where
  run : Run hs m cs m1
  busy : Busy P0 ps cs
  len : m1.zs.length = ps.length
  id : ∀ i (h : i < m1.zs.length) (h2 : i < ps.length), m1.zs[i].id = ps[i].z.id ∧ m1.zs[i].ow = ps[i].z.ow
  fre : ∀ i (h : i < m1.zs.length) (h2 : i < ps.length), ps[i].fr = true → m1.zs[i] = ps[i].z
  ver : m1.ver = m.ver + cs.length
  nxt : m1.nxt ≤ m.nxt + cs.length
  p1 : pendN 1 m1.zs = n1
  p3 : pendN 3 m1.zs = n3
theorem Fit.first {hs : List Int} {m m1 : Mp} {P0 ps : List Pz} {cs : List Ch} {n1 n3 : Nat} (h : Fit hs m P0 ps cs m1 n1 n3) (hn : (P0.map fun p => p.z.id).Nodup) {i : Nat} (hi : i < ps.length) : ∀ j (hj : j < m1.zs.length), j < i → m1.zs[j].id ≠ ps[i].z.id := by
  intro j hj hji e
  have hj2 : j < ps.length := by rw [← h.len]; exact hj
  rw [(h.id j hj hj2).1] at e
  have hn2 : (ps.map fun p => p.z.id).Nodup := by rw [h.busy.same.ids]; exact hn
  have := (List.getElem_inj (xs := ps.map fun p => p.z.id) (i := j) (j := i) (h₀ := by simpa using hj2) (h₁ := by simpa using hi) hn2).1 (by simpa using e)
  omega
theorem Fit.step {hs : List Int} {m m1 : Mp} {P0 ps : List Pz} {cs : List Ch} {n1 n3 : Nat} (h : Fit hs m P0 ps cs m1 n1 n3) (hn : (P0.map fun p => p.z.id).Nodup) {i : Nat} (hi : i < ps.length) (hi1 : i < m1.zs.length) (hf : ps[i].fr = true) {q : Pz} (hq : q.z = ps[i].z ∧ q.hits = ps[i].hits ∧ q.mid = ps[i].mid) (hqf : q.fr = false) {c : Ch} (hc : c.zo = ps[i].z.id) {z : Zn} (hz : z.id = ps[i].z.id ∧ z.ow = ps[i].z.ow) {nx : Int} (hnx : nx ≤ m1.nxt + 1)
    (ha : Applies hs m1 c ⟨m1.ver + 1, nx, m1.zs.set i z⟩) : Fit hs m P0 (ps.set i q) (cs ++ [c]) ⟨m1.ver + 1, nx, m1.zs.set i z⟩ (n1 + if z.pd = 1 then 1 else 0) (n3 + if z.pd = 3 then 1 else 0) := by
  have hpd : m1.zs[i].pd = 0 := by rw [h.fre i hi1 hi hf]; exact h.busy.free i hi hf
  refine ⟨h.run.snoc ha, h.busy.add hn hi hf hq hqf hc, by simpa using h.len, fun j hj hj2 => ?_, fun j hj hj2 hfj => ?_, ?_, ?_, ?_, ?_⟩
  · simp only [List.getElem_set]
    split
    · rename_i e; subst e; rw [hq.1]; exact hz
    · exact h.id j (by simpa using hj) (by simpa using hj2)
  · simp only [List.getElem_set] at hfj ⊢
    split at hfj
    · rw [hqf] at hfj; cases hfj
    · rename_i ne
      rw [if_neg ne, if_neg ne]
      exact h.fre j (by simpa using hj) (by simpa using hj2) hfj
  · have := h.ver; simp only [List.length_append, List.length_singleton]; omega
  · have := h.nxt; simp only [List.length_append, List.length_singleton]; omega
  · have h1 := pendN_set 1 hi1 z
    rw [hpd, h.p1] at h1
    simpa using h1
  · have h1 := pendN_set 3 hi1 z
    rw [hpd, h.p3] at h1
    simpa using h1
theorem cut_key {f t k : ByteArray} (h : cutB f t k = true) : 1 ≤ k.size ∧ k.size ≤ 16 := by
  simp only [cutB, inB, Bool.and_eq_true, decide_eq_true_eq] at h
  omega
/-- a split applies -/
theorem Fit.split {hs : List Int} {m m1 : Mp} {P0 ps : List Pz} {cs : List Ch} {n1 n3 : Nat} (h : Fit hs m P0 ps cs m1 n1 n3) (hn : (P0.map fun p => p.z.id).Nodup) (hr : ∀ p ∈ ps, 1 ≤ p.z.id ∧ p.z.id ≤ 1099511627776) (hv : m1.ver < topN) (hx : m1.nxt < topN) {i : Nat} (hi : i < ps.length) (hf : ps[i].fr = true) (hcut : cutsB ps[i] = true) (hroom : ps.length + n1 < 16) :
    ∃ m2, Fit hs m P0 (ps.set i (taken ps[i])) (cs ++ [⟨1, ps[i].z.id, 0, 0, ps[i].mid⟩]) m2 (n1 + 1) n3 := by
  have hi1 : i < m1.zs.length := by rw [h.len]; exact hi
  have hz := h.fre i hi1 hi hf
  have hpd := h.busy.free i hi hf
  have hk := cut_key hcut
  have hid := hr ps[i] (List.getElem_mem hi)
  have ha : Applies hs m1 ⟨1, ps[i].z.id, 0, 0, ps[i].mid⟩ ⟨m1.ver + 1, m1.nxt + 1, m1.zs.set i { m1.zs[i] with pd := 1, ky := ps[i].mid, nw := m1.nxt }⟩ :=
    ⟨⟨hid, by simp, ⟨fun _ => hk, fun h => absurd rfl h⟩, ⟨fun h => by simp at h, fun _ => rfl⟩, ⟨fun h => by simp at h, fun _ _ => rfl⟩⟩, hv, i, hi1, (h.id i hi1 hi).1, h.first hn hi, _, Deed.split rfl (by rw [hz]; exact hpd) (by rw [hz]; exact hcut) (by rw [h.len, h.p1]; omega) hx, rfl⟩
  have hs := h.step hn hi hi1 hf (q := taken ps[i]) ⟨rfl, rfl, rfl⟩ rfl rfl (by rw [hz]; exact ⟨rfl, rfl⟩) (Int.le_refl _) ha
  simp only [if_true] at hs
  exact ⟨_, by simpa using hs⟩
/-- a move applies -/
theorem Fit.move {hs : List Int} {m m1 : Mp} {P0 ps : List Pz} {cs : List Ch} {n1 n3 : Nat} (h : Fit hs m P0 ps cs m1 n1 n3) (hn : (P0.map fun p => p.z.id).Nodup) (hr : ∀ p ∈ ps, 1 ≤ p.z.id ∧ p.z.id ≤ 1099511627776) (hv : m1.ver < topN) {i : Nat} (hi : i < ps.length) (hf : ps[i].fr = true) {g : Int} (hg : g ∈ hs) (hgo : g ≠ ps[i].z.ow) (hg1 : 1 ≤ g ∧ g ≤ 1048576) (hmv : n3 < 2) :
    ∃ m2, Fit hs m P0 (ps.set i (gone ps[i] g)) (cs ++ [⟨3, ps[i].z.id, 0, g, ⟨#[]⟩⟩]) m2 n1 (n3 + 1) := by
  have hi1 : i < m1.zs.length := by rw [h.len]; exact hi
  have hz := h.fre i hi1 hi hf
  have hpd := h.busy.free i hi hf
  have hid := hr ps[i] (List.getElem_mem hi)
  have ha : Applies hs m1 ⟨3, ps[i].z.id, 0, g, ⟨#[]⟩⟩ ⟨m1.ver + 1, m1.nxt, m1.zs.set i { m1.zs[i] with pd := 3, mv := g }⟩ :=
    ⟨⟨hid, by simp, ⟨fun h => by simp at h, fun _ => rfl⟩, ⟨fun _ => hg1, fun h => absurd rfl h⟩, ⟨fun h => by simp at h, fun _ _ => rfl⟩⟩, hv, i, hi1, (h.id i hi1 hi).1, h.first hn hi, _, Deed.move rfl (by rw [hz]; exact hpd) hg (by rw [hz]; exact hgo) (by rw [h.p3]; omega), rfl⟩
  have hs := h.step hn hi hi1 hf (q := gone ps[i] g) ⟨rfl, rfl, rfl⟩ rfl rfl (by rw [hz]; exact ⟨rfl, rfl⟩) (by omega) ha
  exact ⟨_, by simpa using hs⟩
/-- a merge applies -/
theorem Fit.merge {hs : List Int} {m m1 : Mp} {P0 ps : List Pz} {cs : List Ch} {n1 n3 : Nat} (h : Fit hs m P0 ps cs m1 n1 n3) (hn : (P0.map fun p => p.z.id).Nodup) (hr : ∀ p ∈ ps, 1 ≤ p.z.id ∧ p.z.id ≤ 1099511627776) (hv : m1.ver < topN) {i : Nat} (hi : i < ps.length) (hi2 : i + 1 < ps.length) (hf : ps[i].fr = true) (hf2 : ps[i + 1].fr = true) (ho : ps[i].z.ow = ps[i + 1].z.ow) :
    ∃ m2, Fit hs m P0 ((ps.set i (taken ps[i])).set (i + 1) (taken ps[i + 1])) (cs ++ [⟨2, ps[i].z.id, 0, 0, ⟨#[]⟩⟩]) m2 n1 n3 := by
  have hi1 : i < m1.zs.length := by rw [h.len]; exact hi
  have hi3 : i + 1 < m1.zs.length := by rw [h.len]; exact hi2
  have hz := h.fre i hi1 hi hf
  have hz2 := h.fre (i + 1) hi3 hi2 hf2
  have hpd := h.busy.free i hi hf
  have hpd2 := h.busy.free (i + 1) hi2 hf2
  have hid := hr ps[i] (List.getElem_mem hi)
  have ha : Applies hs m1 ⟨2, ps[i].z.id, 0, 0, ⟨#[]⟩⟩ ⟨m1.ver + 1, m1.nxt, (m1.zs.set i { m1.zs[i] with pd := 2, nw := m1.zs[i + 1].id }).set (i + 1) { m1.zs[i + 1] with pd := 2, nw := m1.zs[i].id }⟩ :=
    ⟨⟨hid, by simp, ⟨fun h => by simp at h, fun _ => rfl⟩, ⟨fun h => by simp at h, fun _ => rfl⟩, ⟨fun h => by simp at h, fun _ _ => rfl⟩⟩, hv, i, hi1, (h.id i hi1 hi).1, h.first hn hi, _, Deed.merge rfl hi3 (by rw [hz]; exact hpd) (by rw [hz2]; exact hpd2) (by rw [hz, hz2]; exact ho), rfl⟩
  have hb1 := h.busy.add hn hi hf (q := taken ps[i]) ⟨rfl, rfl, rfl⟩ rfl (c := ⟨2, ps[i].z.id, 0, 0, ⟨#[]⟩⟩) rfl
  have hi4 : i + 1 < (ps.set i (taken ps[i])).length := by simpa using hi2
  have e3 : (ps.set i (taken ps[i]))[i + 1] = ps[i + 1] := List.getElem_set_ne (by omega) _
  have hb2 := hb1.mark hi4 (q := taken ps[i + 1]) ⟨by rw [e3]; rfl, by rw [e3]; rfl, by rw [e3]; rfl⟩ rfl
  refine ⟨_, h.run.snoc ha, hb2, by simpa using h.len, fun j hj hj2 => ?_, fun j hj hj2 hfj => ?_, ?_, ?_, ?_, ?_⟩
  · simp only [List.getElem_set]
    by_cases e1 : i + 1 = j
    · subst e1
      simp only [if_true]
      exact ⟨(h.id _ hi3 hi2).1, (h.id _ hi3 hi2).2⟩
    · by_cases e2 : i = j
      · subst e2
        simp only [e1, if_true, if_false]
        exact ⟨(h.id _ hi1 hi).1, (h.id _ hi1 hi).2⟩
      · simp only [e1, e2, if_false]
        exact h.id j (by simpa using hj) (by simpa using hj2)
  · simp only [List.getElem_set] at hfj ⊢
    by_cases e1 : i + 1 = j
    · subst e1
      simp only [if_true] at hfj
      cases hfj
    · by_cases e2 : i = j
      · subst e2
        simp only [e1, if_true, if_false] at hfj
        cases hfj
      · simp only [e1, e2, if_false] at hfj ⊢
        exact h.fre j (by simpa using hj) (by simpa using hj2) hfj
  · have := h.ver; simp only [List.length_append, List.length_singleton]; omega
  · have := h.nxt; simp only [List.length_append, List.length_singleton]; omega
  · have h1 := pendN_set 1 hi1 { m1.zs[i] with pd := 2, nw := m1.zs[i + 1].id }
    have h2 := pendN_set 1 (l := m1.zs.set i { m1.zs[i] with pd := 2, nw := m1.zs[i + 1].id }) (i := i + 1) (by simpa using hi3) { m1.zs[i + 1] with pd := 2, nw := m1.zs[i].id }
    have e4 : (m1.zs.set i { m1.zs[i] with pd := 2, nw := m1.zs[i + 1].id })[i + 1]'(by simpa using hi3) = m1.zs[i + 1] := List.getElem_set_ne (by omega) _
    rw [e4, hz2, hpd2] at h2
    rw [hz, hpd, ← hz, h.p1] at h1
    simp only [hz2] at h1 h2
    simp at h1 h2
    simp only [hz2]
    rw [h2, h1]
  · have h1 := pendN_set 3 hi1 { m1.zs[i] with pd := 2, nw := m1.zs[i + 1].id }
    have h2 := pendN_set 3 (l := m1.zs.set i { m1.zs[i] with pd := 2, nw := m1.zs[i + 1].id }) (i := i + 1) (by simpa using hi3) { m1.zs[i + 1] with pd := 2, nw := m1.zs[i].id }
    have e4 : (m1.zs.set i { m1.zs[i] with pd := 2, nw := m1.zs[i + 1].id })[i + 1]'(by simpa using hi3) = m1.zs[i + 1] := List.getElem_set_ne (by omega) _
    rw [e4, hz2, hpd2] at h2
    rw [hz, hpd, ← hz, h.p3] at h1
    simp only [hz2] at h1 h2
    simp at h1 h2
    simp only [hz2]
    rw [h2, h1]
theorem fit_split {hs : List Int} {m : Mp} {P0 : List Pz} (hn : (P0.map fun p => p.z.id).Nodup) (hr : ∀ p ∈ P0, 1 ≤ p.z.id ∧ p.z.id ≤ 1099511627776) (hv : m.ver + 64 ≤ topN) (hx : m.nxt + 64 ≤ topN) (hot : Int) (n3 : Nat) : ∀ (l : List Nat) (st : PS) (m1 : Mp) (n1 : Nat), Fit hs m P0 st.ps st.cs m1 n1 n3 → (st.ps.length : Int) + n1 + st.room = 16 → st.cs.length + l.length ≤ 60 →
    ∃ m2 n2, Fit hs m P0 (l.foldl (splitStep hot) st).ps (l.foldl (splitStep hot) st).cs m2 n2 n3
  | [], st, m1, n1, h, _, _ => ⟨m1, n1, h⟩
  | i :: l, st, m1, n1, h, hroom, hl => by
    have hrs : ∀ p ∈ st.ps, 1 ≤ p.z.id ∧ p.z.id ≤ 1099511627776 := fun p hp => by
      obtain ⟨j, hj, rfl⟩ := List.getElem_of_mem hp
      have hj2 : j < P0.length := by rw [← h.busy.same.1]; exact hj
      rw [(h.busy.same.2 j hj hj2).1]
      exact hr _ (List.getElem_mem hj2)
    simp only [List.length_cons] at hl
    by_cases hc : ∃ hi : i < st.ps.length, splitOk hot st.room st.ps[i] = true
    · obtain ⟨hi, ok⟩ := hc
      have e : splitStep hot st i = ⟨st.ps.set i (taken st.ps[i]), st.cs ++ [⟨1, st.ps[i].z.id, 0, 0, st.ps[i].mid⟩], st.room - 1⟩ := by
        unfold splitStep
        rw [List.getElem?_eq_getElem hi]
        simp only [ok, if_true]
      simp only [splitOk, Bool.and_eq_true, decide_eq_true_eq] at ok
      have hver := h.ver
      have hnx := h.nxt
      obtain ⟨m2, h2⟩ := h.split hn hrs (by omega) (by omega) hi ok.1.1.2 ok.2 (by omega)
      rw [List.foldl_cons, e]
      exact fit_split hn hr hv hx hot n3 l _ m2 (n1 + 1) h2 (by simp only [List.length_set]; omega) (by simp only [List.length_append, List.length_singleton]; omega)
    · have e : splitStep hot st i = st := by
        unfold splitStep
        split
        · rfl
        · rename_i p hp
          obtain ⟨hi, e⟩ := List.getElem?_eq_some_iff.1 hp
          rw [if_neg (fun ok => hc ⟨hi, by rw [e]; exact ok⟩)]
      rw [List.foldl_cons, e]
      exact fit_split hn hr hv hx hot n3 l st m1 n1 h hroom (by omega)
theorem Fit.rng {hs : List Int} {m m1 : Mp} {P0 ps : List Pz} {cs : List Ch} {n1 n3 : Nat} (h : Fit hs m P0 ps cs m1 n1 n3) (hr : ∀ p ∈ P0, 1 ≤ p.z.id ∧ p.z.id ≤ 1099511627776) : ∀ p ∈ ps, 1 ≤ p.z.id ∧ p.z.id ≤ 1099511627776 := fun p hp => by
  obtain ⟨j, hj, rfl⟩ := List.getElem_of_mem hp
  have hj2 : j < P0.length := by rw [← h.busy.same.1]; exact hj
  rw [(h.busy.same.2 j hj hj2).1]
  exact hr _ (List.getElem_mem hj2)
theorem fit_move {hs : List Int} {m : Mp} {P0 ps qs : List Pz} {cs ds : List Ch} {n : Nat} {m1 : Mp} {n1 n3 : Nat} (hn : (P0.map fun p => p.z.id).Nodup) (hr : ∀ p ∈ P0, 1 ≤ p.z.id ∧ p.z.id ≤ 1099511627776) (hv : m.ver + 64 ≤ topN) (hho : ∀ g ∈ hs, 1 ≤ g ∧ g ≤ 1048576) (hl : cs.length ≤ 60) (h : MoveR hs ps cs qs ds n) (hf : Fit hs m P0 ps cs m1 n1 n3) (hb : n = 0 ∨ n3 + n ≤ 2) : ∃ m2, Fit hs m P0 qs ds m2 n1 (n3 + n) ∧ ds.length = cs.length + n := by
  induction h with
  | nil => exact ⟨m1, hf, rfl⟩
  | @snoc qs ds n g1 g2 k h hg hk ih =>
    obtain ⟨m2, h2, hdl⟩ := ih (by omega)
    obtain ⟨hmo, π, _, e⟩ := hg
    obtain ⟨p, hp, ok⟩ := best_ok π none (fun k h => by cases h) _ e.symm
    obtain ⟨hi, e2⟩ := List.getElem?_eq_some_iff.1 hp
    simp only [bestOk, Bool.and_eq_true, decide_eq_true_eq] at ok
    obtain ⟨⟨⟨ok1, ok2⟩, ok3⟩, ok4⟩ := ok
    have hne : g2 ≠ qs[k].z.ow := by
      rw [e2, ok2]
      intro e3
      have e4 : g2 = g1 := e3
      subst e4
      omega
    have hver := h2.ver
    obtain ⟨m3, h3⟩ := h2.move hn (h2.rng hr) (by omega) hk (by rw [e2]; exact ok1) hmo.m2 hne (hho _ hmo.m2) (by omega)
    exact ⟨m3, h3, by simp only [List.length_append, List.length_singleton]; omega⟩
theorem fit_merge {hs : List Int} {m : Mp} {P0 : List Pz} (hn : (P0.map fun p => p.z.id).Nodup) (hr : ∀ p ∈ P0, 1 ≤ p.z.id ∧ p.z.id ≤ 1099511627776) (hv : m.ver + 64 ≤ topN) (cold : Int) (n1 n3 : Nat) : ∀ (l : List Nat) (st : MS) (m1 : Mp), Fit hs m P0 st.ps st.cs m1 n1 n3 → st.cs.length + l.length ≤ 60 →
    ∃ m2, Fit hs m P0 (l.foldl (mergeStep cold) st).ps (l.foldl (mergeStep cold) st).cs m2 n1 n3
  | [], st, m1, h, _ => ⟨m1, h⟩
  | i :: l, st, m1, h, hl => by
    simp only [List.length_cons] at hl
    by_cases hc : ∃ hi : i < st.ps.length, ∃ hi2 : i + 1 < st.ps.length, mergeOk cold st.ps[i] st.ps[i + 1] = true
    · obtain ⟨hi, hi2, ok⟩ := hc
      have e : mergeStep cold st i = ⟨(st.ps.set i (taken st.ps[i])).set (i + 1) (taken st.ps[i + 1]), st.cs ++ [⟨2, st.ps[i].z.id, 0, 0, ⟨#[]⟩⟩]⟩ := by
        unfold mergeStep
        rw [List.getElem?_eq_getElem hi, List.getElem?_eq_getElem hi2]
        simp only [ok, if_true]
      simp only [mergeOk, Bool.and_eq_true, decide_eq_true_eq] at ok
      have hver := h.ver
      obtain ⟨m2, h2⟩ := h.merge hn (h.rng hr) (by omega) hi hi2 ok.1.1.1 ok.1.1.2 ok.1.2
      rw [List.foldl_cons, e]
      exact fit_merge hn hr hv cold n1 n3 l _ m2 h2 (by simp only [List.length_append, List.length_singleton]; omega)
    · have e : mergeStep cold st i = st := by
        unfold mergeStep
        split
        · rename_i x y hx hy
          obtain ⟨hi, e⟩ := List.getElem?_eq_some_iff.1 hx
          obtain ⟨hi2, e2⟩ := List.getElem?_eq_some_iff.1 hy
          rw [if_neg (fun ok => hc ⟨hi, hi2, by rw [e, e2]; exact ok⟩)]
        · rfl
      rw [List.foldl_cons, e]
      exact fit_merge hn hr hv cold n1 n3 l st m1 h (by omega)
theorem pdN_map (k : Int) : ∀ (ps : List Pz), pdN k ps = pendN k (ps.map fun p => p.z)
  | [] => rfl
  | a :: r => by
    have ih := pdN_map k r
    simp only [pdN, pendN, List.filter_cons, List.map_cons] at ih ⊢
    split <;> simp only [List.length_cons, ih]
theorem begP_map (l : List Lr) (zs : List Zn) : (begP l zs).map (fun p => p.z) = zs := by
  unfold begP
  rw [List.map_map]
  exact List.map_id' zs
theorem SameZ.zs {a b : List Pz} (h : SameZ a b) : (a.map fun p => p.z) = b.map fun p => p.z := by
  refine List.ext_getElem (by simp [h.1]) fun i h1 h2 => ?_
  simp only [List.getElem_map]
  exact (h.2 i (by simpa using h1) (by simpa using h2)).1
theorem merge_cs (cold : Int) : ∀ (l : List Nat) (st : MS), (l.foldl (mergeStep cold) st).cs.length ≤ st.cs.length + l.length
  | [], st => by simp
  | i :: l, st => by
    have ih := merge_cs cold l (mergeStep cold st i)
    have h1 : (mergeStep cold st i).cs.length ≤ st.cs.length + 1 := by
      unfold mergeStep
      split
      · split
        · simp
        · omega
      · omega
    simp only [List.foldl_cons, List.length_cons]
    omega
/-- each change of a plan, in order, applies; never more moves than two, or than there were -/
theorem plan_fits {m : Mp} {hs : List Int} {l : List Lr} {hot cold : Int} {cs : List Ch} (h : PlanR m hs l hot cold cs) (hm : MayP m) (hb : hostsB hs = true) (hv : m.ver + 64 ≤ topN) (hx : m.nxt + 64 ≤ topN) : ∃ m2, Run hs m cs m2 ∧ cs.length ≤ 60 ∧ (pendN 3 m2.zs ≤ 2 ∨ pendN 3 m2.zs ≤ pendN 3 m.zs) := by
  obtain ⟨π, st, qs, ds, n, hπ, hst, hmv, _, hbd, rfl⟩ := h.run
  have hn : ((begP l m.zs).map fun p => p.z.id).Nodup := by rw [begP_ids]; exact hm.nodup.sublist (ids_sub _)
  have hr : ∀ p ∈ begP l m.zs, 1 ≤ p.z.id ∧ p.z.id ≤ 1099511627776 := fun p hp => by
    obtain ⟨z, hz, rfl⟩ := List.mem_map.1 hp
    have := hm.rng z.id (id_mem hz)
    have := hm.n2
    exact ⟨by show 1 ≤ z.id; omega, by show z.id ≤ _; omega⟩
  have hb0 : Busy (begP l m.zs) (begP l m.zs) [] := by
    refine ⟨SameZ.refl _, fun i hi hf => ?_, (fun c hc => by cases hc), by simp⟩
    simp only [begP, List.getElem_map, pz0] at hf ⊢
    exact of_decide_eq_true hf
  have p1 : pdN 1 (begP l m.zs) = pendN 1 m.zs := by rw [pdN_map, begP_map]
  have p3 : pdN 3 (begP l m.zs) = pendN 3 m.zs := by rw [pdN_map, begP_map]
  have h0 : Fit hs m (begP l m.zs) (begP l m.zs) [] m (pendN 1 m.zs) (pendN 3 m.zs) :=
    ⟨Run.nil, hb0, (begP_len l m.zs).symm, fun i hi hi2 => ⟨by simp [begP, pz0], by simp [begP, pz0]⟩, fun i hi hi2 _ => by simp only [begP, List.getElem_map, pz0], by simp, by simp, rfl, rfl⟩
  have hlen := hm.len
  have hpl := hπ.len
  rw [begP_len] at hpl
  obtain ⟨m1, n1, h1⟩ := fit_split hn hr hv hx hot (pendN 3 m.zs) π ⟨begP l m.zs, [], 16 - (m.zs.length : Int) - (pdN 1 (begP l m.zs) : Int)⟩ m (pendN 1 m.zs) h0 (by simp only [begP_len, p1]; omega) (by simp only [List.length_nil]; omega)
  have hc1 := split_cs hot π ⟨begP l m.zs, [], 16 - (m.zs.length : Int) - (pdN 1 (begP l m.zs) : Int)⟩
  have hss := splitFold_same hot π ⟨begP l m.zs, [], 16 - (m.zs.length : Int) - (pdN 1 (begP l m.zs) : Int)⟩
  rw [← hst] at h1 hc1 hss
  have hp3 : pdN 3 st.ps = pendN 3 m.zs := by rw [pdN_map, hss.zs, begP_map]
  simp only [List.length_nil] at hc1
  have hho : ∀ g ∈ hs, 1 ≤ g ∧ g ≤ 1048576 := fun g hg => by
    unfold hostsB at hb
    simp only [Bool.and_eq_true, decide_eq_true_eq] at hb
    have := okFrom_all hs 7 hb.2 g hg
    omega
  rw [hp3] at hbd
  obtain ⟨m2, h2, hdl⟩ := fit_move hn hr hv hho (by omega) hmv h1 hbd
  have hql : qs.length = m.zs.length := by rw [h2.busy.same.1, begP_len]
  have hn2 : n ≤ 2 := by omega
  obtain ⟨m3, h3⟩ := fit_merge hn hr hv cold n1 (pendN 3 m.zs + n) (List.range (qs.length - 1)) ⟨qs, ds⟩ m2 h2 (by simp only [List.length_range]; omega)
  refine ⟨m3, h3.run, ?_, ?_⟩
  · have hcl := merge_cs cold (List.range (qs.length - 1)) ⟨qs, ds⟩
    simp only [List.length_range] at hcl
    show ((List.range (qs.length - 1)).foldl (mergeStep cold) ⟨qs, ds⟩).cs.length ≤ 60
    omega
  · rw [h3.p3]
    omega
end Go.Proofs.Ytepjehcmiofehaa
