/- plan: no zone with which something is under way is named, no zone twice; and the known plan. -/
import Derived.Test.YtepjehcmiofehaaGreatPlP
namespace Go.Proofs.YtepjehcmiofehaaGreat
open Go.RowKit
set_option linter.unusedVariables false
set_option linter.unusedSimpArgs false

/-- zones ps that were P0, changes cs -/
structure Busy (P0 ps : List Pz) (cs : List Ch) : Prop where
  same : SameZ ps P0
  free : ∀ i (h : i < ps.length), ps[i].fr = true → ps[i].z.pd = 0
  chg : ∀ c ∈ cs, ∃ i, ∃ h : i < ps.length, c.zo = ps[i].z.id ∧ ps[i].z.pd = 0 ∧ ps[i].fr = false
  nd : (cs.map fun c => c.zo).Nodup
theorem Busy.mark {P0 ps : List Pz} {cs : List Ch} (h : Busy P0 ps cs) {j : Nat} (hj : j < ps.length) {q : Pz} (hz : q.z = ps[j].z ∧ q.hits = ps[j].hits ∧ q.mid = ps[j].mid) (hq : q.fr = false) : Busy P0 (ps.set j q) cs := by
  refine ⟨(SameZ.set hj hz).trans h.same, fun i hi hf => ?_, fun c hc => ?_, h.nd⟩
  · rw [List.getElem_set] at hf ⊢
    split at hf
    · rw [hq] at hf; cases hf
    · rename_i ne
      rw [if_neg ne]
      exact h.free i (by simpa using hi) hf
  · obtain ⟨i, hi, e1, e2, e3⟩ := h.chg c hc
    refine ⟨i, by simpa using hi, ?_⟩
    rw [List.getElem_set]
    split
    · rename_i e
      subst e
      rw [hz.1]
      exact ⟨e1, e2, hq⟩
    · exact ⟨e1, e2, e3⟩
theorem Busy.add {P0 ps : List Pz} {cs : List Ch} (h : Busy P0 ps cs) (hn : (P0.map fun p => p.z.id).Nodup) {j : Nat} (hj : j < ps.length) (hf : ps[j].fr = true) {q : Pz} (hz : q.z = ps[j].z ∧ q.hits = ps[j].hits ∧ q.mid = ps[j].mid) (hq : q.fr = false) {c : Ch} (hc : c.zo = ps[j].z.id) : Busy P0 (ps.set j q) (cs ++ [c]) := by
  have hm := h.mark hj hz hq
  refine ⟨hm.same, hm.free, fun d hd => ?_, ?_⟩
  · rcases List.mem_append.1 hd with hd | hd
    · exact hm.chg d hd
    · obtain rfl := List.mem_singleton.1 hd
      refine ⟨j, by simpa using hj, ?_⟩
      rw [List.getElem_set_self, hz.1]
      exact ⟨hc, h.free j hj hf, hq⟩
  · rw [List.map_append, List.nodup_append]
    refine ⟨h.nd, by simp, fun a ha b hb => ?_⟩
    obtain ⟨d, hd, rfl⟩ := List.mem_map.1 ha
    simp only [List.map_cons, List.map_nil, List.mem_singleton] at hb
    subst hb
    obtain ⟨i, hi, e1, _, e3⟩ := h.chg d hd
    rw [hc, e1]
    intro e
    have hn2 : (ps.map fun p => p.z.id).Nodup := by rw [h.same.ids]; exact hn
    have hij : i = j := by
      have := (List.getElem_inj (xs := ps.map fun p => p.z.id) (i := i) (j := j) (h₀ := by simpa using hi) (h₁ := by simpa using hj) hn2).1 (by simpa using e)
      exact this
    subst hij
    rw [hf] at e3
    cases e3
theorem busy_split {P0 : List Pz} (hn : (P0.map fun p => p.z.id).Nodup) (hot : Int) : ∀ (l : List Nat) (st : PS), Busy P0 st.ps st.cs → Busy P0 (l.foldl (splitStep hot) st).ps (l.foldl (splitStep hot) st).cs
  | [], st, h => h
  | i :: l, st, h => by
    refine busy_split hn hot l (splitStep hot st i) ?_
    unfold splitStep
    split
    · exact h
    · rename_i p hp
      obtain ⟨hi, e⟩ := List.getElem?_eq_some_iff.1 hp
      split
      · rename_i ok
        have hf : p.fr = true := by
          simp only [splitOk, Bool.and_eq_true] at ok
          exact ok.1.1.2
        exact h.add hn hi (by rw [e]; exact hf) ⟨by rw [e]; rfl, by rw [e]; rfl, by rw [e]; rfl⟩ rfl (by rw [e])
      · exact h
theorem busy_move {P0 : List Pz} (hn : (P0.map fun p => p.z.id).Nodup) {hs : List Int} {ps qs : List Pz} {cs ds : List Ch} {n : Nat} (h : MoveR hs ps cs qs ds n) (hb : Busy P0 ps cs) : Busy P0 qs ds := by
  induction h with
  | nil => exact hb
  | snoc h hg hk ih =>
    obtain ⟨_, π, _, e⟩ := hg
    obtain ⟨p, hp, ok⟩ := best_ok π none (fun k h => by cases h) _ e.symm
    obtain ⟨hi, e2⟩ := List.getElem?_eq_some_iff.1 hp
    have hf : p.fr = true := by
      simp only [bestOk, Bool.and_eq_true] at ok
      exact ok.1.1.1
    exact Busy.add ih hn hk (by rw [e2]; exact hf) (q := gone _ _) (c := ⟨3, _, 0, _, ⟨#[]⟩⟩) ⟨rfl, rfl, rfl⟩ rfl rfl
theorem busy_merge {P0 : List Pz} (hn : (P0.map fun p => p.z.id).Nodup) (cold : Int) : ∀ (l : List Nat) (st : MS), Busy P0 st.ps st.cs → Busy P0 (l.foldl (mergeStep cold) st).ps (l.foldl (mergeStep cold) st).cs
  | [], st, h => h
  | i :: l, st, h => by
    refine busy_merge hn cold l (mergeStep cold st i) ?_
    unfold mergeStep
    split
    · rename_i x y hx hy
      obtain ⟨hi, e⟩ := List.getElem?_eq_some_iff.1 hx
      obtain ⟨hi2, e2⟩ := List.getElem?_eq_some_iff.1 hy
      split
      · rename_i ok
        have hf : x.fr = true := by
          simp only [mergeOk, Bool.and_eq_true] at ok
          exact ok.1.1.1
        have h1 : Busy P0 (st.ps.set i (taken x)) (st.cs ++ [⟨2, x.z.id, 0, 0, ⟨#[]⟩⟩]) := h.add hn hi (by rw [e]; exact hf) ⟨by rw [e]; rfl, by rw [e]; rfl, by rw [e]; rfl⟩ rfl (by rw [e])
        have hi3 : i + 1 < (st.ps.set i (taken x)).length := by simpa using hi2
        have e3 : (st.ps.set i (taken x))[i + 1] = y := by rw [List.getElem_set_ne (by omega)]; exact e2
        exact h1.mark hi3 ⟨by rw [e3]; rfl, by rw [e3]; rfl, by rw [e3]; rfl⟩ rfl
      · exact h
    · exact h
/-- a plan names no zone with which something is under way, and none twice -/
theorem plan_busy {m : Mp} {hs : List Int} {l : List Lr} {hot cold : Int} {cs : List Ch} (h : PlanR m hs l hot cold cs) (hm : MayP m) : (∀ c ∈ cs, ∃ k, ∃ h : k < m.zs.length, m.zs[k].id = c.zo ∧ m.zs[k].pd = 0) ∧ (cs.map fun c => c.zo).Nodup := by
  obtain ⟨π, st, qs, ds, n, _, hst, hmv, _, _, rfl⟩ := h.run
  have hn : ((begP l m.zs).map fun p => p.z.id).Nodup := by rw [begP_ids]; exact hm.nodup.sublist (ids_sub _)
  have h0 : Busy (begP l m.zs) (begP l m.zs) [] := by
    refine ⟨SameZ.refl _, fun i hi hf => ?_, (fun c hc => by cases hc), by simp⟩
    simp only [begP, List.getElem_map, pz0] at hf ⊢
    exact of_decide_eq_true hf
  have h1 := busy_split hn hot π ⟨begP l m.zs, [], 16 - (m.zs.length : Int) - (pdN 1 (begP l m.zs) : Int)⟩ h0
  rw [← hst] at h1
  have h2 := busy_move hn hmv h1
  have h3 := busy_merge hn cold (List.range (qs.length - 1)) ⟨qs, ds⟩ h2
  refine ⟨fun c hc => ?_, h3.nd⟩
  obtain ⟨k, hk, e1, e2, _⟩ := h3.chg c hc
  have hl := h3.same.1
  have hk2 : k < m.zs.length := by rw [← begP_len l m.zs, ← hl]; exact hk
  have hz := (h3.same.2 k hk (by rw [← hl]; exact hk)).1
  simp only [begP, List.getElem_map, pz0] at hz
  have hz' := hz
  rw [hz'] at e1 e2
  exact ⟨k, hk2, e1.symm, e2⟩
/-- the known plan -/
def kZ1 : Zn := ⟨1, ⟨#[]⟩, ⟨#[109]⟩, 8, 2, 0, 0, ⟨#[]⟩, 0⟩
def kZ2 : Zn := ⟨2, ⟨#[109]⟩, ⟨#[]⟩, 8, 2, 0, 0, ⟨#[]⟩, 0⟩
def kM : Mp := ⟨3, 3, [kZ1, kZ2]⟩
def kL : List Lr := [⟨1, 5, ⟨#[]⟩⟩, ⟨2, 4, ⟨#[]⟩⟩]
def kP : List Pz := [⟨kZ1, 5, ⟨#[]⟩, true, 8⟩, ⟨kZ2, 4, ⟨#[]⟩, true, 8⟩]
def kQ : List Pz := [⟨kZ1, 5, ⟨#[]⟩, false, 9⟩, ⟨kZ2, 4, ⟨#[]⟩, true, 8⟩]
def kC : Ch := ⟨3, 1, 0, 9, ⟨#[]⟩⟩
theorem kBeg : begP kL kM.zs = kP := rfl
theorem kSplit : ∀ (l : List Nat) (st : PS), (∀ p ∈ st.ps, p.hits ≤ 100) → l.foldl (splitStep 100) st = st
  | [], st, h => rfl
  | i :: l, st, h => by
    have e : splitStep 100 st i = st := by
      unfold splitStep
      split
      · rfl
      · rename_i p hp
        obtain ⟨hi, e⟩ := List.getElem?_eq_some_iff.1 hp
        have := h p (by rw [← e]; exact List.getElem_mem hi)
        rw [if_neg]
        simp only [splitOk, Bool.and_eq_true, decide_eq_true_eq]
        omega
    rw [List.foldl_cons, e]
    exact kSplit l st h
theorem kBy {ps : List Pz} {π : List Nat} (h : ByI ps π) (hl : ps.length = 2) : π = [0, 1] ∨ π = [1, 0] := by
  have h1 := h.len
  have h2 := h.lt
  have h3 := h.nodup
  rw [hl] at h1
  obtain ⟨a, b, rfl⟩ : ∃ a b, π = [a, b] := by
    rcases π with _ | ⟨a, _ | ⟨b, _ | ⟨c, r⟩⟩⟩
    · simp at h1
    · simp at h1
    · exact ⟨a, b, rfl⟩
    · simp at h1
  have ha := h2 a (by simp)
  have hb := h2 b (by simp)
  have hab : a ≠ b := by simpa using h3
  rw [hl] at ha hb
  rcases (show a = 0 ∨ a = 1 by omega) with rfl | rfl
  · left; rw [show b = 1 by omega]
  · right; rw [show b = 0 by omega]
theorem kGo1 {g1 g2 : Int} {r : Option Nat} (h : Goes [8, 9] kP g1 g2 r) : g2 = 9 ∧ r = some 0 := by
  obtain ⟨⟨m1, m2, a1, a2⟩, π, hπ, rfl⟩ := h
  have e2 : g2 = 9 := by
    rcases List.mem_cons.1 m2 with rfl | m2
    · exact absurd (a2 9 (by simp)) (by decide)
    · simpa using m2
  have e1 : g1 = 8 := by
    rcases List.mem_cons.1 m1 with rfl | m1
    · rfl
    · have : g1 = 9 := by simpa using m1
      subst this
      exact absurd (a1 8 (by simp)) (by decide)
  subst e1 e2
  refine ⟨rfl, ?_⟩
  rcases kBy hπ rfl with rfl | rfl <;> decide
theorem kGo2 {g1 g2 : Int} {r : Option Nat} (h : Goes [8, 9] kQ g1 g2 r) : r = none := by
  obtain ⟨⟨m1, m2, a1, a2⟩, π, hπ, rfl⟩ := h
  have e2 : g2 = 8 := by
    rcases List.mem_cons.1 m2 with rfl | m2
    · rfl
    · have : g2 = 9 := by simpa using m2
      subst this
      exact absurd (a2 8 (by simp)) (by decide)
  have e1 : g1 = 9 := by
    rcases List.mem_cons.1 m1 with rfl | m1
    · exact absurd (a1 9 (by simp)) (by decide)
    · simpa using m1
  subst e1 e2
  rcases kBy hπ rfl with rfl | rfl <;> decide
theorem kMove {qs : List Pz} {ds : List Ch} {n : Nat} (h : MoveR [8, 9] kP [] qs ds n) : (n = 0 ∧ qs = kP ∧ ds = []) ∨ (n = 1 ∧ qs = kQ ∧ ds = [kC]) := by
  induction h with
  | nil => exact .inl ⟨rfl, rfl, rfl⟩
  | @snoc qs ds n g1 g2 k h hg hk ih =>
    rcases ih with ⟨rfl, rfl, rfl⟩ | ⟨rfl, rfl, rfl⟩
    · obtain ⟨rfl, e⟩ := kGo1 hg
      obtain rfl : k = 0 := by injection e
      exact .inr ⟨rfl, rfl, rfl⟩
    · exact absurd (kGo2 hg) (by simp)
theorem kPlan {cs : List Ch} (h : PlanR kM [8, 9] kL 100 0 cs) : cs = [kC] := by
  obtain ⟨π, st, qs, ds, n, _, hst, hmv, hend, _, rfl⟩ := h.run
  rw [kBeg, kSplit π _ (by decide)] at hst
  subst hst
  rcases kMove hmv with ⟨rfl, rfl, rfl⟩ | ⟨rfl, rfl, rfl⟩
  · rcases hend with h | ⟨g1, g2, h⟩
    · exact absurd h (by decide)
    · exact absurd (kGo1 h).2 (by simp)
  · rfl
theorem kMay : MayP kM := by
  refine ⟨by decide, by decide, by decide, by decide, by decide, by decide, by decide, ?_, by kernel_rfl⟩
  intro i hi
  have h2 : i < 2 := hi
  rcases (show i = 0 ∨ i = 1 by omega) with rfl | rfl
  · exact ⟨show (1:Int) ≤ 8 by decide, show (8:Int) ≤ 1048576 by decide, show (1:Int) ≤ 2 by decide, show (2:Int) ≤ 1099511627776 by decide, .inl ⟨rfl, rfl, rfl, rfl⟩⟩
  · exact ⟨show (1:Int) ≤ 8 by decide, show (8:Int) ≤ 1048576 by decide, show (1:Int) ≤ 2 by decide, show (2:Int) ≤ 1099511627776 by decide, .inl ⟨rfl, rfl, rfl, rfl⟩⟩
theorem kHosts : hostsB [8, 9] = true := by decide
theorem kSm : SmZ kM := ⟨by decide, by decide⟩
end Go.Proofs.YtepjehcmiofehaaGreat
