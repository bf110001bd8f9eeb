/- PlanEvens, pure: the map that it makes may be; what the moves of its plan come to. -/
import Derived.Test.YtepjehcmiofehaaPlQ
namespace Go.Proofs.Ytepjehcmiofehaa
open Go.RowKit
set_option linter.unusedVariables false
set_option linter.unusedSimpArgs false

def chB (k : Nat) : ByteArray := ⟨#[UInt8.ofNat (97 + k)]⟩
def evFr (i : Nat) : ByteArray := if i = 0 then ⟨#[]⟩ else chB i
def evTt (n i : Nat) : ByteArray := if i + 1 < n then chB (i + 1) else ⟨#[]⟩
def evOw (x : Int) : Int := 8 + x / 256 % 2
def evH (x : Int) : Int := x % 256
def evZ (hits : List Int) (n i : Nat) : Zn := ⟨(i : Int) + 1, evFr i, evTt n i, evOw (hits.getD i 0), 1, 0, 0, ⟨#[]⟩, 0⟩
def evZs (hits : List Int) (n k : Nat) : List Zn := (List.range k).map (evZ hits n)
def evR (hits : List Int) (i : Nat) : Lr := ⟨(i : Int) + 1, evH (hits.getD i 0), ⟨#[]⟩⟩
def evL (hits : List Int) (k : Nat) : List Lr := (List.range k).map (evR hits)
def evM (hits : List Int) (n : Nat) : Mp := ⟨1, (n : Int) + 1, evZs hits n n⟩
def evP (hits : List Int) (n i : Nat) : Pz := ⟨evZ hits n i, evH (hits.getD i 0), ⟨#[]⟩, true, evOw (hits.getD i 0)⟩
def evPs (hits : List Int) (n : Nat) : List Pz := (List.range n).map (evP hits n)
theorem evOw_r (x : Int) : evOw x = 8 ∨ evOw x = 9 := by unfold evOw; omega
theorem evH_r (x : Int) : 0 ≤ evH x ∧ evH x ≤ 255 := by unfold evH; omega
theorem evZs_len (hits : List Int) (n k : Nat) : (evZs hits n k).length = k := by simp [evZs]
theorem evL_len (hits : List Int) (k : Nat) : (evL hits k).length = k := by simp [evL]
theorem evPs_len (hits : List Int) (n : Nat) : (evPs hits n).length = n := by simp [evPs]
theorem evZs_snoc (hits : List Int) (n k : Nat) : evZs hits n (k + 1) = evZs hits n k ++ [evZ hits n k] := by simp [evZs, List.range_succ]
theorem evL_snoc (hits : List Int) (k : Nat) : evL hits (k + 1) = evL hits k ++ [evR hits k] := by simp [evL, List.range_succ]
theorem evZs_get (hits : List Int) (n k i : Nat) (h : i < (evZs hits n k).length) : (evZs hits n k)[i] = evZ hits n i := by simp [evZs]
theorem evL_get (hits : List Int) (k i : Nat) (h : i < (evL hits k).length) : (evL hits k)[i] = evR hits i := by simp [evL]
theorem evPs_get (hits : List Int) (n i : Nat) (h : i < (evPs hits n).length) : (evPs hits n)[i] = evP hits n i := by simp [evPs]
theorem evIds (hits : List Int) (n : Nat) : ∀ k, idsA (evZs hits n k) = (List.range k).map fun (i : Nat) => ((i : Int) + 1)
  | 0 => rfl
  | k + 1 => by
    rw [evZs_snoc, idsA_app, evIds hits n k, List.range_succ, List.map_append]
    rfl
theorem evSp (hits : List Int) (n : Nat) : spansZ (evZs hits n n) = (List.range n).map fun i => (evFr i, evTt n i) := by
  unfold spansZ evZs
  rw [List.map_map]
  rfl
theorem evAll : ∀ n, 2 ≤ n → n ≤ 12 → allB ((List.range n).map fun i => (evFr i, evTt n i)) = true := by
  intro n h1 h2
  obtain ⟨k, rfl⟩ : ∃ k, n = k + 2 := ⟨n - 2, by omega⟩
  have hk : k < 11 := by omega
  have : ∀ k, k < 11 → allB ((List.range (k + 2)).map fun i => (evFr i, evTt (k + 2) i)) = true := by decide +kernel
  exact this k hk
theorem evMay (hits : List Int) {n : Nat} (h1 : 2 ≤ n) (h2 : n ≤ 12) : MayP (evM hits n) := by
  refine ⟨show (1:Int) ≤ 1 by decide, show (1:Int) ≤ 1099511627776 by decide, ?_, ?_, ?_, ?_, ?_, ?_, ?_⟩
  · show (1:Int) ≤ (n : Int) + 1; omega
  · show (n : Int) + 1 ≤ 1099511627776; omega
  · show (evZs hits n n).length ≤ 16; rw [evZs_len]; omega
  · show (idsA (evZs hits n n)).Nodup
    rw [evIds]
    exact List.Pairwise.map _ (fun a b (h : a ≠ b) => by show ((a : Int) + 1) ≠ (b : Int) + 1; omega) List.nodup_range
  · show ∀ a ∈ idsA (evZs hits n n), 1 ≤ a ∧ a < (n : Int) + 1
    rw [evIds]
    intro a ha
    obtain ⟨i, hi, rfl⟩ := List.mem_map.1 ha
    have := List.mem_range.1 hi
    omega
  · intro i hi
    have e : (evM hits n).zs[i] = evZ hits n i := evZs_get hits n n i hi
    have ho := evOw_r (hits.getD i 0)
    refine ⟨?_, ?_, ?_, ?_, .inl ?_⟩ <;> rw [e]
    · show 1 ≤ evOw _; omega
    · show evOw _ ≤ 1048576; omega
    · show (1:Int) ≤ 1; decide
    · show (1:Int) ≤ 1099511627776; decide
    · exact ⟨rfl, rfl, rfl, rfl⟩
  · show allB (spansZ (evZs hits n n)) = true
    rw [evSp]
    exact evAll n h1 h2
theorem evHm (hits : List Int) {n i : Nat} (h : i < n) : hm (evL hits n) ((i : Int) + 1) = (evH (hits.getD i 0), ⟨#[]⟩) := by
  have hl : i < (evL hits n).length := by rw [evL_len]; exact h
  have hr := evH_r (hits.getD i 0)
  rw [AtL.yes hl (by rw [evL_get]; rfl) (fun j hj hji e => by rw [evL_get] at e; have e2 : (j : Int) + 1 = (i : Int) + 1 := e; omega), evL_get]
  show (min (max (evH (hits.getD i 0)) 0) 1099511627776, (⟨#[]⟩ : ByteArray)) = _
  rw [show min (max (evH (hits.getD i 0)) 0) 1099511627776 = evH (hits.getD i 0) by omega]
theorem evBeg (hits : List Int) (n : Nat) : begP (evL hits n) (evZs hits n n) = evPs hits n := by
  unfold begP evZs evPs
  rw [List.map_map]
  refine List.map_congr_left fun i hi => ?_
  have := List.mem_range.1 hi
  show pz0 (evL hits n) (evZ hits n i) = _
  unfold pz0
  rw [show (evZ hits n i).id = (i : Int) + 1 from rfl, evHm hits this]
  rfl
theorem splitNo (hot : Int) : ∀ (l : List Nat) (st : PS), (∀ p ∈ st.ps, p.hits ≤ hot) → l.foldl (splitStep hot) st = st
  | [], st, h => rfl
  | i :: l, st, h => by
    have e : splitStep hot st i = st := by
      unfold splitStep
      split
      · rfl
      · rename_i p hp
        obtain ⟨hi, e⟩ := List.getElem?_eq_some_iff.1 hp
        have := h p (by rw [← e]; exact List.getElem_mem hi)
        rw [if_neg]
        simp only [splitOk, Bool.and_eq_true, decide_eq_true_eq]
        omega
    rw [List.foldl_cons, e]
    exact splitNo hot l st h
theorem mergeNo : ∀ (l : List Nat) (st : MS), (∀ p ∈ st.ps, 0 ≤ p.hits) → l.foldl (mergeStep 0) st = st
  | [], st, h => rfl
  | i :: l, st, h => by
    have e : mergeStep 0 st i = st := by
      unfold mergeStep
      split
      · rename_i x y hx hy
        obtain ⟨hi, e⟩ := List.getElem?_eq_some_iff.1 hx
        obtain ⟨hi2, e2⟩ := List.getElem?_eq_some_iff.1 hy
        have h1 := h x (by rw [← e]; exact List.getElem_mem hi)
        have h2 := h y (by rw [← e2]; exact List.getElem_mem hi2)
        rw [if_neg]
        simp only [mergeOk, Bool.and_eq_true, decide_eq_true_eq]
        omega
      · rfl
    rw [List.foldl_cons, e]
    exact mergeNo l st h
/-- one move -/
def EvStep (hs : List Int) (ps ps' : List Pz) (c : Ch) : Prop := ∃ g1 g2 k, ∃ hk : k < ps.length, Goes hs ps g1 g2 (some k) ∧ c = ⟨3, ps[k].z.id, 0, g2, ⟨#[]⟩⟩ ∧ ps' = ps.set k (gone ps[k] g2)
theorem MoveR.chain {hs : List Int} {ps qs : List Pz} {ds : List Ch} {n : Nat} (h : MoveR hs ps [] qs ds n) : ∃ S : Nat → List Pz, S 0 = ps ∧ S ds.length = qs ∧ ∀ i (hi : i < ds.length), EvStep hs (S i) (S (i + 1)) ds[i] := by
  induction h with
  | nil => exact ⟨fun _ => ps, rfl, rfl, fun i hi => by simp at hi⟩
  | @snoc qs ds n g1 g2 k h hg hk ih =>
    obtain ⟨S, h0, hn, hst⟩ := ih
    refine ⟨fun i => if i ≤ ds.length then S i else qs.set k (gone qs[k] g2), by simp [h0], (by simp only [List.length_append, List.length_singleton]; rw [if_neg (by omega)]), fun i hi => ?_⟩
    rw [List.length_append, List.length_singleton] at hi
    by_cases hlt : i < ds.length
    · rw [List.getElem_append_left hlt]
      simp only [if_pos (show i ≤ ds.length by omega), if_pos (show i + 1 ≤ ds.length by omega)]
      exact hst i hlt
    · obtain rfl : i = ds.length := by omega
      simp only [if_pos (Nat.le_refl _), if_neg (show ¬ ds.length + 1 ≤ ds.length by omega)]
      rw [hn]
      exact ⟨g1, g2, k, hk, hg, by simp, rfl⟩
theorem MoveR.lenN {hs : List Int} {ps qs : List Pz} {cs ds : List Ch} {n : Nat} (h : MoveR hs ps cs qs ds n) : ds.length = cs.length + n := by
  induction h with
  | nil => rfl
  | snoc h hg hk ih => rw [List.length_append, ih]; rfl
/-- what is kept -/
structure EvI (hits : List Int) (n : Nat) (ps : List Pz) : Prop where
  same : SameZ ps (evPs hits n)
  nd : ∀ i (h : i < ps.length), ps[i].fr = true → ps[i].nd = ps[i].z.ow
theorem EvI.init (hits : List Int) (n : Nat) : EvI hits n (evPs hits n) := ⟨SameZ.refl _, fun i h _ => by rw [evPs_get]; rfl⟩
theorem loadP_cons (p : Pz) (r : List Pz) (g : Int) : loadP (p :: r) g = (if p.nd = g then p.hits else 0) + loadP r g := by simp [loadP]
theorem loadP_set : ∀ (ps : List Pz) (k : Nat) (h : k < ps.length) (q : Pz) (g : Int), loadP (ps.set k q) g = loadP ps g - (if ps[k].nd = g then ps[k].hits else 0) + (if q.nd = g then q.hits else 0)
  | [], k, h, _, _ => by simp at h
  | p :: r, 0, h, q, g => by
    simp only [List.set_cons_zero, List.getElem_cons_zero, loadP_cons]
    omega
  | p :: r, k + 1, h, q, g => by
    have ih := loadP_set r k (by simpa using h) q g
    simp only [List.set_cons_succ, List.getElem_cons_succ, loadP_cons, ih]
    omega
theorem evHits (hits : List Int) {n : Nat} {ps : List Pz} (h : EvI hits n ps) : ∀ p ∈ ps, 0 ≤ p.hits ∧ p.hits ≤ 255 := fun p hp => by
  obtain ⟨i, hi, rfl⟩ := List.getElem_of_mem hp
  have hi2 : i < (evPs hits n).length := by rw [← h.same.1]; exact hi
  have := (h.same.2 i hi hi2).2.1
  rw [evPs_get] at this
  rw [this]
  exact evH_r _
theorem loadP_le : ∀ (ps : List Pz) (g : Int), (∀ p ∈ ps, 0 ≤ p.hits ∧ p.hits ≤ 255) → 0 ≤ loadP ps g ∧ loadP ps g ≤ 255 * ps.length
  | [], g, _ => by simp [loadP]
  | p :: r, g, h => by
    have ih := loadP_le r g (fun q hq => h q (List.mem_cons_of_mem _ hq))
    have hp := h p List.mem_cons_self
    rw [loadP_cons, List.length_cons]
    split <;> omega
/-- what a move says to the law: k, the host it goes from, the one it goes to -/
theorem EvStep.says {hits : List Int} {n : Nat} {ps ps' : List Pz} {c : Ch} (h : EvStep [8, 9, 10] ps ps' c) (hi : EvI hits n ps) : EvI hits n ps' ∧ c.kd = 3 ∧ ∃ k, k < n ∧ c.zo = (k : Int) + 1 ∧ (c.mv = 8 ∨ c.mv = 9 ∨ c.mv = 10) ∧ evOw (hits.getD k 0) ≠ c.mv ∧ (∀ g, loadP ps' g = loadP ps g - (if evOw (hits.getD k 0) = g then evH (hits.getD k 0) else 0) + (if c.mv = g then evH (hits.getD k 0) else 0)) ∧ loadP ps c.mv + evH (hits.getD k 0) < loadP ps (evOw (hits.getD k 0)) := by
  obtain ⟨g1, g2, k, hk, hg, rfl, rfl⟩ := h
  have hk2 : k < (evPs hits n).length := by rw [← hi.same.1]; exact hk
  have hkn : k < n := by rw [evPs_len] at hk2; exact hk2
  obtain ⟨e1, e2, e3⟩ := hi.same.2 k hk hk2
  rw [evPs_get] at e1 e2 e3
  obtain ⟨⟨m1, m2, a1, a2⟩, π, _, e⟩ := hg
  obtain ⟨p, hp, ok⟩ := best_ok π none (fun k h => by cases h) _ e.symm
  obtain ⟨hi1, e4⟩ := List.getElem?_eq_some_iff.1 hp
  subst e4
  simp only [bestOk, Bool.and_eq_true] at ok
  obtain ⟨⟨⟨f1, f2⟩, f3⟩, f4⟩ := ok
  replace f2 : ps[k].z.ow = g1 := of_decide_eq_true f2
  replace f4 : loadP ps g2 + ps[k].hits < loadP ps g1 := of_decide_eq_true f4
  have hnd := hi.nd k hk f1
  have how : ps[k].z.ow = evOw (hits.getD k 0) := by rw [e1]; rfl
  have hh : ps[k].hits = evH (hits.getD k 0) := e2
  have hid : ps[k].z.id = (k : Int) + 1 := by rw [e1]; rfl
  have hload : ∀ g, loadP (ps.set k (gone ps[k] g2)) g = loadP ps g - (if evOw (hits.getD k 0) = g then evH (hits.getD k 0) else 0) + (if g2 = g then evH (hits.getD k 0) else 0) := fun g => by
    rw [loadP_set ps k hk, hnd, how, hh]
    show _ - _ + (if g2 = g then ps[k].hits else 0) = _
    rw [hh]
  rw [how] at f2
  rw [hh, ← f2] at f4
  refine ⟨⟨(SameZ.set (p := gone ps[k] g2) hk ⟨rfl, rfl, rfl⟩).trans hi.same, fun i hil hf => ?_⟩, rfl, k, hkn, hid, ?_, ?_, hload, f4⟩
  · rw [List.getElem_set] at hf ⊢
    split
    · rename_i hik
      rw [if_pos hik] at hf
      cases hf
    · rename_i hik
      rw [if_neg hik] at hf
      exact hi.nd i (by simpa using hil) hf
  · show g2 = 8 ∨ g2 = 9 ∨ g2 = 10
    simpa using m2
  · show evOw (hits.getD k 0) ≠ g2
    intro e9
    rw [e9] at f4
    have := evH_r (hits.getD k 0)
    omega
/-- the plan of this map: moves alone, one after another -/
theorem evPlan {hits : List Int} {n : Nat} (h1 : 2 ≤ n) (h2 : n ≤ 12) {cs : List Ch} (h : PlanR (evM hits n) [8, 9, 10] (evL hits n) 1073741824 0 cs) : ∃ S : Nat → List Pz, S 0 = evPs hits n ∧ (∀ i, i ≤ cs.length → EvI hits n (S i)) ∧ (∀ i (hi : i < cs.length), EvStep [8, 9, 10] (S i) (S (i + 1)) cs[i]) ∧ cs.length ≤ 100 := by
  obtain ⟨π, st, qs, ds, k, hby, hst, hmv, _, hk, rfl⟩ := h.run
  have hb : begP (evL hits n) (evM hits n).zs = evPs hits n := evBeg hits n
  rw [hb] at hst
  rw [splitNo 1073741824 π _ (fun p hp => by have := evHits hits (EvI.init hits n) p hp; omega)] at hst
  subst hst
  obtain ⟨S, s0, s1, s2⟩ := hmv.chain
  have hI : ∀ i, i ≤ ds.length → EvI hits n (S i) := by
    intro i
    induction i with
    | zero => intro _; rw [s0]; exact EvI.init hits n
    | succ i ih => intro hi; exact (EvStep.says (s2 i (by omega)) (ih (by omega))).1
  have hq : ∀ p ∈ qs, 0 ≤ p.hits := fun p hp => by
    rw [← s1] at hp
    exact (evHits hits (hI _ (Nat.le_refl _)) p hp).1
  have hm : mergeF 0 qs ds = ⟨qs, ds⟩ := mergeNo _ ⟨qs, ds⟩ hq
  rw [hm]
  have hl : ds.length = 0 + k := hmv.lenN
  exact ⟨S, s0, hI, s2, by show ds.length ≤ 100; omega⟩
end Go.Proofs.Ytepjehcmiofehaa
