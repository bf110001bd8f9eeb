/- plan, pure: a plan is one alone. -/
import Derived.Test.YtepjehcmiofehaaGreatPlQ
namespace Go.Proofs.YtepjehcmiofehaaGreat
open Go.RowKit
set_option linter.unusedVariables false
set_option linter.unusedSimpArgs false

theorem sorted_one (f : Nat → Int) : ∀ {a b : List Nat}, a.Perm b → a.Pairwise (fun x y => f x < f y) → b.Pairwise (fun x y => f x < f y) → a = b
  | [], b, h, _, _ => by rw [List.nil_perm.1 h]
  | x :: a, [], h, _, _ => by have := h.length_eq; simp at this
  | x :: a, y :: b, h, ha, hb => by
    rw [List.pairwise_cons] at ha hb
    have e : x = y := by
      have hx : x ∈ y :: b := h.mem_iff.1 List.mem_cons_self
      have hy : y ∈ x :: a := h.mem_iff.2 List.mem_cons_self
      rcases List.mem_cons.1 hx with e | hx
      · exact e
      · rcases List.mem_cons.1 hy with e | hy
        · exact e.symm
        · have h1 := ha.1 y hy
          have h2 := hb.1 x hx
          omega
    subst e
    rw [sorted_one f (List.Perm.cons_inv h) ha.2 hb.2]
theorem ByI.one {ps : List Pz} {a b : List Nat} (ha : ByI ps a) (hb : ByI ps b) : a = b := sorted_one (idP ps) (ha.perm.trans hb.perm.symm) ha.up hb.up
theorem Most.one {hs : List Int} {ps : List Pz} {a b c d : Int} (ho : ∀ g ∈ hs, HostOk g) (h1 : Most hs ps a b) (h2 : Most hs ps c d) : a = c ∧ b = d := by
  have e1 := h1.a1 c h2.m1
  have e2 := h2.a1 a h1.m1
  have e3 := h1.a2 d h2.m2
  have e4 := h2.a2 b h1.m2
  have k1 := ho a h1.m1
  have k2 := ho b h1.m2
  have k3 := ho c h2.m1
  have k4 := ho d h2.m2
  unfold HostOk at k1 k2 k3 k4
  simp only [keyR, rankOf] at e1 e2 e3 e4
  constructor <;> omega
/-- which zone goes -/
def BestP (f t : Rk) (ps : List Pz) (P : Nat → Prop) (r : Option Nat) : Prop := match r with
  | none => ∀ j (hj : j < ps.length), P j → bestOk f t ps[j] = false
  | some k => ∃ hk : k < ps.length, P k ∧ bestOk f t ps[k] = true ∧ ∀ j (hj : j < ps.length), P j → bestOk f t ps[j] = true → ps[j].hits < ps[k].hits ∨ (ps[j].hits = ps[k].hits ∧ ps[k].z.id ≤ ps[j].z.id)
theorem idP_at {ps : List Pz} {j : Nat} (hj : j < ps.length) : idP ps j = ps[j].z.id := by simp [idP, hj]
theorem best_go {f t : Rk} {ps : List Pz} : ∀ (l : List Nat) (P : Nat → Prop) (acc : Option Nat), (∀ k ∈ l, k < ps.length) → l.Pairwise (fun a b => idP ps a < idP ps b) → (∀ j, P j → j < ps.length ∧ ∀ k ∈ l, idP ps j < idP ps k) → BestP f t ps P acc → BestP f t ps (fun j => P j ∨ j ∈ l) (l.foldl (bestStep f t ps) acc)
  | [], P, acc, _, _, _, h => by
    have e : (fun j => P j ∨ j ∈ ([] : List Nat)) = P := by funext j; simp
    rw [e]
    exact h
  | k :: l, P, acc, hl, hp, hP, h => by
    rw [List.pairwise_cons] at hp
    have hk : k < ps.length := hl k List.mem_cons_self
    have key : BestP f t ps (fun j => P j ∨ j = k) (bestStep f t ps acc k) := by
      unfold bestStep
      rw [List.getElem?_eq_getElem hk]
      show BestP f t ps _ (if bestOk f t ps[k] && betterB ps acc ps[k] then some k else acc)
      by_cases ok : bestOk f t ps[k] = true
      · rw [ok, Bool.true_and]
        cases acc with
        | none =>
          refine ⟨hk, .inr rfl, ok, fun j hj hPj hok => ?_⟩
          rcases hPj with hPj | rfl
          · rw [h j hj hPj] at hok; cases hok
          · exact .inr ⟨rfl, Int.le_refl _⟩
        | some m =>
          obtain ⟨hm, hPm, hmo, hmx⟩ := h
          have hid := (hP m hPm).2 k List.mem_cons_self
          rw [idP_at hm, idP_at hk] at hid
          have e : hitsAt ps m = ps[m].hits := by simp [hitsAt, hm]
          by_cases hb : ps[m].hits < ps[k].hits
          · have : betterB ps (some m) ps[k] = true := by show decide (hitsAt ps m < ps[k].hits) = true; rw [e]; exact decide_eq_true hb
            rw [this]
            refine ⟨hk, .inr rfl, ok, fun j hj hPj hok => ?_⟩
            rcases hPj with hPj | rfl
            · have := hmx j hj hPj hok
              left; omega
            · exact .inr ⟨rfl, Int.le_refl _⟩
          · have : betterB ps (some m) ps[k] = false := by show decide (hitsAt ps m < ps[k].hits) = false; rw [e]; exact decide_eq_false hb
            rw [this]
            refine ⟨hm, .inl hPm, hmo, fun j hj hPj hok => ?_⟩
            rcases hPj with hPj | rfl
            · exact hmx j hj hPj hok
            · omega
      · rw [Bool.not_eq_true] at ok
        rw [ok, Bool.false_and]
        cases acc with
        | none =>
          intro j hj hPj
          rcases hPj with hPj | rfl
          · exact h j hj hPj
          · exact ok
        | some m =>
          obtain ⟨hm, hPm, hmo, hmx⟩ := h
          refine ⟨hm, .inl hPm, hmo, fun j hj hPj hok => ?_⟩
          rcases hPj with hPj | rfl
          · exact hmx j hj hPj hok
          · rw [ok] at hok; cases hok
    have r := best_go l (fun j => P j ∨ j = k) _ (fun x hx => hl x (List.mem_cons_of_mem _ hx)) hp.2 (fun j hj => by
      rcases hj with hj | rfl
      · exact ⟨(hP j hj).1, fun x hx => (hP j hj).2 x (List.mem_cons_of_mem _ hx)⟩
      · exact ⟨hk, hp.1⟩) key
    have e : (fun j => P j ∨ j ∈ k :: l) = fun j => (P j ∨ j = k) ∨ j ∈ l := by funext j; simp [or_assoc]
    rw [e]
    exact r
theorem best_is {f t : Rk} {ps : List Pz} {π : List Nat} (hb : ByI ps π) : BestP f t ps (fun j => j < ps.length) (π.foldl (bestStep f t ps) none) := by
  have h := best_go π (fun _ => False) none hb.lt hb.up (fun _ h => h.elim) (fun _ _ h => h.elim) (f := f) (t := t)
  have e : (fun j => False ∨ j ∈ π) = fun j => j < ps.length := by
    funext j
    rw [false_or]
    exact propext (hb.perm.mem_iff.trans List.mem_range)
  rw [e] at h
  exact h
theorem BestP.one {f t : Rk} {ps : List Pz} (hn : (ps.map fun p => p.z.id).Nodup) {a b : Option Nat} (ha : BestP f t ps (fun j => j < ps.length) a) (hb : BestP f t ps (fun j => j < ps.length) b) : a = b := by
  cases a with
  | none => cases b with
    | none => rfl
    | some k => obtain ⟨hk, _, ok, _⟩ := hb; rw [ha k hk hk] at ok; cases ok
  | some m => cases b with
    | none => obtain ⟨hk, _, ok, _⟩ := ha; rw [hb m hk hk] at ok; cases ok
    | some k =>
      obtain ⟨hm, _, om, xm⟩ := ha
      obtain ⟨hk, _, ok, xk⟩ := hb
      have h1 := xm k hk hk ok
      have h2 := xk m hm hm om
      have e : ps[m].z.id = ps[k].z.id := by omega
      have := (List.getElem_inj (xs := ps.map fun p => p.z.id) (i := m) (j := k) (h₀ := by simpa using hm) (h₁ := by simpa using hk) hn).1 (by simpa using e)
      rw [this]
theorem Goes.one {hs : List Int} {ps : List Pz} {a b c d : Int} {r s : Option Nat} (ho : ∀ g ∈ hs, HostOk g) (h1 : Goes hs ps a b r) (h2 : Goes hs ps c d s) : a = c ∧ b = d ∧ r = s := by
  obtain ⟨m1, π, p1, rfl⟩ := h1
  obtain ⟨m2, ρ, p2, rfl⟩ := h2
  obtain ⟨rfl, rfl⟩ := m1.one ho m2
  rw [p1.one p2]
  exact ⟨rfl, rfl, rfl⟩
/-- an end of the moves -/
def MvEnd (hs : List Int) (ps qs : List Pz) (n : Nat) : Prop := (2 ≤ pdN 3 ps + n ∨ ∃ g1 g2, Goes hs qs g1 g2 none) ∧ (n = 0 ∨ pdN 3 ps + n ≤ 2)
theorem MoveR.pre {hs : List Int} {ps qs : List Pz} {cs ds : List Ch} {n : Nat} (ho : ∀ g ∈ hs, HostOk g) (h : MoveR hs ps cs qs ds n) : ∀ {qs' : List Pz} {ds' : List Ch} {n' : Nat}, MoveR hs ps cs qs' ds' n' → n' ≤ n → (n' = n → qs' = qs ∧ ds' = ds) ∧ (n' < n → ∃ g1 g2 k, Goes hs qs' g1 g2 (some k)) := by
  induction h with
  | nil =>
    intro qs' ds' n' h' hn
    cases h' with
    | nil => exact ⟨fun _ => ⟨rfl, rfl⟩, fun h => absurd h (by omega)⟩
    | snoc h hg hk => omega
  | @snoc qs ds n g1 g2 k h hg hk ih =>
    intro qs' ds' n' h' hn
    by_cases e : n' = n + 1
    · refine ⟨fun _ => ?_, fun h => absurd h (by omega)⟩
      cases h' with
      | nil => omega
      | @snoc qs2 ds2 n2 a1 a2 k2 h2 hg2 hk2 =>
        obtain ⟨e1, e2⟩ := (ih h2 (by omega)).1 (by omega)
        subst e1 e2
        obtain ⟨rfl, rfl, e3⟩ := hg.one ho hg2
        injection e3 with e3
        subst e3
        exact ⟨rfl, rfl⟩
    · refine ⟨fun h => absurd h e, fun _ => ?_⟩
      have := ih h' (by omega)
      by_cases e2 : n' = n
      · obtain ⟨rfl, _⟩ := this.1 e2
        exact ⟨g1, g2, k, hg⟩
      · exact this.2 (by omega)
theorem MoveR.one {hs : List Int} {ps qs qs' : List Pz} {cs ds ds' : List Ch} {n n' : Nat} (ho : ∀ g ∈ hs, HostOk g) (h : MoveR hs ps cs qs ds n) (he : MvEnd hs ps qs n) (h' : MoveR hs ps cs qs' ds' n') (he' : MvEnd hs ps qs' n') : qs = qs' ∧ ds = ds' := by
  rcases Nat.lt_trichotomy n n' with hl | rfl | hl
  · exfalso
    obtain ⟨g1, g2, k, hg⟩ := (h'.pre ho h (by omega)).2 hl
    rcases he.1 with h1 | ⟨a, b, h1⟩
    · rcases he'.2 with h2 | h2 <;> omega
    · have := (hg.one ho h1).2.2
      cases this
  · exact ⟨(h.pre ho h' (Nat.le_refl _)).1 rfl |>.1.symm, (h.pre ho h' (Nat.le_refl _)).1 rfl |>.2.symm⟩
  · exfalso
    obtain ⟨g1, g2, k, hg⟩ := (h.pre ho h' (by omega)).2 hl
    rcases he'.1 with h1 | ⟨a, b, h1⟩
    · rcases he.2 with h2 | h2 <;> omega
    · have := (hg.one ho h1).2.2
      cases this
theorem PlanR.one {m : Mp} {hs : List Int} {l : List Lr} {hot cold : Int} {cs cs' : List Ch} (ho : ∀ g ∈ hs, HostOk g) (h : PlanR m hs l hot cold cs) (h' : PlanR m hs l hot cold cs') : cs = cs' := by
  obtain ⟨π, st, qs, ds, n, hb, hst, hmv, he, hx, rfl⟩ := h.run
  obtain ⟨π', st', qs', ds', n', hb', hst', hmv', he', hx', rfl⟩ := h'.run
  have e := hb.one hb'
  subst e
  rw [← hst] at hst'
  subst hst'
  obtain ⟨rfl, rfl⟩ := hmv.one ho ⟨he, hx⟩ hmv' ⟨he', hx'⟩
  rfl
/-- the place of the zone with the least ID above one; -1: none -/
def NextP (ps : List Pz) (id r : Int) : Prop := (r = -1 ∧ ∀ j (hj : j < ps.length), ps[j].z.id ≤ id) ∨ ∃ k : Nat, r = k ∧ ∃ hk : k < ps.length, id < ps[k].z.id ∧ ∀ j (hj : j < ps.length), id < ps[j].z.id → ps[k].z.id ≤ ps[j].z.id
theorem pair_get {f : Nat → Int} {l : List Nat} (h : l.Pairwise fun a b => f a < f b) {i j : Nat} (hij : i < j) (hj : j < l.length) : f l[i] < f l[j] := List.pairwise_iff_getElem.1 h i j (by omega) hj hij
/-- where the walk by IDs stands -/
def nxI (π : List Nat) (k : Nat) : Int := match π[k]? with
  | none => -1
  | some j => j
theorem next_is {ps : List Pz} {π : List Nat} (hb : ByI ps π) (hn : (ps.map fun p => p.z.id).Nodup) (hp : ∀ p ∈ ps, 1 ≤ p.z.id) {k : Nat} {id r : Int} (hk : (k = 0 ∧ id = 0) ∨ ∃ j, k = j + 1 ∧ ∃ hj : j < π.length, ∃ hj2 : π[j] < ps.length, id = ps[π[j]].z.id) (h : NextP ps id r) : r = nxI π k := by
  have hlen := hb.len
  have hkl : k ≤ π.length := by rcases hk with ⟨rfl, _⟩ | ⟨j, rfl, hj, _⟩ <;> omega
  have lo : ∀ i (hi : i < π.length) (hi2 : π[i] < ps.length), k ≤ i → id < ps[π[i]].z.id := fun i hi hi2 hki => by
    rcases hk with ⟨_, rfl⟩ | ⟨j, rfl, hj, hj2, rfl⟩
    · have := hp _ (List.getElem_mem hi2); omega
    · have := pair_get hb.up (i := j) (j := i) (by omega) hi
      rw [idP_at hj2, idP_at hi2] at this
      exact this
  have hi' : ∀ i (hi : i < π.length) (hi2 : π[i] < ps.length), i < k → ps[π[i]].z.id ≤ id := fun i hi hi2 hki => by
    rcases hk with ⟨rfl, _⟩ | ⟨j, rfl, hj, hj2, rfl⟩
    · omega
    · by_cases e : i = j
      · subst e; exact Int.le_refl _
      · have := pair_get hb.up (i := i) (j := j) (by omega) hj
        rw [idP_at hj2, idP_at hi2] at this
        omega
  have at_ : ∀ x, x < ps.length → ∃ i, ∃ hi : i < π.length, π[i] = x := fun x hx => by
    have : x ∈ π := hb.perm.mem_iff.2 (List.mem_range.2 hx)
    exact List.getElem_of_mem this
  by_cases hkt : k < π.length
  · have hk2 : π[k] < ps.length := hb.lt _ (List.getElem_mem hkt)
    have e : nxI π k = (π[k] : Int) := by unfold nxI; rw [List.getElem?_eq_getElem hkt]
    rw [e]
    rcases h with ⟨_, h⟩ | ⟨x, rfl, hx, h1, h2⟩
    · have := lo k hkt hk2 (Nat.le_refl _)
      have := h _ hk2
      omega
    · obtain ⟨i, hi, rfl⟩ := at_ x hx
      have h3 := h2 _ hk2 (lo k hkt hk2 (Nat.le_refl _))
      have hki : k ≤ i := by
        rcases Nat.lt_or_ge i k with h | h
        · have := hi' i hi hx h; omega
        · exact h
      by_cases e : i = k
      · subst e; rfl
      · have := pair_get hb.up (i := k) (j := i) (by omega) hi
        rw [idP_at hk2, idP_at hx] at this
        omega
  · have e : nxI π k = -1 := by unfold nxI; rw [List.getElem?_eq_none (by omega)]
    rw [e]
    rcases h with ⟨h, _⟩ | ⟨x, rfl, hx, h1, h2⟩
    · exact h
    · obtain ⟨i, hi, rfl⟩ := at_ x hx
      have := hi' i hi hx (by omega)
      omega
end Go.Proofs.YtepjehcmiofehaaGreat
