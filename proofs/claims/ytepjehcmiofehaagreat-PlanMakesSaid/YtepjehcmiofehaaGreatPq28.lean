/- Heaps, pure: rows of numbers where each is not less than the one above it. plan: rankings of hosts, in heaps. -/
import Derived.Test.YtepjehcmiofehaaGreatPq26
namespace Go.Proofs.YtepjehcmiofehaaGreat
set_option linter.unusedVariables false
set_option linter.unusedSimpArgs false
/-- the numbers i and j change places -/
def swp (f : Nat → Int) (i j : Nat) : Nat → Int := fun k => if k = i then f j else if k = j then f i else f k
def HeapF (f : Nat → Int) (n : Nat) : Prop := ∀ i, 0 < i → i < n → f ((i - 1) / 2) ≤ f i
/-- a heap but for what stands at j, which may be less than the one above it -/
def UpI (f : Nat → Int) (n j : Nat) : Prop := (∀ i, 0 < i → i < n → i ≠ j → f ((i - 1) / 2) ≤ f i) ∧ (0 < j → ∀ i, 0 < i → i < n → (i - 1) / 2 = j → f ((j - 1) / 2) ≤ f i)
theorem UpI.zero {f : Nat → Int} {n : Nat} (h : UpI f n 0) : HeapF f n := fun i h0 hn => h.1 i h0 hn (by omega)
theorem UpI.stop {f : Nat → Int} {n j : Nat} (h : UpI f n j) (hj : f ((j - 1) / 2) ≤ f j) : HeapF f n := fun i h0 hn => by
  by_cases e : i = j
  · subst e; exact hj
  · exact h.1 i h0 hn e
theorem UpI.step {f : Nat → Int} {n j p : Nat} (h : UpI f n j) (hj : 0 < j) (hn : j < n) (hp : p = (j - 1) / 2) (hlt : f j < f p) : UpI (swp f p j) n p := by
  have hpj : p < j := by omega
  constructor
  · intro i h0 hin hip
    unfold swp
    by_cases e1 : i = j
    · subst e1
      rw [← hp, if_pos rfl, if_neg (by omega), if_pos rfl]
      exact Int.le_of_lt hlt
    · by_cases e2 : (i - 1) / 2 = j
      · have := h.2 hj i h0 hin e2
        rw [← hp] at this
        rw [e2, if_neg (by omega), if_pos rfl, if_neg hip, if_neg e1]
        exact this
      · by_cases e3 : (i - 1) / 2 = p
        · have := h.1 i h0 hin e1
          rw [e3] at this
          rw [e3, if_pos rfl, if_neg hip, if_neg e1]
          omega
        · rw [if_neg e3, if_neg e2, if_neg hip, if_neg e1]
          exact h.1 i h0 hin e1
  · intro hp0 i h0 hin hip
    have hpp : f ((p - 1) / 2) ≤ f p := h.1 p hp0 (by omega) (by omega)
    have hq : (p - 1) / 2 < p := by omega
    unfold swp
    rw [if_neg (by omega), if_neg (by omega)]
    by_cases e1 : i = j
    · subst e1
      rw [if_neg (by omega), if_pos rfl]; exact hpp
    · have := h.1 i h0 hin e1
      rw [hip] at this
      rw [if_neg (by omega), if_neg e1]
      omega
/-- a heap but for what stands at i, which may be greater than those below it (and, unless b, less than the one above it) -/
def DownI (f : Nat → Int) (n i : Nat) (b : Bool) : Prop := (∀ k, 0 < k → k < n → (k - 1) / 2 ≠ i → (k ≠ i ∨ b = true) → f ((k - 1) / 2) ≤ f k) ∧ (0 < i → ∀ k, 0 < k → k < n → (k - 1) / 2 = i → f ((i - 1) / 2) ≤ f k)
theorem DownI.stop {f : Nat → Int} {n i : Nat} {b : Bool} (h : DownI f n i b) (hc : ∀ k, 0 < k → k < n → (k - 1) / 2 = i → f i ≤ f k) : UpI f n i ∧ (b = true → HeapF f n) := by
  constructor
  · constructor
    · intro k h0 hn hk
      by_cases e : (k - 1) / 2 = i
      · rw [e]; exact hc k h0 hn e
      · exact h.1 k h0 hn e (.inl hk)
    · exact fun h0 k k0 kn ke => h.2 h0 k k0 kn ke
  · intro hb k h0 hn
    by_cases e : (k - 1) / 2 = i
    · rw [e]; exact hc k h0 hn e
    · exact h.1 k h0 hn e (.inr hb)
theorem DownI.step {f : Nat → Int} {n i j : Nat} {b : Bool} (h : DownI f n i b) (hj0 : 0 < j) (hjn : j < n) (hji : (j - 1) / 2 = i) (hlt : f j < f i) (hmin : ∀ k, 0 < k → k < n → (k - 1) / 2 = i → f j ≤ f k) : DownI (swp f i j) n j true := by
  have hij : i < j := by omega
  constructor
  · intro k h0 hn hkj _
    unfold swp
    by_cases e1 : k = j
    · subst e1
      rw [hji, if_pos rfl, if_neg (by omega), if_pos rfl]
      exact Int.le_of_lt hlt
    · by_cases e2 : k = i
      · subst e2
        rw [if_neg (by omega), if_neg (by omega), if_pos rfl]
        exact h.2 h0 j hj0 hjn hji
      · by_cases e3 : (k - 1) / 2 = i
        · rw [if_pos e3, if_neg e2, if_neg e1]
          exact hmin k h0 hn e3
        · rw [if_neg e3, if_neg hkj, if_neg e2, if_neg e1]
          exact h.1 k h0 hn e3 (.inl e2)
  · intro _ k h0 hn hkj
    unfold swp
    rw [hji, if_pos rfl, if_neg (by omega), if_neg (by omega)]
    have := h.1 k h0 hn (by omega) (.inl (by omega))
    rw [hkj] at this
    exact this
/-- the first of a heap is the least -/
theorem HeapF.least {f : Nat → Int} {n : Nat} (h : HeapF f n) : ∀ i, i < n → f 0 ≤ f i := by
  intro i
  induction i using Nat.strongRecOn with
  | ind i ih =>
    intro hi
    by_cases h0 : i = 0
    · subst h0; exact Int.le_refl _
    · have h1 := h i (by omega) hi
      have h2 := ih ((i - 1) / 2) (by omega) (by omega)
      omega
theorem HeapF.push {f : Nat → Int} {n : Nat} (h : HeapF f n) : UpI f (n + 1) n :=
  ⟨fun i h0 hn hi => h i h0 (by omega), fun h0 i i0 hi he => by omega⟩
theorem HeapF.congr {f g : Nat → Int} {n : Nat} (h : HeapF f n) (e : ∀ i, i < n → f i = g i) : HeapF g n := fun i h0 hi => by
  rw [← e i hi, ← e _ (by omega)]; exact h i h0 hi
theorem UpI.congr {f g : Nat → Int} {n j : Nat} (h : UpI f n j) (hj : j < n) (e : ∀ i, i < n → f i = g i) : UpI g n j :=
  ⟨fun i h0 hi hne => by rw [← e i hi, ← e _ (by omega)]; exact h.1 i h0 hi hne, fun j0 i h0 hi he => by rw [← e i hi, ← e _ (by omega)]; exact h.2 j0 i h0 hi he⟩
theorem DownI.congr {f g : Nat → Int} {n j : Nat} {b : Bool} (h : DownI f n j b) (e : ∀ i, i < n → f i = g i) : DownI g n j b :=
  ⟨fun i h0 hi hne hb => by rw [← e i hi, ← e _ (by omega)]; exact h.1 i h0 hi hne hb, fun j0 i h0 hi he => by rw [← e i hi, ← e _ (by omega)]; exact h.2 j0 i h0 hi he⟩
end Go.Proofs.YtepjehcmiofehaaGreat
namespace Go.Proofs.YtepjehcmiofehaaGreat
open Go.RowKit
set_option linter.unusedVariables false
set_option linter.unusedSimpArgs false
structure Rk where
  h : Int
  l : Int
def rkV (r : Rk) : List Value := [.int .i64 r.h, .int .i64 r.l]
def flatR (l : List Rk) : List Value := l.flatMap rkV
theorem flatR_app (a b : List Rk) : flatR (a ++ b) = flatR a ++ flatR b := by simp [flatR]
theorem flatR_len (l : List Rk) : (flatR l).length = l.length * 2 := by
  induction l with
  | nil => rfl
  | cons a r ih =>
    have : flatR (a :: r) = rkV a ++ flatR r := rfl
    rw [this, List.length_append, ih]
    simp [rkV]; omega
theorem flatR_at : ∀ (l : List Rk) (j : Nat) (h : j < l.length), (flatR l)[j * 2]? = some (.int .i64 l[j].h) ∧ (flatR l)[j * 2 + 1]? = some (.int .i64 l[j].l)
  | [], j, h => by cases h
  | a :: r, 0, h => by simp [flatR, rkV]
  | a :: r, j + 1, h => by
    have := flatR_at r j (by simpa using h)
    have e : (j + 1) * 2 = j * 2 + 2 := by omega
    simp only [flatR, List.flatMap_cons, rkV, List.getElem_cons_succ] at this ⊢
    rw [e]
    exact this
theorem rkV_one (r : Rk) : ∀ u ∈ rkV r, u.oneCell' = true := by
  intro u hz
  simp only [rkV, List.mem_cons, List.not_mem_nil, or_false] at hz
  rcases hz with rfl | rfl <;> rfl
theorem flatR_set : ∀ (l : List Rk) (j : Nat) (h : j < l.length) (r : Rk), flatR (l.set j r) = ((flatR l).set (j * 2) (.int .i64 r.h)).set (j * 2 + 1) (.int .i64 r.l)
  | [], j, h, _ => by cases h
  | a :: t, 0, h, r => by simp [flatR, rkV]
  | a :: t, j + 1, h, r => by
    have := flatR_set t j (by simpa using h) r
    have e : (j + 1) * 2 = j * 2 + 2 := by omega
    simp only [flatR, List.set_cons_succ, List.flatMap_cons, rkV, List.cons_append, List.nil_append] at this ⊢
    rw [this, e]
    simp
/-- a ranking's order, as one number -/
def keyR (s : Int) (r : Rk) : Int := s * r.l * 2199023255552 + r.h
structure RkOk (r : Rk) : Prop where
  h0 : 0 ≤ r.h
  h1 : r.h ≤ 1048576
  l0 : 0 ≤ r.l
  l1 : r.l ≤ 35184372088832
def kfR (s : Int) (l : List Rk) (i : Nat) : Int := ((l[i]?).map (keyR s)).getD 0
theorem kfR_lt {s : Int} {l : List Rk} {i : Nat} (h : i < l.length) : kfR s l i = keyR s l[i] := by simp [kfR, h]
def lessR (s : Int) (a b : Rk) : Bool := if a.l = b.l then decide (a.h < b.h) else decide (s * a.l < s * b.l)
theorem lessR_key {s : Int} {a b : Rk} (hs : s = 1 ∨ s = -1) (ha : RkOk a) (hb : RkOk b) : lessR s a b = decide (keyR s a < keyR s b) := by
  have := ha.h0; have := ha.h1; have := hb.h0; have := hb.h1
  unfold lessR keyR
  rcases hs with rfl | rfl
  · split
    · rename_i e; rw [e]; congr 1; exact propext (by omega)
    · congr 1; exact propext (by omega)
  · split
    · rename_i e; rw [e]; congr 1; exact propext (by omega)
    · congr 1; exact propext (by omega)
def swapG {α : Type} (l : List α) (i j : Nat) : List α := if h : i < l.length ∧ j < l.length then (l.set i (l[j]'h.2)).set j (l[i]'h.1) else l
theorem swapG_len {α : Type} (l : List α) (i j : Nat) : (swapG l i j).length = l.length := by unfold swapG; split <;> simp
theorem swapG_far {α : Type} {l : List α} {i j k : Nat} (hi : i ≠ k) (hj : j ≠ k) : (swapG l i j)[k]? = l[k]? := by
  unfold swapG
  split
  · rw [List.getElem?_set_ne hj, List.getElem?_set_ne hi]
  · rfl
theorem swapG_at {α : Type} {l : List α} {i j : Nat} (hi : i < l.length) (hj : j < l.length) (k : Nat) : (swapG l i j)[k]? = if k = j then l[i]? else if k = i then l[j]? else l[k]? := by
  unfold swapG
  rw [dif_pos ⟨hi, hj⟩]
  by_cases e : k = j
  · subst e
    rw [if_pos rfl, List.getElem?_set_self (by simpa using hj), List.getElem?_eq_getElem hi]
  · rw [if_neg e, List.getElem?_set_ne (fun h => e h.symm)]
    by_cases e2 : k = i
    · subst e2
      rw [if_pos rfl, List.getElem?_set_self hi, List.getElem?_eq_getElem hj]
    · rw [if_neg e2, List.getElem?_set_ne (fun h => e2 h.symm)]
theorem swapG_kf {s : Int} {l : List Rk} {i j : Nat} (hi : i < l.length) (hj : j < l.length) : kfR s (swapG l i j) = swp (kfR s l) i j := by
  funext k
  unfold kfR swp
  rw [swapG_at hi hj]
  by_cases e : k = j
  · subst e
    by_cases e2 : k = i
    · subst e2; simp
    · simp [e2]
  · by_cases e2 : k = i
    · subst e2; simp [e]
    · simp [e, e2]
theorem swapG_perm {α : Type} {l : List α} {i j : Nat} (hi : i < l.length) (hj : j < l.length) : (swapG l i j).Perm l := by
  unfold swapG
  rw [dif_pos ⟨hi, hj⟩]
  exact List.set_set_perm hi hj
/-- a ranking in memory -/
structure RkH (w : World) (B b : Nat) (s : Int) (v : Value) (rs : List Rk) : Prop where
  blk : Whl w b 112 #[v, .int .i64 s]
  own : w.ownsRow B 84 2 v rs.length (flatR rs)
  far : v.ownBlock ≠ some b
  ok : ∀ r ∈ rs, RkOk r
  sg : s = 1 ∨ s = -1
  low : B ≤ b
theorem RkH.cell {w : World} {B b : Nat} {s : Int} {v : Value} {rs : List Rk} (h : RkH w B b s v rs) : w.cell? ⟨b, 0, none⟩ = some v ∧ w.cell? ⟨b, 1, none⟩ = some (.int .i64 s) := ⟨h.blk.cell 0, h.blk.cell 1⟩
theorem RkH.keep {D : Nat → Prop} {w w' : World} {B b : Nat} {s : Int} {v : Value} {rs : List Rk} (h : RkH w B b s v rs) (ht : Touch D w w') (hD : ∀ k, (k = b ∨ v.ownBlock = some k) → ¬ D k) : RkH w' B b s v rs :=
  ⟨(ht.block b h.blk.low (hD b (.inl rfl))).trans h.blk, ht.own h.own (fun q hq => hD q (.inr hq)), h.far, h.ok, h.sg, h.low⟩
theorem RkH.lows {w : World} {B b : Nat} {s : Int} {v : Value} {rs : List Rk} (h : RkH w B b s v rs) : ∀ k, (k = b ∨ v.ownBlock = some k) → B ≤ k ∧ k < w.heap.size := by
  rintro k (rfl | e)
  · exact ⟨h.low, h.blk.low⟩
  · exact h.own.lt k e
theorem RkH.below {w w' : World} {B b : Nat} {s : Int} {v : Value} {rs : List Rk} (h : RkH w B b s v rs) (hb : Below w.heap.size w w') : RkH w' B b s v rs :=
  h.keep (Touch.of_below hb) (fun k hk hd => by have := (h.lows k hk).2; omega)
theorem RkH.row {w w' : World} {B b : Nat} {s : Int} {v : Value} {rs rs' : List Rk} (h : RkH w B b s v rs) (ht : Touch (fun x => v.ownBlock = some x) w w') (ho : w'.ownsRow B 84 2 v rs'.length (flatR rs')) (hok : ∀ r ∈ rs', RkOk r) : RkH w' B b s v rs' :=
  ⟨(ht.block b h.blk.low h.far).trans h.blk, ho, h.far, hok, h.sg, h.low⟩
theorem rowR_at {w : World} {B g c : Nat} {l : List Rk} (h : w.ownsRow B 84 2 (.slice (some ⟨g, 0, none⟩) l.length c) l.length (flatR l)) {i : Nat} (hi : i < l.length) :
    w.cell? ⟨g, i * 2, none⟩ = some (.int .i64 l[i].h) ∧ w.cell? ⟨g, i * 2 + 1, none⟩ = some (.int .i64 l[i].l) := by
  obtain ⟨r0, r1⟩ := flatR_at l i hi
  exact ⟨(h.cellAt _ (by omega)).trans r0, (h.cellAt _ (by omega)).trans r1⟩
theorem rkLen (B b : Nat) (s : Int) (v : Value) (rs : List Rk) (w : World) (h : RkH w B b s v rs) : Calls Tryz.prog 115 #[.pointer (some ⟨b, 0, none⟩)] w fun e w' => e = .returned (.int .i64 rs.length) ∧ w' = w := by
  have k0 := h.cell.1
  obtain ⟨A, c, hzv, _, hnc, hcm⟩ := own_slice h.own
  subst hzv
  clear h
  go_enter Tryz.func115, Tryz.ntmps115
  go_wp2_with fail
  go_ret
  exact ⟨rfl, rfl⟩
set_option maxHeartbeats 4000000 in
set_option maxRecDepth 10000 in
theorem rkLess (B b : Nat) (s : Int) (v : Value) (rs : List Rk) (i j : Nat) (w : World) (h : RkH w B b s v rs) (hi : i < rs.length) (hj : j < rs.length) (hl : rs.length ≤ 1000) :
    Calls Tryz.prog 116 #[.pointer (some ⟨b, 0, none⟩), .int .i64 i, .int .i64 j] w fun e w' => e = .returned (.bool (lessR s rs[i] rs[j])) ∧ Below w.heap.size w w' := by
  obtain ⟨k0, k1⟩ := h.cell
  have hbl := h.blk.low
  obtain ⟨g, c, hv, hg1, hg2, hnc, hcm⟩ := own_form h.own (by omega)
  subst hv
  obtain ⟨a0, a1⟩ := rowR_at h.own hi
  obtain ⟨b0, b1⟩ := rowR_at h.own hj
  have oka := h.ok _ (List.getElem_mem hi)
  have okb := h.ok _ (List.getElem_mem hj)
  have hsg := h.sg
  obtain ⟨x, hx⟩ : ∃ x, x = rs[i] := ⟨_, rfl⟩
  obtain ⟨y, hy⟩ : ∃ y, y = rs[j] := ⟨_, rfl⟩
  rw [← hx] at a0 a1 oka
  rw [← hy] at b0 b1 okb
  rw [← hx, ← hy]
  obtain ⟨r, hr⟩ : ∃ r, r = lessR s x y := ⟨_, rfl⟩
  rw [← hr]
  have HR := Lib.hid hr
  clear hr
  have q1 : (i : Int) < (rs.length : Int) := by omega
  have q2 : (j : Int) < (rs.length : Int) := by omega
  have z1 : wrap64 (s * x.l) = s * x.l := by
    have := oka.l0; have := oka.l1
    rcases hsg with rfl | rfl <;> (unfold wrap64; omega)
  have z2 : wrap64 (s * y.l) = s * y.l := by
    have := okb.l0; have := okb.l1
    rcases hsg with rfl | rfl <;> (unfold wrap64; omega)
  have Z1 := Lib.hid z1
  have Z2 := Lib.hid z2
  clear h hx hy oka okb hsg z1 z2
  go_enter Tryz.func116, Tryz.ntmps116
  go_upto_region 1 with fail
  go_cut [7, 8] (fun p q wx => ∃ n m : Nat, p = .pointer (some ⟨n, 0, none⟩) ∧ q = .pointer (some ⟨m, 0, none⟩) ∧ Whl wx n 84 #[.int .i64 x.h, .int .i64 x.l] ∧ Whl wx m 84 #[.int .i64 y.h, .int .i64 y.l] ∧ Below w.heap.size w wx)
  case first =>
    go_region
    all_goals
      go_wp2_with fail
      go_meet
      first
        | exact ⟨_, _, rfl, rfl, ((Whl.new rfl).alloc _).drew, (Whl.new (by simp)).drew, (((Below.refl _ _).alloc (Nat.le_refl _) _).alloc (by simp) _).drew⟩
        | exact ⟨_, _, rfl, rfl, (Whl.new (by simp)).drew, ((Whl.new rfl).alloc _).drew, (((Below.refl _ _).alloc (Nat.le_refl _) _).alloc (by simp) _).drew⟩
  case rest =>
    obtain ⟨n, m, rfl, rfl, hN, hM, hB⟩ := hcut
    have x0 := hN.cell 0
    have x1 := hN.cell 1
    have y0 := hM.cell 0
    have y1 := hM.cell 1
    simp only [List.getElem?_toArray, List.getElem?_cons_succ, List.getElem?_cons_zero] at x0 x1 y0 y1
    have s0 := bkeep hB k0 hbl
    have s1 := bkeep hB k1 hbl
    have HB := Lib.hid hB
    clear k0 k1 a0 a1 b0 b1 hN hM hB
    by_cases he : x.l = y.l
    · have q5 : (x.l == y.l) = true := by rw [beq_iff_eq]; exact he
      have HE := Lib.hid he
      clear he
      go_wp2_with fail
      go_ret
      exact ⟨ret_bool (by rw [HR.out, lessR, if_pos HE.out]), HB.out⟩
    · have q5 : (x.l == y.l) = false := by rw [beq_eq_false_iff_ne]; exact he
      have HE := Lib.hid he
      clear he
      go_upto_region 4 with fail
      go_quiet (fail)
      go_wp2_with fail
      go_ret
      exact ⟨ret_bool (by rw [HR.out, lessR, if_neg HE.out, Z1.out, Z2.out]), b_drewN HB.out⟩
theorem Touch.drewP {D : Nat → Prop} {w w' : World} (h : Touch D w w') : Touch D w w'.drew := ⟨h.os, h.tape, h.output, h.size, h.block⟩
theorem own_st4 {w : World} {B T g n c : Nat} {xs : List Value} (h : w.ownsRow B T 2 (.slice (some ⟨g, 0, none⟩) n c) n xs) (k1 k2 k3 k4 : Nat) (v1 v2 v3 v4 : Value) :
    ((((w.setCell ⟨g, k1, none⟩ v1).setCell ⟨g, k2, none⟩ v2).setCell ⟨g, k3, none⟩ v3).setCell ⟨g, k4, none⟩ v4).drew.ownsRow B T 2 (.slice (some ⟨g, 0, none⟩) n c) n ((((xs.set k1 v1).set k2 v2).set k3 v3).set k4 v4) ∧
    Touch (fun x => (Value.slice (some ⟨g, 0, none⟩) n c).ownBlock = some x) w ((((w.setCell ⟨g, k1, none⟩ v1).setCell ⟨g, k2, none⟩ v2).setCell ⟨g, k3, none⟩ v3).setCell ⟨g, k4, none⟩ v4).drew := by
  have h1 := (h.stored k1 v1).1
  have h2 := (h1.stored k2 v2).1
  have h3 := (h2.stored k3 v3).1
  have h4 := (h3.stored k4 v4).1
  have t1 : Touch (fun x => (Value.slice (some ⟨g, 0, none⟩) n c).ownBlock = some x) w (w.setCell ⟨g, k1, none⟩ v1) := (Touch.refl _ _).set (fun _ => rfl)
  have t2 := t1.set (a := ⟨g, k2, none⟩) (v := v2) (fun _ => rfl)
  have t3 := t2.set (a := ⟨g, k3, none⟩) (v := v3) (fun _ => rfl)
  have t4 := t3.set (a := ⟨g, k4, none⟩) (v := v4) (fun _ => rfl)
  exact ⟨(Touch.drewP (Touch.refl (fun _ => False) _)).own h4 (fun _ _ h => h), t4.drewP⟩
set_option maxHeartbeats 4000000 in
set_option maxRecDepth 10000 in
theorem rkSwap (B b : Nat) (s : Int) (v : Value) (rs : List Rk) (i j : Nat) (w : World) (h : RkH w B b s v rs) (hi : i < rs.length) (hj : j < rs.length) (hij : i ≠ j) (hl : rs.length ≤ 1000) :
    Calls Tryz.prog 118 #[.pointer (some ⟨b, 0, none⟩), .int .i64 i, .int .i64 j] w fun e w' => e = .returned (.tuple #[]) ∧ w'.ownsRow B 84 2 v rs.length (flatR (swapG rs i j)) ∧ Touch (fun x => v.ownBlock = some x) w w' := by
  obtain ⟨k0, k1⟩ := h.cell
  have hbl := h.blk.low
  obtain ⟨g, c, hv, hg1, hg2, hnc, hcm⟩ := own_form h.own (by omega)
  subst hv
  obtain ⟨a0, a1⟩ := rowR_at h.own hi
  obtain ⟨b0, b1⟩ := rowR_at h.own hj
  have hf := fun k => h.own.frozenAt k
  have HO := Lib.hid h.own
  have hgb : g ≠ b := fun e => h.far (by rw [e]; rfl)
  have hfl : flatR (swapG rs i j) = ((((flatR rs).set (i * 2) (.int .i64 rs[j].h)).set (i * 2 + 1) (.int .i64 rs[j].l)).set (j * 2) (.int .i64 rs[i].h)).set (j * 2 + 1) (.int .i64 rs[i].l) := by
    unfold swapG
    rw [dif_pos ⟨hi, hj⟩, flatR_set _ _ (by simpa using hj), flatR_set _ _ hi]
  obtain ⟨x, hx⟩ : ∃ x, x = rs[i] := ⟨_, rfl⟩
  obtain ⟨y, hy⟩ : ∃ y, y = rs[j] := ⟨_, rfl⟩
  rw [← hx, ← hy] at hfl
  rw [← hx] at a0 a1
  rw [← hy] at b0 b1
  rw [hfl]
  have q1 : (i : Int) < (rs.length : Int) := by omega
  have q2 : (j : Int) < (rs.length : Int) := by omega
  clear h hx hy hfl
  go_enter Tryz.func118, Tryz.ntmps118
  go_wp2_with fail
  go_region
  go_wp2_with fail
  obtain ⟨hS1, hS2⟩ := own_st4 HO.out (i * 2) (i * 2 + 1) (j * 2) (j * 2 + 1) (.int .i64 y.h) (.int .i64 y.l) (.int .i64 x.h) (.int .i64 x.l)
  exact bodyPost_end (v := .tuple #[]) (by simp [results, Tryz.results118, go_sem]) rfl ⟨rfl, hS1, hS2⟩
end Go.Proofs.YtepjehcmiofehaaGreat
