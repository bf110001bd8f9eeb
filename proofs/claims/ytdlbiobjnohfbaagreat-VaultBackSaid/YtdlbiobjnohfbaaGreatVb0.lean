/- Heaps, pure: rows of numbers where each is not less than the one above it. Orders, sides as heaps of orders, pure. -/
import Derived.ProofKit
namespace Go.Proofs.YtdlbiobjnohfbaaGreat
set_option linter.unusedVariables false
set_option linter.unusedSimpArgs false
def swp (f : Nat → Int) (i j : Nat) : Nat → Int := fun k => if k = i then f j else if k = j then f i else f k
def HeapF (f : Nat → Int) (n : Nat) : Prop := ∀ i, 0 < i → i < n → f ((i - 1) / 2) ≤ f i
def UpI (f : Nat → Int) (n j : Nat) : Prop := (∀ i, 0 < i → i < n → i ≠ j → f ((i - 1) / 2) ≤ f i) ∧ (0 < j → ∀ i, 0 < i → i < n → (i - 1) / 2 = j → f ((j - 1) / 2) ≤ f i)
theorem UpI.zero {f : Nat → Int} {n : Nat} (h : UpI f n 0) : HeapF f n := fun i h0 hn => h.1 i h0 hn (by omega)
theorem UpI.stop {f : Nat → Int} {n j : Nat} (h : UpI f n j) (hj : f ((j - 1) / 2) ≤ f j) : HeapF f n := fun i h0 hn => by
 by_cases e : i = j
 · subst e; exact hj
 · exact h.1 i h0 hn e
theorem UpI.step {f : Nat → Int} {n j p : Nat} (h : UpI f n j) (hj : 0 < j) (hn : j < n) (hp : p = (j - 1) / 2) (hlt : f j < f p) : UpI (swp f p j) n p := by
 have hpj : p < j := by omega
 constructor
 ·
  intro i h0 hin hip
  unfold swp
  by_cases e1 : i = j
  ·
   subst e1
   rw [← hp, if_pos rfl, if_neg (by omega), if_pos rfl]
   exact Int.le_of_lt hlt
  ·
   by_cases e2 : (i - 1) / 2 = j
   ·
    have := h.2 hj i h0 hin e2
    rw [← hp] at this
    rw [e2, if_neg (by omega), if_pos rfl, if_neg hip, if_neg e1]
    exact this
   ·
    by_cases e3 : (i - 1) / 2 = p
    ·
     have := h.1 i h0 hin e1
     rw [e3] at this
     rw [e3, if_pos rfl, if_neg hip, if_neg e1]
     omega
    ·
     rw [if_neg e3, if_neg e2, if_neg hip, if_neg e1]
     exact h.1 i h0 hin e1
 ·
  intro hp0 i h0 hin hip
  have hpp : f ((p - 1) / 2) ≤ f p := h.1 p hp0 (by omega) (by omega)
  have hq : (p - 1) / 2 < p := by omega
  unfold swp
  rw [if_neg (by omega), if_neg (by omega)]
  by_cases e1 : i = j
  ·
   subst e1
   rw [if_neg (by omega), if_pos rfl]; exact hpp
  ·
   have := h.1 i h0 hin e1
   rw [hip] at this
   rw [if_neg (by omega), if_neg e1]
   omega
def DownI (f : Nat → Int) (n i : Nat) (b : Bool) : Prop := (∀ k, 0 < k → k < n → (k - 1) / 2 ≠ i → (k ≠ i ∨ b = true) → f ((k - 1) / 2) ≤ f k) ∧ (0 < i → ∀ k, 0 < k → k < n → (k - 1) / 2 = i → f ((i - 1) / 2) ≤ f k)
theorem DownI.stop {f : Nat → Int} {n i : Nat} {b : Bool} (h : DownI f n i b) (hc : ∀ k, 0 < k → k < n → (k - 1) / 2 = i → f i ≤ f k) : UpI f n i ∧ (b = true → HeapF f n) := by
 constructor
 ·
  constructor
  ·
   intro k h0 hn hk
   by_cases e : (k - 1) / 2 = i
   · rw [e]; exact hc k h0 hn e
   · exact h.1 k h0 hn e (.inl hk)
  · exact fun h0 k k0 kn ke => h.2 h0 k k0 kn ke
 ·
  intro hb k h0 hn
  by_cases e : (k - 1) / 2 = i
  · rw [e]; exact hc k h0 hn e
  · exact h.1 k h0 hn e (.inr hb)
theorem DownI.step {f : Nat → Int} {n i j : Nat} {b : Bool} (h : DownI f n i b) (hj0 : 0 < j) (hjn : j < n) (hji : (j - 1) / 2 = i) (hlt : f j < f i) (hmin : ∀ k, 0 < k → k < n → (k - 1) / 2 = i → f j ≤ f k) : DownI (swp f i j) n j true := by
 have hij : i < j := by omega
 constructor
 ·
  intro k h0 hn hkj _
  unfold swp
  by_cases e1 : k = j
  ·
   subst e1
   rw [hji, if_pos rfl, if_neg (by omega), if_pos rfl]
   exact Int.le_of_lt hlt
  ·
   by_cases e2 : k = i
   ·
    subst e2
    rw [if_neg (by omega), if_neg (by omega), if_pos rfl]
    exact h.2 h0 j hj0 hjn hji
   ·
    by_cases e3 : (k - 1) / 2 = i
    ·
     rw [if_pos e3, if_neg e2, if_neg e1]
     exact hmin k h0 hn e3
    ·
     rw [if_neg e3, if_neg hkj, if_neg e2, if_neg e1]
     exact h.1 k h0 hn e3 (.inl e2)
 ·
  intro _ k h0 hn hkj
  unfold swp
  rw [hji, if_pos rfl, if_neg (by omega), if_neg (by omega)]
  have := h.1 k h0 hn (by omega) (.inl (by omega))
  rw [hkj] at this
  exact this
theorem HeapF.least {f : Nat → Int} {n : Nat} (h : HeapF f n) : ∀ i, i < n → f 0 ≤ f i := by
 intro i
 induction i using Nat.strongRecOn with
 | ind i ih =>
  intro hi
  by_cases h0 : i = 0
  · subst h0; exact Int.le_refl _
  ·
   have h1 := h i (by omega) hi
   have h2 := ih ((i - 1) / 2) (by omega) (by omega)
   omega
theorem HeapF.push {f : Nat → Int} {n : Nat} (h : HeapF f n) : UpI f (n + 1) n :=
 ⟨fun i h0 hn hi => h i h0 (by omega), fun h0 i i0 hi he => by omega⟩
theorem HeapF.remove {f : Nat → Int} {n i : Nat} (h : HeapF f (n + 1)) (hi : i < n) : DownI (swp f i n) n i (i == 0) := by
 constructor
 ·
  intro k h0 hn hk hki
  unfold swp
  have hk1 : k ≠ i := by
   rcases hki with h | h
   · exact h
   · simp at h; omega
  rw [if_neg hk, if_neg (by omega), if_neg hk1, if_neg (by omega)]
  exact h k h0 (by omega)
 ·
  intro i0 k h0 hn hk
  unfold swp
  rw [if_neg (by omega), if_neg (by omega), if_neg (by omega), if_neg (by omega)]
  have h1 := h k h0 (by omega)
  have h2 := h i i0 (by omega)
  rw [hk] at h1
  omega
theorem HeapF.less {f : Nat → Int} {n m : Nat} (h : HeapF f n) (hm : m ≤ n) : HeapF f m := fun i h0 hi => h i h0 (by omega)
theorem HeapF.congr {f g : Nat → Int} {n : Nat} (h : HeapF f n) (e : ∀ i, i < n → f i = g i) : HeapF g n := fun i h0 hi => by
 rw [← e i hi, ← e _ (by omega)]; exact h i h0 hi
theorem UpI.congr {f g : Nat → Int} {n j : Nat} (h : UpI f n j) (hj : j < n) (e : ∀ i, i < n → f i = g i) : UpI g n j :=
 ⟨fun i h0 hi hne => by rw [← e i hi, ← e _ (by omega)]; exact h.1 i h0 hi hne, fun j0 i h0 hi he => by rw [← e i hi, ← e _ (by omega)]; exact h.2 j0 i h0 hi he⟩
theorem DownI.congr {f g : Nat → Int} {n j : Nat} {b : Bool} (h : DownI f n j b) (e : ∀ i, i < n → f i = g i) : DownI g n j b :=
 ⟨fun i h0 hi hne hb => by rw [← e i hi, ← e _ (by omega)]; exact h.1 i h0 hi hne hb, fun j0 i h0 hi he => by rw [← e i hi, ← e _ (by omega)]; exact h.2 j0 i h0 hi he⟩
structure Od where
 id : Int
 who : ByteArray
 buy : Bool
 item : Int
 ct : Int
 pr : Int
theorem Od.ext' {a b : Od} (h1 : a.id = b.id) (h2 : a.who = b.who) (h3 : a.buy = b.buy) (h4 : a.item = b.item) (h5 : a.ct = b.ct) (h6 : a.pr = b.pr) : a = b := by
 cases a; cases b; simp_all
def odV (o : Od) : List Value := [.int .i64 o.id, .string o.who, .bool o.buy, .int .i64 o.item, .int .i64 o.ct, .int .i64 o.pr]
def odA (o : Od) : Value := .agg #[.int .i64 o.id, .string o.who, .bool o.buy, .int .i64 o.item, .int .i64 o.ct, .int .i64 o.pr]
def flatO (l : List Od) : List Value := l.flatMap odV
theorem flatO_app (a b : List Od) : flatO (a ++ b) = flatO a ++ flatO b := by simp [flatO]
theorem flatO_len (l : List Od) : (flatO l).length = l.length * 6 := by
 induction l with
 | nil => rfl
 | cons a r ih =>
  have : flatO (a :: r) = odV a ++ flatO r := rfl
  rw [this, List.length_append, ih]
  simp [odV]; omega
theorem flatO_at : ∀ (l : List Od) (j : Nat) (h : j < l.length), (flatO l)[j * 6]? = some (.int .i64 l[j].id) ∧ (flatO l)[j * 6 + 1]? = some (.string l[j].who) ∧ (flatO l)[j * 6 + 2]? = some (.bool l[j].buy) ∧ (flatO l)[j * 6 + 3]? = some (.int .i64 l[j].item) ∧ (flatO l)[j * 6 + 4]? = some (.int .i64 l[j].ct) ∧ (flatO l)[j * 6 + 5]? = some (.int .i64 l[j].pr)
 | [], j, h => by cases h
 | a :: r, 0, h => by simp [flatO, odV]
 | a :: r, j + 1, h => by
  have := flatO_at r j (by simpa using h)
  have e : (j + 1) * 6 = j * 6 + 6 := by omega
  simp only [flatO, List.flatMap_cons, odV, List.getElem_cons_succ] at this ⊢
  rw [e]
  exact this
theorem flatO_one (l : List Od) : ∀ u ∈ flatO l, u.oneCell' = true := by
 intro u hu
 obtain ⟨o, _, ho⟩ := List.mem_flatMap.1 hu
 simp only [odV, List.mem_cons, List.not_mem_nil, or_false] at ho
 rcases ho with rfl | rfl | rfl | rfl | rfl | rfl <;> rfl
theorem flatO_set : ∀ (l : List Od) (j : Nat) (o : Od), j < l.length → flatO (l.set j o) = (((((((flatO l).set (j * 6) (.int .i64 o.id)).set (j * 6 + 1) (.string o.who)).set (j * 6 + 2) (.bool o.buy)).set (j * 6 + 3) (.int .i64 o.item)).set (j * 6 + 4) (.int .i64 o.ct)).set (j * 6 + 5) (.int .i64 o.pr))
 | [], j, o, h => by cases h
 | a :: r, 0, o, h => by simp [flatO, odV]
 | a :: r, j + 1, o, h => by
  have := flatO_set r j o (by simpa using h)
  have e : (j + 1) * 6 = j * 6 + 6 := by omega
  simp only [flatO, List.flatMap_cons, odV, List.set_cons_succ] at this ⊢
  rw [e, this]
  rfl
theorem flatO_take (l : List Od) (n : Nat) : flatO (l.take n) = (flatO l).take (n * 6) := by
 induction l generalizing n with
 | nil => simp [flatO]
 | cons a r ih =>
  cases n with
  | zero => simp [flatO]
  | succ n =>
   have e : (n + 1) * 6 = n * 6 + 6 := by omega
   have h1 : flatO ((a :: r).take (n + 1)) = odV a ++ flatO (r.take n) := by simp [flatO]
   have h2 : flatO (a :: r) = odV a ++ flatO r := rfl
   rw [h1, h2, ih, e]
   simp [odV]
def key (o : Od) : Int := (if o.buy then - o.pr else o.pr) * 2199023255552 + o.id
def lessO (a b : Od) : Bool := if a.pr = b.pr then decide (a.id < b.id) else decide (decide (b.pr < a.pr) = a.buy)
structure OkO (o : Od) : Prop where
 id : 1 ≤ o.id ∧ o.id ≤ 1099511627776
 who : 1 ≤ o.who.size ∧ o.who.size ≤ 16
 item : 1 ≤ o.item ∧ o.item ≤ 3
 ct : 1 ≤ o.ct ∧ o.ct ≤ 1048576
 pr : 1 ≤ o.pr ∧ o.pr ≤ 1024
theorem less_key {a b : Od} (h : a.buy = b.buy) (ha : 1 ≤ a.id ∧ a.id ≤ 1099511627776) (hb : 1 ≤ b.id ∧ b.id ≤ 1099511627776) : lessO a b = decide (key a < key b) := by
 unfold lessO key
 rw [← h]
 cases hq : a.buy with
 | true =>
  by_cases e : a.pr = b.pr
  ·
   rw [if_pos e, e]
   refine decide_eq_decide.2 ?_
   simp only [if_true]
   omega
  ·
   rw [if_neg e]
   refine decide_eq_decide.2 ?_
   simp only [if_true, decide_eq_true_eq]
   omega
 | false =>
  by_cases e : a.pr = b.pr
  ·
   rw [if_pos e, e]
   refine decide_eq_decide.2 ?_
   simp
  ·
   rw [if_neg e]
   refine decide_eq_decide.2 ?_
   simp only [decide_eq_false_iff_not, Bool.false_eq_true, if_false]
   omega
def SideQ (bb : Bool) (l : List Od) : Prop := ∀ o ∈ l, o.buy = bb ∧ 1 ≤ o.id ∧ o.id ≤ 1099511627776
def kf (l : List Od) : Nat → Int := fun i => ((l[i]?).map key).getD 0
theorem kf_at {l : List Od} {i : Nat} (h : i < l.length) : kf l i = key l[i] := by
 unfold kf; rw [List.getElem?_eq_getElem h]; rfl
def Heap (l : List Od) : Prop := HeapF (kf l) l.length
theorem less_kf {l : List Od} {bb : Bool} (hq : SideQ bb l) {i j : Nat} (hi : i < l.length) (hj : j < l.length) : lessO l[i] l[j] = decide (kf l i < kf l j) := by
 have h1 := hq _ (List.getElem_mem hi)
 have h2 := hq _ (List.getElem_mem hj)
 rw [kf_at hi, kf_at hj]
 exact less_key (h1.1.trans h2.1.symm) h1.2 h2.2
def swapL (l : List Od) (i j : Nat) : List Od := match l[i]?, l[j]? with | some a, some b => (l.set i b).set j a | _, _ => l
theorem swapL_eq {l : List Od} {i j : Nat} (hi : i < l.length) (hj : j < l.length) : swapL l i j = (l.set i l[j]).set j l[i] := by
 unfold swapL; rw [List.getElem?_eq_getElem hi, List.getElem?_eq_getElem hj]
theorem swapL_len (l : List Od) (i j : Nat) : (swapL l i j).length = l.length := by
 unfold swapL; split <;> simp
theorem swapL_perm {l : List Od} {i j : Nat} (hi : i < l.length) (hj : j < l.length) : (swapL l i j).Perm l := by
 rw [swapL_eq hi hj]; exact List.set_set_perm hi hj
theorem swapL_kf {l : List Od} {i j : Nat} (hi : i < l.length) (hj : j < l.length) : kf (swapL l i j) = swp (kf l) i j := by
 funext k
 rw [swapL_eq hi hj]
 unfold kf swp
 by_cases e1 : k = i
 ·
  subst e1
  rw [if_pos rfl]
  by_cases e2 : j = k
  · subst e2; simp [hj]
  ·
   rw [List.getElem?_set_ne e2, List.getElem?_set_self hi]
   exact (kf_at hj).symm
 ·
  rw [if_neg e1]
  by_cases e2 : k = j
  ·
   subst e2
   rw [if_pos rfl, List.getElem?_set_self (by simpa using hj)]
   exact (kf_at hi).symm
  · rw [if_neg e2, List.getElem?_set_ne (fun e => e2 e.symm), List.getElem?_set_ne (fun e => e1 e.symm)]
theorem SideQ.perm {bb : Bool} {l m : List Od} (h : SideQ bb l) (p : m.Perm l) : SideQ bb m := fun o ho => h o (p.mem_iff.1 ho)
theorem kf_app {l : List Od} {o : Od} {i : Nat} (h : i < l.length) : kf (l ++ [o]) i = kf l i := by
 unfold kf; rw [List.getElem?_append_left h]
theorem kf_take {l : List Od} {n i : Nat} (h : i < n) : kf (l.take n) i = kf l i := by
 unfold kf; rw [List.getElem?_take_of_lt h]
theorem Heap.push {l : List Od} (h : Heap l) (o : Od) : UpI (kf (l ++ [o])) (l.length + 1) l.length :=
 UpI.congr (j := l.length) (f := fun i => if i < l.length then kf l i else kf (l ++ [o]) i) ((HeapF.congr h (g := fun i => if i < l.length then kf l i else kf (l ++ [o]) i) (fun i hi => by simp [hi])).push) (by omega) (fun i hi => by
  by_cases hil : i < l.length
  · simp [hil, kf_app hil]
  · simp [hil])
end Go.Proofs.YtdlbiobjnohfbaaGreat
