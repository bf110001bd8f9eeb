/- Orders, sides as heaps of orders, pure. -/
import Derived.ProofKit
import Derived.Test.YtdlbiobjnohfbaaVi0
namespace Go.Proofs.Ytdlbiobjnohfbaa
set_option linter.unusedVariables false
set_option linter.unusedSimpArgs false
structure Od where
  id : Int
  who : ByteArray
  buy : Bool
  item : Int
  ct : Int
  pr : Int
def odV (o : Od) : List Value := [.int .i64 o.id, .string o.who, .bool o.buy, .int .i64 o.item, .int .i64 o.ct, .int .i64 o.pr]
def odA (o : Od) : Value := .agg #[.int .i64 o.id, .string o.who, .bool o.buy, .int .i64 o.item, .int .i64 o.ct, .int .i64 o.pr]
def flatO (l : List Od) : List Value := l.flatMap odV
theorem flatO_app (a b : List Od) : flatO (a ++ b) = flatO a ++ flatO b := by simp [flatO]
theorem flatO_len (l : List Od) : (flatO l).length = l.length * 6 := by
  induction l with
  | nil => rfl
  | cons a r ih =>
    have : flatO (a :: r) = odV a ++ flatO r := rfl
    rw [this, List.length_append, ih]
    simp [odV]; omega
theorem flatO_at : ∀ (l : List Od) (j : Nat) (h : j < l.length), (flatO l)[j * 6]? = some (.int .i64 l[j].id) ∧ (flatO l)[j * 6 + 1]? = some (.string l[j].who) ∧ (flatO l)[j * 6 + 2]? = some (.bool l[j].buy) ∧ (flatO l)[j * 6 + 3]? = some (.int .i64 l[j].item) ∧ (flatO l)[j * 6 + 4]? = some (.int .i64 l[j].ct) ∧ (flatO l)[j * 6 + 5]? = some (.int .i64 l[j].pr)
  | [], j, h => by cases h
  | a :: r, 0, h => by simp [flatO, odV]
  | a :: r, j + 1, h => by
    have := flatO_at r j (by simpa using h)
    have e : (j + 1) * 6 = j * 6 + 6 := by omega
    simp only [flatO, List.flatMap_cons, odV, List.getElem_cons_succ] at this ⊢
    rw [e]
    exact this
theorem flatO_one (l : List Od) : ∀ u ∈ flatO l, u.oneCell' = true := by
  intro u hu
  obtain ⟨o, _, ho⟩ := List.mem_flatMap.1 hu
  simp only [odV, List.mem_cons, List.not_mem_nil, or_false] at ho
  rcases ho with rfl | rfl | rfl | rfl | rfl | rfl <;> rfl
theorem flatO_set : ∀ (l : List Od) (j : Nat) (o : Od), j < l.length → flatO (l.set j o) = (((((((flatO l).set (j * 6) (.int .i64 o.id)).set (j * 6 + 1) (.string o.who)).set (j * 6 + 2) (.bool o.buy)).set (j * 6 + 3) (.int .i64 o.item)).set (j * 6 + 4) (.int .i64 o.ct)).set (j * 6 + 5) (.int .i64 o.pr))
  | [], j, o, h => by cases h
  | a :: r, 0, o, h => by simp [flatO, odV]
  | a :: r, j + 1, o, h => by
    have := flatO_set r j o (by simpa using h)
    have e : (j + 1) * 6 = j * 6 + 6 := by omega
    simp only [flatO, List.flatMap_cons, odV, List.set_cons_succ] at this ⊢
    rw [e, this]
    rfl
theorem flatO_take (l : List Od) (n : Nat) : flatO (l.take n) = (flatO l).take (n * 6) := by
  induction l generalizing n with
  | nil => simp [flatO]
  | cons a r ih =>
    cases n with
    | zero => simp [flatO]
    | succ n =>
      have e : (n + 1) * 6 = n * 6 + 6 := by omega
      have h1 : flatO ((a :: r).take (n + 1)) = odV a ++ flatO (r.take n) := by simp [flatO]
      have h2 : flatO (a :: r) = odV a ++ flatO r := rfl
      rw [h1, h2, ih, e]
      simp [odV]
/-- how early an order is served, among those of its side -/
def key (o : Od) : Int := (if o.buy then - o.pr else o.pr) * 2199023255552 + o.id
/-- what 'Less' says of two of one side -/
def lessO (a b : Od) : Bool := if a.pr = b.pr then decide (a.id < b.id) else decide (decide (b.pr < a.pr) = a.buy)
/-- may an order be? -/
structure OkO (o : Od) : Prop where
  id : 1 ≤ o.id ∧ o.id ≤ 1099511627776
  who : 1 ≤ o.who.size ∧ o.who.size ≤ 16
  item : 1 ≤ o.item ∧ o.item ≤ 3
  ct : 1 ≤ o.ct ∧ o.ct ≤ 1048576
  pr : 1 ≤ o.pr ∧ o.pr ≤ 1024
theorem less_key {a b : Od} (h : a.buy = b.buy) (ha : 1 ≤ a.id ∧ a.id ≤ 1099511627776) (hb : 1 ≤ b.id ∧ b.id ≤ 1099511627776) : lessO a b = decide (key a < key b) := by
  unfold lessO key
  rw [← h]
  cases hq : a.buy with
  | true =>
    by_cases e : a.pr = b.pr
    · rw [if_pos e, e]
      refine decide_eq_decide.2 ?_
      simp only [if_true]
      omega
    · rw [if_neg e]
      refine decide_eq_decide.2 ?_
      simp only [if_true, decide_eq_true_eq]
      omega
  | false =>
    by_cases e : a.pr = b.pr
    · rw [if_pos e, e]
      refine decide_eq_decide.2 ?_
      simp
    · rw [if_neg e]
      refine decide_eq_decide.2 ?_
      simp only [decide_eq_false_iff_not, Bool.false_eq_true, if_false]
      omega
/-- all of a side, all with numbers in their bounds -/
def SideQ (bb : Bool) (l : List Od) : Prop := ∀ o ∈ l, o.buy = bb ∧ 1 ≤ o.id ∧ o.id ≤ 1099511627776
def kf (l : List Od) : Nat → Int := fun i => ((l[i]?).map key).getD 0
theorem kf_at {l : List Od} {i : Nat} (h : i < l.length) : kf l i = key l[i] := by
  unfold kf; rw [List.getElem?_eq_getElem h]; rfl
def Heap (l : List Od) : Prop := HeapF (kf l) l.length
theorem less_kf {l : List Od} {bb : Bool} (hq : SideQ bb l) {i j : Nat} (hi : i < l.length) (hj : j < l.length) : lessO l[i] l[j] = decide (kf l i < kf l j) := by
  have h1 := hq _ (List.getElem_mem hi)
  have h2 := hq _ (List.getElem_mem hj)
  rw [kf_at hi, kf_at hj]
  exact less_key (h1.1.trans h2.1.symm) h1.2 h2.2
def swapL (l : List Od) (i j : Nat) : List Od := match l[i]?, l[j]? with | some a, some b => (l.set i b).set j a | _, _ => l
theorem swapL_eq {l : List Od} {i j : Nat} (hi : i < l.length) (hj : j < l.length) : swapL l i j = (l.set i l[j]).set j l[i] := by
  unfold swapL; rw [List.getElem?_eq_getElem hi, List.getElem?_eq_getElem hj]
theorem swapL_len (l : List Od) (i j : Nat) : (swapL l i j).length = l.length := by
  unfold swapL; split <;> simp
theorem swapL_perm {l : List Od} {i j : Nat} (hi : i < l.length) (hj : j < l.length) : (swapL l i j).Perm l := by
  rw [swapL_eq hi hj]; exact List.set_set_perm hi hj
theorem swapL_kf {l : List Od} {i j : Nat} (hi : i < l.length) (hj : j < l.length) : kf (swapL l i j) = swp (kf l) i j := by
  funext k
  rw [swapL_eq hi hj]
  unfold kf swp
  by_cases e1 : k = i
  · subst e1
    rw [if_pos rfl]
    by_cases e2 : j = k
    · subst e2; simp [hj]
    · rw [List.getElem?_set_ne e2, List.getElem?_set_self hi]
      exact (kf_at hj).symm
  · rw [if_neg e1]
    by_cases e2 : k = j
    · subst e2
      rw [if_pos rfl, List.getElem?_set_self (by simpa using hj)]
      exact (kf_at hi).symm
    · rw [if_neg e2, List.getElem?_set_ne (fun e => e2 e.symm), List.getElem?_set_ne (fun e => e1 e.symm)]
theorem SideQ.perm {bb : Bool} {l m : List Od} (h : SideQ bb l) (p : m.Perm l) : SideQ bb m := fun o ho => h o (p.mem_iff.1 ho)
theorem kf_app {l : List Od} {o : Od} {i : Nat} (h : i < l.length) : kf (l ++ [o]) i = kf l i := by
  unfold kf; rw [List.getElem?_append_left h]
theorem kf_take {l : List Od} {n i : Nat} (h : i < n) : kf (l.take n) i = kf l i := by
  unfold kf; rw [List.getElem?_take_of_lt h]
theorem Heap.push {l : List Od} (h : Heap l) (o : Od) : UpI (kf (l ++ [o])) (l.length + 1) l.length :=
  UpI.congr (j := l.length) (f := fun i => if i < l.length then kf l i else kf (l ++ [o]) i) ((HeapF.congr h (g := fun i => if i < l.length then kf l i else kf (l ++ [o]) i) (fun i hi => by simp [hi])).push) (by omega) (fun i hi => by
    by_cases hil : i < l.length
    · simp [hil, kf_app hil]
    · simp [hil])
end Go.Proofs.Ytdlbiobjnohfbaa
