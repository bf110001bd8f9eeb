/- BookSums, pure: what is placed is what stands there and what was traded, of each side and each item. -/
import Derived.Test.YtekelnkjigaofaaBqP
namespace Go.Proofs.Ytekelnkjigaofaa
set_option linter.unusedVariables false
set_option linter.unusedSimpArgs false

def oneS (b : Bool) (it : Int) (o : Od) : Int := if o.buy = b ∧ o.item = it then o.ct else 0
def suS (b : Bool) (it : Int) : List Od → Int
  | [] => 0
  | a :: r => oneS b it a + suS b it r
def stS (it : Int) : List Td → Int
  | [] => 0
  | t :: r => (if t.item = it then t.ct else 0) + stS it r
theorem suS_app (b : Bool) (it : Int) : ∀ L M, suS b it (L ++ M) = suS b it L + suS b it M
  | [], M => by simp [suS]
  | a :: r, M => by
    show oneS b it a + suS b it (r ++ M) = oneS b it a + suS b it r + suS b it M
    rw [suS_app b it r M]; omega
theorem suS_filter (b : Bool) (it : Int) {x : Od} : ∀ {L : List Od}, Ids L → x ∈ L → suS b it (L.filter (fun y => decide (y.id ≠ x.id))) = suS b it L - oneS b it x
  | [], _, hx => by cases hx
  | a :: r, h, hx => by
    obtain ⟨h1, h2⟩ := List.pairwise_cons.1 h
    rcases List.mem_cons.1 hx with e | hx
    · subst e
      have e : r.filter (fun y => decide (y.id ≠ x.id)) = r := List.filter_eq_self.2 (fun y hy => by have := h1 y hy; simp; omega)
      rw [List.filter_cons_of_neg (by simp), e]
      show suS b it r = oneS b it x + suS b it r - oneS b it x
      omega
    · have := h1 x hx
      rw [List.filter_cons_of_pos (by simp; omega)]
      show oneS b it a + suS b it _ = oneS b it a + suS b it r - oneS b it x
      rw [suS_filter b it h2 hx]; omega
theorem suS_map_off (b : Bool) (it : Int) (g n : Int) : ∀ (L : List Od), (∀ y ∈ L, y.id ≠ g) → suS b it (L.map fun y => if y.id = g then less y n else y) = suS b it L
  | [], _ => rfl
  | a :: r, h => by
    show oneS b it (if a.id = g then less a n else a) + suS b it (r.map _) = oneS b it a + suS b it r
    rw [if_neg (h a (by simp)), suS_map_off b it g n r (fun y hy => h y (by simp [hy]))]
theorem suS_map (b : Bool) (it : Int) {x : Od} (n : Int) : ∀ {L : List Od}, Ids L → x ∈ L → suS b it (L.map fun y => if y.id = x.id then less y n else y) = suS b it L - (if x.buy = b ∧ x.item = it then n else 0)
  | [], _, hx => by cases hx
  | a :: r, h, hx => by
    obtain ⟨h1, h2⟩ := List.pairwise_cons.1 h
    rcases List.mem_cons.1 hx with e | hx
    · subst e
      show oneS b it (if x.id = x.id then less x n else x) + suS b it (r.map _) = oneS b it x + suS b it r - _
      rw [if_pos rfl, suS_map_off b it x.id n r (fun y hy => by have := h1 y hy; omega)]
      unfold oneS
      show (if x.buy = b ∧ x.item = it then x.ct - n else 0) + _ = _
      split <;> omega
    · have := h1 x hx
      show oneS b it (if a.id = x.id then less a n else a) + suS b it (r.map _) = oneS b it a + suS b it r - _
      rw [if_neg (by omega), suS_map b it n h2 hx]; omega
theorem suS_takeN (b : Bool) (it : Int) {x : Od} {n : Int} {L : List Od} (h : Ids L) (hx : x ∈ L) : suS b it (takeN x n L) = suS b it L - (if x.buy = b ∧ x.item = it then n else 0) := by
  unfold takeN
  split
  · rename_i e
    rw [suS_filter b it h hx]
    unfold oneS
    rw [e]
  · exact suS_map b it n h hx
theorem Places.sums {o : Od} {L : List Od} {T : List Td} {o1 : Od} {L1 : List Od} {last : Int} (h : Places o L T o1 L1) : Bk L last → ∀ b it, suS b it L + oneS b it o = suS b it L1 + oneS b it o1 + stS it T := by
  induction h with
  | done o L h => intro hb b it; show _ = _ + 0; omega
  | step o x L T o' L' h0 hbst _ ih =>
    intro hb b it
    have hm := mn_le (a := o.ct) (b := x.ct)
    have hp := mn_pos (show (1 : Int) ≤ o.ct by omega) (hb.ok x hbst.1).ct.1
    have i := ih (hb.takeN hbst.1 (by omega) hm.2) b it
    rw [suS_takeN b it hb.ids hbst.1] at i
    have hmt := hbst.2.1
    unfold meets at hmt
    simp only [Bool.and_eq_true, decide_eq_true_eq, bne_iff_ne, ne_eq] at hmt
    obtain ⟨⟨e1, e2⟩, _⟩ := hmt
    have e3 : (tradeP o x (mn o.ct x.ct)).item = o.item := by unfold tradeP; split <;> rfl
    have e4 : (tradeP o x (mn o.ct x.ct)).ct = mn o.ct x.ct := by unfold tradeP; split <;> rfl
    show _ = _ + ((if (tradeP o x (mn o.ct x.ct)).item = it then (tradeP o x (mn o.ct x.ct)).ct else 0) + stS it T)
    rw [e3, e4]
    have e5 : oneS b it (less o (mn o.ct x.ct)) = oneS b it o - (if o.buy = b ∧ o.item = it then mn o.ct x.ct else 0) := by
      unfold oneS
      show (if o.buy = b ∧ o.item = it then o.ct - mn o.ct x.ct else 0) = _
      split <;> omega
    rw [e5] at i
    rw [← e1] at i
    by_cases hi : o.item = it
    · cases hq : o.buy <;> cases hx : x.buy <;> cases b <;> simp_all <;> omega
    · simp only [hi, and_false, if_false] at i ⊢
      omega
theorem Placed.sums {L : List Od} {last : Int} {o : Od} {T : List Td} {n e : Int} {L' : List Od} {last' : Int} (h : Placed L last o T n e L' last') (hb : Bk L last) : (e = 0 ∧ OkO o ∧ ∀ b it, suS b it L + oneS b it o = suS b it L' + stS it T) ∨ (e ≠ 0 ∧ T = [] ∧ L' = L) := by
  cases h with
  | bad h => exact .inr ⟨by omega, rfl, rfl⟩
  | full _ _ h => exact .inr ⟨by omega, rfl, rfl⟩
  | ok h1 _ _ _ o1 L1 hp _ =>
    refine .inl ⟨rfl, h1, fun b it => ?_⟩
    obtain ⟨_, _, _, _, _, _, _, _, h0, _⟩ := hp.bk hb
    have h0 := h0 (by have := h1.ct; omega)
    rw [hp.sums hb b it]
    unfold laid
    split
    · rw [suS_app]
      show _ = _ + (oneS b it o1 + 0) + _
      omega
    · have : oneS b it o1 = 0 := by unfold oneS; split <;> omega
      omega
theorem gone_sums {L : List Od} {last : Int} (hb : Bk L last) {x : Od} (hx : x ∈ L) (b : Bool) (it : Int) : suS b it (goneO x.id L) = suS b it L - oneS b it x := suS_filter b it hb.ids hx
theorem gone_none' {L : List Od} {id : Int} (h : ∀ y ∈ L, y.id ≠ id) : goneO id L = L := List.filter_eq_self.2 (fun y hy => decide_eq_true (h y hy))
/-- the items of the trades are the order's -/
theorem Places.items {o : Od} {L : List Od} {T : List Td} {o1 : Od} {L1 : List Od} (h : Places o L T o1 L1) : ∀ t ∈ T, t.item = o.item := by
  induction h with
  | done o L h => intro t ht; cases ht
  | step o x L T o' L' h0 hb h ih =>
    intro t ht
    rcases List.mem_cons.1 ht with rfl | ht
    · unfold tradeP; split <;> rfl
    · exact ih t ht
theorem Placed.items {L : List Od} {last : Int} {o : Od} {T : List Td} {n e : Int} {L' : List Od} {last' : Int} (h : Placed L last o T n e L' last') : ∀ t ∈ T, t.item = o.item := by
  cases h with
  | bad => intro t ht; cases ht
  | full => intro t ht; cases ht
  | ok _ _ _ _ _ _ hp _ => exact hp.items
end Go.Proofs.Ytekelnkjigaofaa
