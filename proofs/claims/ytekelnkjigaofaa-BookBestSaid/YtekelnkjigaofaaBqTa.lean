/- BookBest, pure: what a buyer gets of sellers of one piece each; sells that are laid one by one. -/
import Derived.Test.YtekelnkjigaofaaBqP
import Derived.Deep.RegionLaw
namespace Go.Proofs.Ytekelnkjigaofaa
open Go.RowKit
set_option linter.unusedVariables false
set_option linter.unusedSimpArgs false

/-- sells of one piece each that an order meets, all of them -/
def Ones (o : Od) (L : List Od) : Prop := ∀ x ∈ L, x.buy = false ∧ x.ct = 1 ∧ meets o x = true
theorem filter_id_len {L : List Od} {x : Od} (h : Ids L) (hx : x ∈ L) : (L.filter (fun y => decide (y.id ≠ x.id))).length + 1 = L.length := by
  induction L with
  | nil => cases hx
  | cons a r ih =>
    obtain ⟨h1, h2⟩ := List.pairwise_cons.1 h
    rcases List.mem_cons.1 hx with e | hx
    · subst e
      have e : r.filter (fun y => decide (y.id ≠ x.id)) = r := List.filter_eq_self.2 (fun y hy => by have := h1 y hy; simp; omega)
      rw [List.filter_cons_of_neg (by simp), e]
      rfl
    · have := h1 x hx
      rw [List.filter_cons_of_pos (by simp; omega), List.length_cons, List.length_cons, ih h2 hx]
/-- one trade comes before another: the cheaper first, of alike ones the elder -/
def Before (a b : Td) : Prop := a.pr < b.pr ∨ (a.pr = b.pr ∧ a.sell < b.sell)
theorem Places.ones {o : Od} {L : List Od} {T : List Td} {o1 : Od} {L1 : List Od} {last : Int} (h : Places o L T o1 L1) : Bk L last → o.buy = true → 0 ≤ o.ct → Ones o L →
    (T.length : Int) = mn o.ct L.length ∧ o1.ct = o.ct - T.length ∧ (∀ t ∈ T, ∃ x ∈ L, t.sell = x.id ∧ t.pr = x.pr ∧ t.ct = 1) ∧ T.Pairwise Before := by
  induction h with
  | done o L h =>
    intro hb hq h0 hL
    have e : mn o.ct (L.length : Int) = 0 := by
      rcases h with h | h
      · unfold mn; split <;> omega
      · cases L with
        | nil => unfold mn; split <;> simp at * <;> omega
        | cons a r => have := h a (by simp); rw [(hL a (by simp)).2.2] at this; cases this
    refine ⟨by simp [e], by simp, by simp, List.Pairwise.nil⟩
  | step o x L T o' L' h0 hbst _ ih =>
    intro hb hq h00 hL
    obtain ⟨x1, x2, x3⟩ := hL x hbst.1
    have em : mn o.ct x.ct = 1 := by rw [x2]; unfold mn; split <;> omega
    have et : Go.Proofs.Ytekelnkjigaofaa.takeN x 1 L = L.filter (fun y => decide (y.id ≠ x.id)) := by unfold Go.Proofs.Ytekelnkjigaofaa.takeN; rw [if_pos x2]
    rw [em] at ih ⊢
    have hml : ∀ y ∈ Go.Proofs.Ytekelnkjigaofaa.takeN x 1 L, y ∈ L ∧ y.id ≠ x.id := by
      intro y hy; rw [et] at hy; obtain ⟨a, b⟩ := List.mem_filter.1 hy; exact ⟨a, by simpa using b⟩
    obtain ⟨i1, i2, i3, i4⟩ := ih (hb.takeN hbst.1 (by omega) (by omega)) hq (show 0 ≤ o.ct - 1 by omega) (fun y hy => by
      obtain ⟨a1, a2, a3⟩ := hL y (hml y hy).1
      exact ⟨a1, a2, a3⟩)
    have hlen := filter_id_len hb.ids hbst.1
    rw [← et] at hlen
    have e1 : (less o 1).ct = o.ct - 1 := rfl
    rw [e1] at i1 i2
    refine ⟨?_, ?_, ?_, ?_⟩
    · rw [List.length_cons]
      unfold mn at i1 ⊢
      split at i1 <;> split <;> omega
    · rw [i2, List.length_cons]; omega
    · intro t ht
      rcases List.mem_cons.1 ht with rfl | ht
      · exact ⟨x, hbst.1, by simp [tradeP, hq], by simp [tradeP, hq], by simp [tradeP, hq]⟩
      · obtain ⟨y, hy, c⟩ := i3 t ht
        exact ⟨y, (hml y hy).1, c⟩
    · refine List.pairwise_cons.2 ⟨fun t ht => ?_, i4⟩
      obtain ⟨y, hy, c1, c2, _⟩ := i3 t ht
      obtain ⟨hy, hne⟩ := hml y hy
      have k := hbst.2.2 y hy (hL y hy).2.2
      unfold key at k
      rw [x1, (hL y hy).1] at k
      have b1 := (hb.ok x hbst.1).id
      have b2 := (hb.ok y hy).id
      have s1 : (tradeP o x 1).sell = x.id := by simp [tradeP, hq]
      have s2 : (tradeP o x 1).pr = x.pr := by simp [tradeP, hq]
      unfold Before
      rw [s1, s2, c1, c2]
      simp at k
      omega
/-- the sells that are laid: number, price -/
def so (p : Nat → Int) (i : Nat) : Od := ⟨(i : Int) + 1, ⟨#[115]⟩, false, 2, 1, p i⟩
def sl (p : Nat → Int) : Nat → List Od
  | 0 => []
  | n + 1 => sl p n ++ [so p n]
theorem sl_len (p : Nat → Int) : ∀ n, (sl p n).length = n
  | 0 => rfl
  | n + 1 => by show (sl p n ++ [so p n]).length = n + 1; simp [sl_len p n]
theorem sl_mem (p : Nat → Int) : ∀ n x, x ∈ sl p n → ∃ i, i < n ∧ x = so p i
  | 0, x, h => by cases h
  | n + 1, x, h => by
    rcases List.mem_append.1 (show x ∈ sl p n ++ [so p n] from h) with h | h
    · obtain ⟨i, a, b⟩ := sl_mem p n x h; exact ⟨i, by omega, b⟩
    · simp at h; exact ⟨n, by omega, h⟩
theorem sell_placed {p : Nat → Int} {n : Nat} {T : List Td} {k e : Int} {L' : List Od} {last' : Int} (h : Placed (sl p n) n (so p n) T k e L' last') (hb : Bk (sl p n) n) (hn : n < 30) (hp : 1 ≤ p n ∧ p n ≤ 8) : e = 0 ∧ L' = sl p (n + 1) ∧ last' = ((n + 1 : Nat) : Int) := by
  have ok : OkO (so p n) := ⟨by show 1 ≤ (n : Int) + 1 ∧ (n : Int) + 1 ≤ 1099511627776; omega, by show 1 ≤ 1 ∧ 1 ≤ 16; omega, by show (1 : Int) ≤ 2 ∧ (2 : Int) ≤ 3; omega, by show (1 : Int) ≤ 1 ∧ (1 : Int) ≤ 1048576; omega, by show 1 ≤ p n ∧ p n ≤ 1024; omega⟩
  have hlt : (n : Int) < (so p n).id := by show (n : Int) < (n : Int) + 1; omega
  cases h with
  | bad h => exact absurd ⟨ok, hlt⟩ h
  | full _ _ h => rw [sl_len] at h; omega
  | ok _ _ _ _ o1 L1 hpl _ =>
    obtain ⟨_, rfl, rfl⟩ := Places.det (Places.done (so p n) (sl p n) (.inr (fun y hy => by
      obtain ⟨i, _, rfl⟩ := sl_mem p n y hy
      simp [meets, so]))) hb hpl
    refine ⟨rfl, ?_, rfl⟩
    unfold laid
    rw [if_pos (by show (0 : Int) < 1; omega)]
    rfl
/-- the buyer of the law -/
def bo (want : Int) : Od := ⟨100, ⟨#[98]⟩, true, 2, want, 1024⟩
theorem buy_placed {p : Nat → Int} {n : Nat} {want : Int} {T : List Td} {k e : Int} {L' : List Od} {last' : Int} (h : Placed (sl p n) n (bo want) T k e L' last') (hb : Bk (sl p n) n) (hn : n ≤ 30) (hp : ∀ i, i < n → 1 ≤ p i ∧ p i ≤ 8) (hw : 1 ≤ want ∧ want ≤ 30) :
    e = 0 ∧ (T.length : Int) = mn want n ∧ k = want - T.length ∧ (∀ t ∈ T, ∃ i, i < n ∧ t.sell = (i : Int) + 1 ∧ t.pr = p i ∧ t.ct = 1) ∧ T.Pairwise Before := by
  have ok : OkO (bo want) := ⟨by show (1 : Int) ≤ 100 ∧ (100 : Int) ≤ 1099511627776; omega, by show 1 ≤ 1 ∧ 1 ≤ 16; omega, by show (1 : Int) ≤ 2 ∧ (2 : Int) ≤ 3; omega, by show (1 : Int) ≤ want ∧ want ≤ 1048576; omega, by show (1 : Int) ≤ 1024 ∧ (1024 : Int) ≤ 1024; omega⟩
  have hlt : (n : Int) < (bo want).id := by show (n : Int) < 100; omega
  cases h with
  | bad h => exact absurd ⟨ok, hlt⟩ h
  | full _ _ h => rw [sl_len] at h; omega
  | ok _ _ _ _ o1 L1 hpl _ =>
    obtain ⟨a1, a2, a3, a4⟩ := hpl.ones hb rfl (show 0 ≤ want by omega) (fun x hx => by
      obtain ⟨i, hi, rfl⟩ := sl_mem p n x hx
      have := hp i hi
      refine ⟨rfl, rfl, ?_⟩
      have h2 : p i ≤ 1024 := by omega
      have e : meets (bo want) (so p i) = (decide ((2 : Int) = 2) && (true != false) && decide (p i ≤ 1024)) := rfl
      rw [e, decide_eq_true h2]; rfl)
    rw [sl_len] at a1
    refine ⟨rfl, a1, a2, fun t ht => ?_, a4⟩
    obtain ⟨x, hx, c1, c2, c3⟩ := a3 t ht
    obtain ⟨i, hi, rfl⟩ := sl_mem p n x hx
    exact ⟨i, hi, c1, c2, c3⟩
end Go.Proofs.Ytekelnkjigaofaa
