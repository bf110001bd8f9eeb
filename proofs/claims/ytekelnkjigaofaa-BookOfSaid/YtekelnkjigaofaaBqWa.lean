/- The document's book: may, meet, best. -/
import Derived.Test.YtekelnkjigaofaaBqK
import Derived.Test.YtekelnkjigaofaaBqI
import Derived.Deep.QuietTactic
import Derived.BigQuiet
import Derived.StillTailTactics
namespace Go.Proofs.Ytekelnkjigaofaa
open Go.RowKit
set_option linter.unusedVariables false
set_option linter.unusedSimpArgs false

set_option maxHeartbeats 2000000 in
theorem refMay (o : Od) (w : World) :
    Calls Try.prog 26 #[.agg #[.int .i64 o.id, .string o.who, .bool o.buy, .int .i64 o.item, .int .i64 o.ct, .int .i64 o.pr]] w fun e w' => e = .returned (.bool (decide (OkO o))) ∧ Below w.heap.size w w' := by
  by_cases h0 : 1 ≤ o.id
  case neg =>
    have hno : decide (OkO o) = false := decide_eq_false (fun h => h0 (by have := (OkO_iff o).1 h; omega))
    rw [hno]
    go_enter Try.func26, Try.ntmps26
    go_wp2_with fail
    go_ret
    exact ⟨ret_bool (by simp [*]), by ((repeat (first | (with_reducible exact Below.refl _ _) | (with_reducible assumption) | ((with_reducible refine b_set ?_ ?_); · (first | omega | (simp; done) | (simp; omega))) | ((with_reducible refine b_alloc ?_ ?_); · (first | omega | (simp; done) | (simp; omega))) | (with_reducible refine Below.drew ?_) | (with_reducible refine b_drewN ?_) | ((with_reducible refine b_call (by assumption) ?_ ?_); · (first | omega | (simp; done) | (simp; omega))))); done)⟩
  by_cases h1 : o.id ≤ 1099511627776
  case neg =>
    have hno : decide (OkO o) = false := decide_eq_false (fun h => h1 (by have := (OkO_iff o).1 h; omega))
    rw [hno]
    go_enter Try.func26, Try.ntmps26
    go_wp2_with fail
    go_ret
    exact ⟨ret_bool (by simp [*]), by ((repeat (first | (with_reducible exact Below.refl _ _) | (with_reducible assumption) | ((with_reducible refine b_set ?_ ?_); · (first | omega | (simp; done) | (simp; omega))) | ((with_reducible refine b_alloc ?_ ?_); · (first | omega | (simp; done) | (simp; omega))) | (with_reducible refine Below.drew ?_) | (with_reducible refine b_drewN ?_) | ((with_reducible refine b_call (by assumption) ?_ ?_); · (first | omega | (simp; done) | (simp; omega))))); done)⟩
  by_cases h2 : 1 ≤ o.who.size
  case neg =>
    have hno : decide (OkO o) = false := decide_eq_false (fun h => h2 (by have := (OkO_iff o).1 h; omega))
    rw [hno]
    have g2 : ¬ (1 : Int) ≤ (o.who.size : Int) := by omega
    go_enter Try.func26, Try.ntmps26
    go_wp2_with fail
    go_ret
    exact ⟨ret_bool (by simp [*]), by ((repeat (first | (with_reducible exact Below.refl _ _) | (with_reducible assumption) | ((with_reducible refine b_set ?_ ?_); · (first | omega | (simp; done) | (simp; omega))) | ((with_reducible refine b_alloc ?_ ?_); · (first | omega | (simp; done) | (simp; omega))) | (with_reducible refine Below.drew ?_) | (with_reducible refine b_drewN ?_) | ((with_reducible refine b_call (by assumption) ?_ ?_); · (first | omega | (simp; done) | (simp; omega))))); done)⟩
  have g2 : (1 : Int) ≤ (o.who.size : Int) := by omega
  by_cases h3 : o.who.size ≤ 16
  case neg =>
    have hno : decide (OkO o) = false := decide_eq_false (fun h => h3 (by have := (OkO_iff o).1 h; omega))
    rw [hno]
    have g3 : ¬ (o.who.size : Int) ≤ 16 := by omega
    go_enter Try.func26, Try.ntmps26
    go_wp2_with fail
    go_ret
    exact ⟨ret_bool (by simp [*]), by ((repeat (first | (with_reducible exact Below.refl _ _) | (with_reducible assumption) | ((with_reducible refine b_set ?_ ?_); · (first | omega | (simp; done) | (simp; omega))) | ((with_reducible refine b_alloc ?_ ?_); · (first | omega | (simp; done) | (simp; omega))) | (with_reducible refine Below.drew ?_) | (with_reducible refine b_drewN ?_) | ((with_reducible refine b_call (by assumption) ?_ ?_); · (first | omega | (simp; done) | (simp; omega))))); done)⟩
  have g3 : (o.who.size : Int) ≤ 16 := by omega
  by_cases h4 : 1 ≤ o.item
  case neg =>
    have hno : decide (OkO o) = false := decide_eq_false (fun h => h4 (by have := (OkO_iff o).1 h; omega))
    rw [hno]
    go_enter Try.func26, Try.ntmps26
    go_wp2_with fail
    go_ret
    exact ⟨ret_bool (by simp [*]), by ((repeat (first | (with_reducible exact Below.refl _ _) | (with_reducible assumption) | ((with_reducible refine b_set ?_ ?_); · (first | omega | (simp; done) | (simp; omega))) | ((with_reducible refine b_alloc ?_ ?_); · (first | omega | (simp; done) | (simp; omega))) | (with_reducible refine Below.drew ?_) | (with_reducible refine b_drewN ?_) | ((with_reducible refine b_call (by assumption) ?_ ?_); · (first | omega | (simp; done) | (simp; omega))))); done)⟩
  by_cases h5 : o.item ≤ 3
  case neg =>
    have hno : decide (OkO o) = false := decide_eq_false (fun h => h5 (by have := (OkO_iff o).1 h; omega))
    rw [hno]
    go_enter Try.func26, Try.ntmps26
    go_wp2_with fail
    go_ret
    exact ⟨ret_bool (by simp [*]), by ((repeat (first | (with_reducible exact Below.refl _ _) | (with_reducible assumption) | ((with_reducible refine b_set ?_ ?_); · (first | omega | (simp; done) | (simp; omega))) | ((with_reducible refine b_alloc ?_ ?_); · (first | omega | (simp; done) | (simp; omega))) | (with_reducible refine Below.drew ?_) | (with_reducible refine b_drewN ?_) | ((with_reducible refine b_call (by assumption) ?_ ?_); · (first | omega | (simp; done) | (simp; omega))))); done)⟩
  by_cases h6 : 1 ≤ o.ct
  case neg =>
    have hno : decide (OkO o) = false := decide_eq_false (fun h => h6 (by have := (OkO_iff o).1 h; omega))
    rw [hno]
    go_enter Try.func26, Try.ntmps26
    go_wp2_with fail
    go_ret
    exact ⟨ret_bool (by simp [*]), by ((repeat (first | (with_reducible exact Below.refl _ _) | (with_reducible assumption) | ((with_reducible refine b_set ?_ ?_); · (first | omega | (simp; done) | (simp; omega))) | ((with_reducible refine b_alloc ?_ ?_); · (first | omega | (simp; done) | (simp; omega))) | (with_reducible refine Below.drew ?_) | (with_reducible refine b_drewN ?_) | ((with_reducible refine b_call (by assumption) ?_ ?_); · (first | omega | (simp; done) | (simp; omega))))); done)⟩
  by_cases h7 : o.ct ≤ 1048576
  case neg =>
    have hno : decide (OkO o) = false := decide_eq_false (fun h => h7 (by have := (OkO_iff o).1 h; omega))
    rw [hno]
    go_enter Try.func26, Try.ntmps26
    go_wp2_with fail
    go_ret
    exact ⟨ret_bool (by simp [*]), by ((repeat (first | (with_reducible exact Below.refl _ _) | (with_reducible assumption) | ((with_reducible refine b_set ?_ ?_); · (first | omega | (simp; done) | (simp; omega))) | ((with_reducible refine b_alloc ?_ ?_); · (first | omega | (simp; done) | (simp; omega))) | (with_reducible refine Below.drew ?_) | (with_reducible refine b_drewN ?_) | ((with_reducible refine b_call (by assumption) ?_ ?_); · (first | omega | (simp; done) | (simp; omega))))); done)⟩
  by_cases h8 : 1 ≤ o.pr
  case neg =>
    have hno : decide (OkO o) = false := decide_eq_false (fun h => h8 (by have := (OkO_iff o).1 h; omega))
    rw [hno]
    go_enter Try.func26, Try.ntmps26
    go_wp2_with fail
    go_ret
    exact ⟨ret_bool (by simp [*]), by ((repeat (first | (with_reducible exact Below.refl _ _) | (with_reducible assumption) | ((with_reducible refine b_set ?_ ?_); · (first | omega | (simp; done) | (simp; omega))) | ((with_reducible refine b_alloc ?_ ?_); · (first | omega | (simp; done) | (simp; omega))) | (with_reducible refine Below.drew ?_) | (with_reducible refine b_drewN ?_) | ((with_reducible refine b_call (by assumption) ?_ ?_); · (first | omega | (simp; done) | (simp; omega))))); done)⟩
  by_cases h9 : o.pr ≤ 1024
  case neg =>
    have hno : decide (OkO o) = false := decide_eq_false (fun h => h9 (by have := (OkO_iff o).1 h; omega))
    rw [hno]
    go_enter Try.func26, Try.ntmps26
    go_wp2_with fail
    go_ret
    exact ⟨ret_bool (by simp [*]), by ((repeat (first | (with_reducible exact Below.refl _ _) | (with_reducible assumption) | ((with_reducible refine b_set ?_ ?_); · (first | omega | (simp; done) | (simp; omega))) | ((with_reducible refine b_alloc ?_ ?_); · (first | omega | (simp; done) | (simp; omega))) | (with_reducible refine Below.drew ?_) | (with_reducible refine b_drewN ?_) | ((with_reducible refine b_call (by assumption) ?_ ?_); · (first | omega | (simp; done) | (simp; omega))))); done)⟩
  have hyes : decide (OkO o) = true := decide_eq_true ((OkO_iff o).2 ⟨h0, h1, h2, h3, h4, by omega, h6, h7, h8, h9⟩)
  rw [hyes]
  go_enter Try.func26, Try.ntmps26
  go_wp2_with fail
  go_ret
  exact ⟨ret_bool (by simp [*]), by ((repeat (first | (with_reducible exact Below.refl _ _) | (with_reducible assumption) | ((with_reducible refine b_set ?_ ?_); · (first | omega | (simp; done) | (simp; omega))) | ((with_reducible refine b_alloc ?_ ?_); · (first | omega | (simp; done) | (simp; omega))) | (with_reducible refine Below.drew ?_) | (with_reducible refine b_drewN ?_) | ((with_reducible refine b_call (by assumption) ?_ ?_); · (first | omega | (simp; done) | (simp; omega))))); done)⟩
set_option maxHeartbeats 1000000 in
theorem refMeet (o x : Od) (w : World) :
    Calls Try.prog 38 #[.agg #[.int .i64 o.id, .string o.who, .bool o.buy, .int .i64 o.item, .int .i64 o.ct, .int .i64 o.pr], .agg #[.int .i64 x.id, .string x.who, .bool x.buy, .int .i64 x.item, .int .i64 x.ct, .int .i64 x.pr]] w fun e w' => e = .returned (.bool (meets o x)) ∧ Below w.heap.size w w' := by
  by_cases hi : o.item = x.item
  · cases hb : o.buy <;> cases hc : x.buy
    all_goals
      go_enter Try.func38, Try.ntmps38
      go_wp2_with fail
      go_ret
      exact ⟨ret_bool (by simp [meets, meetP, hb, hc, hi]), by ((repeat (first | (with_reducible exact Below.refl _ _) | (with_reducible assumption) | ((with_reducible refine b_set ?_ ?_); · (first | omega | (simp; done) | (simp; omega))) | ((with_reducible refine b_alloc ?_ ?_); · (first | omega | (simp; done) | (simp; omega))) | (with_reducible refine Below.drew ?_) | (with_reducible refine b_drewN ?_) | ((with_reducible refine b_call (by assumption) ?_ ?_); · (first | omega | (simp; done) | (simp; omega))))); done)⟩
  · cases hb : o.buy <;> cases hc : x.buy
    all_goals
      go_enter Try.func38, Try.ntmps38
      go_wp2_with fail
      go_ret
      exact ⟨ret_bool (by simp [meets, hi]), by ((repeat (first | (with_reducible exact Below.refl _ _) | (with_reducible assumption) | ((with_reducible refine b_set ?_ ?_); · (first | omega | (simp; done) | (simp; omega))) | ((with_reducible refine b_alloc ?_ ?_); · (first | omega | (simp; done) | (simp; omega))) | (with_reducible refine Below.drew ?_) | (with_reducible refine b_drewN ?_) | ((with_reducible refine b_call (by assumption) ?_ ?_); · (first | omega | (simp; done) | (simp; omega))))); done)⟩
/-- the document's book in memory: block x, its row -/
structure RfB (w : World) (B x : Nat) (u : Value) (L : List Od) (last : Int) : Prop where
  blk : Whl w x 31 #[u, .int .i64 last]
  row : w.ownsRow B 35 6 u L.length (flatO L)
  apart : ∀ g, u.ownBlock = some g → g ≠ x
  low : B ≤ x
/-- best of those ahead of i -/
def BestAt (o : Od) (L : List Od) (i : Nat) (k : Int) : Prop := (k = -1 ∧ NoneMeets o (L.take i)) ∨ ∃ kn : Nat, k = kn ∧ kn < i ∧ ∃ h : kn < L.length, Best o L[kn] (L.take i)
theorem BestAt.zero (o : Od) (L : List Od) : BestAt o L 0 (-1) := .inl ⟨rfl, by intro y hy; simp at hy⟩
theorem take_succ' {L : List Od} {i : Nat} (h : i < L.length) : L.take (i + 1) = L.take i ++ [L[i]] := by rw [List.take_add_one, List.getElem?_eq_getElem h]; rfl
theorem BestAt.skip {o : Od} {L : List Od} {i : Nat} {k : Int} (h : BestAt o L i k) (hi : i < L.length) (hm : meets o L[i] = false) : BestAt o L (i + 1) k := by
  rcases h with ⟨rfl, hn⟩ | ⟨kn, rfl, hk, hkl, hb⟩
  · refine .inl ⟨rfl, fun y hy => ?_⟩
    rw [take_succ' hi] at hy
    rcases List.mem_append.1 hy with hy | hy
    · exact hn y hy
    · simp at hy; subst hy; exact hm
  · refine .inr ⟨kn, rfl, by omega, hkl, ?_, hb.2.1, fun y hy hm2 => ?_⟩
    · rw [take_succ' hi]; exact List.mem_append_left _ hb.1
    · rw [take_succ' hi] at hy
      rcases List.mem_append.1 hy with hy | hy
      · exact hb.2.2 y hy hm2
      · simp at hy; subst hy; rw [hm] at hm2; cases hm2
theorem meets_buy {o x : Od} (h : meets o x = true) : x.buy = !o.buy := by
  unfold meets at h
  simp only [Bool.and_eq_true, bne_iff_ne, ne_eq] at h
  revert h; cases o.buy <;> cases x.buy <;> simp
theorem BestAt.first {o : Od} {L : List Od} {i : Nat} (h : BestAt o L i (-1)) (hi : i < L.length) (hm : meets o L[i] = true) : BestAt o L (i + 1) i := by
  rcases h with ⟨_, hn⟩ | ⟨kn, e, _⟩
  · refine .inr ⟨i, rfl, by omega, hi, ?_, hm, fun y hy hm2 => ?_⟩
    · rw [take_succ' hi]; exact List.mem_append_right _ (List.mem_singleton.2 rfl)
    · rw [take_succ' hi] at hy
      rcases List.mem_append.1 hy with hy | hy
      · rw [hn y hy] at hm2; cases hm2
      · simp at hy; subst hy; exact Int.le_refl _
  · omega
theorem key_lt {o a b : Od} (ha : a.buy = !o.buy) (hb : b.buy = !o.buy) (ka : 1 ≤ a.id ∧ a.id ≤ 1099511627776) (kb : 1 ≤ b.id ∧ b.id ≤ 1099511627776) (h : if o.buy then a.pr < b.pr else b.pr < a.pr) : key a < key b := by
  unfold key
  rw [ha, hb]
  cases hq : o.buy <;> rw [hq] at h <;> simp at h ⊢ <;> omega
theorem key_le {o a b : Od} (ha : a.buy = !o.buy) (hb : b.buy = !o.buy) (ka : 1 ≤ a.id ∧ a.id ≤ 1099511627776) (kb : 1 ≤ b.id ∧ b.id ≤ 1099511627776) (h : if o.buy then ¬ b.pr < a.pr else ¬ a.pr < b.pr) (hid : a.id ≤ b.id) : key a ≤ key b := by
  unfold key
  rw [ha, hb]
  cases hq : o.buy <;> rw [hq] at h <;> simp at h ⊢ <;> omega
theorem BestAt.better {o : Od} {L : List Od} {last : Int} {i kn : Nat} (hbk : Bk L last) (h : BestAt o L i kn) (hi : i < L.length) (hkl : kn < L.length) (hm : meets o L[i] = true) (hp : if o.buy then L[i].pr < L[kn].pr else L[kn].pr < L[i].pr) : BestAt o L (i + 1) i := by
  rcases h with ⟨e, _⟩ | ⟨k2, e, hk, _, hb⟩
  · omega
  · obtain rfl : kn = k2 := by omega
    have hlt := key_lt (meets_buy hm) (meets_buy hb.2.1) (hbk.ok _ (List.getElem_mem hi)).id (hbk.ok _ (List.getElem_mem hkl)).id hp
    refine .inr ⟨i, rfl, by omega, hi, ?_, hm, fun y hy hm2 => ?_⟩
    · rw [take_succ' hi]; exact List.mem_append_right _ (List.mem_singleton.2 rfl)
    · rw [take_succ' hi] at hy
      rcases List.mem_append.1 hy with hy | hy
      · have := hb.2.2 y hy hm2; omega
      · simp at hy; subst hy; exact Int.le_refl _
theorem BestAt.stays {o : Od} {L : List Od} {last : Int} {i kn : Nat} (hbk : Bk L last) (h : BestAt o L i kn) (hi : i < L.length) (hkl : kn < L.length) (hm : meets o L[i] = true) (hp : if o.buy then ¬ L[i].pr < L[kn].pr else ¬ L[kn].pr < L[i].pr) : BestAt o L (i + 1) kn := by
  rcases h with ⟨e, _⟩ | ⟨k2, e, hk, _, hb⟩
  · omega
  · obtain rfl : kn = k2 := by omega
    have hid : L[kn].id < L[i].id := List.pairwise_iff_getElem.1 hbk.ids kn i hkl hi hk
    have hle := key_le (meets_buy hb.2.1) (meets_buy hm) (hbk.ok _ (List.getElem_mem hkl)).id (hbk.ok _ (List.getElem_mem hi)).id hp (by omega)
    refine .inr ⟨kn, rfl, by omega, hkl, ?_, hb.2.1, fun y hy hm2 => ?_⟩
    · rw [take_succ' hi]; exact List.mem_append_left _ hb.1
    · rw [take_succ' hi] at hy
      rcases List.mem_append.1 hy with hy | hy
      · exact hb.2.2 y hy hm2
      · simp at hy; subst hy; exact hle
theorem BestAt.whole {o : Od} {L : List Od} {k : Int} (h : BestAt o L L.length k) : (k = -1 ∧ NoneMeets o L) ∨ ∃ kn : Nat, k = kn ∧ ∃ h : kn < L.length, Best o L[kn] L := by
  unfold BestAt at h
  rw [List.take_length] at h
  rcases h with h | ⟨kn, e, _, h, hb⟩
  · exact .inl h
  · exact .inr ⟨kn, e, h, hb⟩
end Go.Proofs.Ytekelnkjigaofaa
