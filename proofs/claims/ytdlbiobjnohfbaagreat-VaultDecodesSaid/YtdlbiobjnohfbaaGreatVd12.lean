/- Loops over maps that are lists of pairs. Maps: what a delete makes of them. What the functions of package purse, and the document's own answers to them, return. -/
import Derived.Test.YtdlbiobjnohfbaaGreatVd11
namespace Go.Proofs.YtdlbiobjnohfbaaGreat
open Go.RowKit Go.ChangeMaps Go.MapKept
set_option linter.unusedVariables false
set_option linter.unusedSimpArgs false
set_option linter.unusedSectionVars false
theorem MapOf.grown {α : Type} {enc : α → Value} {w w' : World} {b : Nat} {row : Option Nat} {l : List (α × Value)} (h : MapOf enc w b l) (hg : w.grownBy w' row) (hne : some b ≠ row) : MapOf enc w' b l :=
  h.block (hg.block b h.lt hne)
/-- a loop over the map in block b goes on, its iterator lies in block r: these pairs are left -/
def RangeL {α : Type} (enc : α → Value) (w : World) (b r : Nat) (l rest : List (α × Value)) : Prop :=
  ∃ es cl seen since c0, w.heap[b]? = some (.map es cl) ∧ w.heap[r]? = some (.mapIter (some b) since seen c0) ∧ es.toList.map (fun e => (e.key, e.val)) = l.map (fun p => (enc p.1, p.2)) ∧
    (∀ x ∈ es.toList, x.born < since) ∧ since ≤ c0 ∧ (es.toList.map (·.born)).Nodup ∧ (∀ x ∈ es.toList, x.born < cl) ∧ since ≤ cl ∧
    (leftOf es seen).toList.map (fun e => (e.key, e.val)) = rest.map (fun p => (enc p.1, p.2))
section
variable {α : Type} {enc : α → Value} {P : Program} {w : World} {b r : Nat} {l rest : List (α × Value)}
theorem RangeL.map (h : RangeL enc w b r l rest) : MapOf enc w b l := by
  obtain ⟨es, cl, seen, since, c0, h1, h2, h3, h4, h5, h6, h7, h8, h9⟩ := h
  exact ⟨es, cl, h1, h3, h7, h6⟩
theorem RangeL.ne (h : RangeL enc w b r l rest) : b ≠ r := by
  obtain ⟨es, cl, seen, since, c0, h1, h2, _⟩ := h
  intro e; subst e; rw [h1] at h2; cases h2
theorem RangeL.lt (h : RangeL enc w b r l rest) : r < w.heap.size := by
  obtain ⟨es, cl, seen, since, c0, h1, h2, _⟩ := h
  exact (Array.getElem?_eq_some_iff.1 h2).1
end
end Go.Proofs.YtdlbiobjnohfbaaGreat
namespace Go.Proofs.YtdlbiobjnohfbaaGreat
open Go.RowKit Go.ChangeMaps Go.MapKept
set_option linter.unusedVariables false
set_option linter.unusedSimpArgs false
set_option linter.unusedSectionVars false
theorem map_eraseI {α β : Type} (f : α → β) : ∀ (l : List α) (i : Nat), (l.eraseIdx i).map f = (l.map f).eraseIdx i
  | [], _ => by simp
  | a :: r, 0 => rfl
  | a :: r, i + 1 => by simp only [List.eraseIdx_cons_succ, List.map_cons, map_eraseI f r i]
section
variable {α : Type} [DecidableEq α] {β : Type}
def del1 (k : α) : List (α × β) → List (α × β)
  | [] => []
  | (a, x) :: r => if a = k then r else (a, x) :: del1 k r
theorem find1_del_none {k : α} : ∀ {l : List (α × β)} {i : Nat}, find1 k l i = none → del1 k l = l
  | [], i, h => rfl
  | (a, x) :: r, i, h => by
    simp only [find1] at h
    split at h
    · cases h
    · rename_i hn
      simp only [del1, if_neg hn, find1_del_none h]
theorem find1_del_some {k : α} : ∀ {l : List (α × β)} {i j : Nat} {u : β}, find1 k l i = some (j, u) → del1 k l = l.eraseIdx (j - i)
  | [], i, j, u, h => by cases h
  | (a, x) :: r, i, j, u, h => by
    simp only [find1] at h
    split at h
    · rename_i hn
      injection h with h; injection h with h1 h2
      subst h1; subst hn
      simp [del1]
    · rename_i hn
      obtain ⟨h1, _, _, _⟩ := find1_some (v := u) h
      have e : j - i = (j - (i + 1)) + 1 := by omega
      rw [e, List.eraseIdx_cons_succ, ← find1_del_some h]
      simp only [del1, if_neg hn]
theorem del1_keys {k : α} : ∀ {l : List (α × β)}, ∀ p ∈ del1 k l, p ∈ l
  | (a, x) :: r, p, h => by
    simp only [del1] at h
    split at h
    · exact List.mem_cons_of_mem _ h
    · rcases List.mem_cons.1 h with h | h
      · rw [h]; exact List.mem_cons_self
      · exact List.mem_cons_of_mem _ (del1_keys p h)
theorem del1_nodup {k : α} : ∀ {l : List (α × β)}, (l.map (·.1)).Nodup → ((del1 k l).map (·.1)).Nodup
  | [], h => h
  | (a, x) :: r, h => by
    simp only [List.map_cons, List.nodup_cons] at h
    simp only [del1]
    split
    · exact h.2
    · simp only [List.map_cons, List.nodup_cons]
      refine ⟨fun hm => h.1 ?_, del1_nodup h.2⟩
      obtain ⟨p, hp, e⟩ := List.mem_map.1 hm
      exact List.mem_map.2 ⟨p, del1_keys p hp, e⟩
theorem del1_map {γ : Type} (f : β → γ) (k : α) : ∀ (l : List (α × β)), (del1 k l).map (fun p => (p.1, f p.2)) = del1 k (l.map fun p => (p.1, f p.2))
  | [] => rfl
  | (a, x) :: r => by
    simp only [del1, List.map_cons]
    split
    · rfl
    · rw [List.map_cons, del1_map f k r]
end
section
variable {α : Type} [DecidableEq α] {enc : α → Value} {P : Program} {w : World} {t kt et : TypeId} {b : Nat} {l : List (α × Value)}
theorem MapOf.del (h : MapOf enc w b l) (K : KeyT P kt enc) (ht : P.underlying t = some (.map kt et)) (k : α) :
    ∃ w', (∀ ty, (Builtin.delete_ #[t, kt] ty #[.map (some b), enc k]).run P w = .ok (.tuple #[]) w') ∧ MapOf enc w' b (del1 k l) ∧ w.grownBy w' (some b) ∧ w'.heap.size = w.heap.size := by
  obtain ⟨es, cl, hb, he, hlt, hnd⟩ := h
  have hf := K.find es.toList l k w he
  have grown : ∀ o : Obj, w.grownBy (setBlock w b o) (some b) := fun o => ⟨rfl, rfl, rfl, by simp [setBlock], fun i _ hi => heap_setBlock_other hb _ (fun e => hi (by rw [e]))⟩
  cases hfi : find1 k l 0 with
  | none =>
    rw [hfi] at hf
    refine ⟨setBlock w b (.map es cl), fun ty => ?_, ⟨_, _, heap_setBlock_same hb _, ?_, hlt, hnd⟩, grown _, by simp [setBlock]⟩
    · simp [Builtin.delete_, run_underlying ht, MapKept.run_getObj_map hb, K.check, hf, MapKept.run_setObj_map _ hb, Result.andThen, setBlock]
    · rw [find1_del_none hfi]; exact he
  | some p =>
    obtain ⟨j, u⟩ := p
    rw [hfi] at hf
    obtain ⟨_, hj, _, _⟩ := find1_some (v := u) hfi
    have hjs : j < es.size := by have := congrArg List.length he; simp at this; omega
    have hel : (es.eraseIdxIfInBounds j).toList = es.toList.eraseIdx j := by
      unfold Array.eraseIdxIfInBounds
      rw [dif_pos hjs, Array.toList_eraseIdx]
    refine ⟨setBlock w b (.map (es.eraseIdxIfInBounds j) cl), fun ty => ?_, ⟨_, _, heap_setBlock_same hb _, ?_, ?_, ?_⟩, grown _, by simp [setBlock]⟩
    · simp [Builtin.delete_, run_underlying ht, MapKept.run_getObj_map hb, K.check, hf, MapKept.run_setObj_map _ hb, Result.andThen, setBlock]
    · rw [find1_del_some hfi, hel, map_eraseI, he, map_eraseI]; rfl
    · intro x hx
      rw [hel] at hx
      exact hlt x ((List.eraseIdx_sublist _ _).subset hx)
    · rw [hel]
      exact hnd.sublist ((List.eraseIdx_sublist _ _).map _)
theorem del_nil (K : KeyT P kt enc) (ht : P.underlying t = some (.map kt et)) (k : α) (ty : TypeId) :
    (Builtin.delete_ #[t, kt] ty #[.map none, enc k]).run P w = .ok (.tuple #[]) w := by
  simp [Builtin.delete_, run_underlying ht, K.check, Result.andThen]
end
end Go.Proofs.YtdlbiobjnohfbaaGreat
namespace Go.Proofs.YtdlbiobjnohfbaaGreat
open Go.RowKit
set_option linter.unusedVariables false
set_option linter.unusedSimpArgs false
def heldB (n : Int) : Bool := decide (0 ≤ n) && decide (n ≤ 1152921504606846976)
theorem heldB_iff {n : Int} : heldB n = true ↔ 0 ≤ n ∧ n ≤ 1152921504606846976 := by unfold heldB; simp
theorem heldB_not {n : Int} : heldB n = false ↔ n < 0 ∨ 1152921504606846976 < n := by
  rw [← Bool.not_eq_true, heldB_iff]; omega
theorem held (n : Int) (w : World) : Calls Tryz.prog 107 #[.int .i64 n] w fun e w' => e = .returned (.bool (heldB n)) ∧ w = w' := by
  go_enter Tryz.func107, Tryz.ntmps107
  go_wp2
  all_goals go_ret
  all_goals refine ⟨ret_bool ?_, rfl⟩
  all_goals (unfold heldB; simp; try omega)
def isP (a b c d : Int) : Bool := heldB a && heldB b && heldB c && heldB d
set_option maxHeartbeats 400000 in
theorem purseIs (a b c d : Int) (w : World) :
    Calls Tryz.prog 93 #[.agg #[.int .i64 a, .int .i64 b, .int .i64 c, .int .i64 d]] w fun e w' => e = .returned (.bool (isP a b c d)) ∧ Below w.heap.size w w' := by
  have i0 : ∀ w, (Instr.index 36 (.agg #[.int .i64 a, .int .i64 b, .int .i64 c, .int .i64 d]) (.int .i64 0)).run Tryz.prog w = .ok (.int .i64 a) w := fun _ => by kernel_rfl
  have i1 : ∀ w, (Instr.index 36 (.agg #[.int .i64 a, .int .i64 b, .int .i64 c, .int .i64 d]) (.int .i64 1)).run Tryz.prog w = .ok (.int .i64 b) w := fun _ => by kernel_rfl
  have i2 : ∀ w, (Instr.index 36 (.agg #[.int .i64 a, .int .i64 b, .int .i64 c, .int .i64 d]) (.int .i64 2)).run Tryz.prog w = .ok (.int .i64 c) w := fun _ => by kernel_rfl
  have i3 : ∀ w, (Instr.index 36 (.agg #[.int .i64 a, .int .i64 b, .int .i64 c, .int .i64 d]) (.int .i64 3)).run Tryz.prog w = .ok (.int .i64 d) w := fun _ => by kernel_rfl
  go_enter Tryz.func93, Tryz.ntmps93
  go_wp2_with fail
  refine wp_loop_rounds 5 ?_; rw [rounds_succ]
  cases h0 : heldB a
  · go_wp2_with (go_at_call 107; refine (held _ _).mono ?_; rintro e w' ⟨rfl, rfl⟩)
    go_ret
    exact ⟨ret_bool (by simp [isP, h0]), by ((repeat (first | (with_reducible exact Below.refl _ _) | (with_reducible assumption) | ((with_reducible refine b_set ?_ ?_); · (first | omega | (simp; done) | (simp; omega))) | ((with_reducible refine b_alloc ?_ ?_); · (first | omega | (simp; done) | (simp; omega))) | (with_reducible refine Below.drew ?_) | (with_reducible refine b_drewN ?_) | ((with_reducible refine b_call (by assumption) ?_ ?_); · (first | omega | (simp; done) | (simp; omega))))); done)⟩
  go_wp2_with (go_at_call 107; refine (held _ _).mono ?_; rintro e w' ⟨rfl, rfl⟩)
  rw [rounds_succ]
  cases h1 : heldB b
  · go_wp2_with (go_at_call 107; refine (held _ _).mono ?_; rintro e w' ⟨rfl, rfl⟩)
    go_ret
    exact ⟨ret_bool (by simp [isP, h1]), by ((repeat (first | (with_reducible exact Below.refl _ _) | (with_reducible assumption) | ((with_reducible refine b_set ?_ ?_); · (first | omega | (simp; done) | (simp; omega))) | ((with_reducible refine b_alloc ?_ ?_); · (first | omega | (simp; done) | (simp; omega))) | (with_reducible refine Below.drew ?_) | (with_reducible refine b_drewN ?_) | ((with_reducible refine b_call (by assumption) ?_ ?_); · (first | omega | (simp; done) | (simp; omega))))); done)⟩
  go_wp2_with (go_at_call 107; refine (held _ _).mono ?_; rintro e w' ⟨rfl, rfl⟩)
  rw [rounds_succ]
  cases h2 : heldB c
  · go_wp2_with (go_at_call 107; refine (held _ _).mono ?_; rintro e w' ⟨rfl, rfl⟩)
    go_ret
    exact ⟨ret_bool (by simp [isP, h2]), by ((repeat (first | (with_reducible exact Below.refl _ _) | (with_reducible assumption) | ((with_reducible refine b_set ?_ ?_); · (first | omega | (simp; done) | (simp; omega))) | ((with_reducible refine b_alloc ?_ ?_); · (first | omega | (simp; done) | (simp; omega))) | (with_reducible refine Below.drew ?_) | (with_reducible refine b_drewN ?_) | ((with_reducible refine b_call (by assumption) ?_ ?_); · (first | omega | (simp; done) | (simp; omega))))); done)⟩
  go_wp2_with (go_at_call 107; refine (held _ _).mono ?_; rintro e w' ⟨rfl, rfl⟩)
  rw [rounds_succ]
  cases h3 : heldB d
  · go_wp2_with (go_at_call 107; refine (held _ _).mono ?_; rintro e w' ⟨rfl, rfl⟩)
    go_ret
    exact ⟨ret_bool (by simp [isP, h3]), by ((repeat (first | (with_reducible exact Below.refl _ _) | (with_reducible assumption) | ((with_reducible refine b_set ?_ ?_); · (first | omega | (simp; done) | (simp; omega))) | ((with_reducible refine b_alloc ?_ ?_); · (first | omega | (simp; done) | (simp; omega))) | (with_reducible refine Below.drew ?_) | (with_reducible refine b_drewN ?_) | ((with_reducible refine b_call (by assumption) ?_ ?_); · (first | omega | (simp; done) | (simp; omega))))); done)⟩
  go_wp2_with (go_at_call 107; refine (held _ _).mono ?_; rintro e w' ⟨rfl, rfl⟩)
  rw [rounds_succ]
  go_wp2_with fail
  go_ret
  exact ⟨ret_bool (by simp [isP, h0, h1, h2, h3]), by ((repeat (first | (with_reducible exact Below.refl _ _) | (with_reducible assumption) | ((with_reducible refine b_set ?_ ?_); · (first | omega | (simp; done) | (simp; omega))) | ((with_reducible refine b_alloc ?_ ?_); · (first | omega | (simp; done) | (simp; omega))) | (with_reducible refine Below.drew ?_) | (with_reducible refine b_drewN ?_) | ((with_reducible refine b_call (by assumption) ?_ ?_); · (first | omega | (simp; done) | (simp; omega))))); done)⟩
set_option maxHeartbeats 400000 in
theorem refPIs (a b c d : Int) (w : World) :
    Calls Tryz.prog 61 #[.agg #[.int .i64 a, .int .i64 b, .int .i64 c, .int .i64 d]] w fun e w' => e = .returned (.bool (isP a b c d)) ∧ Below w.heap.size w w' := by
  go_enter Tryz.func61, Tryz.ntmps61
  go_wp2_with fail
  refine wp_loop_rounds 5 ?_; rw [rounds_succ]
  cases h0 : heldB a
  · rcases heldB_not.1 h0 with g | g
    all_goals go_wp2_with fail
    all_goals go_ret
    all_goals exact ⟨ret_bool (by simp [isP, h0]), by ((repeat (first | (with_reducible exact Below.refl _ _) | (with_reducible assumption) | ((with_reducible refine b_set ?_ ?_); · (first | omega | (simp; done) | (simp; omega))) | ((with_reducible refine b_alloc ?_ ?_); · (first | omega | (simp; done) | (simp; omega))) | (with_reducible refine Below.drew ?_) | (with_reducible refine b_drewN ?_) | ((with_reducible refine b_call (by assumption) ?_ ?_); · (first | omega | (simp; done) | (simp; omega))))); done)⟩
  obtain ⟨g0, l0⟩ := heldB_iff.1 h0
  go_wp2_with fail
  rw [rounds_succ]
  cases h1 : heldB b
  · rcases heldB_not.1 h1 with g | g
    all_goals go_wp2_with fail
    all_goals go_ret
    all_goals exact ⟨ret_bool (by simp [isP, h1]), by ((repeat (first | (with_reducible exact Below.refl _ _) | (with_reducible assumption) | ((with_reducible refine b_set ?_ ?_); · (first | omega | (simp; done) | (simp; omega))) | ((with_reducible refine b_alloc ?_ ?_); · (first | omega | (simp; done) | (simp; omega))) | (with_reducible refine Below.drew ?_) | (with_reducible refine b_drewN ?_) | ((with_reducible refine b_call (by assumption) ?_ ?_); · (first | omega | (simp; done) | (simp; omega))))); done)⟩
  obtain ⟨g1, l1⟩ := heldB_iff.1 h1
  go_wp2_with fail
  rw [rounds_succ]
  cases h2 : heldB c
  · rcases heldB_not.1 h2 with g | g
    all_goals go_wp2_with fail
    all_goals go_ret
    all_goals exact ⟨ret_bool (by simp [isP, h2]), by ((repeat (first | (with_reducible exact Below.refl _ _) | (with_reducible assumption) | ((with_reducible refine b_set ?_ ?_); · (first | omega | (simp; done) | (simp; omega))) | ((with_reducible refine b_alloc ?_ ?_); · (first | omega | (simp; done) | (simp; omega))) | (with_reducible refine Below.drew ?_) | (with_reducible refine b_drewN ?_) | ((with_reducible refine b_call (by assumption) ?_ ?_); · (first | omega | (simp; done) | (simp; omega))))); done)⟩
  obtain ⟨g2, l2⟩ := heldB_iff.1 h2
  go_wp2_with fail
  rw [rounds_succ]
  cases h3 : heldB d
  · rcases heldB_not.1 h3 with g | g
    all_goals go_wp2_with fail
    all_goals go_ret
    all_goals exact ⟨ret_bool (by simp [isP, h3]), by ((repeat (first | (with_reducible exact Below.refl _ _) | (with_reducible assumption) | ((with_reducible refine b_set ?_ ?_); · (first | omega | (simp; done) | (simp; omega))) | ((with_reducible refine b_alloc ?_ ?_); · (first | omega | (simp; done) | (simp; omega))) | (with_reducible refine Below.drew ?_) | (with_reducible refine b_drewN ?_) | ((with_reducible refine b_call (by assumption) ?_ ?_); · (first | omega | (simp; done) | (simp; omega))))); done)⟩
  obtain ⟨g3, l3⟩ := heldB_iff.1 h3
  go_wp2_with fail
  rw [rounds_succ]
  go_wp2_with fail
  go_ret
  exact ⟨ret_bool (by simp [isP, h0, h1, h2, h3]), by ((repeat (first | (with_reducible exact Below.refl _ _) | (with_reducible assumption) | ((with_reducible refine b_set ?_ ?_); · (first | omega | (simp; done) | (simp; omega))) | ((with_reducible refine b_alloc ?_ ?_); · (first | omega | (simp; done) | (simp; omega))) | (with_reducible refine Below.drew ?_) | (with_reducible refine b_drewN ?_) | ((with_reducible refine b_call (by assumption) ?_ ?_); · (first | omega | (simp; done) | (simp; omega))))); done)⟩
end Go.Proofs.YtdlbiobjnohfbaaGreat
