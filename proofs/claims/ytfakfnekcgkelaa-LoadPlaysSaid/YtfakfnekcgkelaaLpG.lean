/- The document's load: what its Hit finds. -/
import Derived.Test.YtfakfnekcgkelaaLpB
import Derived.Sort.Walk0
import Derived.Laws.OwnMore
namespace Go.Proofs.Ytfakfnekcgkelaa
open Go.RowKit
set_option linter.unusedVariables false
set_option linter.unusedSimpArgs false

theorem strLt (a b : By) : ∀ w, (binOp .lss 9 (encStr a) (encStr b)).run Try.prog w = .ok (.bool (decide (ltB a b))) w := fun w => by
  simp only [encStr, binOp_string_lss]
  show Result.ok _ w = _
  rw [bytesLess_eq, Lib.toList_data, Lib.toList_data]
  rfl
theorem strEq (a b : By) : ∀ w, (binOp .eql 9 (encStr a) (encStr b)).run Try.prog w = .ok (.bool (decide (a = b))) w := fun w => by
  simp only [encStr, binOp_string_eql]
  show Result.ok (Value.bool _) w = _
  congr 2
  rw [Lib.toList_data, Lib.toList_data]
  by_cases e : a = b
  · subst e; simp
  · simp [e]
theorem isKeyCall (k : By) (w : World) : Calls Try.prog 17 #[encStr k] w fun e w' => e = .returned (.bool (decide (1 ≤ k.length ∧ k.length ≤ 16))) ∧ w' = w := by
  have hl : (encStr k) = .string ⟨k.toArray⟩ := rfl
  have hz : (⟨k.toArray⟩ : ByteArray).size = k.length := rfl
  rw [hl]
  rw [← hz]
  generalize (⟨k.toArray⟩ : ByteArray) = s
  by_cases h1 : 1 ≤ s.size
  · have q1 : (1 : Int) ≤ (s.size : Int) := by omega
    by_cases h2 : s.size ≤ 16
    · have q2 : (s.size : Int) ≤ 16 := by omega
      rw [decide_eq_true (show 1 ≤ s.size ∧ s.size ≤ 16 from ⟨h1, h2⟩)]
      go_enter Try.func17, Try.ntmps17
      go_wp2_with fail
      go_ret
      exact ⟨rfl, rfl⟩
    · have q2 : ¬ (s.size : Int) ≤ 16 := by omega
      rw [decide_eq_false (show ¬ (1 ≤ s.size ∧ s.size ≤ 16) from fun h => h2 h.2)]
      go_enter Try.func17, Try.ntmps17
      go_wp2_with fail
      go_ret
      exact ⟨rfl, rfl⟩
  · have q1 : ¬ (1 : Int) ≤ (s.size : Int) := by omega
    rw [decide_eq_false (show ¬ (1 ≤ s.size ∧ s.size ≤ 16) from fun h => h1 h.1)]
    go_enter Try.func17, Try.ntmps17
    go_wp2_with fail
    go_ret
    exact ⟨rfl, rfl⟩
theorem upd_mid {f : Option Int → Int} {a : Zk} : ∀ {p s : Fc}, (∀ c ∈ p, ltP c.1 a) → (∀ c ∈ s, ltP a c.1) → upd ltP a f (p ++ s) = p ++ (a, f none) :: s
  | [], [], _, _ => rfl
  | [], (x, v) :: r, _, h2 => by
    have h := h2 (x, v) List.mem_cons_self
    have hne : a ≠ x := fun e => sP.irr x (by rw [e] at h; exact h)
    simp only [List.nil_append, upd, if_neg hne, if_pos (show ltP a x from h)]
  | (x, v) :: r, s, h1, h2 => by
    have h : ltP x a := h1 (x, v) List.mem_cons_self
    have hne : a ≠ x := fun e => sP.irr x (by rw [e] at h; exact h)
    have hnl : ¬ ltP a x := fun h3 => sP.irr a (sP.tr h3 h)
    simp only [List.cons_append, upd, if_neg hne, if_neg hnl, upd_mid (fun c hc => h1 c (List.mem_cons_of_mem _ hc)) h2]
theorem upd_at {f : Option Int → Int} {a : Zk} {n : Int} : ∀ {l : Fc} {j : Nat}, SortedA ltP l → l[j]? = some (a, n) → upd ltP a f l = l.set j (a, f (some n))
  | [], j, _, h => by simp at h
  | (x, v) :: r, 0, hs, h => by
    simp only [List.getElem?_cons_zero, Option.some.injEq, Prod.mk.injEq] at h
    obtain ⟨rfl, rfl⟩ := h
    simp [upd]
  | (x, v) :: r, j + 1, hs, h => by
    simp only [List.getElem?_cons_succ] at h
    have hl : ltP x a := (List.pairwise_cons.1 hs).1 _ (List.mem_of_getElem? h)
    have hne : a ≠ x := fun e => sP.irr x (by rw [e] at hl; exact hl)
    have hnl : ¬ ltP a x := fun h3 => sP.irr a (sP.tr h3 hl)
    simp only [upd, if_neg hne, if_neg hnl, List.set_cons_succ, upd_at hs.tail h]
def posP (a : Zk) (F : Fc) : Nat := (F.takeWhile fun c => decide (ltP c.1 a)).length
theorem pos_le (a : Zk) (F : Fc) : posP a F ≤ F.length := (List.takeWhile_sublist _).length_le
theorem pos_spec (a : Zk) : ∀ {F : Fc} {j : Nat} (hs : SortedA ltP F) (h : j < F.length), ltP F[j].1 a ↔ j < posP a F
  | [], j, _, h => by simp at h
  | c :: r, j, hs, h => by
    unfold posP
    rw [List.takeWhile_cons]
    by_cases hc : ltP c.1 a
    · rw [decide_eq_true hc, if_pos rfl]
      cases j with
      | zero => simp [hc]
      | succ j =>
        have := pos_spec a (j := j) hs.tail (by simpa using h)
        unfold posP at this
        simp only [List.getElem_cons_succ, List.length_cons, Nat.add_lt_add_iff_right]
        exact this
    · rw [decide_eq_false hc]
      simp only [Bool.false_eq_true, if_false, List.length_nil, Nat.not_lt_zero, iff_false]
      cases j with
      | zero => exact hc
      | succ j =>
        intro h2
        simp only [List.getElem_cons_succ] at h2
        exact hc (sP.tr ((List.pairwise_cons.1 hs).1 _ (List.getElem_mem _)) h2)
theorem upd_pos {f : Option Int → Int} {a : Zk} {F : Fc} (hs : SortedA ltP F) (hne : ∀ c ∈ F, c.1 ≠ a) : upd ltP a f F = F.take (posP a F) ++ (a, f none) :: F.drop (posP a F) := by
  have h := upd_mid (f := f) (a := a) (p := F.take (posP a F)) (s := F.drop (posP a F)) ?_ ?_
  · rw [List.take_append_drop] at h; exact h
  · intro c hc
    obtain ⟨i, hi, rfl⟩ := List.getElem_of_mem hc
    rw [List.getElem_take]
    rw [List.length_take] at hi
    exact (pos_spec a hs (by omega)).2 (by omega)
  · intro c hc
    obtain ⟨i, hi, rfl⟩ := List.getElem_of_mem hc
    rw [List.getElem_drop]
    rw [List.length_drop] at hi
    refine sP.tot (hne _ (List.getElem_mem _)) (fun h => ?_)
    have := (pos_spec a hs (by omega)).1 h
    omega
theorem get_ne {a : Zk} {F : Fc} (hne : ∀ c ∈ F, c.1 ≠ a) : get1 a F = none := by
  rw [get1_none]
  intro h
  obtain ⟨c, hc, e⟩ := List.mem_map.1 h
  exact hne c hc e
/-- no such cell: what a hit makes -/
theorem hitF_new {F : Fc} (hs : SortedA ltP F) {z : Int} {k : By} (hz : 1 ≤ z) (hk : 1 ≤ k.length ∧ k.length ≤ 16) (hne : ∀ c ∈ F, c.1 ≠ (z, k)) :
    hitF F z k = if 64 ≤ cntZ F z then F else F.take (posP (z, k) F) ++ ((z, k), 1) :: F.drop (posP (z, k) F) := by
  unfold hitF
  have g0 : (get1 (z, k) F).getD 0 = 0 := by rw [get_ne hne]; rfl
  by_cases h : 64 ≤ cntZ F z
  · rw [if_neg (fun hh : okHitF F z k => hh.2.2.2.2 ⟨g0, h⟩), if_pos h]
  · rw [if_pos (show okHitF F z k from ⟨hz, hk.1, hk.2, by rw [g0]; decide, fun hh => h hh.2⟩), if_neg h, upd_pos hs hne]; rfl
/-- the cell is there -/
theorem hitF_old {F : Fc} (hs : SortedA ltP F) {z : Int} {k : By} (hz : 1 ≤ z) (hk : 1 ≤ k.length ∧ k.length ≤ 16) {j : Nat} {n : Int} (hj : F[j]? = some ((z, k), n)) (hn : 1 ≤ n) :
    hitF F z k = if n < 1048576 then F.set j ((z, k), n + 1) else F := by
  have hg : get1 (z, k) F = some n := get1_of_mem (hs.nodup sP) (List.mem_of_getElem? hj)
  unfold hitF
  have g0 : (get1 (z, k) F).getD 0 = n := by rw [hg]; rfl
  by_cases h : n < 1048576
  · rw [if_pos (show okHitF F z k from ⟨hz, hk.1, hk.2, by rw [g0]; exact h, fun hh => by have := hh.1; omega⟩), if_pos h, upd_at hs hj]; rfl
  · rw [if_neg (fun hh : okHitF F z k => h (by have := hh.2.2.2.1; rw [g0] at this; exact this)), if_neg h]
theorem hitF_no {F : Fc} {z : Int} {k : By} (h : ¬ (1 ≤ z ∧ 1 ≤ k.length ∧ k.length ≤ 16)) : hitF F z k = F := by
  unfold hitF
  rw [if_neg (fun hh : okHitF F z k => h ⟨hh.1, hh.2.1, hh.2.2.1⟩)]
theorem flatF_set : ∀ (l : Fc) (j : Nat) (a : Zk) (n m : Int), l[j]? = some (a, n) → flatF (l.set j (a, m)) = (flatF l).set (j * 3 + 2) (.int .i64 m)
  | [], j, _, _, _, h => by simp at h
  | c :: r, 0, a, n, m, h => by
    simp only [List.getElem?_cons_zero, Option.some.injEq] at h
    subst h
    simp [flatF, cellV]
  | c :: r, j + 1, a, n, m, h => by
    have ih := flatF_set r j a n m (by simpa using h)
    have e : (j + 1) * 3 + 2 = (j * 3 + 2) + 1 + 1 + 1 := by omega
    simp only [flatF, List.set_cons_succ, List.flatMap_cons, cellV] at ih ⊢
    rw [e, ih]
    rfl
theorem cnt_step (F : Fc) (z : Int) (j : Nat) (h : j < F.length) : cntZ (F.take (j + 1)) z = cntZ (F.take j) z + if F[j].1.1 = z then 1 else 0 := by
  unfold cntZ
  rw [List.take_add_one, List.getElem?_eq_getElem h, Option.toList_some, List.filter_append, List.length_append]
  congr 1
  by_cases e : F[j].1.1 = z <;> simp [e]
theorem cnt_le (F : Fc) (z : Int) : cntZ F z ≤ F.length := List.length_filter_le _ _
/-- a part of a row as what is appended -/
theorem cells_part {w : World} {g cap : Nat} {F : Fc} (h : w.ownsRow 0 51 3 (.slice (some ⟨g, 0, none⟩) F.length cap) F.length (flatF F)) {B : Nat} (hB : w.heap.size ≤ B) (a m c : Nat) (ham : a + m ≤ F.length) :
    Cells w B (some ⟨g, a * 3, none⟩) m c 3 (flatF ((F.drop a).take m)) := by
  refine ⟨by rw [flatF_len, List.length_take, List.length_drop]; omega, fun e => (by cases e), fun j u hu => ⟨g, a * 3, rfl, by have := (h.lt g rfl).2; omega, ?_⟩⟩
  have hj : j < m * 3 := by
    have := (List.getElem?_eq_some_iff.1 hu).1
    rw [flatF_len, List.length_take, List.length_drop] at this
    omega
  rw [h.cellAt (a * 3 + j) (by omega), ← hu]
  have hF : flatF F = flatF (F.take a) ++ (flatF ((F.drop a).take m) ++ flatF ((F.drop a).drop m)) := by
    rw [← flatF_app, ← flatF_app, List.take_append_drop, List.take_append_drop]
  have e1 : (flatF (F.take a)).length = a * 3 := by rw [flatF_len, List.length_take]; omega
  rw [hF, List.getElem?_append_right (by rw [e1]; omega), e1, Nat.add_sub_cancel_left, List.getElem?_append_left (by rw [flatF_len, List.length_take, List.length_drop]; omega)]
end Go.Proofs.Ytfakfnekcgkelaa
