/- What the code's span.All returns, for any list of spans. Maps of numbers, and of texts, as lists of pairs: what a look-up, a store, len, a range make of them. -/
import Derived.Maps.Own
import Derived.Maps.RangeRun
import Derived.Carry
import Derived.Test.YtepjehcmiofehaaGreatPq4
namespace Go.Proofs.YtepjehcmiofehaaGreat
open Go.RowKit
set_option linter.unusedVariables false
set_option linter.unusedSimpArgs false
/-- where spans that are joined, one behind the other, end -/
def chainB (f t : ByteArray) : List (ByteArray × ByteArray) → Option ByteArray
  | [] => some t
  | (g, u) :: r => if joinB f t g u then chainB f u r else none
def endB (f t : ByteArray) (xs : List (ByteArray × ByteArray)) : Bool := match chainB f t xs with
  | none => false
  | some u => isB f u && u.toList.isEmpty
def allC : List (ByteArray × ByteArray) → Bool
  | [] => false
  | (f, t) :: r => f.toList.isEmpty && endB f t r
theorem chainB_app (f t : ByteArray) (xs ys : List (ByteArray × ByteArray)) : chainB f t (xs ++ ys) = (chainB f t xs).bind fun u => chainB f u ys := by
  induction xs generalizing t with
  | nil => rfl
  | cons p r ih =>
    obtain ⟨g, u⟩ := p
    simp only [List.cons_append, chainB]
    cases joinB f t g u
    · rfl
    · simpa using ih u
theorem chainB_snoc {f t u : ByteArray} {xs : List (ByteArray × ByteArray)} {k : Nat} (h : k < xs.length) (h1 : chainB f t (xs.take k) = some u) (h2 : joinB f u xs[k].1 xs[k].2 = true) : chainB f t (xs.take (k + 1)) = some xs[k].2 := by
  rw [List.take_succ_eq_append_getElem h, chainB_app, h1]
  simp [chainB, h2]
theorem endB_stop {f t u : ByteArray} {xs : List (ByteArray × ByteArray)} {k : Nat} (h : k < xs.length) (h1 : chainB f t (xs.take k) = some u) (h2 : joinB f u xs[k].1 xs[k].2 = false) : endB f t xs = false := by
  have e : chainB f t xs = none := by
    conv => lhs; rw [← List.take_append_drop k xs]
    rw [chainB_app, h1, List.drop_eq_getElem_cons h]
    show chainB f u ((xs[k].1, xs[k].2) :: _) = none
    rw [chainB, h2]; rfl
  unfold endB; rw [e]
theorem endB_end {f t u : ByteArray} {xs : List (ByteArray × ByteArray)} (h1 : chainB f t xs = some u) : endB f t xs = (isB f u && u.toList.isEmpty) := by
  unfold endB; rw [h1]
set_option maxHeartbeats 1000000 in
theorem spanAll1 (A : Option Addr) (c : Nat) (f t : ByteArray) (r : List (ByteArray × ByteArray)) (w : World) (hl : r.length ≤ 1000000) (hcap : r.length + 1 ≤ c) (hx : Spans w w.heap.size A ((f, t) :: r)) :
    Calls Tryz.prog 70 #[.slice A (r.length + 1) c] w fun e w' => e = .returned (.bool (allC ((f, t) :: r))) ∧ Below w.heap.size w w' := by
  obtain ⟨b, o, rfl, hb, g1, g2⟩ := hx 0 (by simp)
  simp only [Nat.zero_mul, Nat.add_zero, List.getElem_cons_zero] at g1 g2
  have HR : Hid (∀ k (h : k < r.length), w.cell? ⟨b, o + 2 + k * 2, none⟩ = some (.string r[k].1) ∧ w.cell? ⟨b, o + 2 + k * 2 + 1, none⟩ = some (.string r[k].2)) := by
    intro k hk
    obtain ⟨b', o', e, _, g3, g4⟩ := hx (k + 1) (by simp; omega)
    simp only [Option.some.injEq, Addr.mk.injEq] at e
    obtain ⟨rfl, rfl, _⟩ := e
    rw [show o + 2 + k * 2 = o + (k + 1) * 2 from by omega]
    exact ⟨by simpa using g3, by simpa using g4⟩
  clear hx
  cases hf : f.toList.isEmpty
  · go_enter Tryz.func70, Tryz.ntmps70
    go_wp2_with fail
    go_ret
    exact ⟨ret_bool (by simp [allC, hf]), Below.refl _ _⟩
  · have hcc : c = 1 ∨ ¬ c = 1 := by omega
    have hn : ((r.length : Int) + 1 == 0) = false := by rw [beq_eq_false_iff_ne]; omega
    rcases hcc with hc1 | hc1
    · obtain rfl : r = [] := by cases r with | nil => rfl | cons x y => simp at hcap; omega
      subst hc1
      go_enter Tryz.func70, Tryz.ntmps70
      go_wp2_with fail
      refine wp_loop_rounds 1 ?_; rw [rounds_succ]
      go_wp2_with fail
      refine (spanIs _ _ _).mono ?_
      rintro e w2 ⟨rfl, hb2⟩
      obtain ⟨hc2, hf2⟩ := bcell hb2
      cases hi : isB f t
      all_goals go_wp2_with fail
      all_goals go_ret
      all_goals clear hc2 hf2
      all_goals refine ⟨ret_bool (by simp [allC, hf, endB, chainB, hi]), by ((repeat (first | (with_reducible exact Below.refl _ _) | (with_reducible assumption) | ((with_reducible refine b_set ?_ ?_); · (first | omega | (simp; done) | (simp; omega))) | ((with_reducible refine b_alloc ?_ ?_); · (first | omega | (simp; done) | (simp; omega))) | (with_reducible refine Below.drew ?_) | (with_reducible refine b_drewN ?_) | ((with_reducible refine b_call (by assumption) ?_ ?_); · (first | omega | (simp; done) | (simp; omega))))); done)⟩
    · go_enter Tryz.func70, Tryz.ntmps70
      go_wp2_with fail
      go_loopw [24] (fun i wr => ∃ (k : Nat) (u : ByteArray), k ≤ r.length ∧ i = .int .i64 k ∧ Below w.heap.size w wr ∧ w.heap.size < wr.heap.size ∧ wr.cell? ⟨w.heap.size, 0, none⟩ = some (.string f) ∧ wr.cell? ⟨w.heap.size, 1, none⟩ = some (.string u) ∧
          (∀ j, wr.frozen? ⟨w.heap.size, j, none⟩ = false) ∧ chainB f t (r.take k) = some u) (fun i _ => r.length - (intOf i).toNat)
      case atStart => exact ⟨0, t, by omega, rfl, by ((repeat (first | (with_reducible exact Below.refl _ _) | (with_reducible assumption) | ((with_reducible refine b_set ?_ ?_); · (first | omega | (simp; done) | (simp; omega))) | ((with_reducible refine b_alloc ?_ ?_); · (first | omega | (simp; done) | (simp; omega))) | (with_reducible refine Below.drew ?_) | (with_reducible refine b_drewN ?_) | ((with_reducible refine b_call (by assumption) ?_ ?_); · (first | omega | (simp; done) | (simp; omega))))); done), by simp, by simp, by simp, by intro j; simp, rfl⟩
      case round =>
        obtain ⟨k, u, hk, rfl, hB, hz, h0, h1, h2, hch⟩ := hrel
        have HC := Lib.hid hch
        clear hch
        by_cases hlt : k < r.length
        · obtain ⟨g3, g4⟩ := HR.out k hlt
          replace g3 := bkeep hB g3 hb
          replace g4 := bkeep hB g4 hb
          have hbz : b < wr.heap.size := by omega
          cases hj : joinB f u r[k].1 r[k].2
          · go_wp2_with fail
            refine (spanJoin0 _ _ _ _ _ hj).mono ?_
            rintro e w2 ⟨rfl, hb2⟩
            obtain ⟨hc2, hf2⟩ := bcell hb2
            have hs2 := hb2.size; (try simp at hs2)
            go_wp2_with fail
            go_ret
            clear hc2 hf2
            exact ⟨ret_bool (by simp [allC, hf, endB_stop hlt HC.out hj]), by ((repeat (first | (with_reducible exact Below.refl _ _) | (with_reducible assumption) | ((with_reducible refine b_set ?_ ?_); · (first | omega | (simp; done) | (simp; omega))) | ((with_reducible refine b_alloc ?_ ?_); · (first | omega | (simp; done) | (simp; omega))) | (with_reducible refine Below.drew ?_) | (with_reducible refine b_drewN ?_) | ((with_reducible refine b_call (by assumption) ?_ ?_); · (first | omega | (simp; done) | (simp; omega))))); done)⟩
          · go_wp2_with fail
            refine (spanJoin1 _ _ _ _ _ hj).mono ?_
            rintro e w2 ⟨rfl, hb2⟩
            obtain ⟨hc2, hf2⟩ := bcell hb2
            have hs2 := hb2.size; (try simp at hs2)
            go_wp2_with fail
            go_roundw
            case rel =>
              refine ⟨k + 1, r[k].2, by omega, by go_num, ?_, ?_, ?_, ?_, ?_, chainB_snoc hlt HC.out hj⟩
              · clear hc2 hf2; go_light; ((repeat (first | (with_reducible exact Below.refl _ _) | (with_reducible assumption) | ((with_reducible refine b_set ?_ ?_); · (first | omega | (simp; done) | (simp; omega))) | ((with_reducible refine b_alloc ?_ ?_); · (first | omega | (simp; done) | (simp; omega))) | (with_reducible refine Below.drew ?_) | (with_reducible refine b_drewN ?_) | ((with_reducible refine b_call (by assumption) ?_ ?_); · (first | omega | (simp; done) | (simp; omega))))); done)
              · simp; omega
              · clear hc2 hf2; go_light; ((repeat (first | (with_reducible assumption) | ((with_reducible refine c_set_same ?_); ((repeat (first | (with_reducible exact h_of (by assumption)) | (with_reducible assumption) | (with_reducible refine h_set ?_) | ((with_reducible refine h_alloc ?_ ?_); · (first | omega | (simp; done) | (simp; omega))) | ((with_reducible refine h_new ?_ ?_) <;> (first | omega | (simp; done) | (simp; omega))) | (with_reducible refine h_drew ?_) | (with_reducible refine h_drewN ?_) | ((with_reducible refine h_keep (by assumption) ?_ ?_); · (first | omega | (simp; done) | (simp; omega))))); done)) | ((with_reducible refine c_set_other ?_ ?_); · (first | omega | (simp; done) | (simp; omega))) | ((with_reducible refine c_alloc ?_ ?_); · (first | omega | (simp; done) | (simp; omega))) | ((with_reducible refine c_new ?_ ?_) <;> (first | omega | (simp; done) | (simp; omega))) | (with_reducible refine c_drew ?_) | (with_reducible refine c_drewN ?_) | ((with_reducible refine c_keep (by assumption) ?_ ?_); · (first | omega | (simp; done) | (simp; omega))))); done)
              · clear hc2 hf2; go_light; ((repeat (first | (with_reducible assumption) | ((with_reducible refine c_set_same ?_); ((repeat (first | (with_reducible exact h_of (by assumption)) | (with_reducible assumption) | (with_reducible refine h_set ?_) | ((with_reducible refine h_alloc ?_ ?_); · (first | omega | (simp; done) | (simp; omega))) | ((with_reducible refine h_new ?_ ?_) <;> (first | omega | (simp; done) | (simp; omega))) | (with_reducible refine h_drew ?_) | (with_reducible refine h_drewN ?_) | ((with_reducible refine h_keep (by assumption) ?_ ?_); · (first | omega | (simp; done) | (simp; omega))))); done)) | ((with_reducible refine c_set_other ?_ ?_); · (first | omega | (simp; done) | (simp; omega))) | ((with_reducible refine c_alloc ?_ ?_); · (first | omega | (simp; done) | (simp; omega))) | ((with_reducible refine c_new ?_ ?_) <;> (first | omega | (simp; done) | (simp; omega))) | (with_reducible refine c_drew ?_) | (with_reducible refine c_drewN ?_) | ((with_reducible refine c_keep (by assumption) ?_ ?_); · (first | omega | (simp; done) | (simp; omega))))); done)
              · clear hc2 hf2; go_light; intro j; have h2j := h2 j; ((repeat (first | (with_reducible assumption) | (with_reducible refine f_set ?_) | ((with_reducible refine f_alloc ?_ ?_); · (first | omega | (simp; done) | (simp; omega))) | ((with_reducible refine f_new ?_); (first | omega | (simp; done) | (simp; omega)); done) | (with_reducible refine f_drew ?_) | (with_reducible refine f_drewN ?_) | ((with_reducible refine f_keep (by assumption) ?_ ?_); · (first | omega | (simp; done) | (simp; omega))))); done)
            case measure => simp [intOf]; omega
        · have hk : k = r.length := by omega
          subst hk
          have hch := HC.out
          rw [List.take_length] at hch
          have HE := Lib.hid (endB_end hch)
          clear hch HC
          go_wp2_with fail
          refine (spanIs _ _ _).mono ?_
          rintro e w2 ⟨rfl, hb2⟩
          obtain ⟨hc2, hf2⟩ := bcell hb2
          cases hi : isB f u
          all_goals go_wp2_with fail
          all_goals go_ret
          all_goals clear hc2 hf2
          all_goals refine ⟨ret_bool (by simp [allC, hf, HE.out, hi]), by ((repeat (first | (with_reducible exact Below.refl _ _) | (with_reducible assumption) | ((with_reducible refine b_set ?_ ?_); · (first | omega | (simp; done) | (simp; omega))) | ((with_reducible refine b_alloc ?_ ?_); · (first | omega | (simp; done) | (simp; omega))) | (with_reducible refine Below.drew ?_) | (with_reducible refine b_drewN ?_) | ((with_reducible refine b_call (by assumption) ?_ ?_); · (first | omega | (simp; done) | (simp; omega))))); done)⟩
theorem nil_toListC : (ByteArray.toList ⟨#[]⟩) = [] := by rw [Lib.toList_data]
theorem endB_go {f : ByteArray} (hf : f.toList.isEmpty = true) (hfs : f.size ≤ 16) : ∀ (r : List (ByteArray × ByteArray)) (t : ByteArray), isB f t = true → endB f t r = goB false t r := by
  intro r
  induction r with
  | nil => intro t ht; simp [endB, chainB, goB, ht]
  | cons p r ih =>
    obtain ⟨g, u⟩ := p
    intro t ht
    unfold goB
    cases hj : joinB f t g u
    · rw [if_neg ?_]
      · simp [endB, chainB, hj]
      · unfold joinB at hj
        rw [ht] at hj
        intro h
        simp only [Bool.and_eq_true, Bool.false_or, Bool.not_eq_true', beq_iff_eq] at h
        obtain ⟨⟨h1, h2⟩, h3⟩ := h
        rw [h1, h3, h2] at hj
        simp at hj
    · have hj' := hj
      unfold joinB at hj'
      simp only [Bool.and_eq_true, Bool.not_eq_true', beq_iff_eq] at hj'
      obtain ⟨⟨⟨_, h1⟩, h2⟩, h3⟩ := hj'
      rw [if_pos (by rw [h1, h2, h3]; simp)]
      have hfu : isB f u = true := by
        refine isB_iff.2 ⟨hfs, (isB_iff.1 h1).2.1, ?_⟩
        cases hu : u.toList.isEmpty
        · rw [empty_of hf]; exact .inr (nil_less (by intro e; rw [e] at hu; simp at hu))
        · exact .inl rfl
      rw [← ih u hfu]
      simp [endB, chainB, hj]
theorem allC_go (xs : List (ByteArray × ByteArray)) : allC xs = goB true ⟨#[]⟩ xs := by
  cases xs with
  | nil => rfl
  | cons p r =>
    obtain ⟨f, t⟩ := p
    rw [show allC ((f, t) :: r) = (f.toList.isEmpty && endB f t r) from rfl, goB, nil_toListC]
    cases hf : f.toList.isEmpty
    · rw [if_neg ?_]
      · rfl
      · intro h
        simp only [Bool.and_eq_true, beq_iff_eq] at h
        rw [h.1.2] at hf; simp at hf
    · rw [empty_of hf]
      cases hi : isB f t
      · rw [if_neg (by simp)]
        simp only [Bool.true_and]
        cases r with
        | nil => simp [endB, chainB, hi]
        | cons q r => obtain ⟨g, u⟩ := q; simp [endB, chainB, joinB, hi]
      · rw [if_pos (by simp)]
        simp only [Bool.true_and]
        exact endB_go hf (isB_iff.1 hi).1 r t hi
theorem spanAllX (A : Option Addr) (c : Nat) (xs : List (ByteArray × ByteArray)) (w : World) (hl : xs.length ≤ 1000000) (hcap : xs.length ≤ c) (hx : Spans w w.heap.size A xs) :
    Calls Tryz.prog 70 #[.slice A xs.length c] w fun e w' => e = .returned (.bool (allB xs)) ∧ Below w.heap.size w w' := by
  have e : allB xs = allC xs := (allC_go xs).symm
  rw [e]
  cases xs with
  | nil =>
    go_enter Tryz.func70, Tryz.ntmps70
    go_wp2_with fail
    go_ret
    exact ⟨ret_bool rfl, by ((repeat (first | (with_reducible exact Below.refl _ _) | (with_reducible assumption) | ((with_reducible refine b_set ?_ ?_); · (first | omega | (simp; done) | (simp; omega))) | ((with_reducible refine b_alloc ?_ ?_); · (first | omega | (simp; done) | (simp; omega))) | (with_reducible refine Below.drew ?_) | (with_reducible refine b_drewN ?_) | ((with_reducible refine b_call (by assumption) ?_ ?_); · (first | omega | (simp; done) | (simp; omega))))); done)⟩
  | cons p r =>
    obtain ⟨f, t⟩ := p
    exact spanAll1 A c f t r w (by simp at hl; omega) (by simpa using hcap) hx
end Go.Proofs.YtepjehcmiofehaaGreat
namespace Go.Proofs.YtepjehcmiofehaaGreat
open Go.RowKit Go.ChangeMaps Go.MapKept
set_option linter.unusedVariables false
set_option linter.unusedSimpArgs false
set_option linter.unusedSectionVars false
section
variable {α : Type} [DecidableEq α] {β : Type}
def get1 (k : α) : List (α × β) → Option β
  | [] => none
  | (a, v) :: r => if a = k then some v else get1 k r
def put1 (k : α) (v : β) : List (α × β) → List (α × β)
  | [] => [(k, v)]
  | (a, x) :: r => if a = k then (a, v) :: r else (a, x) :: put1 k v r
/-- where a key is, and what is there -/
def find1 (k : α) : List (α × β) → Nat → Option (Nat × β)
  | [], _ => none
  | (a, v) :: r, i => if a = k then some (i, v) else find1 k r (i + 1)
theorem find1_get (k : α) : ∀ (l : List (α × β)) (i : Nat), (find1 k l i).map (·.2) = get1 k l
  | [], i => rfl
  | (a, v) :: r, i => by
    simp only [find1, get1]
    split
    · rfl
    · exact find1_get k r (i + 1)
theorem find1_none {k : α} : ∀ {l : List (α × β)} {i : Nat} {v : β}, find1 k l i = none → put1 k v l = l ++ [(k, v)]
  | [], i, v, h => rfl
  | (a, x) :: r, i, v, h => by
    simp only [find1] at h
    split at h
    · cases h
    · rename_i hn
      simp only [put1, if_neg hn, List.cons_append, find1_none h]
theorem find1_some {k : α} : ∀ {l : List (α × β)} {i j : Nat} {u v : β}, find1 k l i = some (j, u) → i ≤ j ∧ j - i < l.length ∧ l[j - i]? = some (k, u) ∧ put1 k v l = l.set (j - i) (k, v)
  | [], i, j, u, v, h => by cases h
  | (a, x) :: r, i, j, u, v, h => by
    simp only [find1] at h
    split at h
    · rename_i hn
      injection h with h; injection h with h1 h2
      subst h1; subst h2; subst hn
      simp [put1]
    · rename_i hn
      obtain ⟨h1, h2, h3, h4⟩ := find1_some (v := v) h
      have e : j - i = (j - (i + 1)) + 1 := by omega
      refine ⟨by omega, by simp; omega, ?_, ?_⟩
      · rw [e, List.getElem?_cons_succ]; exact h3
      · rw [e, List.set_cons_succ, ← h4]; simp [put1, hn]
theorem get1_put1 (k j : α) (v : β) : ∀ (l : List (α × β)), get1 j (put1 k v l) = if k = j then some v else get1 j l
  | [] => by simp [put1, get1]
  | (a, x) :: r => by
    simp only [put1]
    split
    · rename_i h; subst h
      simp only [get1]
      split <;> simp_all
    · rename_i h
      simp only [get1, get1_put1 k j v r]
      split
      · rename_i h2; subst h2; rw [if_neg (fun e => h e.symm)]
      · rfl
theorem keys_put1 (k : α) (v : β) (l : List (α × β)) : (put1 k v l).map (·.1) = if k ∈ l.map (·.1) then l.map (·.1) else l.map (·.1) ++ [k] := by
  induction l with
  | nil => simp [put1]
  | cons p r ih =>
    obtain ⟨a, x⟩ := p
    simp only [put1]
    split
    · rename_i h; subst h; simp
    · rename_i h
      simp only [List.map_cons, ih, List.mem_cons, List.cons_append]
      have : ¬ k = a := fun e => h e.symm
      by_cases hk : k ∈ r.map (·.1) <;> simp [hk, this]
theorem nodup_put1 {k : α} {v : β} {l : List (α × β)} (h : (l.map (·.1)).Nodup) : ((put1 k v l).map (·.1)).Nodup := by
  rw [keys_put1]
  split
  · exact h
  · rename_i hk
    exact List.nodup_append.2 ⟨h, by simp, fun a ha b hb e => by simp at hb; subst hb; subst e; exact hk ha⟩
theorem put1_map {γ : Type} (f : β → γ) (k : α) (v : β) (l : List (α × β)) : (put1 k v l).map (fun p => (p.1, f p.2)) = put1 k (f v) (l.map fun p => (p.1, f p.2)) := by
  induction l with
  | nil => rfl
  | cons p r ih =>
    obtain ⟨a, x⟩ := p
    simp only [put1, List.map_cons]
    split <;> simp [ih]
theorem get1_map {γ : Type} (f : β → γ) (k : α) (l : List (α × β)) : get1 k (l.map fun p => (p.1, f p.2)) = (get1 k l).map f := by
  induction l with
  | nil => rfl
  | cons p r ih =>
    obtain ⟨a, x⟩ := p
    simp only [get1, List.map_cons]
    split <;> simp [ih]
theorem get1_mem {k : α} {v : β} : ∀ {l : List (α × β)}, get1 k l = some v → (k, v) ∈ l
  | [], h => by cases h
  | (a, x) :: r, h => by
    simp only [get1] at h
    split at h
    · rename_i e; subst e; injection h with h; subst h; exact List.mem_cons_self
    · exact List.mem_cons_of_mem _ (get1_mem h)
theorem get1_of_mem {k : α} {v : β} : ∀ {l : List (α × β)}, (l.map (·.1)).Nodup → (k, v) ∈ l → get1 k l = some v
  | [], _, h => by cases h
  | (a, x) :: r, hn, h => by
    simp only [List.map_cons, List.nodup_cons] at hn
    simp only [get1]
    rcases List.mem_cons.1 h with e | h
    · injection e with e1 e2; subst e1; subst e2; rw [if_pos rfl]
    · rw [if_neg (fun e => hn.1 (by subst e; exact List.mem_map.2 ⟨_, h, rfl⟩)), get1_of_mem hn.2 h]
end
def encI (z : Int) : Value := .int .i64 z
/-- block b is a map of these pairs -/
def MapOf {α : Type} (enc : α → Value) (w : World) (b : Nat) (l : List (α × Value)) : Prop :=
  ∃ es cl, w.heap[b]? = some (.map es cl) ∧ es.toList.map (fun e => (e.key, e.val)) = l.map (fun p => (enc p.1, p.2)) ∧ (∀ x ∈ es.toList, x.born < cl) ∧ (es.toList.map (·.born)).Nodup
theorem MapOf.lt {α : Type} {enc : α → Value} {w : World} {b : Nat} {l : List (α × Value)} (h : MapOf enc w b l) : b < w.heap.size := by
  obtain ⟨es, cl, hb, _⟩ := h; exact (Array.getElem?_eq_some_iff.1 hb).1
theorem MapOf.block {α : Type} {enc : α → Value} {w w' : World} {b : Nat} {l : List (α × Value)} (h : MapOf enc w b l) (hb : w'.heap[b]? = w.heap[b]?) : MapOf enc w' b l := by
  obtain ⟨es, cl, h1, h2⟩ := h; exact ⟨es, cl, by rw [hb]; exact h1, h2⟩
theorem MapOf.made {α : Type} {enc : α → Value} (w : World) : MapOf enc (w.alloc (.map #[] 0)) w.heap.size [] :=
  ⟨#[], 0, (MapKept.heap_alloc w _).1, rfl, by simp, by simp⟩
/-- a type of keys -/
structure KeyT {α : Type} [DecidableEq α] (P : Program) (kt : TypeId) (enc : α → Value) : Prop where
  check : ∀ (e : Bool) (a : α) (w : World), (Instr.checkKey e 10000 kt (enc a)).run P w = .ok () w
  find : ∀ (es : List MapEntry) (l : List (α × Value)) (a : α) (w : World), es.map (fun e => (e.key, e.val)) = l.map (fun p => (enc p.1, p.2)) → (Instr.findKey kt (enc a) es).run P w = .ok (find1 a l 0) w
  stays : ∀ (a : α) (w : World), (Instr.keyThatStays (enc a) (enc a)).run P w = .ok (enc a) w
theorem findNow_int (a : Int) : ∀ (es : List MapEntry) (l : List (Int × Value)) (i : Nat), es.map (fun e => (e.key, e.val)) = l.map (fun p => (encI p.1, p.2)) → Instr.findNow (.int .i64) (encI a) es i = some (find1 a l i)
  | [], [], i, h => rfl
  | [], _ :: _, i, h => by simp at h
  | _ :: _, [], i, h => by simp at h
  | e :: r, (x, v) :: l, i, h => by
    simp only [List.map_cons, List.cons.injEq, Prod.mk.injEq] at h
    obtain ⟨⟨h1, h2⟩, h3⟩ := h
    simp only [Instr.findNow, h1, encI, Instr.sameNow, if_true, find1, h2]
    by_cases hx : x = a
    · subst hx; simp
    · have : (a == x) = false := by rw [beq_eq_false_iff_ne]; exact fun e => hx e.symm
      rw [this, if_neg hx]
      exact findNow_int a r l (i + 1) h3
theorem int_key {P : Program} {kt : TypeId} (hk : P.underlying kt = some (.int .i64)) : KeyT P kt encI where
  check e a w := run_checkKey hk (by simp [encI, IsKey]) e 9999
  find es l a w h := by
    unfold Instr.findKey
    simp only [Sem.run_bind, run_underlying hk w, Result.andThen_ok, findNow_int a es l 0 h]
    rfl
  stays a w := run_keyThatStays (d := .int .i64) (by simp [encI, IsKey])
section
variable {α : Type} [DecidableEq α] {enc : α → Value} {P : Program} {w : World} {t kt et : TypeId} {b : Nat} {l : List (α × Value)}
theorem MapOf.look (h : MapOf enc w b l) (K : KeyT P kt enc) (ht : P.underlying t = some (.map kt et)) {z : Value} (hz : (zeroValue et).run P w = .ok z w) (k : α) :
    (Instr.lookup t (.map (some b)) (enc k) false).run P w = .ok ((get1 k l).getD z) w := by
  obtain ⟨es, cl, hb, he, _⟩ := h
  have hf := K.find es.toList l k w he
  have hg := find1_get k l 0
  cases hfi : find1 k l 0 with
  | none =>
    rw [hfi] at hg hf
    simp at hg
    rw [← hg]
    simp [Instr.lookup, run_underlying ht, MapKept.run_getObj_map hb, K.check, hf, hz, Result.andThen]
  | some p =>
    obtain ⟨j, v⟩ := p
    rw [hfi] at hg hf
    simp at hg
    rw [← hg]
    simp [Instr.lookup, run_underlying ht, MapKept.run_getObj_map hb, K.check, hf, Result.andThen]
theorem MapOf.len (h : MapOf enc w b l) (ht : P.underlying t = some (.map kt et)) (ty : TypeId) : (Builtin.len_ #[t] ty #[.map (some b)]).run P w = .ok (.int .i64 l.length) w := by
  obtain ⟨es, cl, hb, he, _⟩ := h
  have hl : es.size = l.length := by have := congrArg List.length he; simpa using this
  simp [Builtin.len_, run_underlying ht, MapKept.run_getObj_map hb, Result.andThen, goInt, hl]
theorem MapOf.put (h : MapOf enc w b l) (K : KeyT P kt enc) (ht : P.underlying t = some (.map kt et)) (k : α) (v : Value) :
    ∃ w', (Instr.mapUpdate t (.map (some b)) (enc k) v).run P w = .ok () w' ∧ MapOf enc w' b (put1 k v l) ∧ w.grownBy w' (some b) ∧ w'.heap.size = w.heap.size := by
  obtain ⟨es, cl, hb, he, hlt, hnd⟩ := h
  have hf := K.find es.toList l k w he
  have grown : ∀ o : Obj, w.grownBy (setBlock w b o) (some b) := fun o => ⟨rfl, rfl, rfl, by simp [setBlock], fun i _ hi => heap_setBlock_other hb _ (fun e => hi (by rw [e]))⟩
  cases hfi : find1 k l 0 with
  | none =>
    rw [hfi] at hf
    refine ⟨setBlock w b (.map (es.push { key := enc k, val := v, born := cl }) (cl + 1)), ?_, ⟨_, _, heap_setBlock_same hb _, ?_, ?_, ?_⟩, grown _, by simp [setBlock]⟩
    · simp [Instr.mapUpdate, run_underlying ht, MapKept.run_getObj_map hb, K.check, hf, MapKept.run_setObj_map _ hb, Result.andThen, setBlock]
    · rw [find1_none hfi]; simp [he]
    · intro x hx
      simp at hx
      rcases hx with hx | rfl
      · have := hlt x (by simpa using hx); omega
      · simp
    · simp only [Array.toList_push, List.map_append, List.map_cons, List.map_nil]
      refine List.nodup_append.2 ⟨hnd, by simp, fun a ha b' hb' e => ?_⟩
      simp at hb'; subst hb'
      obtain ⟨x, hx, rfl⟩ := List.mem_map.1 ha
      have := hlt x hx; omega
  | some p =>
    obtain ⟨j, u⟩ := p
    rw [hfi] at hf
    obtain ⟨_, h2, h3, h4⟩ := find1_some (v := v) hfi
    simp only [Nat.sub_zero] at h2 h3 h4
    have hj : j < es.size := by have := congrArg List.length he; simp at this; omega
    have hkey : es[j].key = enc k := by
      have e1 : (es.toList.map (fun e => (e.key, e.val)))[j]? = (l.map (fun p => (enc p.1, p.2)))[j]? := by rw [he]
      simp [List.getElem?_map, h3, Array.getElem?_eq_getElem hj] at e1
      exact e1.1
    refine ⟨setBlock w b (.map (es.modify j fun e => { e with key := enc k, val := v }) cl), ?_, ⟨_, _, heap_setBlock_same hb _, ?_, ?_, ?_⟩, grown _, by simp [setBlock]⟩
    · simp [Instr.mapUpdate, run_underlying ht, MapKept.run_getObj_map hb, K.check, hf, MapKept.run_setObj_map _ hb, Result.andThen, setBlock, Array.getElem?_eq_getElem hj, hkey, K.stays]
    · rw [h4, List.map_set, ← he]
      apply List.ext_getElem?
      intro i
      simp only [List.getElem?_map, Array.getElem?_toList, Array.getElem?_modify, List.getElem?_set]
      by_cases hij : j = i
      · subst hij
        simp [Array.getElem?_eq_getElem hj, hj]
      · simp [hij]
    · intro x hx
      obtain ⟨i, hi, rfl⟩ := List.mem_iff_getElem.1 hx
      have hi' : i < es.size := by simpa using hi
      simp only [Array.getElem_toList, Array.getElem_modify]
      split
      · exact hlt es[i] (by simp)
      · exact hlt es[i] (by simp)
    · have : (es.modify j fun e => { e with key := enc k, val := v }).toList.map (·.born) = es.toList.map (·.born) := by
        apply List.ext_getElem?
        intro i
        simp only [List.getElem?_map, Array.getElem?_toList, Array.getElem?_modify]
        by_cases hij : j = i
        · subst hij; simp [Array.getElem?_eq_getElem hj]
        · simp [hij]
      rw [this]; exact hnd
end
end Go.Proofs.YtepjehcmiofehaaGreat
