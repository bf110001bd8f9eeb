/- What span.All and the document's answer to it return for any list of spans. -/
import Derived.Test.YtbeebcocedmjkaaSpanJ
import Derived.Deep.Light
import Derived.Test.YtbeebcocedmjkaaSpanR
import Derived.Test.YtbeebcocedmjkaaSpanP
namespace Go.Proofs.Ytbeebcocedmjkaa
open Go.RowKit
set_option linter.unusedVariables false
set_option linter.unusedSimpArgs false

/-- where spans that are joined, one behind the other, end -/
def chainB (f t : ByteArray) : List (ByteArray × ByteArray) → Option ByteArray
  | [] => some t
  | (g, u) :: r => if joinB f t g u then chainB f u r else none
def endB (f t : ByteArray) (xs : List (ByteArray × ByteArray)) : Bool := match chainB f t xs with
  | none => false
  | some u => isB f u && u.toList.isEmpty
def allB : List (ByteArray × ByteArray) → Bool
  | [] => false
  | (f, t) :: r => f.toList.isEmpty && endB f t r
theorem chainB_app (f t : ByteArray) (xs ys : List (ByteArray × ByteArray)) : chainB f t (xs ++ ys) = (chainB f t xs).bind fun u => chainB f u ys := by
  induction xs generalizing t with
  | nil => rfl
  | cons p r ih =>
    obtain ⟨g, u⟩ := p
    simp only [List.cons_append, chainB]
    cases joinB f t g u
    · rfl
    · simpa using ih u
theorem chainB_snoc {f t u : ByteArray} {xs : List (ByteArray × ByteArray)} {k : Nat} (h : k < xs.length) (h1 : chainB f t (xs.take k) = some u) (h2 : joinB f u xs[k].1 xs[k].2 = true) : chainB f t (xs.take (k + 1)) = some xs[k].2 := by
  rw [List.take_succ_eq_append_getElem h, chainB_app, h1]
  simp [chainB, h2]
theorem endB_stop {f t u : ByteArray} {xs : List (ByteArray × ByteArray)} {k : Nat} (h : k < xs.length) (h1 : chainB f t (xs.take k) = some u) (h2 : joinB f u xs[k].1 xs[k].2 = false) : endB f t xs = false := by
  have e : chainB f t xs = none := by
    conv => lhs; rw [← List.take_append_drop k xs]
    rw [chainB_app, h1, List.drop_eq_getElem_cons h]
    show chainB f u ((xs[k].1, xs[k].2) :: _) = none
    rw [chainB, h2]; rfl
  unfold endB; rw [e]
theorem endB_end {f t u : ByteArray} {xs : List (ByteArray × ByteArray)} (h1 : chainB f t xs = some u) : endB f t xs = (isB f u && u.toList.isEmpty) := by
  unfold endB; rw [h1]

set_option maxHeartbeats 1000000 in
theorem spanAll1 (A : Option Addr) (c : Nat) (f t : ByteArray) (r : List (ByteArray × ByteArray)) (w : World) (hl : r.length ≤ 1000000) (hcap : r.length + 1 ≤ c) (hx : Spans w w.heap.size A ((f, t) :: r)) :
    Calls Try.prog 43 #[.slice A (r.length + 1) c] w fun e w' => e = .returned (.bool (allB ((f, t) :: r))) ∧ Below w.heap.size w w' := by
  obtain ⟨b, o, rfl, hb, g1, g2⟩ := hx 0 (by simp)
  simp only [Nat.zero_mul, Nat.add_zero, List.getElem_cons_zero] at g1 g2
  have HR : Hid (∀ k (h : k < r.length), w.cell? ⟨b, o + 2 + k * 2, none⟩ = some (.string r[k].1) ∧ w.cell? ⟨b, o + 2 + k * 2 + 1, none⟩ = some (.string r[k].2)) := by
    intro k hk
    obtain ⟨b', o', e, _, g3, g4⟩ := hx (k + 1) (by simp; omega)
    simp only [Option.some.injEq, Addr.mk.injEq] at e
    obtain ⟨rfl, rfl, _⟩ := e
    rw [show o + 2 + k * 2 = o + (k + 1) * 2 from by omega]
    exact ⟨by simpa using g3, by simpa using g4⟩
  clear hx
  cases hf : f.toList.isEmpty
  · go_enter Try.func43, Try.ntmps43
    go_wp2_with fail
    go_ret
    exact ⟨ret_bool (by simp [allB, hf]), Below.refl _ _⟩
  · have hcc : c = 1 ∨ ¬ c = 1 := by omega
    have hn : ((r.length : Int) + 1 == 0) = false := by rw [beq_eq_false_iff_ne]; omega
    rcases hcc with hc1 | hc1
    · obtain rfl : r = [] := by cases r with | nil => rfl | cons x y => simp at hcap; omega
      subst hc1
      go_enter Try.func43, Try.ntmps43
      go_wp2_with fail
      refine wp_loop_rounds 1 ?_; rw [rounds_succ]
      go_wp2_with fail
      refine (spanIs _ _ _).mono ?_
      rintro e w2 ⟨rfl, hb2⟩
      obtain ⟨hc2, hf2⟩ := bcell hb2
      cases hi : isB f t
      all_goals go_wp2_with fail
      all_goals go_ret
      all_goals clear hc2 hf2
      all_goals refine ⟨ret_bool (by simp [allB, hf, endB, chainB, hi]), by ((repeat (first | (with_reducible exact Below.refl _ _) | (with_reducible assumption) | ((with_reducible refine b_set ?_ ?_); · (first | omega | (simp; done) | (simp; omega))) | ((with_reducible refine b_alloc ?_ ?_); · (first | omega | (simp; done) | (simp; omega))) | (with_reducible refine Below.drew ?_) | ((with_reducible refine b_call (by assumption) ?_ ?_); · (first | omega | (simp; done) | (simp; omega))))); done)⟩
    · go_enter Try.func43, Try.ntmps43
      go_wp2_with fail
      go_loopw [24] (fun i wr => ∃ (k : Nat) (u : ByteArray), k ≤ r.length ∧ i = .int .i64 k ∧ Below w.heap.size w wr ∧ w.heap.size < wr.heap.size ∧ wr.cell? ⟨w.heap.size, 0, none⟩ = some (.string f) ∧ wr.cell? ⟨w.heap.size, 1, none⟩ = some (.string u) ∧
          (∀ j, wr.frozen? ⟨w.heap.size, j, none⟩ = false) ∧ chainB f t (r.take k) = some u) (fun i _ => r.length - (intOf i).toNat)
      case atStart => exact ⟨0, t, by omega, rfl, by ((repeat (first | (with_reducible exact Below.refl _ _) | (with_reducible assumption) | ((with_reducible refine b_set ?_ ?_); · (first | omega | (simp; done) | (simp; omega))) | ((with_reducible refine b_alloc ?_ ?_); · (first | omega | (simp; done) | (simp; omega))) | (with_reducible refine Below.drew ?_) | ((with_reducible refine b_call (by assumption) ?_ ?_); · (first | omega | (simp; done) | (simp; omega))))); done), by simp, by simp, by simp, by intro j; simp, rfl⟩
      case round =>
        obtain ⟨k, u, hk, rfl, hB, hz, h0, h1, h2, hch⟩ := hrel
        have HC := Lib.hid hch
        clear hch
        by_cases hlt : k < r.length
        · obtain ⟨g3, g4⟩ := HR.out k hlt
          replace g3 := bkeep hB g3 hb
          replace g4 := bkeep hB g4 hb
          have hbz : b < wr.heap.size := by omega
          cases hj : joinB f u r[k].1 r[k].2
          · go_wp2_with fail
            refine (spanJoin0 _ _ _ _ _ hj).mono ?_
            rintro e w2 ⟨rfl, hb2⟩
            obtain ⟨hc2, hf2⟩ := bcell hb2
            have hs2 := hb2.size; (try simp at hs2)
            go_wp2_with fail
            go_ret
            clear hc2 hf2
            exact ⟨ret_bool (by simp [allB, hf, endB_stop hlt HC.out hj]), by ((repeat (first | (with_reducible exact Below.refl _ _) | (with_reducible assumption) | ((with_reducible refine b_set ?_ ?_); · (first | omega | (simp; done) | (simp; omega))) | ((with_reducible refine b_alloc ?_ ?_); · (first | omega | (simp; done) | (simp; omega))) | (with_reducible refine Below.drew ?_) | ((with_reducible refine b_call (by assumption) ?_ ?_); · (first | omega | (simp; done) | (simp; omega))))); done)⟩
          · go_wp2_with fail
            refine (spanJoin1 _ _ _ _ _ hj).mono ?_
            rintro e w2 ⟨rfl, hb2⟩
            obtain ⟨hc2, hf2⟩ := bcell hb2
            have hs2 := hb2.size; (try simp at hs2)
            go_wp2_with fail
            go_roundw
            case rel =>
              refine ⟨k + 1, r[k].2, by omega, by go_num, ?_, ?_, ?_, ?_, ?_, chainB_snoc hlt HC.out hj⟩
              · clear hc2 hf2; go_light; ((repeat (first | (with_reducible exact Below.refl _ _) | (with_reducible assumption) | ((with_reducible refine b_set ?_ ?_); · (first | omega | (simp; done) | (simp; omega))) | ((with_reducible refine b_alloc ?_ ?_); · (first | omega | (simp; done) | (simp; omega))) | (with_reducible refine Below.drew ?_) | ((with_reducible refine b_call (by assumption) ?_ ?_); · (first | omega | (simp; done) | (simp; omega))))); done)
              · simp; omega
              · clear hc2 hf2; go_light; ((repeat (first | (with_reducible assumption) | ((with_reducible refine c_set_same ?_); ((repeat (first | (with_reducible exact h_of (by assumption)) | (with_reducible assumption) | (with_reducible refine h_set ?_) | ((with_reducible refine h_alloc ?_ ?_); · (first | omega | (simp; done) | (simp; omega))) | ((with_reducible refine h_new ?_ ?_) <;> (first | omega | (simp; done) | (simp; omega))) | (with_reducible refine h_drew ?_) | ((with_reducible refine h_keep (by assumption) ?_ ?_); · (first | omega | (simp; done) | (simp; omega))))); done)) | ((with_reducible refine c_set_other ?_ ?_); · (first | omega | (simp; done) | (simp; omega))) | ((with_reducible refine c_alloc ?_ ?_); · (first | omega | (simp; done) | (simp; omega))) | ((with_reducible refine c_new ?_ ?_) <;> (first | omega | (simp; done) | (simp; omega))) | (with_reducible refine c_drew ?_) | ((with_reducible refine c_keep (by assumption) ?_ ?_); · (first | omega | (simp; done) | (simp; omega))))); done)
              · clear hc2 hf2; go_light; ((repeat (first | (with_reducible assumption) | ((with_reducible refine c_set_same ?_); ((repeat (first | (with_reducible exact h_of (by assumption)) | (with_reducible assumption) | (with_reducible refine h_set ?_) | ((with_reducible refine h_alloc ?_ ?_); · (first | omega | (simp; done) | (simp; omega))) | ((with_reducible refine h_new ?_ ?_) <;> (first | omega | (simp; done) | (simp; omega))) | (with_reducible refine h_drew ?_) | ((with_reducible refine h_keep (by assumption) ?_ ?_); · (first | omega | (simp; done) | (simp; omega))))); done)) | ((with_reducible refine c_set_other ?_ ?_); · (first | omega | (simp; done) | (simp; omega))) | ((with_reducible refine c_alloc ?_ ?_); · (first | omega | (simp; done) | (simp; omega))) | ((with_reducible refine c_new ?_ ?_) <;> (first | omega | (simp; done) | (simp; omega))) | (with_reducible refine c_drew ?_) | ((with_reducible refine c_keep (by assumption) ?_ ?_); · (first | omega | (simp; done) | (simp; omega))))); done)
              · clear hc2 hf2; go_light; intro j; have h2j := h2 j; ((repeat (first | (with_reducible assumption) | (with_reducible refine f_set ?_) | ((with_reducible refine f_alloc ?_ ?_); · (first | omega | (simp; done) | (simp; omega))) | ((with_reducible refine f_new ?_); (first | omega | (simp; done) | (simp; omega)); done) | (with_reducible refine f_drew ?_) | ((with_reducible refine f_keep (by assumption) ?_ ?_); · (first | omega | (simp; done) | (simp; omega))))); done)
            case measure => simp [intOf]; omega
        · have hk : k = r.length := by omega
          subst hk
          have hch := HC.out
          rw [List.take_length] at hch
          have HE := Lib.hid (endB_end hch)
          clear hch HC
          go_wp2_with fail
          refine (spanIs _ _ _).mono ?_
          rintro e w2 ⟨rfl, hb2⟩
          obtain ⟨hc2, hf2⟩ := bcell hb2
          cases hi : isB f u
          all_goals go_wp2_with fail
          all_goals go_ret
          all_goals clear hc2 hf2
          all_goals refine ⟨ret_bool (by simp [allB, hf, HE.out, hi]), by ((repeat (first | (with_reducible exact Below.refl _ _) | (with_reducible assumption) | ((with_reducible refine b_set ?_ ?_); · (first | omega | (simp; done) | (simp; omega))) | ((with_reducible refine b_alloc ?_ ?_); · (first | omega | (simp; done) | (simp; omega))) | (with_reducible refine Below.drew ?_) | ((with_reducible refine b_call (by assumption) ?_ ?_); · (first | omega | (simp; done) | (simp; omega))))); done)⟩

end Go.Proofs.Ytbeebcocedmjkaa
