/- book.Of. -/
import Derived.ProofKit
import Derived.Test.YtdlbiobjnohfbaaProg
import Derived.WalkKit
import Derived.WalkSpells
import Derived.WalkLawsBesides
import Derived.Deep.QuietTactic
import Derived.BigQuiet
import Derived.RegionTactic
import Derived.BigRegion
import Derived.Outline
import Derived.LoopTactic
import Derived.Lib.Hide
import Derived.Deep.RegionHeld3
import Derived.Laws.AppendOwnNone
import Derived.Deep.AppendLies
import Derived.Maps.AppendAt
import Derived.Laws.Rows
import Derived.Laws.OwnMore
import Derived.Deep.RegionLaw
import Derived.Deep.Onto
import Derived.Test.YtdlbiobjnohfbaaLay
import Derived.Shelf.SlSortCmp.NoneTotal
import Derived.Deep.Cut
import Derived.StillTailTactics
import Derived.Test.YtdlbiobjnohfbaaVi0
import Derived.Test.YtdlbiobjnohfbaaVi1
import Derived.Test.YtdlbiobjnohfbaaVi2
import Derived.Test.YtdlbiobjnohfbaaVi3
import Derived.Test.YtdlbiobjnohfbaaVi4
import Derived.Test.YtdlbiobjnohfbaaVi5
import Derived.Test.YtdlbiobjnohfbaaVi6
import Derived.Test.YtdlbiobjnohfbaaVi7
import Derived.Test.YtdlbiobjnohfbaaVi8
import Derived.Test.YtdlbiobjnohfbaaVi9
import Derived.Test.YtdlbiobjnohfbaaVi10
import Derived.Test.YtdlbiobjnohfbaaVi11
import Derived.Test.YtdlbiobjnohfbaaVi12
import Derived.Test.YtdlbiobjnohfbaaVi13
import Derived.Test.YtdlbiobjnohfbaaVi14
import Derived.Test.YtdlbiobjnohfbaaVi15
import Derived.Test.YtdlbiobjnohfbaaVi29
import Derived.Test.YtdlbiobjnohfbaaVi30
import Derived.Test.YtdlbiobjnohfbaaVi31
import Derived.Test.YtdlbiobjnohfbaaVi32
import Derived.Test.YtdlbiobjnohfbaaVi33
import Derived.Test.YtdlbiobjnohfbaaVi34
import Derived.Test.YtdlbiobjnohfbaaVi35
import Derived.Test.YtdlbiobjnohfbaaVi36
import Derived.Test.YtdlbiobjnohfbaaVi38
namespace Go.Proofs.Ytdlbiobjnohfbaa
open Go.RowKit
set_option linter.unusedVariables false
set_option linter.unusedSimpArgs false
set_option maxHeartbeats 20000000 in
set_option maxRecDepth 10000 in
theorem bkOf (B : Nat) (A : Option Addr) (c : Nat) (xs : List Od) (w : World) (hx : Cells w B A xs.length c 6 (flatO xs)) (hB : B ≤ w.heap.size) (hl : xs.length ≤ 60) :
    Calls Try.prog 20 #[.slice A xs.length c] w fun e w' => Below w.heap.size w w' ∧ ((OfK xs ∧ ∃ (b : Nat) (v : Nat → Value), e = .returned (.tuple #[.pointer (some ⟨b, 0, none⟩), .int .i64 0]) ∧ BookAt lay0 w' b v xs (lastOf xs) ∧ (∀ k, Ft b v k → w.heap.size ≤ k)) ∨ (¬ OfK xs ∧ e = .returned (.tuple #[.pointer none, .int .i64 1]))) := by
  have HX := Lib.hid hx
  clear hx
  go_enter Try.func20, Try.ntmps20
  go_wp2_with (first
    | (go_at_call 33; go_loud (refine (newBook _).mono ?_; rintro e w1 ⟨rfl, hb1, hb⟩; have hs1 := hb.size; have HB1 := Lib.hid hb1; have HBL := Lib.hid hb; clear hb1 hb))
    | fail)
  have HF1 : Hid (∀ k, Ft w.heap.size (fun _ => .slice none 0 0) k → w.heap.size ≤ k) := Lib.hid (fun k hk => by
    rcases hk with e | ⟨i, _, e⟩
    · omega
    · cases e)
  go_loopw [13] (fun iv wr => ∃ (i : Nat) (v : Nat → Value), i ≤ xs.length ∧ iv = .int .i64 i ∧ BookAt lay0 wr w.heap.size v (xs.take i) (lastOf (xs.take i)) ∧ OfAt xs i ∧ (∀ k, Ft w.heap.size v k → w.heap.size ≤ k) ∧ Below w.heap.size w wr) (fun iv _ => xs.length - (intOf iv).toNat)
  case atStart => exact ⟨0, _, Nat.zero_le _, rfl, HB1.out, OfAt.zero xs, HF1.out, HBL.out⟩
  case round =>
    obtain ⟨i, v, hil, rfl, hBk, hOf, hF, hBw⟩ := hrel
    have HB := Lib.hid hBk
    have HO := Lib.hid hOf
    have HF := Lib.hid hF
    have HW := Lib.hid hBw
    have hsw := hBw.size
    by_cases hlt : i < xs.length
    · have q3 : (i : Int) < (xs.length : Int) := by omega
      obtain ⟨qb, qo, rfl, hqb', a0, a1, a2, a3, a4, a5⟩ := cells_orderAt HX.out hlt
      have hqb : qb < w.heap.size := by omega
      have a0 := bkeep hBw a0 hqb
      have a1 := bkeep hBw a1 hqb
      have a2 := bkeep hBw a2 hqb
      have a3 := bkeep hBw a3 hqb
      have a4 := bkeep hBw a4 hqb
      have a5 := bkeep hBw a5 hqb
      obtain ⟨o, ho⟩ : ∃ o, o = xs[i] := ⟨_, rfl⟩
      rw [← ho] at a0 a1 a2 a3 a4 a5
      have HOE := Lib.hid ho
      clear hBk hOf hF hBw ho
      by_cases hok : (xs.take i).length < 32 ∧ Fits (xs.take i) o
      · have HK := Lib.hid hok
        clear hok
        go_wp2_with (first
          | (go_at_call 23; go_loud (refine (place lay0 w.heap.size v _ _ o _ (HB.out.below (by ((repeat (first | (with_reducible exact Below.refl _ _) | (with_reducible assumption) | ((with_reducible refine b_set ?_ ?_); · (first | omega | (simp; done) | (simp; omega))) | ((with_reducible refine b_alloc ?_ ?_); · (first | omega | (simp; done) | (simp; omega))) | (with_reducible refine Below.drew ?_) | (with_reducible refine b_drewN ?_) | ((with_reducible refine b_call (by assumption) ?_ ?_); · (first | omega | (simp; done) | (simp; omega))))); done)))).mono ?_; rintro e w4 ⟨Td, n, e', L', last', v4, tv, rfl, hp, hb, ho, ha, ht, hf⟩; obtain ⟨rfl, rfl, rfl, rfl, rfl⟩ := hp.fit1 HB.out.bk HK.out; have HB4 := Lib.hid hb; have HT4 := Lib.hid ht; have HF4 := Lib.hid hf; have hs4 := ht.size; obtain ⟨At, kt, hvt, _, _, _⟩ := own_slice ho; subst hvt; clear ho hb ha hf hp ht))
          | fail)
        have e := take_succ' hlt
        rw [← HOE.out] at e
        refine ⟨⟨i + 1, v4, hlt, by go_num, by rw [e]; exact HB4.out, HO.out.step hlt (by rw [← HOE.out]; exact HK.out.2), fun k hk => ?_, (HW.out.trans (by ((repeat (first | (with_reducible exact Below.refl _ _) | (with_reducible assumption) | ((with_reducible refine b_set ?_ ?_); · (first | omega | (simp; done) | (simp; omega))) | ((with_reducible refine b_alloc ?_ ?_); · (first | omega | (simp; done) | (simp; omega))) | (with_reducible refine Below.drew ?_) | (with_reducible refine b_drewN ?_) | ((with_reducible refine b_call (by assumption) ?_ ?_); · (first | omega | (simp; done) | (simp; omega))))); done))).trans (HT4.out.below (by (first | omega | (simp; done) | (simp; omega))) (fun k hk => HF.out k hk))⟩, measI hlt⟩
        rcases HF4.out k hk with h | h
        · exact HF.out k h
        · simp at h; omega
      · have hno : ¬ OfK xs := not_of hlt (by rw [← HOE.out]; exact hok)
        have HNO := Lib.hid hno
        by_cases hE : OkO o ∧ lastOf (xs.take i) < o.id ∧ (xs.take i).length < 32
        · have hnm : ¬ NoneMeets o (xs.take i) := fun h => hok ⟨hE.2.2, hE.1, hE.2.1, h⟩
          have HE := Lib.hid hE
          have HNM := Lib.hid hnm
          clear hok hE hnm hno
          go_wp2_with (first
            | (go_at_call 23; go_loud (refine (place lay0 w.heap.size v _ _ o _ (HB.out.below (by ((repeat (first | (with_reducible exact Below.refl _ _) | (with_reducible assumption) | ((with_reducible refine b_set ?_ ?_); · (first | omega | (simp; done) | (simp; omega))) | ((with_reducible refine b_alloc ?_ ?_); · (first | omega | (simp; done) | (simp; omega))) | (with_reducible refine Below.drew ?_) | (with_reducible refine b_drewN ?_) | ((with_reducible refine b_call (by assumption) ?_ ?_); · (first | omega | (simp; done) | (simp; omega))))); done)))).mono ?_; rintro e w4 ⟨Td, n, e', L', last', v4, tv, rfl, hp, hb, ho, ha, ht, hf⟩; obtain ⟨rfl, hTp⟩ := hp.fitT HE.out HNM.out; have hTq : (0 : Int) < (Td.length : Int) := (by omega); have HT4 := Lib.hid ht; have hs4 := ht.size; have hTl := hp.len; obtain ⟨At, kt, hvt, _, _, _⟩ := own_slice ho; subst hvt; clear ho hb ha hf hp ht))
            | fail)
          refine bodyPost_ret (v := .tuple #[.pointer none, .int .i64 1]) (by simp [results, Try.results20, go_sem]) rfl ⟨(HW.out.trans (by ((repeat (first | (with_reducible exact Below.refl _ _) | (with_reducible assumption) | ((with_reducible refine b_set ?_ ?_); · (first | omega | (simp; done) | (simp; omega))) | ((with_reducible refine b_alloc ?_ ?_); · (first | omega | (simp; done) | (simp; omega))) | (with_reducible refine Below.drew ?_) | (with_reducible refine b_drewN ?_) | ((with_reducible refine b_call (by assumption) ?_ ?_); · (first | omega | (simp; done) | (simp; omega))))); done))).trans (HT4.out.below (by (first | omega | (simp; done) | (simp; omega))) (fun k hk => HF.out k hk)), .inr ⟨HNO.out, rfl⟩⟩
        · have HE := Lib.hid hE
          clear hok hE hno
          go_wp2_with (first
            | (go_at_call 23; go_loud (refine (place lay0 w.heap.size v _ _ o _ (HB.out.below (by ((repeat (first | (with_reducible exact Below.refl _ _) | (with_reducible assumption) | ((with_reducible refine b_set ?_ ?_); · (first | omega | (simp; done) | (simp; omega))) | ((with_reducible refine b_alloc ?_ ?_); · (first | omega | (simp; done) | (simp; omega))) | (with_reducible refine Below.drew ?_) | (with_reducible refine b_drewN ?_) | ((with_reducible refine b_call (by assumption) ?_ ?_); · (first | omega | (simp; done) | (simp; omega))))); done)))).mono ?_; rintro e w4 ⟨Td, n, e', L', last', v4, tv, rfl, hp, hb, ho, ha, ht, hf⟩; have hne : e' ≠ 0 := (by have := hp.fitE HE.out; omega); have HT4 := Lib.hid ht; have hs4 := ht.size; have hTl := hp.len; obtain ⟨At, kt, hvt, _, _, _⟩ := own_slice ho; subst hvt; clear ho hb ha hf hp ht))
            | fail)
          refine bodyPost_ret (v := .tuple #[.pointer none, .int .i64 1]) (by simp [results, Try.results20, go_sem]) rfl ⟨(HW.out.trans (by ((repeat (first | (with_reducible exact Below.refl _ _) | (with_reducible assumption) | ((with_reducible refine b_set ?_ ?_); · (first | omega | (simp; done) | (simp; omega))) | ((with_reducible refine b_alloc ?_ ?_); · (first | omega | (simp; done) | (simp; omega))) | (with_reducible refine Below.drew ?_) | (with_reducible refine b_drewN ?_) | ((with_reducible refine b_call (by assumption) ?_ ?_); · (first | omega | (simp; done) | (simp; omega))))); done))).trans (HT4.out.below (by (first | omega | (simp; done) | (simp; omega))) (fun k hk => HF.out k hk)), .inr ⟨HNO.out, rfl⟩⟩
    · obtain rfl : xs.length = i := by omega
      go_wp2_with fail
      have hb := HB.out
      rw [List.take_length] at hb
      by_cases h32 : xs.length ≤ 32
      · refine bodyPost_ret (v := .tuple #[.pointer (some ⟨w.heap.size, 0, none⟩), .int .i64 0]) (by simp [results, Try.results20, go_sem]) rfl ⟨HW.out, .inl ⟨⟨h32, HO.out⟩, _, v, rfl, hb, HF.out⟩⟩
      · have := hb.len; omega
end Go.Proofs.Ytdlbiobjnohfbaa
