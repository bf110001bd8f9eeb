/- span.Within and the document's answer to it; satrapylaw12.known -/
import Derived.Test.YtbeebcocedmjkaaSpanB
import Derived.Lib.Hide
import Derived.LoopTactic
namespace Go.Proofs.Ytbeebcocedmjkaa
open Go.RowKit
set_option linter.unusedVariables false
set_option linter.unusedSimpArgs false

theorem spanWithin (f t g u : ByteArray) (w : World) :
    Calls Try.prog 41 #[.agg #[.string f, .string t], .agg #[.string g, .string u]] w fun e w' => e = .returned (.bool (withinB f t g u)) ∧ Below w.heap.size w w' := by
  go_enter Try.func41, Try.ntmps41
  go_wp2_with fail
  refine (spanIs _ _ _).mono ?_
  rintro e w1 ⟨rfl, hb⟩
  obtain ⟨hc, hf⟩ := bcell hb
  cases h1 : isB f t
  · go_wp2_with fail
    all_goals go_ret
    all_goals clear hc hf
    all_goals refine ⟨ret_bool ?_, ?_⟩
    all_goals first | ((repeat (first | exact Below.refl _ _ | assumption | refine Below.setCell ?_ (by first | exact Nat.le_refl _ | (simp; done) | (simp; omega) | omega) _ | refine Below.alloc ?_ (by first | exact Nat.le_refl _ | (simp; done) | (simp; omega) | omega) _ | refine Below.drew ?_ | refine Below.trans ?_ (Below.mono (by assumption) (by first | exact Nat.le_refl _ | (simp; done) | (simp; omega) | omega)))); done) | (simp [withinB, *]; done)
  · go_wp2_with fail
    refine (spanIs _ _ _).mono ?_
    rintro e w2 ⟨rfl, hb2⟩
    replace hb2 := hb.trans (hb2.mono hb.size); clear hc hf; obtain ⟨hc, hf⟩ := bcell hb2
    cases h2 : isB g u
    all_goals go_wp2_with fail
    all_goals go_ret
    all_goals clear hc hf hb
    all_goals refine ⟨ret_bool ?_, ?_⟩
    all_goals first | ((repeat (first | exact Below.refl _ _ | assumption | refine Below.setCell ?_ (by first | exact Nat.le_refl _ | (simp; done) | (simp; omega) | omega) _ | refine Below.alloc ?_ (by first | exact Nat.le_refl _ | (simp; done) | (simp; omega) | omega) _ | refine Below.drew ?_ | refine Below.trans ?_ (Below.mono (by assumption) (by first | exact Nat.le_refl _ | (simp; done) | (simp; omega) | omega)))); done) | (clear hb2; simp [withinB, *]; done)

theorem refWithin (f t g u : ByteArray) (w : World) :
    Calls Try.prog 42 #[.agg #[.string f, .string t], .agg #[.string g, .string u]] w fun e w' => e = .returned (.bool (withinB f t g u)) ∧ Below w.heap.size w w' := by
  go_enter Try.func42, Try.ntmps42
  go_wp2_with fail
  refine (refIs _ _ _).mono ?_
  rintro e w1 ⟨rfl, hb⟩
  obtain ⟨hc, hf⟩ := bcell hb
  cases h1 : isB f t
  · go_wp2_with fail
    all_goals go_ret
    all_goals clear hc hf
    all_goals refine ⟨ret_bool ?_, ?_⟩
    all_goals first | ((repeat (first | exact Below.refl _ _ | assumption | refine Below.setCell ?_ (by first | exact Nat.le_refl _ | (simp; done) | (simp; omega) | omega) _ | refine Below.alloc ?_ (by first | exact Nat.le_refl _ | (simp; done) | (simp; omega) | omega) _ | refine Below.drew ?_ | refine Below.trans ?_ (Below.mono (by assumption) (by first | exact Nat.le_refl _ | (simp; done) | (simp; omega) | omega)))); done) | (simp [withinB, *]; done)
  · go_wp2_with fail
    refine (refIs _ _ _).mono ?_
    rintro e w2 ⟨rfl, hb2⟩
    replace hb2 := hb.trans (hb2.mono hb.size); clear hc hf; obtain ⟨hc, hf⟩ := bcell hb2
    cases h2 : isB g u
    all_goals go_wp2_with fail
    all_goals go_ret
    all_goals clear hc hf hb
    all_goals refine ⟨ret_bool ?_, ?_⟩
    all_goals first | ((repeat (first | exact Below.refl _ _ | assumption | refine Below.setCell ?_ (by first | exact Nat.le_refl _ | (simp; done) | (simp; omega) | omega) _ | refine Below.alloc ?_ (by first | exact Nat.le_refl _ | (simp; done) | (simp; omega) | omega) _ | refine Below.drew ?_ | refine Below.trans ?_ (Below.mono (by assumption) (by first | exact Nat.le_refl _ | (simp; done) | (simp; omega) | omega)))); done) | (clear hb2; simp [withinB, *]; done)

/-- satrapylaw12.known -/
theorem spanKnown (w : World) : Calls Try.prog 38 #[] w fun e w' => e = .returned (.bool true) ∧ Below w.heap.size w w' := by
  go_enter Try.func38, Try.ntmps38
  go_wp2_with fail
  refine (spanCut1 _ _ _ _ (by decide +kernel)).mono ?_
  rintro e w1 ⟨rfl, hb⟩
  obtain ⟨hc, hf⟩ := bcell hb
  go_wp2_with fail
  go_ret
  have hs := hb.size; (try simp at hs)
  exact ⟨rfl, by ((repeat (first | exact Below.refl _ _ | assumption | refine Below.setCell ?_ (by first | exact Nat.le_refl _ | (simp; done) | (simp; omega) | omega) _ | refine Below.alloc ?_ (by first | exact Nat.le_refl _ | (simp; done) | (simp; omega) | omega) _ | refine Below.drew ?_ | refine Below.trans ?_ (Below.mono (by assumption) (by first | exact Nat.le_refl _ | (simp; done) | (simp; omega) | omega)))); done)⟩

/-- a slice of spans that reads as a list -/
def Spans (w : World) (B : Nat) (A : Option Addr) (xs : List (ByteArray × ByteArray)) : Prop :=
  ∀ k (h : k < xs.length), ∃ b o, A = some ⟨b, o, none⟩ ∧ b < B ∧ w.cell? ⟨b, o + k * 2, none⟩ = some (.string xs[k].1) ∧ w.cell? ⟨b, o + k * 2 + 1, none⟩ = some (.string xs[k].2)

def heavyB (xs : List (ByteArray × ByteArray)) : Bool := xs.any fun p => decide (200 < p.1.size) || decide (200 < p.2.size)

theorem heavyB_lt {xs : List (ByteArray × ByteArray)} {k : Nat} (h : k < xs.length) (h1 : (xs.take k).any (fun p => decide (200 < p.1.size) || decide (200 < p.2.size)) = false) (h2 : xs[k].1.size ≤ 200) (h3 : xs[k].2.size ≤ 200) :
    (xs.take (k + 1)).any (fun p => decide (200 < p.1.size) || decide (200 < p.2.size)) = false := by
  rw [List.take_succ_eq_append_getElem h, List.any_append, h1]; simp; omega

theorem spanHeavy (A : Option Addr) (c : Nat) (xs : List (ByteArray × ByteArray)) (w : World) (hl : xs.length ≤ 1000000) (hx : Spans w w.heap.size A xs) :
    Calls Try.prog 31 #[.slice A xs.length c] w fun e w' => e = .returned (.bool (heavyB xs)) ∧ w = w' := by
  have HX := Lib.hid hx
  clear hx
  go_enter Try.func31, Try.ntmps31
  go_wp2
  go_loop [3] (fun i => ∃ k : Nat, k ≤ xs.length ∧ i = .int .i64 k ∧ (xs.take k).any (fun p => decide (200 < p.1.size) || decide (200 < p.2.size)) = false) (fun i => xs.length - (intOf i).toNat)
  case atStart => exact ⟨0, by omega, rfl, by simp⟩
  case round =>
    obtain ⟨k, hk, rfl, ha⟩ := hrel
    by_cases hlt : k < xs.length
    · obtain ⟨b, o, rfl, hb, h1, h2⟩ := HX.out k hlt
      have HA := Lib.hid ha
      clear ha
      by_cases g1 : (200 : Int) < (xs[k].1.size : Int)
      · have g1' : decide ((200 : Int) < (xs[k].1.size : Int)) = true := by simpa using g1
        go_wp2
        go_ret
        exact ⟨ret_bool (by rw [heavyB, eq_comm, List.any_eq_true]; exact ⟨xs[k], List.getElem_mem _, by simp; omega⟩), rfl⟩
      · have g1' : decide ((200 : Int) < (xs[k].1.size : Int)) = false := by simpa using g1
        by_cases g2 : (200 : Int) < (xs[k].2.size : Int)
        · have g2' : decide ((200 : Int) < (xs[k].2.size : Int)) = true := by simpa using g2
          go_wp2
          go_ret
          exact ⟨ret_bool (by rw [heavyB, eq_comm, List.any_eq_true]; exact ⟨xs[k], List.getElem_mem _, by simp; omega⟩), rfl⟩
        · have g2' : decide ((200 : Int) < (xs[k].2.size : Int)) = false := by simpa using g2
          go_wp2
          go_round
          case rel => exact ⟨k + 1, by omega, by go_num, heavyB_lt hlt HA.out (by omega) (by omega)⟩
          case measure => simp [intOf]; omega
    · go_wp2
      go_ret
      have : k = xs.length := by omega
      subst this
      exact ⟨ret_bool (by simpa [heavyB] using ha), rfl⟩

end Go.Proofs.Ytbeebcocedmjkaa
