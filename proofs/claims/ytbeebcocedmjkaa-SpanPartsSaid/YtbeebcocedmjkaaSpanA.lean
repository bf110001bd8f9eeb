/- What span.Is, In and Cut, and the law's own helpers, return: one contract each. -/
import Derived.Test.YtbeebcocedmjkaaBase
namespace Go.Proofs.Ytbeebcocedmjkaa
open Go.RowKit
set_option linter.unusedVariables false
set_option linter.unusedSimpArgs false

/-- what a span is -/
def isB (f t : ByteArray) : Bool := decide ((f.size : Int) ≤ 16) && decide ((t.size : Int) ≤ 16) && (t.toList.isEmpty || !(Op.bytesLess t.toList f.toList || t.toList == f.toList))
/-- what keys a span has -/
def inB (f t k : ByteArray) : Bool := isB f t && decide (1 ≤ (k.size : Int)) && decide ((k.size : Int) ≤ 16) && !(Op.bytesLess k.toList f.toList) && (t.toList.isEmpty || Op.bytesLess k.toList t.toList)
def cutB (f t k : ByteArray) : Bool := inB f t k && !(Op.bytesLess k.toList f.toList || k.toList == f.toList)

theorem spanIs (f t : ByteArray) (w : World) :
    Calls Try.prog 34 #[.agg #[.string f, .string t]] w fun e w' => e = .returned (.bool (isB f t)) ∧ Below w.heap.size w w' := by
  go_enter Try.func34, Try.ntmps34
  go_wp2
  all_goals go_ret
  all_goals refine ⟨ret_bool ?_, ?_⟩
  all_goals first | ((repeat (first | (with_reducible exact Below.refl _ _) | (with_reducible assumption) | ((with_reducible refine b_set ?_ ?_); · (first | omega | (simp; done) | (simp; omega))) | ((with_reducible refine b_alloc ?_ ?_); · (first | omega | (simp; done) | (simp; omega))) | (with_reducible refine Below.drew ?_) | ((with_reducible refine b_call (by assumption) ?_ ?_); · (first | omega | (simp; done) | (simp; omega))))); done) | (simp [isB, *]; done) | (simp [isB, *]; omega)

theorem spanIn (f t k : ByteArray) (w : World) :
    Calls Try.prog 36 #[.agg #[.string f, .string t], .string k] w fun e w' => e = .returned (.bool (inB f t k)) ∧ Below w.heap.size w w' := by
  go_enter Try.func36, Try.ntmps36
  go_wp2_with fail
  refine (spanIs _ _ _).mono ?_
  rintro e w1 ⟨rfl, hb⟩
  obtain ⟨hc, hf⟩ := bcell hb
  go_wp2_with fail
  all_goals go_ret
  all_goals clear hc hf
  all_goals refine ⟨ret_bool ?_, ?_⟩
  all_goals first | ((repeat (first | (with_reducible exact Below.refl _ _) | (with_reducible assumption) | ((with_reducible refine b_set ?_ ?_); · (first | omega | (simp; done) | (simp; omega))) | ((with_reducible refine b_alloc ?_ ?_); · (first | omega | (simp; done) | (simp; omega))) | (with_reducible refine Below.drew ?_) | ((with_reducible refine b_call (by assumption) ?_ ?_); · (first | omega | (simp; done) | (simp; omega))))); done) | (clear hb; simp [inB, *]; done) | (clear hb; simp [inB, *]; omega)

theorem spanCut1 (f t k : ByteArray) (w : World) (h : cutB f t k = true) :
    Calls Try.prog 32 #[.agg #[.string f, .string t], .string k] w fun e w' => e = .returned (.tuple #[.agg #[.string f, .string k], .agg #[.string k, .string t], .bool true]) ∧ Below w.heap.size w w' := by
  simp only [cutB, Bool.and_eq_true, Bool.not_eq_true', Bool.or_eq_false_iff] at h
  obtain ⟨h1, h2, h3⟩ := h
  go_enter Try.func32, Try.ntmps32
  go_wp2_with fail
  refine (spanIn _ _ _ _).mono ?_
  rintro e w1 ⟨rfl, hb⟩
  obtain ⟨hc, hf⟩ := bcell hb
  go_wp2_with fail
  go_region
  all_goals go_wp2
  all_goals refine bodyPost_ret (v := .tuple #[.agg #[.string f, .string k], .agg #[.string k, .string t], .bool true]) (by simp [results, Try.results32, go_sem, hc]) rfl ⟨rfl, ?_⟩
  all_goals clear hc hf
  all_goals ((repeat (first | (with_reducible exact Below.refl _ _) | (with_reducible assumption) | ((with_reducible refine b_set ?_ ?_); · (first | omega | (simp; done) | (simp; omega))) | ((with_reducible refine b_alloc ?_ ?_); · (first | omega | (simp; done) | (simp; omega))) | (with_reducible refine Below.drew ?_) | ((with_reducible refine b_call (by assumption) ?_ ?_); · (first | omega | (simp; done) | (simp; omega))))); done)

theorem spanCut0 (f t k : ByteArray) (w : World) (h : cutB f t k = false) :
    Calls Try.prog 32 #[.agg #[.string f, .string t], .string k] w fun e w' => e = .returned (.tuple #[.agg #[.string ⟨#[]⟩, .string ⟨#[]⟩], .agg #[.string ⟨#[]⟩, .string ⟨#[]⟩], .bool false]) ∧ Below w.heap.size w w' := by
  go_enter Try.func32, Try.ntmps32
  by_cases h2 : (Op.bytesLess k.toList f.toList || k.toList == f.toList) = true
  · go_wp2_with fail
    all_goals refine bodyPost_ret (v := .tuple #[.agg #[.string ⟨#[]⟩, .string ⟨#[]⟩], .agg #[.string ⟨#[]⟩, .string ⟨#[]⟩], .bool false]) (by simp [results, Try.results32, go_sem]) rfl ⟨rfl, ?_⟩
    all_goals ((repeat (first | (with_reducible exact Below.refl _ _) | (with_reducible assumption) | ((with_reducible refine b_set ?_ ?_); · (first | omega | (simp; done) | (simp; omega))) | ((with_reducible refine b_alloc ?_ ?_); · (first | omega | (simp; done) | (simp; omega))) | (with_reducible refine Below.drew ?_) | ((with_reducible refine b_call (by assumption) ?_ ?_); · (first | omega | (simp; done) | (simp; omega))))); done)
  · have h3 : inB f t k = false := by
      cases hi : inB f t k
      · rfl
      · simp_all [cutB]
    simp only [Bool.not_eq_true, Bool.or_eq_false_iff] at h2
    obtain ⟨h4, h5⟩ := h2
    go_wp2_with fail
    refine (spanIn _ _ _ _).mono ?_
    rintro e w1 ⟨rfl, hb⟩
    obtain ⟨hc, hf⟩ := bcell hb
    go_wp2_with fail
    all_goals refine bodyPost_ret (v := .tuple #[.agg #[.string ⟨#[]⟩, .string ⟨#[]⟩], .agg #[.string ⟨#[]⟩, .string ⟨#[]⟩], .bool false]) (by simp [results, Try.results32, go_sem, hc]) rfl ⟨rfl, ?_⟩
    all_goals clear hc hf
    all_goals ((repeat (first | (with_reducible exact Below.refl _ _) | (with_reducible assumption) | ((with_reducible refine b_set ?_ ?_); · (first | omega | (simp; done) | (simp; omega))) | ((with_reducible refine b_alloc ?_ ?_); · (first | omega | (simp; done) | (simp; omega))) | (with_reducible refine Below.drew ?_) | ((with_reducible refine b_call (by assumption) ?_ ?_); · (first | omega | (simp; done) | (simp; omega))))); done)

/-- satrapylaw12.known -/
theorem spanKnown (w : World) : Calls Try.prog 38 #[] w fun e w' => e = .returned (.bool true) ∧ Below w.heap.size w w' := by
  go_enter Try.func38, Try.ntmps38
  go_wp2_with fail
  refine (spanCut1 _ _ _ _ (by decide +kernel)).mono ?_
  rintro e w1 ⟨rfl, hb⟩
  obtain ⟨hc, hf⟩ := bcell hb
  go_wp2_with fail
  go_ret
  have hs := hb.size; (try simp at hs)
  exact ⟨rfl, by ((repeat (first | (with_reducible exact Below.refl _ _) | (with_reducible assumption) | ((with_reducible refine b_set ?_ ?_); · (first | omega | (simp; done) | (simp; omega))) | ((with_reducible refine b_alloc ?_ ?_); · (first | omega | (simp; done) | (simp; omega))) | (with_reducible refine Below.drew ?_) | ((with_reducible refine b_call (by assumption) ?_ ?_); · (first | omega | (simp; done) | (simp; omega))))); done)⟩

/-- a slice of spans that reads as a list -/
def Spans (w : World) (B : Nat) (A : Option Addr) (xs : List (ByteArray × ByteArray)) : Prop :=
  ∀ k (h : k < xs.length), ∃ b o, A = some ⟨b, o, none⟩ ∧ b < B ∧ w.cell? ⟨b, o + k * 2, none⟩ = some (.string xs[k].1) ∧ w.cell? ⟨b, o + k * 2 + 1, none⟩ = some (.string xs[k].2)

def heavyB (xs : List (ByteArray × ByteArray)) : Bool := xs.any fun p => decide (200 < p.1.size) || decide (200 < p.2.size)

theorem heavyB_lt {xs : List (ByteArray × ByteArray)} {k : Nat} (h : k < xs.length) (h1 : (xs.take k).any (fun p => decide (200 < p.1.size) || decide (200 < p.2.size)) = false) (h2 : xs[k].1.size ≤ 200) (h3 : xs[k].2.size ≤ 200) :
    (xs.take (k + 1)).any (fun p => decide (200 < p.1.size) || decide (200 < p.2.size)) = false := by
  rw [List.take_succ_eq_append_getElem h, List.any_append, h1]; simp; omega

theorem spanHeavy (A : Option Addr) (c : Nat) (xs : List (ByteArray × ByteArray)) (w : World) (hl : xs.length ≤ 1000000) (hx : Spans w w.heap.size A xs) :
    Calls Try.prog 31 #[.slice A xs.length c] w fun e w' => e = .returned (.bool (heavyB xs)) ∧ w = w' := by
  have HX := Lib.hid hx
  clear hx
  go_enter Try.func31, Try.ntmps31
  go_wp2
  go_loop [3] (fun i => ∃ k : Nat, k ≤ xs.length ∧ i = .int .i64 k ∧ (xs.take k).any (fun p => decide (200 < p.1.size) || decide (200 < p.2.size)) = false) (fun i => xs.length - (intOf i).toNat)
  case atStart => exact ⟨0, by omega, rfl, by simp⟩
  case round =>
    obtain ⟨k, hk, rfl, ha⟩ := hrel
    by_cases hlt : k < xs.length
    · obtain ⟨b, o, rfl, hb, h1, h2⟩ := HX.out k hlt
      have HA := Lib.hid ha
      clear ha
      by_cases g1 : (200 : Int) < (xs[k].1.size : Int)
      · have g1' : decide ((200 : Int) < (xs[k].1.size : Int)) = true := by simpa using g1
        go_wp2
        go_ret
        exact ⟨ret_bool (by rw [heavyB, eq_comm, List.any_eq_true]; exact ⟨xs[k], List.getElem_mem _, by simp; omega⟩), rfl⟩
      · have g1' : decide ((200 : Int) < (xs[k].1.size : Int)) = false := by simpa using g1
        by_cases g2 : (200 : Int) < (xs[k].2.size : Int)
        · have g2' : decide ((200 : Int) < (xs[k].2.size : Int)) = true := by simpa using g2
          go_wp2
          go_ret
          exact ⟨ret_bool (by rw [heavyB, eq_comm, List.any_eq_true]; exact ⟨xs[k], List.getElem_mem _, by simp; omega⟩), rfl⟩
        · have g2' : decide ((200 : Int) < (xs[k].2.size : Int)) = false := by simpa using g2
          go_wp2
          go_round
          case rel => exact ⟨k + 1, by omega, by go_num, heavyB_lt hlt HA.out (by omega) (by omega)⟩
          case measure => simp [intOf]; omega
    · go_wp2
      go_ret
      have : k = xs.length := by omega
      subst this
      exact ⟨ret_bool (by simpa [heavyB] using ha), rfl⟩

theorem spansOne {w : World} {b : Nat} {f t : ByteArray} (hb : b < w.heap.size) (h1 : w.cell? ⟨b, 0, none⟩ = some (.string f)) (h2 : w.cell? ⟨b, 1, none⟩ = some (.string t)) : Spans w w.heap.size (some ⟨b, 0, none⟩) [(f, t)] := by
  intro k hk
  have : k = 0 := by simp at hk; omega
  subst this
  exact ⟨b, 0, rfl, hb, by simpa using h1, by simpa using h2⟩

theorem spansTwo {w : World} {b : Nat} {f t g u : ByteArray} (hb : b < w.heap.size) (h1 : w.cell? ⟨b, 0, none⟩ = some (.string f)) (h2 : w.cell? ⟨b, 1, none⟩ = some (.string t)) (h3 : w.cell? ⟨b, 2, none⟩ = some (.string g)) (h4 : w.cell? ⟨b, 3, none⟩ = some (.string u)) : Spans w w.heap.size (some ⟨b, 0, none⟩) [(f, t), (g, u)] := by
  intro k hk
  simp at hk
  match k, hk with
  | 0, _ => exact ⟨b, 0, rfl, hb, by simpa using h1, by simpa using h2⟩
  | 1, _ => exact ⟨b, 0, rfl, hb, by simpa using h3, by simpa using h4⟩

theorem spansThree {w : World} {b : Nat} {f t g u i j : ByteArray} (hb : b < w.heap.size) (h1 : w.cell? ⟨b, 0, none⟩ = some (.string f)) (h2 : w.cell? ⟨b, 1, none⟩ = some (.string t)) (h3 : w.cell? ⟨b, 2, none⟩ = some (.string g)) (h4 : w.cell? ⟨b, 3, none⟩ = some (.string u)) (h5 : w.cell? ⟨b, 4, none⟩ = some (.string i)) (h6 : w.cell? ⟨b, 5, none⟩ = some (.string j)) : Spans w w.heap.size (some ⟨b, 0, none⟩) [(f, t), (g, u), (i, j)] := by
  intro k hk
  simp at hk
  match k, hk with
  | 0, _ => exact ⟨b, 0, rfl, hb, by simpa using h1, by simpa using h2⟩
  | 1, _ => exact ⟨b, 0, rfl, hb, by simpa using h3, by simpa using h4⟩
  | 2, _ => exact ⟨b, 0, rfl, hb, by simpa using h5, by simpa using h6⟩

end Go.Proofs.Ytbeebcocedmjkaa
