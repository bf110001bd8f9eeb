/- What octet.Writer's Nums and Out do. -/
import Derived.Test.YtblknjclkecglaaOctetC
import Derived.Deep.Heap
namespace Go.Proofs.Ytblknjclkecglaa
open Go.RowKit
set_option linter.unusedVariables false
set_option linter.unusedSimpArgs false

theorem row_set {w : World} {base e size n : Nat} {v : Value} {xs : List Value} (h : w.ownsRow base e size v n xs) {a : Addr} (ha : a.block < base) (u : Value) : (w.setCell a u).ownsRow base e size v n xs := by
  refine ⟨h.1, ?_⟩
  rcases h.2 with h0 | ⟨g, cap, cur, hv, hg, hh, hr⟩
  · exact .inl h0
  · exact .inr ⟨g, cap, cur, hv, hg, by rw [Go.Deep.blk_setCell_other w a u g (by omega)]; exact hh, hr⟩

/-- a Writer at block b, what it has laid in a row of its own from base on -/
structure Wr (w : World) (b base : Nat) (xs : List Nat) : Prop where
  row : ∃ s, w.cell? ⟨b, 0, none⟩ = some s ∧ w.ownsRow base 5 1 s xs.length (flatU xs)
  free : w.frozen? ⟨b, 0, none⟩ = false
  low : b < base
  high : base ≤ w.heap.size

set_option maxHeartbeats 1000000 in
set_option maxRecDepth 10000 in
theorem wNums (b base : Nat) (A : Option Addr) (c : Nat) (l : List Int) (xs : List Nat) (w : World) (hl : l.length ≤ 1000) (hxs : xs.length ≤ 100000) (hw : Wr w b base xs) (hx : Ints w b A l) :
    Calls Try.prog 20 #[.pointer (some ⟨b, 0, none⟩), .slice A l.length c] w fun e w' => e = .returned (.tuple #[]) ∧ Wr w' b base (xs ++ encs l) ∧ Below b w w' := by
  have HX := Lib.hid hx
  have HW0 := Lib.hid hw
  clear hx hw
  go_enter Try.func20, Try.ntmps20
  go_wp2_with fail
  go_loopw [10] (fun i wr => ∃ k : Nat, k ≤ l.length ∧ i = .int .i64 k ∧ Hid (Wr wr b base (xs ++ encs (l.take k))) ∧ Below b w wr) (fun i _ => l.length - (intOf i).toNat)
  case atStart => exact ⟨0, by omega, rfl, Lib.hid (by simpa [encs] using HW0.out), Below.refl _ _⟩
  case round =>
    obtain ⟨k, hk, rfl, HW, hB⟩ := hrel
    by_cases hlt : k < l.length
    · obtain ⟨b1, o, rfl, hb, h1⟩ := HX.out k hlt
      replace h1 := bkeep hB h1 hb
      have hq : (encs (l.take k)).length ≤ 10000 := by have := encs_len (l.take k); rw [List.length_take] at this; omega
      obtain ⟨⟨s, hs, hown⟩, hfr, hlow, hhigh⟩ := HW.out
      have HO := Lib.hid hown
      clear hown
      go_wp2_with fail
      refine (octAppend s _ _ l[k] base _ (by rw [List.length_append]; omega) hhigh HO.out).mono ?_
      rintro e w3 ⟨v3, rfl, hown3, hb3⟩
      have hs3 := hb3.size
      rw [← flatU_app, List.append_assoc, ← encs_snoc hlt, ← List.length_append, List.append_assoc, ← encs_snoc hlt] at hown3
      obtain ⟨A3, cp3, rfl, _, _, _⟩ := row_cells hown3
      have c3 := bkeep hb3 hs hlow
      have f3 := bfree hb3 hfr hlow
      have hB3 : Below b w w3 := hB.trans (hb3.mono (by omega))
      have HW3 : Hid (Wr (w3.setCell ⟨b, 0, none⟩ (.slice A3 (xs ++ encs (l.take (k + 1))).length cp3)) b base (xs ++ encs (l.take (k + 1)))) := Lib.hid ⟨⟨_, c_set_same (h_of c3), row_set hown3 hlow _⟩, f_set f3, hlow, by simp; omega⟩
      rw [List.length_append] at HW3
      clear hown3
      go_wp2_with fail
      first
        | (go_roundw
           case rel => exact ⟨k + 1, by omega, by go_num, HW3, b_set (Nat.le_refl _) hB3⟩
           case measure => simp [intOf]; omega)
        | (refine ⟨⟨k + 1, by omega, by go_num, HW3, b_set (Nat.le_refl _) hB3⟩, ?_⟩
           simp [intOf]; omega)
    · have hke : k = l.length := by omega
      subst hke
      have hO := HW.out
      rw [List.take_length] at hO
      have HO := Lib.hid hO
      clear hO
      go_wp2_with fail
      refine bodyPost_end (v := .tuple #[]) (by simp [results, Try.results20, go_sem]) rfl ⟨rfl, HO.out, hB⟩

set_option maxHeartbeats 1000000 in
set_option maxRecDepth 10000 in
theorem wOut (b base : Nat) (xs : List Nat) (w : World) (hxs : xs.length ≤ 1000000) (hw : Wr w b base xs) :
    Calls Try.prog 22 #[.pointer (some ⟨b, 0, none⟩)] w fun e w' => ∃ v', e = .returned v' ∧ w'.ownsRow w.heap.size 5 1 v' xs.length (flatU xs) ∧ Below w.heap.size w w' := by
  obtain ⟨⟨s, hs, hown⟩, hfr, hlow, hhigh⟩ := hw
  obtain ⟨A, cap, rfl, hc, hm, hx⟩ := row_cells hown
  have HX := Lib.hid hx
  clear hx hown
  go_enter Try.func22, Try.ntmps22
  cases A with
  | none =>
    go_wp2_with fail
    refine (octClone0 _ _ _).mono ?_
    rintro e w1 ⟨rfl, rfl⟩
    go_wp2_with fail
    go_ret
    have h0 := (HX.out.2.1 rfl).1
    refine ⟨_, rfl, ?_, Below.refl _ _⟩
    obtain rfl : xs = [] := List.eq_nil_of_length_eq_zero h0
    exact World.ownsRow_nil _ _ _ _
  | some ad =>
    go_wp2_with fail
    refine (octClone1 ad _ _ _ _ hxs HX.out (flatU_one _)).mono ?_
    rintro e w1 ⟨v1, rfl, hown1, hb1⟩
    have HO := Lib.hid hown1
    clear hown1
    go_wp2_with fail
    go_ret
    exact ⟨_, rfl, HO.out, hb1⟩

end Go.Proofs.Ytblknjclkecglaa
