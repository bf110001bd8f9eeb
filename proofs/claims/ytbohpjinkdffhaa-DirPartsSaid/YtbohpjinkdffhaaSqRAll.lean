/- What the document's own answer to span.All returns. -/
import Derived.Test.YtbohpjinkdffhaaSqR
import Derived.Test.YtbohpjinkdffhaaSqP
import Derived.Deep.Light
namespace Go.Proofs.Ytbohpjinkdffhaa
open Go.RowKit
set_option linter.unusedVariables false
set_option linter.unusedSimpArgs false

/-- a slice of spans that reads as a list -/
def Spans (w : World) (B : Nat) (A : Option Addr) (xs : List (ByteArray × ByteArray)) : Prop :=
  ∀ k (h : k < xs.length), ∃ b o, A = some ⟨b, o, none⟩ ∧ b < B ∧ w.cell? ⟨b, o + k * 2, none⟩ = some (.string xs[k].1) ∧ w.cell? ⟨b, o + k * 2 + 1, none⟩ = some (.string xs[k].2)
def goB : Bool → ByteArray → List (ByteArray × ByteArray) → Bool
  | first, u, [] => !first && u.toList.isEmpty
  | first, u, (f, t) :: r => if isB f t && f.toList == u.toList && (first || !u.toList.isEmpty) then goB false t r else false
def allB (xs : List (ByteArray × ByteArray)) : Bool := goB true ⟨#[]⟩ xs
theorem allB_go (xs : List (ByteArray × ByteArray)) : allB xs = goB true ⟨#[]⟩ xs := rfl
theorem goB_cons {first : Bool} {u : ByteArray} {xs : List (ByteArray × ByteArray)} {k : Nat} (h : k < xs.length) : goB first u (xs.drop k) = if isB xs[k].1 xs[k].2 && xs[k].1.toList == u.toList && (first || !u.toList.isEmpty) then goB false xs[k].2 (xs.drop (k + 1)) else false := by
  rw [List.drop_eq_getElem_cons h]
  show goB first u ((xs[k].1, xs[k].2) :: _) = _
  rw [goB]

set_option maxHeartbeats 1000000 in
theorem refAll (A : Option Addr) (c : Nat) (xs : List (ByteArray × ByteArray)) (w : World) (hl : xs.length ≤ 1000000) (hx : Spans w w.heap.size A xs) :
    Calls Try.prog 60 #[.slice A xs.length c] w fun e w' => e = .returned (.bool (allB xs)) ∧ Below w.heap.size w w' := by
  have HX := Lib.hid hx
  clear hx
  go_enter Try.func60, Try.ntmps60
  go_wp2_with fail
  go_loopw [3, 4] (fun u i wr => ∃ (k : Nat) (s : ByteArray), k ≤ xs.length ∧ i = .int .i64 k ∧ u = .string s ∧ Below w.heap.size w wr ∧ Hid (allB xs = goB (decide (k = 0)) s (xs.drop k))) (fun _ i _ => xs.length - (intOf i).toNat)
  case atStart => exact ⟨0, ⟨#[]⟩, by omega, rfl, rfl, Below.refl _ _, by rw [allB_go]; simp [Hid]⟩
  case round =>
    obtain ⟨k, s, hk, rfl, rfl, hB, HC⟩ := hrel
    by_cases hlt : k < xs.length
    · obtain ⟨b, o, rfl, hb, g3, g4⟩ := HX.out k hlt
      replace g3 := bkeep hB g3 hb
      replace g4 := bkeep hB g4 hb
      have hz := hB.size
      have HG := Lib.hid (goB_cons (first := decide (k = 0)) (u := s) hlt)
      go_wp2_with fail
      refine (refIs _ _ _).mono ?_
      rintro e w2 ⟨rfl, hb2⟩
      replace g3 := bkeep hb2 g3 (by omega)
      replace g4 := bkeep hb2 g4 (by omega)
      have hb3 := hB.trans (hb2.mono hz)
      cases hi : isB xs[k].1 xs[k].2
      · go_wp2_with fail
        go_ret
        exact ⟨ret_bool (by rw [HC.out, HG.out, hi]; rfl), hb3⟩
      · cases hq : xs[k].1.toList == s.toList
        · go_wp2_with fail
          go_ret
          exact ⟨ret_bool (by rw [HC.out, HG.out, hi, hq]; rfl), hb3⟩
        · by_cases h0 : k = 0
          · have h1 : k < 1 := by omega
            have H0 := Lib.hid h0
            clear h0
            go_wp2_with fail
            all_goals exact ⟨⟨k + 1, _, by omega, by go_num, rfl, hb3, by unfold Hid; rw [HC.out, HG.out, hi, hq]; simp [H0.out]⟩, by simp [intOf]; omega⟩
          · have h1 : decide ((0 : Int) < (k : Int)) = true := by simp; omega
            cases he : s.toList.isEmpty
            · go_wp2_with fail
              go_roundw
              case rel => exact ⟨k + 1, _, by omega, by go_num, rfl, hb3, by unfold Hid; rw [HC.out, HG.out, hi, hq, he]; simp⟩
              case measure => simp [intOf]; omega
            · go_wp2_with fail
              go_ret
              exact ⟨ret_bool (by rw [HC.out, HG.out, hi, hq, he]; simp [h0]), hb3⟩
    · have hk' : k = xs.length := by omega
      subst hk'
      by_cases h0 : xs.length = 0
      · have h1 : xs.length < 1 := by omega
        have H0 := Lib.hid h0
        clear h0
        go_wp2_with fail
        go_ret
        exact ⟨ret_bool (by rw [HC.out, List.drop_length, H0.out]; simp [goB]), hB⟩
      · have e1 : allB xs = s.toList.isEmpty := by rw [HC.out, List.drop_length]; simp [goB, h0]
        have E1 := Lib.hid e1
        clear e1
        cases he : s.toList.isEmpty
        all_goals go_wp2_with fail
        all_goals go_ret
        all_goals exact ⟨ret_bool (by rw [E1.out, he]), hB⟩

end Go.Proofs.Ytbohpjinkdffhaa
