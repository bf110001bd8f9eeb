/- What the document's own Nums returns; rows behind a call. -/
import Derived.Test.YtblknjclkecglaaOctetB
namespace Go.Proofs.Ytblknjclkecglaa
open Go.RowKit
set_option linter.unusedVariables false
set_option linter.unusedSimpArgs false

/-- a row of the call's own stays so behind a call -/
theorem row_below {w w' : World} {base e size n : Nat} {v : Value} {xs : List Value} (h : w.ownsRow base e size v n xs) (hb : Below w.heap.size w w') : w'.ownsRow base e size v n xs := by
  refine ⟨h.1, ?_⟩
  rcases h.2 with h0 | ⟨g, cap, cur, hv, hg, hh, hr⟩
  · exact .inl h0
  · exact .inr ⟨g, cap, cur, hv, hg, by rw [hb.block g (Array.getElem?_eq_some_iff.1 hh).1]; exact hh, hr⟩
theorem row_cells {w : World} {base e size : Nat} {v : Value} {n : Nat} {xs : List Value} (h : w.ownsRow base e size v n xs) : ∃ A cap, v = .slice A n cap ∧ n ≤ cap ∧ cap ≤ maxLen ∧ Cells w w.heap.size A n cap size xs := by
  rcases h.2 with ⟨hv, h0⟩ | ⟨g, cap, cur, hv, hg, hh, hc, hm, _⟩
  · subst h0
    have hn : xs = [] := List.eq_nil_of_length_eq_zero (by simpa using h.1)
    subst hn
    exact ⟨_, _, hv, Nat.le_refl _, by unfold maxLen; omega, h.1, fun _ => ⟨rfl, rfl⟩, fun j u hu => by simp at hu⟩
  · subst hv
    have hlt : g < w.heap.size := (Array.getElem?_eq_some_iff.1 hh).1
    refine ⟨_, _, rfl, hc, hm, h.1, (fun e => by cases e), fun j u hu => ⟨g, 0, rfl, hlt, ?_⟩⟩
    have := h.cells (g := g) rfl j u hu
    rw [add_none] at this
    exact this

/-- a slice of integers that reads as a list -/
def Ints (w : World) (B : Nat) (A : Option Addr) (l : List Int) : Prop :=
  ∀ k (h : k < l.length), ∃ b o, A = some ⟨b, o, none⟩ ∧ b < B ∧ w.cell? ⟨b, o + k, none⟩ = some (.int .i64 l[k])
def encs (l : List Int) : List Nat := l.flatMap fun n => enc (clamp n)
theorem clamp_le (n : Int) : clamp n ≤ 4611686018427387904 := by unfold clamp; omega
theorem encs_snoc {l : List Int} {k : Nat} (h : k < l.length) : encs (l.take (k + 1)) = encs (l.take k) ++ enc (clamp l[k]) := by
  unfold encs
  rw [List.take_succ_eq_append_getElem h, List.flatMap_append, List.flatMap_singleton]
theorem encs_len (l : List Int) : (encs l).length ≤ 10 * l.length := by
  induction l with
  | nil => simp [encs]
  | cons n r ih =>
    have := enc_len (clamp_le n)
    simp only [encs, List.flatMap_cons, List.length_append, List.length_cons] at ih ⊢
    omega

set_option maxHeartbeats 1000000 in
set_option maxRecDepth 10000 in
theorem refNums (A : Option Addr) (c : Nat) (l : List Int) (w : World) (hl : l.length ≤ 1000) (hx : Ints w w.heap.size A l) :
    Calls Try.prog 23 #[.slice A l.length c] w fun e w' => ∃ v', e = .returned v' ∧ w'.ownsRow w.heap.size 5 1 v' (encs l).length (flatU (encs l)) ∧ Below w.heap.size w w' := by
  obtain ⟨i0, hi, hz0, hz1, hz2⟩ := info_parts Try.infoByte
  have HX := Lib.hid hx
  clear hx
  go_enter Try.func23, Try.ntmps23
  go_wp2_with fail
  go_loopw [3, 4] (fun s i wr => ∃ k : Nat, k ≤ l.length ∧ i = .int .i64 k ∧ Hid (wr.ownsRow w.heap.size 5 1 s (encs (l.take k)).length (flatU (encs (l.take k)))) ∧ Below w.heap.size w wr) (fun _ i _ => l.length - (intOf i).toNat)
  case atStart => exact ⟨0, by omega, rfl, Lib.hid (by simpa [encs, flatU] using World.ownsRow_nil _ _ _ _), Below.refl _ _⟩
  case round =>
    obtain ⟨k, hk, rfl, HW, hB⟩ := hrel
    have hBs := hB.size
    by_cases hlt : k < l.length
    · obtain ⟨b, o, rfl, hb, h1⟩ := HX.out k hlt
      replace h1 := bkeep hB h1 hb
      have hq : (encs (l.take k)).length ≤ 10000 := by have := encs_len (l.take k); rw [List.length_take] at this; omega
      have hq2 : (enc (clamp l[k])).length ≤ 10 := enc_len (clamp_le _)
      go_wp2_with fail
      refine (refNum _ _).mono ?_
      rintro e w3 ⟨v3, rfl, hown3, hb3⟩
      have hs3 := hb3.size
      obtain ⟨A3, c3, rfl, hc3, hm3, hx3⟩ := row_cells hown3
      have HX3 := Lib.hid hx3
      have HR := Lib.hid (row_below HW.out hb3)
      have hB3 : Below w.heap.size w w3 := hB.trans (hb3.mono hBs)
      have hBs3 := hB3.size
      clear hx3 hown3
      go_wp2_with (at_builtin; go_must (refine wpList_append_row rfl (.tmp 11) (.tmp 16) 27 rfl w.heap.size 5 i0 (.int .u8 0) 1 1 Try.underlying27 hi hz0 hz1 hz2 rfl (by decide) _ (encs (l.take k)).length (flatU (encs (l.take k))) rfl HR.out w3.heap.size A3 (enc (clamp l[k])).length c3 (flatU (enc (clamp l[k]))) rfl HX3.out (flatU_one _) (by unfold maxLen; omega) (by omega) (by (first | omega | (simp; done) | (simp; omega))) ?_); intro v5 w5 hown5 hb5)
      rw [← flatU_app, ← encs_snoc hlt, ← List.length_append, ← encs_snoc hlt] at hown5
      first
        | (go_roundw
           case rel => exact ⟨k + 1, by omega, by go_num, Lib.hid hown5, hB3.trans hb5⟩
           case measure => simp [intOf]; omega)
        | (refine ⟨⟨k + 1, by omega, by go_num, Lib.hid hown5, hB3.trans hb5⟩, ?_⟩
           simp [intOf]; omega)
    · have hke : k = l.length := by omega
      subst hke
      have hO := HW.out
      rw [List.take_length] at hO
      have HO := Lib.hid hO
      clear hO
      go_wp2_with fail
      go_ret
      exact ⟨_, rfl, HO.out, hB⟩

end Go.Proofs.Ytblknjclkecglaa
