/- octet's Writer.Bytes, with frames by touched blocks. -/
import Derived.Test.YtblknjclkecglaaOctetW
import Derived.Test.YtblknjclkecglaaOpW
namespace Go.Proofs.Ytblknjclkecglaa
open Go.RowKit
set_option linter.unusedVariables false
set_option linter.unusedSimpArgs false

/-- a slice of slices of bytes that reads as a list, apart from a Writer -/
def RowsAt (w : World) (b : Nat) (A : Option Addr) (l : List (List Nat)) : Prop :=
  ∀ k (h : k < l.length), ∃ q o Ak ck, A = some ⟨q, o, none⟩ ∧ ¬ WD w b q ∧ w.cell? ⟨q, o + k, none⟩ = some (.slice Ak l[k].length ck) ∧ Cells w w.heap.size Ak l[k].length ck 1 (flatU l[k]) ∧ ∀ a, Ak = some a → ¬ WD w b a.block

set_option maxHeartbeats 2000000 in
set_option maxRecDepth 10000 in
theorem wBytesT (b base : Nat) (A : Option Addr) (c : Nat) (l : List (List Nat)) (xs : List Nat) (w : World) (hl : l.length ≤ 1000) (h1000 : ∀ x ∈ l, x.length ≤ 10000) (hxs : ∀ k, k ≤ l.length → xs.length + (encb (l.take k)).length ≤ 100000) (hw : Wr w b base xs) (hx : RowsAt w b A l) :
    Calls Try.prog 21 #[.pointer (some ⟨b, 0, none⟩), .slice A l.length c] w fun e w' => e = .returned (.tuple #[]) ∧ Wr w' b base (xs ++ encb l) ∧ Touch (WD w b) w w' ∧ WNear w b w' := by
  obtain ⟨i0, hi, hz0, hz1, hz2⟩ := info_parts Try.infoByte
  have HX := Lib.hid hx
  have HW0 := Lib.hid hw
  have H1 := Lib.hid h1000
  have H2 := Lib.hid hxs
  clear hx hw h1000 hxs
  go_enter Try.func21, Try.ntmps21
  go_wp2_with fail
  go_loopw [10] (fun i wr => ∃ k : Nat, k ≤ l.length ∧ i = .int .i64 k ∧ Hid (Wr wr b base (xs ++ encb (l.take k))) ∧ Hid (Touch (WD w b) w wr) ∧ Hid (WNear w b wr)) (fun i _ => l.length - (intOf i).toNat)
  case atStart => exact ⟨0, by omega, rfl, Lib.hid (by simpa [encb] using HW0.out), Lib.hid (Touch.refl _ _), Lib.hid (WNear.refl _ _)⟩
  case round =>
    obtain ⟨k, hk, rfl, HW, HT, HN⟩ := hrel
    by_cases hlt : k < l.length
    · obtain ⟨b1, o, Ak, ck, rfl, hb, h1, h2, h2b⟩ := HX.out k hlt
      replace h1 := HT.out.cell h1 hb
      have hsz := HT.out.size
      have hC0 := HT.out.cells h2 h2b
      have hlk : l[k].length ≤ 10000 := H1.out _ (List.getElem_mem _)
      have hq := H2.out k hk
      obtain ⟨⟨s, hs, hown⟩, hfr, hlow, hhigh⟩ := HW.out
      have HO := Lib.hid hown
      have hi1 : (k : Int) < (l.length : Int) := by omega
      have hsb : ¬ s.ownBlock = some b := fun e => by have := (hown.lt b e).1; omega
      have hAs : ∀ a, Ak = some a → a.block < w.heap.size → ¬ s.ownBlock = some a.block := fun a ha hlt2 e => h2b a ha (Or.inr (HN.out.old _ hlt2 ((wrow_of hs).trans e)))
      have hAl : l[k].length ≠ 0 → ∀ a, Ak = some a → a.block < w.heap.size := by
        intro hne a ha
        have hpos : 0 < (flatU l[k]).length := by simp [flatU]; omega
        obtain ⟨bb, oo, ee, hlt3, _⟩ := h2.2.2 0 _ (List.getElem?_eq_getElem hpos)
        rw [ee] at ha; injection ha with ha; subst ha; exact hlt3
      have hC1 : ∀ W, Touch (fun k => s.ownBlock = some k) wr W → Cells W w.heap.size Ak l[k].length ck 1 (flatU l[k]) := by
        intro W ht
        refine ⟨hC0.1, hC0.2.1, fun j u hu => ?_⟩
        obtain ⟨bb, oo, ee, hlt3, hcc⟩ := hC0.2.2 j u hu
        exact ⟨bb, oo, ee, hlt3, ht.cell hcc (hAs _ ee hlt3)⟩
      have HC1 := Lib.hid hC1
      clear hown h2 hC0 hC1 hAl hAs
      go_wp2_with fail
      refine (octAppendT s _ _ (l[k].length : Int) base _ (by rw [List.length_append]; omega) hhigh HO.out).mono ?_
      rintro e w3 ⟨v3, rfl, hown3, ht3, hn3⟩
      have hs3 := ht3.size
      rw [clamp_nat (by omega), ← flatU_app, ← List.length_append] at hown3
      have HO3 := Lib.hid hown3
      have c3 := ht3.cell hs hsb
      have f3 := ht3.frozen (by omega) hfr hsb
      have HC3 := Lib.hid (HC1.out w3 ht3)
      have hen : (enc l[k].length).length ≤ 10 := enc_len (by omega)
      have hln : (xs ++ encb (l.take k) ++ enc l[k].length).length ≤ 200000 := by simp only [List.length_append]; omega
      have hsb3 : ¬ v3.ownBlock = some b := fun e => by have := (hown3.lt b e).1; omega
      have HT3 := Lib.hid (HT.out.trans ht3 (fun n h1 h2 => (Or.inr (HN.out.old n h1 ((wrow_of hs).trans h2)) : WD w b n)))
      have HN3 := Lib.hid hn3
      clear hown3 hn3
      go_wp2_with (at_builtin; go_must (refine wpList_append_touch rfl (.tmp 21) (.tmp 22) 27 rfl base 5 i0 (.int .u8 0) 1 1 Try.underlying27 hi hz0 hz1 hz2 rfl (by decide) v3 _ _ rfl HO3.out w.heap.size Ak l[k].length ck (flatU l[k]) rfl HC3.out (flatU_one _) (by unfold maxLen; omega) (by omega) (by omega) ?_); intro v5 w5 hown5 ht5 hl5; have c5 := ht5.cell c3 hsb3; have f5 := ht5.frozen (by omega) f3 hsb3; have hs5 := ht5.size; have HN5 := Lib.hid (HN3.out.step hs3 hl5); have HT5 := Lib.hid (HT3.out.trans ht5 (fun n h1 h2 => (Or.inr (HN.out.old n h1 ((wrow_of hs).trans (HN3.out.old n (by omega) h2))) : WD w b n))); obtain ⟨A5, cp5, rfl, -, -, -⟩ := row_cells hown5; have HO5 := Lib.hid hown5; clear hown5)
      have e5 : xs ++ encb (l.take k) ++ enc l[k].length ++ l[k] = xs ++ encb (l.take (k + 1)) := by rw [encb_snoc hlt]; simp only [List.append_assoc]
      have hO6 := HO5.out
      rw [← flatU_app, ← List.length_append, e5] at hO6
      have hN5 := HN5.out
      rw [← List.length_append, e5] at hN5
      have HW6 : Hid (Wr (w5.setCell ⟨b, 0, none⟩ (.slice A5 (xs ++ encb (l.take (k + 1))).length cp5)) b base (xs ++ encb (l.take (k + 1)))) := Lib.hid ⟨⟨_, c_set_same (h_of c5), row_set hO6 hlow _⟩, f_set f5, hlow, by simp; omega⟩
      have HT6 : Hid (Touch (WD w b) w (w5.setCell ⟨b, 0, none⟩ (.slice A5 (xs ++ encb (l.take (k + 1))).length cp5))) := Lib.hid (HT5.out.set (fun _ => Or.inl rfl))
      have HN6 : Hid (WNear w b (w5.setCell ⟨b, 0, none⟩ (.slice A5 (xs ++ encb (l.take (k + 1))).length cp5))) := Lib.hid (HN.out.step (w2 := w5) hsz hs hN5 (c_set_same (h_of c5)))
      rw [← e5, List.length_append] at HW6 HT6 HN6
      rw [e5] at HW6
      simp only [List.append_assoc, List.length_append] at HW6 HT6 HN6
      clear hO6 hN5
      first
        | (go_roundw
           case rel => exact ⟨k + 1, by omega, by go_num, HW6, HT6, HN6⟩
           case measure => simp [intOf]; omega)
        | (refine ⟨⟨k + 1, by omega, by go_num, HW6, HT6, HN6⟩, ?_⟩
           simp [intOf]; omega)
    · have hke : k = l.length := by omega
      subst hke
      have hO := HW.out
      rw [List.take_length] at hO
      have HO := Lib.hid hO
      clear hO
      go_wp2_with fail
      refine bodyPost_end (v := .tuple #[]) (by simp [results, Try.results21, go_sem]) rfl ⟨rfl, HO.out, HT.out, HN.out⟩

end Go.Proofs.Ytblknjclkecglaa
