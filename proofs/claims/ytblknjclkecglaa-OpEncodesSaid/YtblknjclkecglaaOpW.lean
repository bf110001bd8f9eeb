/- octet.Writer's Bytes; texts as bytes. -/
import Derived.Test.YtblknjclkecglaaOctetD
import Derived.Test.YtblknjclkecglaaBlk
import Derived.Lib.ConvBytes
import Derived.Lib.AtoiErrMem
namespace Go.Proofs.Ytblknjclkecglaa
open Go.RowKit
set_option linter.unusedVariables false
set_option linter.unusedSimpArgs false

/-- a slice of slices of bytes that reads as a list -/
def Rws (w : World) (B : Nat) (A : Option Addr) (l : List (List Nat)) : Prop :=
  ∀ k (h : k < l.length), ∃ b o Ak ck, A = some ⟨b, o, none⟩ ∧ b < B ∧ w.cell? ⟨b, o + k, none⟩ = some (.slice Ak l[k].length ck) ∧ Cells w B Ak l[k].length ck 1 (flatU l[k])
def encb (l : List (List Nat)) : List Nat := l.flatMap fun x => enc x.length ++ x
theorem encb_snoc {l : List (List Nat)} {k : Nat} (h : k < l.length) : encb (l.take (k + 1)) = encb (l.take k) ++ (enc l[k].length ++ l[k]) := by
  unfold encb
  rw [List.take_succ_eq_append_getElem h, List.flatMap_append, List.flatMap_singleton]
theorem clamp_nat {n : Nat} (h : n ≤ 1000000) : clamp (n : Int) = n := by unfold clamp; omega
theorem Wr.below {w w' : World} {b base : Nat} {xs : List Nat} (h : Wr w b base xs) (hb : Below w.heap.size w w') : Wr w' b base xs := by
  obtain ⟨⟨s, hs, ho⟩, hf, hl, hh⟩ := h
  have h1 : b < w.heap.size := by omega
  exact ⟨⟨s, bkeep hb hs h1, row_below ho hb⟩, bfree hb hf h1, hl, Nat.le_trans hh hb.size⟩

set_option maxHeartbeats 2000000 in
set_option maxRecDepth 10000 in
theorem wBytes (b base : Nat) (A : Option Addr) (c : Nat) (l : List (List Nat)) (xs : List Nat) (w : World) (hl : l.length ≤ 1000) (h1000 : ∀ x ∈ l, x.length ≤ 10000) (hxs : ∀ k, k ≤ l.length → xs.length + (encb (l.take k)).length ≤ 100000) (hw : Wr w b base xs) (hx : Rws w b A l) :
    Calls Try.prog 21 #[.pointer (some ⟨b, 0, none⟩), .slice A l.length c] w fun e w' => e = .returned (.tuple #[]) ∧ Wr w' b base (xs ++ encb l) ∧ Below b w w' := by
  obtain ⟨i0, hi, hz0, hz1, hz2⟩ := info_parts Try.infoByte
  have HX := Lib.hid hx
  have HW0 := Lib.hid hw
  have H1 := Lib.hid h1000
  have H2 := Lib.hid hxs
  clear hx hw h1000 hxs
  go_enter Try.func21, Try.ntmps21
  go_wp2_with fail
  go_loopw [10] (fun i wr => ∃ k : Nat, k ≤ l.length ∧ i = .int .i64 k ∧ Hid (Wr wr b base (xs ++ encb (l.take k))) ∧ Below b w wr) (fun i _ => l.length - (intOf i).toNat)
  case atStart => exact ⟨0, by omega, rfl, Lib.hid (by simpa [encb] using HW0.out), Below.refl _ _⟩
  case round =>
    obtain ⟨k, hk, rfl, HW, hB⟩ := hrel
    by_cases hlt : k < l.length
    · obtain ⟨b1, o, Ak, ck, rfl, hb, h1, h2⟩ := HX.out k hlt
      replace h1 := bkeep hB h1 hb
      have HC := Lib.hid (cells_keep (B' := b) h2 hB (Nat.le_refl _))
      have hlk : l[k].length ≤ 10000 := H1.out _ (List.getElem_mem _)
      have hq := H2.out k hk
      obtain ⟨⟨s, hs, hown⟩, hfr, hlow, hhigh⟩ := HW.out
      have HO := Lib.hid hown
      have hi1 : (k : Int) < (l.length : Int) := by omega
      clear hown h2
      go_wp2_with fail
      refine (octAppend s _ _ (l[k].length : Int) base _ (by rw [List.length_append]; omega) hhigh HO.out).mono ?_
      rintro e w3 ⟨v3, rfl, hown3, hb3⟩
      have hs3 := hb3.size
      rw [clamp_nat (by omega), ← flatU_app, ← List.length_append] at hown3
      have HO3 := Lib.hid hown3
      have c3 := bkeep hb3 hs hlow
      have f3 := bfree hb3 hfr hlow
      have hB3 : Below b w w3 := hB.trans (hb3.mono (by omega))
      have HC3 := Lib.hid (cells_keep (B' := b) HC.out (hb3.mono (by omega)) (Nat.le_refl _))
      have hen : (enc l[k].length).length ≤ 10 := enc_len (by omega)
      have hln : (xs ++ encb (l.take k) ++ enc l[k].length).length ≤ 200000 := by simp only [List.length_append]; omega
      clear hown3
      go_wp2_with (at_builtin; go_must (refine wpList_append_row rfl (.tmp 21) (.tmp 22) 27 rfl base 5 i0 (.int .u8 0) 1 1 Try.underlying27 hi hz0 hz1 hz2 rfl (by decide) v3 _ _ rfl HO3.out b Ak l[k].length ck (flatU l[k]) rfl HC3.out (flatU_one _) (by unfold maxLen; omega) (by omega) (by omega) ?_); intro v5 w5 hown5 hb5; have c5 := bkeep hb5 c3 hlow; have f5 := bfree hb5 f3 hlow; have hs5 := hb5.size; obtain ⟨A5, cp5, rfl, -, -, -⟩ := row_cells hown5; have HO5 := Lib.hid hown5; clear hown5)
      have e5 : xs ++ encb (l.take k) ++ enc l[k].length ++ l[k] = xs ++ encb (l.take (k + 1)) := by rw [encb_snoc hlt]; simp only [List.append_assoc]
      have hO6 := HO5.out
      rw [← flatU_app, ← List.length_append, e5] at hO6
      have HW6 : Hid (Wr (w5.setCell ⟨b, 0, none⟩ (.slice A5 (xs ++ encb (l.take (k + 1))).length cp5)) b base (xs ++ encb (l.take (k + 1)))) := Lib.hid ⟨⟨_, c_set_same (h_of c5), row_set hO6 hlow _⟩, f_set f5, hlow, by simp; omega⟩
      rw [← e5, List.length_append] at HW6
      rw [e5] at HW6
      simp only [List.append_assoc, List.length_append] at HW6
      clear hO6
      first
        | (go_roundw
           case rel => exact ⟨k + 1, by omega, by go_num, HW6, b_set (Nat.le_refl _) (hB3.trans (hb5.mono (by omega)))⟩
           case measure => simp [intOf]; omega)
        | (refine ⟨⟨k + 1, by omega, by go_num, HW6, b_set (Nat.le_refl _) (hB3.trans (hb5.mono (by omega)))⟩, ?_⟩
           simp [intOf]; omega)
    · have hke : k = l.length := by omega
      subst hke
      have hO := HW.out
      rw [List.take_length] at hO
      have HO := Lib.hid hO
      clear hO
      go_wp2_with fail
      refine bodyPost_end (v := .tuple #[]) (by simp [results, Try.results21, go_sem]) rfl ⟨rfl, HO.out, hB⟩

/-- a text as bytes -/
def bs (s : ByteArray) : List Nat := s.data.toList.map UInt8.toNat
theorem bs_length (s : ByteArray) : (bs s).length = s.size := by simp [bs]
@[go_sem] theorem bw_cell (w : World) (e : TypeId) (s : ByteArray) (n i : Nat) : (Lib.bytesWorld w e s).cell? ⟨n, i, none⟩ = if n < w.heap.size then w.cell? ⟨n, i, none⟩ else cellElse (Lib.bytesWorld w e s) n i := by
  by_cases h : n < w.heap.size
  · rw [if_pos h]; exact Lib.bytesWorld_old w e s ⟨n, i, none⟩ h
  · rw [if_neg h]; rfl
@[go_sem] theorem bw_frozen (w : World) (e : TypeId) (s : ByteArray) (n i : Nat) : (Lib.bytesWorld w e s).frozen? ⟨n, i, none⟩ = if n < w.heap.size then w.frozen? ⟨n, i, none⟩ else frozenElse (Lib.bytesWorld w e s) n i := by
  by_cases h : n < w.heap.size
  · rw [if_pos h]; exact World.frozen?_of_block (w := w) (a := ⟨n, i, none⟩) (Lib.bytesWorld_at_old w e s n h)
  · rw [if_neg h]; rfl
@[simp, go_sem] theorem bw_size (w : World) (e : TypeId) (s : ByteArray) : (Lib.bytesWorld w e s).heap.size = w.heap.size + 1 := Lib.bytesWorld_size w e s
theorem bw_below (w : World) (e : TypeId) (s : ByteArray) : Below w.heap.size w (Lib.bytesWorld w e s) := Lib.bytesWorld_below w e s
theorem bw_cells (w : World) (e : TypeId) (s : ByteArray) (B c : Nat) (hB : w.heap.size < B) : Cells (Lib.bytesWorld w e s) B (some ⟨w.heap.size, 0, none⟩) (bs s).length c 1 (flatU (bs s)) := by
  refine ⟨by simp [flatU], (fun e => by cases e), fun j u hu => ⟨w.heap.size, 0, rfl, hB, ?_⟩⟩
  have hj : j < s.size := by have := (List.getElem?_eq_some_iff.1 hu).1; simpa [flatU, bs_length] using this
  rw [Nat.zero_add, Lib.bytesWorld_cell w e s j hj, ← hu]
  have hj2 : j < s.data.toList.length := by simpa using hj
  simp only [flatU, bs, List.map_map, List.getElem?_map, List.getElem?_eq_getElem hj2, Option.map_some, List.getD, Option.getD_some, Function.comp]

end Go.Proofs.Ytblknjclkecglaa
