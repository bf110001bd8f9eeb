/- Readers: so many bytes, and rows of bytes. Bytes as texts. The document's Bytes, EncodeChange. What purse.Encode and the document's own Encode return. Arguments that are bytes, or numbers, in a slice, opened: their cells. -/
import Derived.OpenShut
import Derived.Deep.SlicePairs
import Derived.Test.YtdlbiobjnohfbaaGreatVd22
import Derived.Test.YtdlbiobjnohfbaaGreatVd23
namespace Go.Proofs.YtdlbiobjnohfbaaGreat
open Go.RowKit
set_option linter.unusedVariables false
set_option linter.unusedSimpArgs false
theorem flatU_take (xs : List Nat) (i : Nat) : flatU (xs.take i) = (flatU xs).take i := by simp [flatU, List.map_take]
theorem cells_takeO {w : World} {ad : Addr} {n c i B : Nat} {xs : List Nat} (h : Cells w B (some ad) n c 1 (flatU xs)) (hi : i ≤ n) (c' : Nat) : Cells w B (some ad) i c' 1 (flatU (xs.take i)) := by
  have hl := h.1
  rw [flatU_length, Nat.mul_one] at hl
  refine ⟨by rw [flatU_length, List.length_take]; omega, (fun e => by cases e), fun k u hu => ?_⟩
  rw [flatU_take, List.getElem?_take] at hu
  split at hu
  · exact h.2.2 k u hu
  · cases hu
theorem cells_mono {w : World} {B B' n c size : Nat} {A : Option Addr} {xs : List Value} (h : Cells w B A n c size xs) (hB : B ≤ B') : Cells w B' A n c size xs :=
  ⟨h.1, h.2.1, fun j u hu => by obtain ⟨q, o, e, hq, hc⟩ := h.2.2 j u hu; exact ⟨q, o, e, by omega, hc⟩⟩
/-- a row of bytes out of what is left -/
def nb (st : Option (List Nat)) : List Nat × Option (List Nat) := match nx st with
  | (n, some r) => if n ≤ r.length then (r.take n, some (r.drop n)) else ([], none)
  | (_, none) => ([], none)
end Go.Proofs.YtdlbiobjnohfbaaGreat
namespace Go.Proofs.YtdlbiobjnohfbaaGreat
open Go.RowKit
set_option linter.unusedVariables false
set_option linter.unusedSimpArgs false
/-- bytes as a text -/
def strU (xs : List Nat) : ByteArray := strOfNums (xs.map fun x : Nat => (x : Int))
theorem own_cases' {w : World} {base : Nat} {v : Value} {xs : List Nat} (h : w.ownsRow base 5 1 v xs.length (flatU xs)) : (v = .slice none 0 0 ∧ xs = []) ∨ ∃ g cap, v = .slice (some ⟨g, 0, none⟩) xs.length cap := by
  rcases h.2 with ⟨hv, h0⟩ | ⟨g, cap, cur, hv, _⟩
  · exact .inl ⟨hv, List.eq_nil_of_length_eq_zero h0⟩
  · exact .inr ⟨g, cap, hv⟩
theorem conv_own {w : World} {base : Nat} {v : Value} {xs : List Nat} (h : w.ownsRow base 5 1 v xs.length (flatU xs)) : (convert 33 9 v).run Tryz.prog w = .ok (.string (strU xs)) w := by
  rcases own_cases' h with ⟨rfl, rfl⟩ | ⟨g, cap, rfl⟩
  · exact run_convert_bytes_nil w _ _ Tryz.underlying33 Tryz.underlying5 0 0 _ Tryz.underlying9
  · refine run_convert_bytes_arg w _ _ Tryz.underlying33 Tryz.underlying5 g 0 _ cap _ (by simp) (fun i hi => ?_) _ Tryz.underlying9
    have := h.cells (g := g) rfl i (.int .u8 (xs[i] : Nat)) (by simp [flatU, hi])
    rw [add_none] at this
    rw [this]
    simp [List.getD, hi]
end Go.Proofs.YtdlbiobjnohfbaaGreat
namespace Go.Proofs.YtdlbiobjnohfbaaGreat
open Go.RowKit
set_option linter.unusedVariables false
set_option linter.unusedSimpArgs false
set_option maxHeartbeats 1000000 in
set_option maxRecDepth 10000 in
theorem refBytes (A : Option Addr) (c n : Nat) (xs : List Nat) (w : World) (hn : xs.length = n) (hl : n ≤ 100000) (hx : ∀ c, Cells w w.heap.size A xs.length c 1 (flatU xs)) :
    Calls Tryz.prog 73 #[.slice A n c] w fun e w' => ∃ v', e = .returned v' ∧ w'.ownsRow w.heap.size 5 1 v' (enc n ++ xs).length (flatU (enc n ++ xs)) ∧ Below w.heap.size w w' := by
  subst hn
  obtain ⟨i0, hi, hz0, hz1, hz2⟩ := info_parts Tryz.infoByte
  have HX := Lib.hid (hx c)
  have hel : (enc xs.length).length ≤ 10 := enc_len (by omega)
  clear hx
  go_enter Tryz.func73, Tryz.ntmps73
  go_wp2_with fail
  refine (refNum (xs.length : Int) _).mono ?_
  rintro e w1 ⟨v1, rfl, hown1, hb1⟩
  rw [clamp_nat (by omega)] at hown1
  have HO1 := Lib.hid hown1
  have HX1 := Lib.hid (cells_keep HX.out hb1 hb1.size)
  have hs1 := hb1.size
  clear hown1
  go_wp2_with (at_builtin; go_must (refine wpList_append_row rfl (.tmp 5) (.tmp 6) 33 rfl w.heap.size 5 i0 (.int .u8 0) 1 1 Tryz.underlying33 hi hz0 hz1 hz2 rfl (by decide) v1 (enc xs.length).length (flatU (enc xs.length)) rfl HO1.out w1.heap.size A xs.length c (flatU xs) rfl HX1.out (flatU_one _) (by unfold maxLen; omega) (by omega) (by (first | omega | (simp; done) | (simp; omega))) ?_); intro v5 w5 hown5 hb5)
  rw [← flatU_app, ← List.length_append] at hown5
  have HO5 := Lib.hid hown5
  clear hown5
  go_ret
  exact ⟨_, rfl, HO5.out, hb1.trans hb5⟩
end Go.Proofs.YtdlbiobjnohfbaaGreat
namespace Go.Proofs.YtdlbiobjnohfbaaGreat
open Go.RowKit
set_option linter.unusedVariables false
set_option linter.unusedSimpArgs false
theorem ints4 {w : World} {b B : Nat} {i0 i1 i2 i3 : Int} (hb : b < B) (h0 : w.cell? ⟨b, 0, none⟩ = some (.int .i64 i0)) (h1 : w.cell? ⟨b, 1, none⟩ = some (.int .i64 i1)) (h2 : w.cell? ⟨b, 2, none⟩ = some (.int .i64 i2)) (h3 : w.cell? ⟨b, 3, none⟩ = some (.int .i64 i3)) : Ints w B (some ⟨b, 0, none⟩) [i0, i1, i2, i3] := by
  intro k hk
  refine ⟨b, 0, rfl, hb, ?_⟩
  rw [Nat.zero_add]
  match k, hk with
  | 0, _ => exact h0
  | 1, _ => exact h1
  | 2, _ => exact h2
  | 3, _ => exact h3
theorem refEncode (i0 i1 i2 i3 : Int) (w : World) :
    Calls Tryz.prog 74 #[.agg #[.int .i64 i0, .int .i64 i1, .int .i64 i2, .int .i64 i3]] w fun e w' => ∃ v', e = .returned v' ∧ w'.ownsRow w.heap.size 5 1 v' (encs [i0, i1, i2, i3]).length (flatU (encs [i0, i1, i2, i3])) ∧ Below w.heap.size w w' := by
  go_enter Tryz.func74, Tryz.ntmps74
  go_wp2_with fail
  refine (refNums (some ⟨w.heap.size + 1, 0, none⟩) 4 [i0, i1, i2, i3] _ (by simp) (ints4 (by (first | omega | (simp; done) | (simp; omega))) (by ((repeat (first | (with_reducible assumption) | ((with_reducible refine c_set_same ?_); ((repeat (first | (with_reducible exact h_of (by assumption)) | (with_reducible assumption) | (with_reducible refine h_set ?_) | ((with_reducible refine h_alloc ?_ ?_); · (first | omega | (simp; done) | (simp; omega))) | ((with_reducible refine h_new ?_ ?_) <;> (first | omega | (simp; done) | (simp; omega))) | (with_reducible refine h_drew ?_) | (with_reducible refine h_drewN ?_) | ((with_reducible refine h_keep (by assumption) ?_ ?_); · (first | omega | (simp; done) | (simp; omega))))); done)) | ((with_reducible refine c_set_other ?_ ?_); · (first | omega | (simp; done) | (simp; omega))) | ((with_reducible refine c_alloc ?_ ?_); · (first | omega | (simp; done) | (simp; omega))) | ((with_reducible refine c_new ?_ ?_) <;> (first | omega | (simp; done) | (simp; omega))) | (with_reducible refine c_drew ?_) | (with_reducible refine c_drewN ?_) | ((with_reducible refine c_keep (by assumption) ?_ ?_); · (first | omega | (simp; done) | (simp; omega))))); done)) (by ((repeat (first | (with_reducible assumption) | ((with_reducible refine c_set_same ?_); ((repeat (first | (with_reducible exact h_of (by assumption)) | (with_reducible assumption) | (with_reducible refine h_set ?_) | ((with_reducible refine h_alloc ?_ ?_); · (first | omega | (simp; done) | (simp; omega))) | ((with_reducible refine h_new ?_ ?_) <;> (first | omega | (simp; done) | (simp; omega))) | (with_reducible refine h_drew ?_) | (with_reducible refine h_drewN ?_) | ((with_reducible refine h_keep (by assumption) ?_ ?_); · (first | omega | (simp; done) | (simp; omega))))); done)) | ((with_reducible refine c_set_other ?_ ?_); · (first | omega | (simp; done) | (simp; omega))) | ((with_reducible refine c_alloc ?_ ?_); · (first | omega | (simp; done) | (simp; omega))) | ((with_reducible refine c_new ?_ ?_) <;> (first | omega | (simp; done) | (simp; omega))) | (with_reducible refine c_drew ?_) | (with_reducible refine c_drewN ?_) | ((with_reducible refine c_keep (by assumption) ?_ ?_); · (first | omega | (simp; done) | (simp; omega))))); done)) (by ((repeat (first | (with_reducible assumption) | ((with_reducible refine c_set_same ?_); ((repeat (first | (with_reducible exact h_of (by assumption)) | (with_reducible assumption) | (with_reducible refine h_set ?_) | ((with_reducible refine h_alloc ?_ ?_); · (first | omega | (simp; done) | (simp; omega))) | ((with_reducible refine h_new ?_ ?_) <;> (first | omega | (simp; done) | (simp; omega))) | (with_reducible refine h_drew ?_) | (with_reducible refine h_drewN ?_) | ((with_reducible refine h_keep (by assumption) ?_ ?_); · (first | omega | (simp; done) | (simp; omega))))); done)) | ((with_reducible refine c_set_other ?_ ?_); · (first | omega | (simp; done) | (simp; omega))) | ((with_reducible refine c_alloc ?_ ?_); · (first | omega | (simp; done) | (simp; omega))) | ((with_reducible refine c_new ?_ ?_) <;> (first | omega | (simp; done) | (simp; omega))) | (with_reducible refine c_drew ?_) | (with_reducible refine c_drewN ?_) | ((with_reducible refine c_keep (by assumption) ?_ ?_); · (first | omega | (simp; done) | (simp; omega))))); done)) (by ((repeat (first | (with_reducible assumption) | ((with_reducible refine c_set_same ?_); ((repeat (first | (with_reducible exact h_of (by assumption)) | (with_reducible assumption) | (with_reducible refine h_set ?_) | ((with_reducible refine h_alloc ?_ ?_); · (first | omega | (simp; done) | (simp; omega))) | ((with_reducible refine h_new ?_ ?_) <;> (first | omega | (simp; done) | (simp; omega))) | (with_reducible refine h_drew ?_) | (with_reducible refine h_drewN ?_) | ((with_reducible refine h_keep (by assumption) ?_ ?_); · (first | omega | (simp; done) | (simp; omega))))); done)) | ((with_reducible refine c_set_other ?_ ?_); · (first | omega | (simp; done) | (simp; omega))) | ((with_reducible refine c_alloc ?_ ?_); · (first | omega | (simp; done) | (simp; omega))) | ((with_reducible refine c_new ?_ ?_) <;> (first | omega | (simp; done) | (simp; omega))) | (with_reducible refine c_drew ?_) | (with_reducible refine c_drewN ?_) | ((with_reducible refine c_keep (by assumption) ?_ ?_); · (first | omega | (simp; done) | (simp; omega))))); done)))).mono ?_
  rintro e w1 ⟨v1, rfl, hown1, hb1⟩
  have hs1 := hb1.size; (try simp at hs1)
  have HO := Lib.hid hown1
  clear hown1
  go_wp2_with fail
  go_ret
  exact ⟨_, rfl, World.ownsRow.mono HO.out (by simp; omega), by ((repeat (first | (with_reducible exact Below.refl _ _) | (with_reducible assumption) | ((with_reducible refine b_set ?_ ?_); · (first | omega | (simp; done) | (simp; omega))) | ((with_reducible refine b_alloc ?_ ?_); · (first | omega | (simp; done) | (simp; omega))) | (with_reducible refine Below.drew ?_) | (with_reducible refine b_drewN ?_) | ((with_reducible refine b_call (by assumption) ?_ ?_); · (first | omega | (simp; done) | (simp; omega))))); done)⟩
end Go.Proofs.YtdlbiobjnohfbaaGreat
namespace Go.Proofs.YtdlbiobjnohfbaaGreat
open Go.RowKit Go.ChangeShapes Go.WideShapes Go.ChangeAt Go.Deep
set_option linter.unusedVariables false
set_option linter.unusedSimpArgs false
theorem ob_lt {w : World} {a : Addr} {v : Value} (h : w.cell? a = some v) : a.block < w.heap.size := by
  unfold World.cell? at h
  cases hb : w.heap[a.block]? with
  | none => rw [hb] at h; cases h
  | some o => exact (Array.getElem?_eq_some_iff.1 hb).1
theorem ob_plain {w : World} {b o : Nat} {s : Option _} {v : Value} (h : w.cell? ⟨b, o, s⟩ = some v) : s = none := by
  have := World.cell?_spot h
  simpa using this
theorem ob_add0 (a : Addr) : a.add 0 = a := by unfold Addr.add; simp
set_option maxRecDepth 100000 in
theorem open_u8s {H : Type} {enc : TypeId × Value → H} {W : World} {base : Nat} {v : Value} {d : DataW H} {p : List MemPlace}
    (hv : Value.okWide Tryz.prog W .any base 33 v) (h : DataW.Trod enc Tryz.prog W 0 (fun _ => true) true 33 v d p) :
    ∃ (A : Option Addr) (c : Nat) (xs : List Nat), v = .slice A xs.length c ∧ xs.length ≤ c ∧ c ≤ maxLen ∧ (∀ x ∈ xs, x < 256) ∧ Cells W W.heap.size A xs.length c 1 (flatU xs) := by
  obtain ⟨A, len, c, rfl⟩ := okWide_slice Tryz.underlying33 hv
  obtain ⟨fuel, hf⟩ := h
  have hC : Tryz.prog.cellsOf 5 = 1 := by kernel_rfl
  rcases open_ints (k := .u8) Tryz.underlying33 Tryz.underlying5 hC hf with ⟨hcs, _⟩ | ⟨a, l, cap, zs, hcs, _, hl, hm, hz, _, hcell, hwf⟩
  · simp [Value.cells] at hcs
    obtain ⟨rfl, rfl, rfl⟩ := hcs
    exact ⟨none, 0, [], rfl, Nat.le_refl _, by unfold maxLen; omega, by simp, ⟨rfl, fun _ => ⟨rfl, rfl⟩, fun j u hu => by simp [flatU] at hu⟩⟩
  · simp [Value.cells] at hcs
    obtain ⟨rfl, rfl, rfl⟩ := hcs
    have hz2 : zs.length = c := by rw [hz]; simp
    have hr : ∀ z ∈ zs, 0 ≤ z ∧ z < 256 := by
      intro z hz'
      have := hwf z hz'
      simp only [Lit.wf, Bool.and_eq_true, decide_eq_true_eq] at this
      have e1 : IntKind.u8.min = 0 := by decide
      have e2 : IntKind.u8.max = 255 := by decide
      rw [e1, e2] at this
      omega
    have hlen : ((zs.take len).map Int.toNat).length = len := by simp; omega
    have hx : ((zs.take len).map Int.toNat).length = len := hlen
    obtain ⟨b, o, s⟩ := a
    refine ⟨some ⟨b, o, s⟩, c, (zs.take len).map Int.toNat, by rw [hlen], by omega, hm, ?_, by simp [flatU], (fun e => by cases e), ?_⟩
    · intro x hx
      simp only [List.mem_map] at hx
      obtain ⟨z, hz3, rfl⟩ := hx
      have := hr z (List.mem_of_mem_take hz3)
      omega
    · intro j u hu
      have hj : j < len := by
        have := (List.getElem?_eq_some_iff.1 hu).1
        simp [flatU] at this; omega
      have e1 := hcell j (by omega)
      have hsp : s = none := by
        have e0 := hcell 0 (by omega)
        rw [ob_add0] at e0
        exact ob_plain e0
      subst hsp
      rw [add_none] at e1
      refine ⟨b, o, rfl, ob_lt e1, ?_⟩
      rw [e1]
      have hjz : j < zs.length := by omega
      simp only [flatU, List.map_map, List.getElem?_map, List.getElem?_take, if_pos hj, List.getElem?_eq_getElem hjz, Option.map_some, Option.some.injEq] at hu
      rw [← hu]
      have := hr zs[j] (List.getElem_mem _)
      simp only [Function.comp, List.getD, List.getElem?_eq_getElem hjz, Option.getD_some]
      congr 2
      omega
end Go.Proofs.YtdlbiobjnohfbaaGreat
