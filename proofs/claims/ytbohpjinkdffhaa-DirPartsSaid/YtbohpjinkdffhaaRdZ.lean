/- The law DirParts: behind any changes the zones have each key just once, and it is found in its zone. -/
import Derived.Test.YtbohpjinkdffhaaRdW
namespace Go.Proofs.Ytbohpjinkdffhaa
open Go.RowKit
set_option linter.unusedVariables false
set_option linter.unusedSimpArgs false

theorem hosts3b {w : World} : Cells (w.alloc (.cells #[.int .i64 8, .int .i64 9, .int .i64 10] 3)) (w.alloc (.cells #[.int .i64 8, .int .i64 9, .int .i64 10] 3)).heap.size (some ⟨w.heap.size, 0, none⟩) ([8, 9, 10] : List Int).length 3 1 (intsV [8, 9, 10]) := by
  have h := World.ownsRow_lit (base := w.heap.size) (e := 3) (size := 1) w #[.int .i64 8, .int .i64 9, .int .i64 10] 3 (Nat.le_refl _) (by unfold maxLen; omega) rfl
  refine ⟨rfl, (fun h => nomatch h), fun j u hj => ⟨w.heap.size, 0, rfl, by simp, ?_⟩⟩
  rw [Nat.zero_add, h.cellAt j (by have := (List.getElem?_eq_some_iff.1 hj).1; simpa [intsV] using this)]
  exact hj
/-- of spans that have each key just once: how many have it -/
theorem cnt_step {k f t : ByteArray} {r : List (ByteArray × ByteArray)} (h1 : 1 ≤ k.size) (h2 : k.size ≤ 16) (hi : isB f t = true) (hf : Op.bytesLess k.toList f.toList = false) (ih : (r.filter fun p => inB p.1 p.2 k).length = if t.toList.isEmpty || Op.bytesLess k.toList t.toList then 0 else 1) :
    (((f, t) :: r).filter fun p => inB p.1 p.2 k).length = 1 := by
  by_cases ht : (t.toList.isEmpty || Op.bytesLess k.toList t.toList) = true
  · have hin : inB f t k = true := inB_iff.2 ⟨hi, h1, h2, hf, by simpa using ht⟩
    rw [List.filter_cons_of_pos (by exact hin), List.length_cons, ih, if_pos ht]
  · have hin : ¬ inB f t k = true := fun h => ht (by have := (inB_iff.1 h).2.2.2.2; simpa using this)
    rw [List.filter_cons_of_neg (by exact hin), ih, if_neg ht]
theorem cnt_go {k : ByteArray} (h1 : 1 ≤ k.size) (h2 : k.size ≤ 16) : ∀ (xs : List (ByteArray × ByteArray)) (u : ByteArray), goB false u xs = true → (xs.filter fun p => inB p.1 p.2 k).length = if u.toList.isEmpty || Op.bytesLess k.toList u.toList then 0 else 1
  | [], u, h => by
    have : u.toList.isEmpty = true := by simpa [goB] using h
    rw [this]; rfl
  | (f, t) :: r, u, h => by
    obtain ⟨hi, hfu, hne, hr⟩ := goB_step h
    have ih := cnt_go h1 h2 r t hr
    have hue : u.toList.isEmpty = false := by simpa using hne
    cases hl : Op.bytesLess k.toList u.toList with
    | false =>
      rw [hue]
      exact cnt_step h1 h2 hi (by rw [hfu]; exact hl) ih
    | true =>
      have hin : ¬ inB f t k = true := fun h => by have := (inB_iff.1 h).2.2.2.1; rw [hfu, hl] at this; cases this
      rw [List.filter_cons_of_neg (by exact hin), ih]
      have ht : (t.toList.isEmpty || Op.bytesLess k.toList t.toList) = true := by
        rcases (isB_iff.1 hi).2.2 with h | h
        · rw [h]; rfl
        · rw [hfu] at h
          rw [less_trans hl h, Bool.or_true]
      rw [if_pos ht]
      simp
theorem cnt_all {k : ByteArray} (h1 : 1 ≤ k.size) (h2 : k.size ≤ 16) {xs : List (ByteArray × ByteArray)} (h : allB xs = true) : (xs.filter fun p => inB p.1 p.2 k).length = 1 := by
  unfold allB at h
  cases xs with
  | nil => simp [goB] at h
  | cons p r =>
    obtain ⟨f, t⟩ := p
    obtain ⟨hi, hfu, _, hr⟩ := goB_step h
    exact cnt_step h1 h2 hi (by rw [hfu, show (⟨#[]⟩ : ByteArray).toList = [] from by decide +kernel]; exact less_nil _) (cnt_go h1 h2 r t hr)
def cntB (k : ByteArray) (l : List Zn) : Nat := (l.filter fun z => inB z.fr z.tt k).length
theorem cntB_all {k : ByteArray} (h1 : 1 ≤ k.size) (h2 : k.size ≤ 16) {l : List Zn} (h : allB (spansZ l) = true) : cntB k l = 1 := by
  have := cnt_all h1 h2 h
  unfold spansZ at this
  rw [List.filter_map, List.length_map] at this
  exact this
theorem cntB_snoc (k : ByteArray) {l : List Zn} {i : Nat} (h : i < l.length) : cntB k (l.take (i + 1)) = cntB k (l.take i) + if inB l[i].fr l[i].tt k = true then 1 else 0 := by
  unfold cntB
  rw [List.take_add_one, List.getElem?_eq_getElem h, List.filter_append, List.length_append]
  by_cases hk : inB l[i].fr l[i].tt k = true <;> simp [hk]
theorem cntB_le (k : ByteArray) (l : List Zn) : cntB k l ≤ l.length := List.length_filter_le _ _
theorem first_of (P : Zn → Bool) : ∀ (l : List Zn), (l.filter P).length = 1 → ∃ (i : Nat) (h : i < l.length), P l[i] = true ∧ ∀ j (hj : j < l.length), j < i → P l[j] = false
  | [], h => by simp at h
  | a :: r, h => by
    cases ha : P a with
    | true => exact ⟨0, Nat.succ_pos _, ha, fun j hj h => absurd h (Nat.not_lt_zero _)⟩
    | false =>
      rw [List.filter_cons_of_neg (by rw [ha]; decide)] at h
      obtain ⟨i, hi, h1, h2⟩ := first_of P r h
      refine ⟨i + 1, by simpa using hi, by simpa using h1, fun j hj hji => ?_⟩
      cases j with
      | zero => exact ha
      | succ j => simpa using h2 j (by simpa using hj) (by omega)
set_option maxHeartbeats 8000000 in
set_option maxRecDepth 10000 in
theorem drFind (B d i : Nat) (hv zv : Value) (hosts : List Int) (m : Mp) (key : ByteArray) (hi : i < m.zs.length) (w : World) (h : DrH w B d hv zv hosts m) (hl : m.zs.length ≤ 1000) (hin : inB m.zs[i].fr m.zs[i].tt key = true) (hno : ∀ j (hj : j < m.zs.length), j < i → inB m.zs[j].fr m.zs[j].tt key = false) :
    Calls Try.prog 14 #[.pointer (some ⟨d, 0, none⟩), .string key] w fun e w' => e = .returned (.tuple #[.agg #[.int .i64 m.zs[i].id, .string m.zs[i].fr, .string m.zs[i].tt, .int .i64 m.zs[i].ow, .int .i64 m.zs[i].ep, .int .i64 m.zs[i].pd, .int .i64 m.zs[i].mv, .string m.zs[i].ky, .int .i64 m.zs[i].nw], .bool true]) ∧ Below w.heap.size w w' := by
  have HIN := Lib.hid hin
  have HNO := Lib.hid hno
  have k3 := h.blk.cell 3
  simp only [List.getElem?_toArray, List.getElem?_cons_succ, List.getElem?_cons_zero] at k3
  obtain ⟨gz, cc, hzv, _, hgz, hnc, hcm⟩ := own_form h.row (by omega)
  subst hzv
  have HR := Lib.hid h.row
  have hdl := h.blk.low
  clear h hin hno
  go_enter Try.func14, Try.ntmps14
  go_wp2_with fail
  have hT : Whl (w.alloc (.cells #[.int .i64 0, .string ⟨#[]⟩, .string ⟨#[]⟩, .int .i64 0, .int .i64 0, .int .i64 0, .int .i64 0, .string ⟨#[]⟩, .int .i64 0] 39)) w.heap.size 39 #[.int .i64 0, .string ⟨#[]⟩, .string ⟨#[]⟩, .int .i64 0, .int .i64 0, .int .i64 0, .int .i64 0, .string ⟨#[]⟩, .int .i64 0] := Whl.new (by (try simp))
  have HWV : Hid (Below w.heap.size w (w.alloc (.cells #[.int .i64 0, .string ⟨#[]⟩, .string ⟨#[]⟩, .int .i64 0, .int .i64 0, .int .i64 0, .int .i64 0, .string ⟨#[]⟩, .int .i64 0] 39))) := Lib.hid (by ((repeat (first | (with_reducible exact Below.refl _ _) | (with_reducible assumption) | ((with_reducible refine b_set ?_ ?_); · (first | omega | (simp; done) | (simp; omega))) | ((with_reducible refine b_alloc ?_ ?_); · (first | omega | (simp; done) | (simp; omega))) | (with_reducible refine Below.drew ?_) | (with_reducible refine b_drewN ?_) | ((with_reducible refine b_call (by assumption) ?_ ?_); · (first | omega | (simp; done) | (simp; omega))))); done))
  have hTV := hT.low
  have HT := Lib.hid hT
  have hwV := HWV.out.size
  clear hT
  generalize (w.alloc (.cells #[.int .i64 0, .string ⟨#[]⟩, .string ⟨#[]⟩, .int .i64 0, .int .i64 0, .int .i64 0, .int .i64 0, .string ⟨#[]⟩, .int .i64 0] 39)) = V at *
  go_loopw [17] (fun iv wr => ∃ k : Nat, k ≤ i ∧ iv = .int .i64 k ∧ Below V.heap.size V wr) (fun iv _ => i + 1 - (intOf iv).toNat)
  case atStart => exact ⟨0, Nat.zero_le _, rfl, Below.refl _ _⟩
  case round =>
    obtain ⟨k, hki, rfl, hBk⟩ := hrel
    have HBK := Lib.hid hBk
    have q3 : (k : Int) < (m.zs.length : Int) := by omega
    have hkl : k < m.zs.length := by omega
    have hr := row_belowZ HR.out (HWV.out.trans (hBk.mono hwV))
    obtain ⟨z, hz⟩ : ∃ z, z = m.zs[k] := ⟨_, rfl⟩
    obtain ⟨a0, a1, a2, a3, a4, a5, a6, a7, a8⟩ := rowZ_at hr hkl
    rw [← hz] at a0 a1 a2 a3 a4 a5 a6 a7 a8
    have HZ := Lib.hid hz
    have hsk := hBk.size
    clear hr hBk hz
    by_cases hk : k = i
    · have hit : inB z.fr z.tt key = true := by rw [HZ.out]; subst hk; exact HIN.out
      have HIT := Lib.hid hit
      have HK := Lib.hid hk
      clear hit hk
      go_wp2_with (first
        | (go_at_call 35; go_loud (refine (spanIn z.fr z.tt key _).mono ?_; rintro e w5 ⟨rfl, hb5⟩; rw [HIT.out]; have HB5 := Lib.hid (HBK.out.trans (Below.trans ((Below.refl _ _).alloc (Nat.le_refl _) _) (hb5.mono (by simp)) |>.mono hsk)); have hs5 := HB5.out.size; have t1 := HT.out.below HB5.out hTV; have tt0 := t1.cell 0; have tt1 := t1.cell 1; have tt2 := t1.cell 2; have tt3 := t1.cell 3; have tt4 := t1.cell 4; have tt5 := t1.cell 5; have tt6 := t1.cell 6; have tt7 := t1.cell 7; have tt8 := t1.cell 8; simp only [List.getElem?_toArray, List.getElem?_cons_succ, List.getElem?_cons_zero] at tt0 tt1 tt2 tt3 tt4 tt5 tt6 tt7 tt8; have tf := (fun k => t1.free k); have T1 := Lib.hid t1; have z1 := (Whl.new (w := wr) (t := 39) (cs := #[.int .i64 z.id, .string z.fr, .string z.tt, .int .i64 z.ow, .int .i64 z.ep, .int .i64 z.pd, .int .i64 z.mv, .string z.ky, .int .i64 z.nw]) rfl).below hb5 (by simp); have zz0 := z1.cell 0; have zz1 := z1.cell 1; have zz2 := z1.cell 2; have zz3 := z1.cell 3; have zz4 := z1.cell 4; have zz5 := z1.cell 5; have zz6 := z1.cell 6; have zz7 := z1.cell 7; have zz8 := z1.cell 8; simp only [List.getElem?_toArray, List.getElem?_cons_succ, List.getElem?_cons_zero] at zz0 zz1 zz2 zz3 zz4 zz5 zz6 zz7 zz8; clear hb5))
        | fail)
      have ez : z = m.zs[i] := by
        rw [HZ.out]
        have hk := HK.out
        subst hk
        rfl
      rw [← ez]
      have hA : Below w.heap.size w w5 := HWV.out.trans (HB5.out.mono hwV)
      have hA0 := hA
      have hA1 : Below w.heap.size w (w5.setCell ⟨w.heap.size, 0, none⟩ (.int .i64 z.id)) := b_set (by first | exact Nat.le_refl _ | exact Nat.le_succ _) hA0
      have hA2 : Below w.heap.size w ((w5.setCell ⟨w.heap.size, 0, none⟩ (.int .i64 z.id)).setCell ⟨w.heap.size, 1, none⟩ (.string z.fr)) := b_set (by first | exact Nat.le_refl _ | exact Nat.le_succ _) hA1
      have hA3 : Below w.heap.size w (((w5.setCell ⟨w.heap.size, 0, none⟩ (.int .i64 z.id)).setCell ⟨w.heap.size, 1, none⟩ (.string z.fr)).setCell ⟨w.heap.size, 2, none⟩ (.string z.tt)) := b_set (by first | exact Nat.le_refl _ | exact Nat.le_succ _) hA2
      have hA4 : Below w.heap.size w ((((w5.setCell ⟨w.heap.size, 0, none⟩ (.int .i64 z.id)).setCell ⟨w.heap.size, 1, none⟩ (.string z.fr)).setCell ⟨w.heap.size, 2, none⟩ (.string z.tt)).setCell ⟨w.heap.size, 3, none⟩ (.int .i64 z.ow)) := b_set (by first | exact Nat.le_refl _ | exact Nat.le_succ _) hA3
      have hA5 : Below w.heap.size w (((((w5.setCell ⟨w.heap.size, 0, none⟩ (.int .i64 z.id)).setCell ⟨w.heap.size, 1, none⟩ (.string z.fr)).setCell ⟨w.heap.size, 2, none⟩ (.string z.tt)).setCell ⟨w.heap.size, 3, none⟩ (.int .i64 z.ow)).setCell ⟨w.heap.size, 4, none⟩ (.int .i64 z.ep)) := b_set (by first | exact Nat.le_refl _ | exact Nat.le_succ _) hA4
      have hA6 : Below w.heap.size w ((((((w5.setCell ⟨w.heap.size, 0, none⟩ (.int .i64 z.id)).setCell ⟨w.heap.size, 1, none⟩ (.string z.fr)).setCell ⟨w.heap.size, 2, none⟩ (.string z.tt)).setCell ⟨w.heap.size, 3, none⟩ (.int .i64 z.ow)).setCell ⟨w.heap.size, 4, none⟩ (.int .i64 z.ep)).setCell ⟨w.heap.size, 5, none⟩ (.int .i64 z.pd)) := b_set (by first | exact Nat.le_refl _ | exact Nat.le_succ _) hA5
      have hA7 : Below w.heap.size w (((((((w5.setCell ⟨w.heap.size, 0, none⟩ (.int .i64 z.id)).setCell ⟨w.heap.size, 1, none⟩ (.string z.fr)).setCell ⟨w.heap.size, 2, none⟩ (.string z.tt)).setCell ⟨w.heap.size, 3, none⟩ (.int .i64 z.ow)).setCell ⟨w.heap.size, 4, none⟩ (.int .i64 z.ep)).setCell ⟨w.heap.size, 5, none⟩ (.int .i64 z.pd)).setCell ⟨w.heap.size, 6, none⟩ (.int .i64 z.mv)) := b_set (by first | exact Nat.le_refl _ | exact Nat.le_succ _) hA6
      have hA8 : Below w.heap.size w ((((((((w5.setCell ⟨w.heap.size, 0, none⟩ (.int .i64 z.id)).setCell ⟨w.heap.size, 1, none⟩ (.string z.fr)).setCell ⟨w.heap.size, 2, none⟩ (.string z.tt)).setCell ⟨w.heap.size, 3, none⟩ (.int .i64 z.ow)).setCell ⟨w.heap.size, 4, none⟩ (.int .i64 z.ep)).setCell ⟨w.heap.size, 5, none⟩ (.int .i64 z.pd)).setCell ⟨w.heap.size, 6, none⟩ (.int .i64 z.mv)).setCell ⟨w.heap.size, 7, none⟩ (.string z.ky)) := b_set (by first | exact Nat.le_refl _ | exact Nat.le_succ _) hA7
      have hA9 : Below w.heap.size w (((((((((w5.setCell ⟨w.heap.size, 0, none⟩ (.int .i64 z.id)).setCell ⟨w.heap.size, 1, none⟩ (.string z.fr)).setCell ⟨w.heap.size, 2, none⟩ (.string z.tt)).setCell ⟨w.heap.size, 3, none⟩ (.int .i64 z.ow)).setCell ⟨w.heap.size, 4, none⟩ (.int .i64 z.ep)).setCell ⟨w.heap.size, 5, none⟩ (.int .i64 z.pd)).setCell ⟨w.heap.size, 6, none⟩ (.int .i64 z.mv)).setCell ⟨w.heap.size, 7, none⟩ (.string z.ky)).setCell ⟨w.heap.size, 8, none⟩ (.int .i64 z.nw)) := b_set (by first | exact Nat.le_refl _ | exact Nat.le_succ _) hA8
      have s0 : Whl (w5.setCell ⟨w.heap.size, 0, none⟩ (.int .i64 z.id)) w.heap.size 39 #[.int .i64 z.id, .string ⟨#[]⟩, .string ⟨#[]⟩, .int .i64 0, .int .i64 0, .int .i64 0, .int .i64 0, .string ⟨#[]⟩, .int .i64 0] := T1.out.set 0 (.int .i64 z.id)
      have s1 : Whl ((w5.setCell ⟨w.heap.size, 0, none⟩ (.int .i64 z.id)).setCell ⟨w.heap.size, 1, none⟩ (.string z.fr)) w.heap.size 39 #[.int .i64 z.id, .string z.fr, .string ⟨#[]⟩, .int .i64 0, .int .i64 0, .int .i64 0, .int .i64 0, .string ⟨#[]⟩, .int .i64 0] := s0.set 1 (.string z.fr)
      have s2 : Whl (((w5.setCell ⟨w.heap.size, 0, none⟩ (.int .i64 z.id)).setCell ⟨w.heap.size, 1, none⟩ (.string z.fr)).setCell ⟨w.heap.size, 2, none⟩ (.string z.tt)) w.heap.size 39 #[.int .i64 z.id, .string z.fr, .string z.tt, .int .i64 0, .int .i64 0, .int .i64 0, .int .i64 0, .string ⟨#[]⟩, .int .i64 0] := s1.set 2 (.string z.tt)
      have s3 : Whl ((((w5.setCell ⟨w.heap.size, 0, none⟩ (.int .i64 z.id)).setCell ⟨w.heap.size, 1, none⟩ (.string z.fr)).setCell ⟨w.heap.size, 2, none⟩ (.string z.tt)).setCell ⟨w.heap.size, 3, none⟩ (.int .i64 z.ow)) w.heap.size 39 #[.int .i64 z.id, .string z.fr, .string z.tt, .int .i64 z.ow, .int .i64 0, .int .i64 0, .int .i64 0, .string ⟨#[]⟩, .int .i64 0] := s2.set 3 (.int .i64 z.ow)
      have s4 : Whl (((((w5.setCell ⟨w.heap.size, 0, none⟩ (.int .i64 z.id)).setCell ⟨w.heap.size, 1, none⟩ (.string z.fr)).setCell ⟨w.heap.size, 2, none⟩ (.string z.tt)).setCell ⟨w.heap.size, 3, none⟩ (.int .i64 z.ow)).setCell ⟨w.heap.size, 4, none⟩ (.int .i64 z.ep)) w.heap.size 39 #[.int .i64 z.id, .string z.fr, .string z.tt, .int .i64 z.ow, .int .i64 z.ep, .int .i64 0, .int .i64 0, .string ⟨#[]⟩, .int .i64 0] := s3.set 4 (.int .i64 z.ep)
      have s5 : Whl ((((((w5.setCell ⟨w.heap.size, 0, none⟩ (.int .i64 z.id)).setCell ⟨w.heap.size, 1, none⟩ (.string z.fr)).setCell ⟨w.heap.size, 2, none⟩ (.string z.tt)).setCell ⟨w.heap.size, 3, none⟩ (.int .i64 z.ow)).setCell ⟨w.heap.size, 4, none⟩ (.int .i64 z.ep)).setCell ⟨w.heap.size, 5, none⟩ (.int .i64 z.pd)) w.heap.size 39 #[.int .i64 z.id, .string z.fr, .string z.tt, .int .i64 z.ow, .int .i64 z.ep, .int .i64 z.pd, .int .i64 0, .string ⟨#[]⟩, .int .i64 0] := s4.set 5 (.int .i64 z.pd)
      have s6 : Whl (((((((w5.setCell ⟨w.heap.size, 0, none⟩ (.int .i64 z.id)).setCell ⟨w.heap.size, 1, none⟩ (.string z.fr)).setCell ⟨w.heap.size, 2, none⟩ (.string z.tt)).setCell ⟨w.heap.size, 3, none⟩ (.int .i64 z.ow)).setCell ⟨w.heap.size, 4, none⟩ (.int .i64 z.ep)).setCell ⟨w.heap.size, 5, none⟩ (.int .i64 z.pd)).setCell ⟨w.heap.size, 6, none⟩ (.int .i64 z.mv)) w.heap.size 39 #[.int .i64 z.id, .string z.fr, .string z.tt, .int .i64 z.ow, .int .i64 z.ep, .int .i64 z.pd, .int .i64 z.mv, .string ⟨#[]⟩, .int .i64 0] := s5.set 6 (.int .i64 z.mv)
      have s7 : Whl ((((((((w5.setCell ⟨w.heap.size, 0, none⟩ (.int .i64 z.id)).setCell ⟨w.heap.size, 1, none⟩ (.string z.fr)).setCell ⟨w.heap.size, 2, none⟩ (.string z.tt)).setCell ⟨w.heap.size, 3, none⟩ (.int .i64 z.ow)).setCell ⟨w.heap.size, 4, none⟩ (.int .i64 z.ep)).setCell ⟨w.heap.size, 5, none⟩ (.int .i64 z.pd)).setCell ⟨w.heap.size, 6, none⟩ (.int .i64 z.mv)).setCell ⟨w.heap.size, 7, none⟩ (.string z.ky)) w.heap.size 39 #[.int .i64 z.id, .string z.fr, .string z.tt, .int .i64 z.ow, .int .i64 z.ep, .int .i64 z.pd, .int .i64 z.mv, .string z.ky, .int .i64 0] := s6.set 7 (.string z.ky)
      have s8 : Whl (((((((((w5.setCell ⟨w.heap.size, 0, none⟩ (.int .i64 z.id)).setCell ⟨w.heap.size, 1, none⟩ (.string z.fr)).setCell ⟨w.heap.size, 2, none⟩ (.string z.tt)).setCell ⟨w.heap.size, 3, none⟩ (.int .i64 z.ow)).setCell ⟨w.heap.size, 4, none⟩ (.int .i64 z.ep)).setCell ⟨w.heap.size, 5, none⟩ (.int .i64 z.pd)).setCell ⟨w.heap.size, 6, none⟩ (.int .i64 z.mv)).setCell ⟨w.heap.size, 7, none⟩ (.string z.ky)).setCell ⟨w.heap.size, 8, none⟩ (.int .i64 z.nw)) w.heap.size 39 #[.int .i64 z.id, .string z.fr, .string z.tt, .int .i64 z.ow, .int .i64 z.ep, .int .i64 z.pd, .int .i64 z.mv, .string z.ky, .int .i64 z.nw] := s7.set 8 (.int .i64 z.nw)
      have r0 := s8.cell 0
      have r1 := s8.cell 1
      have r2 := s8.cell 2
      have r3 := s8.cell 3
      have r4 := s8.cell 4
      have r5 := s8.cell 5
      have r6 := s8.cell 6
      have r7 := s8.cell 7
      have r8 := s8.cell 8
      simp only [List.getElem?_toArray, List.getElem?_cons_succ, List.getElem?_cons_zero] at r0 r1 r2 r3 r4 r5 r6 r7 r8
      clear tt0 tt1 tt2 tt3 tt4 tt5 tt6 tt7 tt8 zz0 zz1 zz2 zz3 zz4 zz5 zz6 zz7 zz8
      generalize (((((((((w5.setCell ⟨w.heap.size, 0, none⟩ (.int .i64 z.id)).setCell ⟨w.heap.size, 1, none⟩ (.string z.fr)).setCell ⟨w.heap.size, 2, none⟩ (.string z.tt)).setCell ⟨w.heap.size, 3, none⟩ (.int .i64 z.ow)).setCell ⟨w.heap.size, 4, none⟩ (.int .i64 z.ep)).setCell ⟨w.heap.size, 5, none⟩ (.int .i64 z.pd)).setCell ⟨w.heap.size, 6, none⟩ (.int .i64 z.mv)).setCell ⟨w.heap.size, 7, none⟩ (.string z.ky)).setCell ⟨w.heap.size, 8, none⟩ (.int .i64 z.nw)) = X at *
      refine bodyPost_ret (v := .tuple #[.agg #[.int .i64 z.id, .string z.fr, .string z.tt, .int .i64 z.ow, .int .i64 z.ep, .int .i64 z.pd, .int .i64 z.mv, .string z.ky, .int .i64 z.nw], .bool true]) (by simp [results, Try.results14, go_sem, r0, r1, r2, r3, r4, r5, r6, r7, r8]) rfl ⟨rfl, hA9⟩
    · have hit : inB z.fr z.tt key = false := by rw [HZ.out]; exact HNO.out k hkl (by omega)
      have HIT := Lib.hid hit
      clear hit
      go_wp2_with (first
        | (go_at_call 35; go_loud (refine (spanIn z.fr z.tt key _).mono ?_; rintro e w5 ⟨rfl, hb5⟩; rw [HIT.out]; have HB5 := Lib.hid (HBK.out.trans (Below.trans ((Below.refl _ _).alloc (Nat.le_refl _) _) (hb5.mono (by simp)) |>.mono hsk)); clear hb5))
        | fail)
      exact ⟨⟨k + 1, by omega, by go_num, HB5.out⟩, by simp [intOf]; omega⟩
set_option maxHeartbeats 8000000 in
set_option maxRecDepth 10000 in
theorem rdFindK (B i : Nat) (zv : Value) (m : Mp) (key : ByteArray) (hi : i < m.zs.length) (w : World) (h : w.ownsRow B 39 9 zv m.zs.length (flatZ m.zs)) (hl : m.zs.length ≤ 1000) (hin : inB m.zs[i].fr m.zs[i].tt key = true) (hno : ∀ j (hj : j < m.zs.length), j < i → inB m.zs[j].fr m.zs[j].tt key = false) :
    Calls Try.prog 15 #[.agg #[.int .i64 m.ver, .int .i64 m.nxt, zv], .string key] w fun e w' => e = .returned (.tuple #[.agg #[.int .i64 m.zs[i].id, .string m.zs[i].fr, .string m.zs[i].tt, .int .i64 m.zs[i].ow, .int .i64 m.zs[i].ep, .int .i64 m.zs[i].pd, .int .i64 m.zs[i].mv, .string m.zs[i].ky, .int .i64 m.zs[i].nw], .bool true]) ∧ Below w.heap.size w w' := by
  have HIN := Lib.hid hin
  have HNO := Lib.hid hno
  obtain ⟨gz, cc, hzv, _, hgz, hnc, hcm⟩ := own_form h (by omega)
  subst hzv
  have HR := Lib.hid h
  clear h hin hno
  go_enter Try.func15, Try.ntmps15
  go_wp2_with fail
  have hT : Whl ((w.alloc (.cells #[.int .i64 m.ver, .int .i64 m.nxt, .slice (some ⟨gz, 0, none⟩) m.zs.length cc] 33)).alloc (.cells #[.int .i64 0, .string ⟨#[]⟩, .string ⟨#[]⟩, .int .i64 0, .int .i64 0, .int .i64 0, .int .i64 0, .string ⟨#[]⟩, .int .i64 0] 39)) (w.heap.size + 1) 39 #[.int .i64 0, .string ⟨#[]⟩, .string ⟨#[]⟩, .int .i64 0, .int .i64 0, .int .i64 0, .int .i64 0, .string ⟨#[]⟩, .int .i64 0] := Whl.new (by (try simp))
  have HWV : Hid (Below w.heap.size w ((w.alloc (.cells #[.int .i64 m.ver, .int .i64 m.nxt, .slice (some ⟨gz, 0, none⟩) m.zs.length cc] 33)).alloc (.cells #[.int .i64 0, .string ⟨#[]⟩, .string ⟨#[]⟩, .int .i64 0, .int .i64 0, .int .i64 0, .int .i64 0, .string ⟨#[]⟩, .int .i64 0] 39))) := Lib.hid (by ((repeat (first | (with_reducible exact Below.refl _ _) | (with_reducible assumption) | ((with_reducible refine b_set ?_ ?_); · (first | omega | (simp; done) | (simp; omega))) | ((with_reducible refine b_alloc ?_ ?_); · (first | omega | (simp; done) | (simp; omega))) | (with_reducible refine Below.drew ?_) | (with_reducible refine b_drewN ?_) | ((with_reducible refine b_call (by assumption) ?_ ?_); · (first | omega | (simp; done) | (simp; omega))))); done))
  have hTV := hT.low
  have HT := Lib.hid hT
  have hwV := HWV.out.size
  clear hT
  have HMV : Hid (Whl ((w.alloc (.cells #[.int .i64 m.ver, .int .i64 m.nxt, .slice (some ⟨gz, 0, none⟩) m.zs.length cc] 33)).alloc (.cells #[.int .i64 0, .string ⟨#[]⟩, .string ⟨#[]⟩, .int .i64 0, .int .i64 0, .int .i64 0, .int .i64 0, .string ⟨#[]⟩, .int .i64 0] 39)) w.heap.size 33 #[.int .i64 m.ver, .int .i64 m.nxt, .slice (some ⟨gz, 0, none⟩) m.zs.length cc]) := Lib.hid ((Whl.new rfl).alloc _)
  have hMV : w.heap.size < ((w.alloc (.cells #[.int .i64 m.ver, .int .i64 m.nxt, .slice (some ⟨gz, 0, none⟩) m.zs.length cc] 33)).alloc (.cells #[.int .i64 0, .string ⟨#[]⟩, .string ⟨#[]⟩, .int .i64 0, .int .i64 0, .int .i64 0, .int .i64 0, .string ⟨#[]⟩, .int .i64 0] 39)).heap.size := by simp; omega
  generalize ((w.alloc (.cells #[.int .i64 m.ver, .int .i64 m.nxt, .slice (some ⟨gz, 0, none⟩) m.zs.length cc] 33)).alloc (.cells #[.int .i64 0, .string ⟨#[]⟩, .string ⟨#[]⟩, .int .i64 0, .int .i64 0, .int .i64 0, .int .i64 0, .string ⟨#[]⟩, .int .i64 0] 39)) = V at *
  go_loopw [6] (fun iv wr => ∃ k : Nat, k ≤ i ∧ iv = .int .i64 k ∧ Below V.heap.size V wr) (fun iv _ => i + 1 - (intOf iv).toNat)
  case atStart => exact ⟨0, Nat.zero_le _, rfl, Below.refl _ _⟩
  case round =>
    obtain ⟨k, hki, rfl, hBk⟩ := hrel
    have HBK := Lib.hid hBk
    have q3 : (k : Int) < (m.zs.length : Int) := by omega
    have hkl : k < m.zs.length := by omega
    have hr := row_belowZ HR.out (HWV.out.trans (hBk.mono hwV))
    obtain ⟨z, hz⟩ : ∃ z, z = m.zs[k] := ⟨_, rfl⟩
    obtain ⟨a0, a1, a2, a3, a4, a5, a6, a7, a8⟩ := rowZ_at hr hkl
    rw [← hz] at a0 a1 a2 a3 a4 a5 a6 a7 a8
    have HZ := Lib.hid hz
    have hsk := hBk.size
    have mm := (HMV.out.below HBK.out hMV).cell 2
    simp only [List.getElem?_toArray, List.getElem?_cons_succ, List.getElem?_cons_zero] at mm
    clear hr hBk hz
    by_cases hk : k = i
    · have hit : inB z.fr z.tt key = true := by rw [HZ.out]; subst hk; exact HIN.out
      have HIT := Lib.hid hit
      have HK := Lib.hid hk
      clear hit hk
      go_wp2_with (first
        | (go_at_call 13; go_loud (refine (refIn z.fr z.tt key _).mono ?_; rintro e w5 ⟨rfl, hb5⟩; rw [HIT.out]; have HB5 := Lib.hid (HBK.out.trans (hb5.mono hsk)); have hs5 := HB5.out.size; have t1 := HT.out.below HB5.out hTV; have tt0 := t1.cell 0; have tt1 := t1.cell 1; have tt2 := t1.cell 2; have tt3 := t1.cell 3; have tt4 := t1.cell 4; have tt5 := t1.cell 5; have tt6 := t1.cell 6; have tt7 := t1.cell 7; have tt8 := t1.cell 8; simp only [List.getElem?_toArray, List.getElem?_cons_succ, List.getElem?_cons_zero] at tt0 tt1 tt2 tt3 tt4 tt5 tt6 tt7 tt8; have tf := (fun k => t1.free k); have T1 := Lib.hid t1; obtain ⟨zz0, zz1, zz2, zz3, zz4, zz5, zz6, zz7, zz8⟩ := rowZ_at (row_belowZ HR.out (HWV.out.trans ((HBK.out.trans (hb5.mono hsk)).mono hwV))) hkl; rw [← HZ.out] at zz0 zz1 zz2 zz3 zz4 zz5 zz6 zz7 zz8; have mm := ((HMV.out.below HBK.out hMV).below hb5 (by omega)).cell 2; simp only [List.getElem?_toArray, List.getElem?_cons_succ, List.getElem?_cons_zero] at mm; clear hb5))
        | fail)
      have ez : z = m.zs[i] := by
        rw [HZ.out]
        have hk := HK.out
        subst hk
        rfl
      rw [← ez]
      have hA : Below w.heap.size w w5 := HWV.out.trans (HB5.out.mono hwV)
      have hA0 := hA
      have hA1 : Below w.heap.size w (w5.setCell ⟨(w.heap.size + 1), 0, none⟩ (.int .i64 z.id)) := b_set (by first | exact Nat.le_refl _ | exact Nat.le_succ _) hA0
      have hA2 : Below w.heap.size w ((w5.setCell ⟨(w.heap.size + 1), 0, none⟩ (.int .i64 z.id)).setCell ⟨(w.heap.size + 1), 1, none⟩ (.string z.fr)) := b_set (by first | exact Nat.le_refl _ | exact Nat.le_succ _) hA1
      have hA3 : Below w.heap.size w (((w5.setCell ⟨(w.heap.size + 1), 0, none⟩ (.int .i64 z.id)).setCell ⟨(w.heap.size + 1), 1, none⟩ (.string z.fr)).setCell ⟨(w.heap.size + 1), 2, none⟩ (.string z.tt)) := b_set (by first | exact Nat.le_refl _ | exact Nat.le_succ _) hA2
      have hA4 : Below w.heap.size w ((((w5.setCell ⟨(w.heap.size + 1), 0, none⟩ (.int .i64 z.id)).setCell ⟨(w.heap.size + 1), 1, none⟩ (.string z.fr)).setCell ⟨(w.heap.size + 1), 2, none⟩ (.string z.tt)).setCell ⟨(w.heap.size + 1), 3, none⟩ (.int .i64 z.ow)) := b_set (by first | exact Nat.le_refl _ | exact Nat.le_succ _) hA3
      have hA5 : Below w.heap.size w (((((w5.setCell ⟨(w.heap.size + 1), 0, none⟩ (.int .i64 z.id)).setCell ⟨(w.heap.size + 1), 1, none⟩ (.string z.fr)).setCell ⟨(w.heap.size + 1), 2, none⟩ (.string z.tt)).setCell ⟨(w.heap.size + 1), 3, none⟩ (.int .i64 z.ow)).setCell ⟨(w.heap.size + 1), 4, none⟩ (.int .i64 z.ep)) := b_set (by first | exact Nat.le_refl _ | exact Nat.le_succ _) hA4
      have hA6 : Below w.heap.size w ((((((w5.setCell ⟨(w.heap.size + 1), 0, none⟩ (.int .i64 z.id)).setCell ⟨(w.heap.size + 1), 1, none⟩ (.string z.fr)).setCell ⟨(w.heap.size + 1), 2, none⟩ (.string z.tt)).setCell ⟨(w.heap.size + 1), 3, none⟩ (.int .i64 z.ow)).setCell ⟨(w.heap.size + 1), 4, none⟩ (.int .i64 z.ep)).setCell ⟨(w.heap.size + 1), 5, none⟩ (.int .i64 z.pd)) := b_set (by first | exact Nat.le_refl _ | exact Nat.le_succ _) hA5
      have hA7 : Below w.heap.size w (((((((w5.setCell ⟨(w.heap.size + 1), 0, none⟩ (.int .i64 z.id)).setCell ⟨(w.heap.size + 1), 1, none⟩ (.string z.fr)).setCell ⟨(w.heap.size + 1), 2, none⟩ (.string z.tt)).setCell ⟨(w.heap.size + 1), 3, none⟩ (.int .i64 z.ow)).setCell ⟨(w.heap.size + 1), 4, none⟩ (.int .i64 z.ep)).setCell ⟨(w.heap.size + 1), 5, none⟩ (.int .i64 z.pd)).setCell ⟨(w.heap.size + 1), 6, none⟩ (.int .i64 z.mv)) := b_set (by first | exact Nat.le_refl _ | exact Nat.le_succ _) hA6
      have hA8 : Below w.heap.size w ((((((((w5.setCell ⟨(w.heap.size + 1), 0, none⟩ (.int .i64 z.id)).setCell ⟨(w.heap.size + 1), 1, none⟩ (.string z.fr)).setCell ⟨(w.heap.size + 1), 2, none⟩ (.string z.tt)).setCell ⟨(w.heap.size + 1), 3, none⟩ (.int .i64 z.ow)).setCell ⟨(w.heap.size + 1), 4, none⟩ (.int .i64 z.ep)).setCell ⟨(w.heap.size + 1), 5, none⟩ (.int .i64 z.pd)).setCell ⟨(w.heap.size + 1), 6, none⟩ (.int .i64 z.mv)).setCell ⟨(w.heap.size + 1), 7, none⟩ (.string z.ky)) := b_set (by first | exact Nat.le_refl _ | exact Nat.le_succ _) hA7
      have hA9 : Below w.heap.size w (((((((((w5.setCell ⟨(w.heap.size + 1), 0, none⟩ (.int .i64 z.id)).setCell ⟨(w.heap.size + 1), 1, none⟩ (.string z.fr)).setCell ⟨(w.heap.size + 1), 2, none⟩ (.string z.tt)).setCell ⟨(w.heap.size + 1), 3, none⟩ (.int .i64 z.ow)).setCell ⟨(w.heap.size + 1), 4, none⟩ (.int .i64 z.ep)).setCell ⟨(w.heap.size + 1), 5, none⟩ (.int .i64 z.pd)).setCell ⟨(w.heap.size + 1), 6, none⟩ (.int .i64 z.mv)).setCell ⟨(w.heap.size + 1), 7, none⟩ (.string z.ky)).setCell ⟨(w.heap.size + 1), 8, none⟩ (.int .i64 z.nw)) := b_set (by first | exact Nat.le_refl _ | exact Nat.le_succ _) hA8
      have s0 : Whl (w5.setCell ⟨(w.heap.size + 1), 0, none⟩ (.int .i64 z.id)) (w.heap.size + 1) 39 #[.int .i64 z.id, .string ⟨#[]⟩, .string ⟨#[]⟩, .int .i64 0, .int .i64 0, .int .i64 0, .int .i64 0, .string ⟨#[]⟩, .int .i64 0] := T1.out.set 0 (.int .i64 z.id)
      have s1 : Whl ((w5.setCell ⟨(w.heap.size + 1), 0, none⟩ (.int .i64 z.id)).setCell ⟨(w.heap.size + 1), 1, none⟩ (.string z.fr)) (w.heap.size + 1) 39 #[.int .i64 z.id, .string z.fr, .string ⟨#[]⟩, .int .i64 0, .int .i64 0, .int .i64 0, .int .i64 0, .string ⟨#[]⟩, .int .i64 0] := s0.set 1 (.string z.fr)
      have s2 : Whl (((w5.setCell ⟨(w.heap.size + 1), 0, none⟩ (.int .i64 z.id)).setCell ⟨(w.heap.size + 1), 1, none⟩ (.string z.fr)).setCell ⟨(w.heap.size + 1), 2, none⟩ (.string z.tt)) (w.heap.size + 1) 39 #[.int .i64 z.id, .string z.fr, .string z.tt, .int .i64 0, .int .i64 0, .int .i64 0, .int .i64 0, .string ⟨#[]⟩, .int .i64 0] := s1.set 2 (.string z.tt)
      have s3 : Whl ((((w5.setCell ⟨(w.heap.size + 1), 0, none⟩ (.int .i64 z.id)).setCell ⟨(w.heap.size + 1), 1, none⟩ (.string z.fr)).setCell ⟨(w.heap.size + 1), 2, none⟩ (.string z.tt)).setCell ⟨(w.heap.size + 1), 3, none⟩ (.int .i64 z.ow)) (w.heap.size + 1) 39 #[.int .i64 z.id, .string z.fr, .string z.tt, .int .i64 z.ow, .int .i64 0, .int .i64 0, .int .i64 0, .string ⟨#[]⟩, .int .i64 0] := s2.set 3 (.int .i64 z.ow)
      have s4 : Whl (((((w5.setCell ⟨(w.heap.size + 1), 0, none⟩ (.int .i64 z.id)).setCell ⟨(w.heap.size + 1), 1, none⟩ (.string z.fr)).setCell ⟨(w.heap.size + 1), 2, none⟩ (.string z.tt)).setCell ⟨(w.heap.size + 1), 3, none⟩ (.int .i64 z.ow)).setCell ⟨(w.heap.size + 1), 4, none⟩ (.int .i64 z.ep)) (w.heap.size + 1) 39 #[.int .i64 z.id, .string z.fr, .string z.tt, .int .i64 z.ow, .int .i64 z.ep, .int .i64 0, .int .i64 0, .string ⟨#[]⟩, .int .i64 0] := s3.set 4 (.int .i64 z.ep)
      have s5 : Whl ((((((w5.setCell ⟨(w.heap.size + 1), 0, none⟩ (.int .i64 z.id)).setCell ⟨(w.heap.size + 1), 1, none⟩ (.string z.fr)).setCell ⟨(w.heap.size + 1), 2, none⟩ (.string z.tt)).setCell ⟨(w.heap.size + 1), 3, none⟩ (.int .i64 z.ow)).setCell ⟨(w.heap.size + 1), 4, none⟩ (.int .i64 z.ep)).setCell ⟨(w.heap.size + 1), 5, none⟩ (.int .i64 z.pd)) (w.heap.size + 1) 39 #[.int .i64 z.id, .string z.fr, .string z.tt, .int .i64 z.ow, .int .i64 z.ep, .int .i64 z.pd, .int .i64 0, .string ⟨#[]⟩, .int .i64 0] := s4.set 5 (.int .i64 z.pd)
      have s6 : Whl (((((((w5.setCell ⟨(w.heap.size + 1), 0, none⟩ (.int .i64 z.id)).setCell ⟨(w.heap.size + 1), 1, none⟩ (.string z.fr)).setCell ⟨(w.heap.size + 1), 2, none⟩ (.string z.tt)).setCell ⟨(w.heap.size + 1), 3, none⟩ (.int .i64 z.ow)).setCell ⟨(w.heap.size + 1), 4, none⟩ (.int .i64 z.ep)).setCell ⟨(w.heap.size + 1), 5, none⟩ (.int .i64 z.pd)).setCell ⟨(w.heap.size + 1), 6, none⟩ (.int .i64 z.mv)) (w.heap.size + 1) 39 #[.int .i64 z.id, .string z.fr, .string z.tt, .int .i64 z.ow, .int .i64 z.ep, .int .i64 z.pd, .int .i64 z.mv, .string ⟨#[]⟩, .int .i64 0] := s5.set 6 (.int .i64 z.mv)
      have s7 : Whl ((((((((w5.setCell ⟨(w.heap.size + 1), 0, none⟩ (.int .i64 z.id)).setCell ⟨(w.heap.size + 1), 1, none⟩ (.string z.fr)).setCell ⟨(w.heap.size + 1), 2, none⟩ (.string z.tt)).setCell ⟨(w.heap.size + 1), 3, none⟩ (.int .i64 z.ow)).setCell ⟨(w.heap.size + 1), 4, none⟩ (.int .i64 z.ep)).setCell ⟨(w.heap.size + 1), 5, none⟩ (.int .i64 z.pd)).setCell ⟨(w.heap.size + 1), 6, none⟩ (.int .i64 z.mv)).setCell ⟨(w.heap.size + 1), 7, none⟩ (.string z.ky)) (w.heap.size + 1) 39 #[.int .i64 z.id, .string z.fr, .string z.tt, .int .i64 z.ow, .int .i64 z.ep, .int .i64 z.pd, .int .i64 z.mv, .string z.ky, .int .i64 0] := s6.set 7 (.string z.ky)
      have s8 : Whl (((((((((w5.setCell ⟨(w.heap.size + 1), 0, none⟩ (.int .i64 z.id)).setCell ⟨(w.heap.size + 1), 1, none⟩ (.string z.fr)).setCell ⟨(w.heap.size + 1), 2, none⟩ (.string z.tt)).setCell ⟨(w.heap.size + 1), 3, none⟩ (.int .i64 z.ow)).setCell ⟨(w.heap.size + 1), 4, none⟩ (.int .i64 z.ep)).setCell ⟨(w.heap.size + 1), 5, none⟩ (.int .i64 z.pd)).setCell ⟨(w.heap.size + 1), 6, none⟩ (.int .i64 z.mv)).setCell ⟨(w.heap.size + 1), 7, none⟩ (.string z.ky)).setCell ⟨(w.heap.size + 1), 8, none⟩ (.int .i64 z.nw)) (w.heap.size + 1) 39 #[.int .i64 z.id, .string z.fr, .string z.tt, .int .i64 z.ow, .int .i64 z.ep, .int .i64 z.pd, .int .i64 z.mv, .string z.ky, .int .i64 z.nw] := s7.set 8 (.int .i64 z.nw)
      have r0 := s8.cell 0
      have r1 := s8.cell 1
      have r2 := s8.cell 2
      have r3 := s8.cell 3
      have r4 := s8.cell 4
      have r5 := s8.cell 5
      have r6 := s8.cell 6
      have r7 := s8.cell 7
      have r8 := s8.cell 8
      simp only [List.getElem?_toArray, List.getElem?_cons_succ, List.getElem?_cons_zero] at r0 r1 r2 r3 r4 r5 r6 r7 r8
      clear tt0 tt1 tt2 tt3 tt4 tt5 tt6 tt7 tt8 zz0 zz1 zz2 zz3 zz4 zz5 zz6 zz7 zz8
      generalize (((((((((w5.setCell ⟨(w.heap.size + 1), 0, none⟩ (.int .i64 z.id)).setCell ⟨(w.heap.size + 1), 1, none⟩ (.string z.fr)).setCell ⟨(w.heap.size + 1), 2, none⟩ (.string z.tt)).setCell ⟨(w.heap.size + 1), 3, none⟩ (.int .i64 z.ow)).setCell ⟨(w.heap.size + 1), 4, none⟩ (.int .i64 z.ep)).setCell ⟨(w.heap.size + 1), 5, none⟩ (.int .i64 z.pd)).setCell ⟨(w.heap.size + 1), 6, none⟩ (.int .i64 z.mv)).setCell ⟨(w.heap.size + 1), 7, none⟩ (.string z.ky)).setCell ⟨(w.heap.size + 1), 8, none⟩ (.int .i64 z.nw)) = X at *
      refine bodyPost_ret (v := .tuple #[.agg #[.int .i64 z.id, .string z.fr, .string z.tt, .int .i64 z.ow, .int .i64 z.ep, .int .i64 z.pd, .int .i64 z.mv, .string z.ky, .int .i64 z.nw], .bool true]) (by simp [results, Try.results15, go_sem, r0, r1, r2, r3, r4, r5, r6, r7, r8]) rfl ⟨rfl, hA9⟩
    · have hit : inB z.fr z.tt key = false := by rw [HZ.out]; exact HNO.out k hkl (by omega)
      have HIT := Lib.hid hit
      clear hit
      go_wp2_with (first
        | (go_at_call 13; go_loud (refine (refIn z.fr z.tt key _).mono ?_; rintro e w5 ⟨rfl, hb5⟩; rw [HIT.out]; have HB5 := Lib.hid (HBK.out.trans (hb5.mono hsk)); clear hb5))
        | fail)
      exact ⟨⟨k + 1, by omega, by go_num, HB5.out⟩, by simp [intOf]; omega⟩
theorem znEql (z : Zn) (w : World) : (binOp .eql 39 (.agg #[.int .i64 z.id, .string z.fr, .string z.tt, .int .i64 z.ow, .int .i64 z.ep, .int .i64 z.pd, .int .i64 z.mv, .string z.ky, .int .i64 z.nw]) (.agg #[.int .i64 z.id, .string z.fr, .string z.tt, .int .i64 z.ow, .int .i64 z.ep, .int .i64 z.pd, .int .i64 z.mv, .string z.ky, .int .i64 z.nw])).run Try.prog w = .ok (.bool true) w := by
  go_simp
set_option maxHeartbeats 8000000 in
set_option maxRecDepth 10000 in
theorem walkDirParts (A : Option Addr) (c : Nat) (xs : List Ch) (key : ByteArray) (w : World) (hx : Cells w w.heap.size A xs.length c 5 (xs.flatMap chV)) :
    Calls Try.prog 4 #[.slice A xs.length c, .string key] w fun e w' => e = .returned (.bool true) ∧ Below w.heap.size w w' := by
  have HX := Lib.hid hx
  clear hx
  by_cases hP : Hv xs
  case pos =>
    have HP : Hid (true = true ↔ Hv xs) := Lib.hid ⟨fun _ => hP, fun _ => rfl⟩
    clear hP
    go_enter Try.func4, Try.ntmps4
    go_wp2_with (first
      | (go_at_call 9; go_loud (refine (drHeavyB A c xs _ HX.out HP.out).mono ?_; rintro e w0 ⟨rfl, hb0⟩; have HB0 := Lib.hid hb0; have hs0 := hb0.size; clear hb0))
      | fail)
    go_ret
    exact ⟨rfl, HB0.out⟩
  have HP : Hid (false = true ↔ Hv xs) := Lib.hid ⟨fun h => (by cases h), fun h => absurd h hP⟩
  clear hP
  by_cases k1 : (key.size : Int) < 1
  case pos =>
    go_enter Try.func4, Try.ntmps4
    go_wp2_with (first
      | (go_at_call 9; go_loud (refine (drHeavyB A c xs _ HX.out HP.out).mono ?_; rintro e w0 ⟨rfl, hb0⟩; have HB0 := Lib.hid hb0; have hs0 := hb0.size; clear hb0))
      | fail)
    go_ret
    exact ⟨rfl, HB0.out⟩
  by_cases k2 : (16 : Int) < (key.size : Int)
  case pos =>
    go_enter Try.func4, Try.ntmps4
    go_wp2_with (first
      | (go_at_call 9; go_loud (refine (drHeavyB A c xs _ HX.out HP.out).mono ?_; rintro e w0 ⟨rfl, hb0⟩; have HB0 := Lib.hid hb0; have hs0 := hb0.size; clear hb0))
      | fail)
    go_ret
    exact ⟨rfl, HB0.out⟩
  have hk1 : 1 ≤ key.size := by omega
  have hk2 : key.size ≤ 16 := by omega
  go_enter Try.func4, Try.ntmps4
  go_wp2_with (first
    | (go_at_call 9; go_loud (refine (drHeavyB A c xs _ HX.out HP.out).mono ?_; rintro e w0 ⟨rfl, hb0⟩; have HB0 := Lib.hid hb0; have hs0 := hb0.size; clear hb0))
    | (go_at_call 10; go_loud (refine (played1 (some ⟨w0.heap.size, 0, none⟩) 3 [8, 9, 10] A c xs _ hosts3b (by decide) (cells_keep HX.out (HB0.out.alloc hs0 _) (by simp; omega))).mono ?_; rintro e w1 ⟨d, x, hv, zv, hv2, zv2, m, rfl, hd1, hr1, hm1, hv1, hsm1, hap1, hb1⟩; have HB1 : Hid (Below w.heap.size w w1) := Lib.hid ((HB0.out.alloc hs0 _).trans (hb1.mono (by simp; omega))); have hs1 := HB1.out.size; have HD1 := Lib.hid (hd1.lower (show w0.heap.size ≤ _ by simp)); have HR1 := Lib.hid (hr1.lower (show w0.heap.size ≤ _ by simp)); have HM1 := Lib.hid hm1; have HV1 := Lib.hid hv1; have HS1 := Lib.hid hsm1; have HAP1 := Lib.hid hap1; have hs01 : w0.heap.size ≤ w1.heap.size := (by have := hb1.size; simp at this; omega); clear hd1 hr1 hm1 hv1 hsm1 hap1 hb1))
    | (go_at_call 12; go_loud (refine (drMap w0.heap.size d hv zv [8, 9, 10] m _ HD1.out (by have := HM1.out.okn.sum; omega)).mono ?_; rintro e w2 ⟨v2, rfl, ho2, hb2⟩; obtain ⟨g2, c2, e2, hg2, hgl2, _, _⟩ := own_form ho2 (HM1.out.okn.one); subst e2; have HO2 := Lib.hid ho2; have HB2 := Lib.hid hb2; have hs2 := hb2.size; clear ho2 hb2))
    | fail)
  have hlen : m.zs.length ≤ 16 := by have := HM1.out.okn.sum; omega
  have hone := HM1.out.okn.one
  have HNV : Hid (Whl (w2.alloc (.cells #[.int .i64 m.ver, .int .i64 m.nxt, .slice (some ⟨g2, 0, none⟩) m.zs.length c2] 33)) w2.heap.size 33 #[.int .i64 m.ver, .int .i64 m.nxt, .slice (some ⟨g2, 0, none⟩) m.zs.length c2]) := Lib.hid (Whl.new rfl)
  have HB12 : Hid (Below w1.heap.size w1 (w2.alloc (.cells #[.int .i64 m.ver, .int .i64 m.nxt, .slice (some ⟨g2, 0, none⟩) m.zs.length c2] 33))) := Lib.hid (HB2.out.alloc hs2 _)
  have HRV : Hid ((w2.alloc (.cells #[.int .i64 m.ver, .int .i64 m.nxt, .slice (some ⟨g2, 0, none⟩) m.zs.length c2] 33)).ownsRow w1.heap.size 39 9 (.slice (some ⟨g2, 0, none⟩) m.zs.length c2) m.zs.length (flatZ m.zs)) := Lib.hid (HO2.out.alloc _)
  have hV2 : w2.heap.size < (w2.alloc (.cells #[.int .i64 m.ver, .int .i64 m.nxt, .slice (some ⟨g2, 0, none⟩) m.zs.length c2] 33)).heap.size := by simp
  obtain ⟨N, hN⟩ : ∃ n, n = w2.heap.size := ⟨_, rfl⟩
  rw [← hN] at HNV hV2 ⊢
  have hgV : g2 < (w2.alloc (.cells #[.int .i64 m.ver, .int .i64 m.nxt, .slice (some ⟨g2, 0, none⟩) m.zs.length c2] 33)).heap.size := by omega
  generalize (w2.alloc (.cells #[.int .i64 m.ver, .int .i64 m.nxt, .slice (some ⟨g2, 0, none⟩) m.zs.length c2] 33)) = V at *
  have HDV := Lib.hid (HD1.out.below HB12.out)
  have HXV := Lib.hid (HR1.out.below HB12.out)
  have HBWV := Lib.hid (HB1.out.trans (HB12.out.mono hs1))
  have hwV := HBWV.out.size
  clear hN
  go_loopw [9, 10] (fun nv iv wr => ∃ k : Nat, k ≤ m.zs.length ∧ iv = .int .i64 k ∧ nv = .int .i64 (cntB key (m.zs.take k)) ∧ Below V.heap.size V wr) (fun _ iv _ => m.zs.length - (intOf iv).toNat)
  case atStart => exact ⟨0, Nat.zero_le _, rfl, by simp [cntB], Below.refl _ _⟩
  case round =>
    obtain ⟨k, hkl, rfl, rfl, hBk⟩ := hrel
    have HBK := Lib.hid hBk
    have hsk := hBk.size
    have hN2 := HNV.out.below hBk hV2
    have n0 := hN2.cell 0
    have n1 := hN2.cell 1
    have n2 := hN2.cell 2
    simp only [List.getElem?_toArray, List.getElem?_cons_succ, List.getElem?_cons_zero] at n0 n1 n2
    by_cases hlt : k < m.zs.length
    · have q3 : (k : Int) < (m.zs.length : Int) := by omega
      have hr := row_belowZ HRV.out hBk
      obtain ⟨z, hz⟩ : ∃ z, z = m.zs[k] := ⟨_, rfl⟩
      obtain ⟨_, a1, a2, _, _, _, _⟩ := rowZ_at hr hlt
      rw [← hz] at a1 a2
      have hcs := cntB_snoc key hlt
      rw [← hz] at hcs
      have hcl := cntB_le key (m.zs.take k)
      rw [List.length_take] at hcl
      have HCS := Lib.hid hcs
      obtain ⟨p, ep⟩ : ∃ p, p = cntB key (m.zs.take k) := ⟨_, rfl⟩
      rw [← ep] at hcl ⊢
      have EP := Lib.hid ep
      obtain ⟨b, hb⟩ : ∃ b, b = inB z.fr z.tt key := ⟨_, rfl⟩
      have HBI := Lib.hid hb
      clear hr hBk hz hcs ep hN2 hb
      cases b with
      | true =>
        go_wp2_with (first
          | (go_at_call 13; go_loud (refine (refIn z.fr z.tt key _).mono ?_; rintro e w5 ⟨rfl, hb5⟩; rw [← HBI.out]; have HB5 := Lib.hid (HBK.out.trans (hb5.mono hsk)); clear hb5))
          | fail)
        refine ⟨⟨k + 1, hlt, by go_num, ?_, HB5.out⟩, measZ hlt⟩
        rw [HCS.out, if_pos HBI.out.symm, ← EP.out]; go_num
      | false =>
        go_wp2_with (first
          | (go_at_call 13; go_loud (refine (refIn z.fr z.tt key _).mono ?_; rintro e w5 ⟨rfl, hb5⟩; rw [← HBI.out]; have HB5 := Lib.hid (HBK.out.trans (hb5.mono hsk)); clear hb5))
          | fail)
        refine ⟨⟨k + 1, hlt, by go_num, ?_, HB5.out⟩, measZ hlt⟩
        rw [HCS.out, if_neg (by rw [← HBI.out]; decide), ← EP.out]; rfl
    · obtain rfl : m.zs.length = k := by omega
      have hone1 := cntB_all hk1 hk2 HM1.out.spn
      rw [List.take_length, hone1]
      obtain ⟨i, hi, hin, hno⟩ := first_of (fun z => inB z.fr z.tt key) m.zs hone1
      have hF := fun W h => drFind w0.heap.size d i hv zv [8, 9, 10] m key hi W h (by omega) hin hno
      have hG := fun W h => rdFindK w0.heap.size i zv2 m key hi W h (by omega) hin hno
      obtain ⟨z, hz⟩ : ∃ z, z = m.zs[i] := ⟨_, rfl⟩
      have hin : inB m.zs[i].fr m.zs[i].tt key = true := hin
      rw [← hz] at hF hG hin
      have HF := Lib.hid hF
      have HG := Lib.hid hG
      have HIN := Lib.hid hin
      have HDW := Lib.hid (HDV.out.below hBk)
      have HXW := Lib.hid (HXV.out.below hBk)
      have heq := znEql z
      have hxl := HXW.out.blk.low
      clear hF hG hin hno hz hN2 hBk hone1
      go_wp2_with (first
        | (go_at_call 14; go_loud (refine (HF.out _ HDW.out).mono ?_; rintro e w5 ⟨rfl, hb5⟩; have HB5 := Lib.hid (HBK.out.trans (hb5.mono hsk)); have HX5 := Lib.hid (HXW.out.below hb5); have j0 := HX5.out.blk.cell 0; have j1 := HX5.out.blk.cell 1; have j2 := HX5.out.blk.cell 2; simp only [List.getElem?_toArray, List.getElem?_cons_succ, List.getElem?_cons_zero] at j0 j1 j2; have hs5 := HB5.out.size; have hxl5 := HX5.out.blk.low; clear hb5))
        | (go_at_call 15; go_loud (refine (HG.out _ (HX5.out.below (show Below w5.heap.size w5 _ from by ((repeat (first | (with_reducible exact Below.refl _ _) | (with_reducible assumption) | ((with_reducible refine b_set ?_ ?_); · (first | omega | (simp; done) | (simp; omega))) | ((with_reducible refine b_alloc ?_ ?_); · (first | omega | (simp; done) | (simp; omega))) | (with_reducible refine Below.drew ?_) | (with_reducible refine b_drewN ?_) | ((with_reducible refine b_call (by assumption) ?_ ?_); · (first | omega | (simp; done) | (simp; omega))))); done))).row).mono ?_; rintro e w6 ⟨rfl, hb6⟩; have HB6 := Lib.hid (HB5.out.trans ((Below.trans (show Below w5.heap.size w5 _ from by ((repeat (first | (with_reducible exact Below.refl _ _) | (with_reducible assumption) | ((with_reducible refine b_set ?_ ?_); · (first | omega | (simp; done) | (simp; omega))) | ((with_reducible refine b_alloc ?_ ?_); · (first | omega | (simp; done) | (simp; omega))) | (with_reducible refine Below.drew ?_) | (with_reducible refine b_drewN ?_) | ((with_reducible refine b_call (by assumption) ?_ ?_); · (first | omega | (simp; done) | (simp; omega))))); done)) (hb6.mono (by (try simp) <;> omega))).mono hs5)); have g1 := (Whl.new (w := w5) (t := 39) (cs := #[.int .i64 z.id, .string z.fr, .string z.tt, .int .i64 z.ow, .int .i64 z.ep, .int .i64 z.pd, .int .i64 z.mv, .string z.ky, .int .i64 z.nw]) rfl).below hb6 (by simp); have u0 := g1.cell 0; have u1 := g1.cell 1; have u2 := g1.cell 2; have u3 := g1.cell 3; have u4 := g1.cell 4; have u5 := g1.cell 5; have u6 := g1.cell 6; have u7 := g1.cell 7; have u8 := g1.cell 8; simp only [List.getElem?_toArray, List.getElem?_cons_succ, List.getElem?_cons_zero] at u0 u1 u2 u3 u4 u5 u6 u7 u8; have hs6 := HB6.out.size; have G1 := Lib.hid g1; have hn56 : w5.heap.size < w6.heap.size := g1.low; clear hb6 g1))
        | (go_at_call 13; go_loud (refine (refIn z.fr z.tt key _).mono ?_; rintro e w7 ⟨rfl, hb7⟩; rw [HIN.out]; have HB7 := Lib.hid (HB6.out.trans ((Below.trans (show Below w6.heap.size w6 _ from by ((repeat (first | (with_reducible exact Below.refl _ _) | (with_reducible assumption) | ((with_reducible refine b_set ?_ ?_); · (first | omega | (simp; done) | (simp; omega))) | ((with_reducible refine b_alloc ?_ ?_); · (first | omega | (simp; done) | (simp; omega))) | (with_reducible refine Below.drew ?_) | (with_reducible refine b_drewN ?_) | ((with_reducible refine b_call (by assumption) ?_ ?_); · (first | omega | (simp; done) | (simp; omega))))); done)) (hb7.mono (by (try simp) <;> omega))).mono hs6)); have hs7 := HB7.out.size; clear hb7))
        | (go_at_call 11; go_loud (refine (drKnown _).mono ?_; rintro e w9 ⟨rfl, hb9⟩; have HB9 := Lib.hid (HB7.out.trans (hb9.mono hs7)); clear hb9))
        | fail)
      go_ret
      exact ⟨rfl, HBWV.out.trans (HB9.out.mono hwV)⟩
end Go.Proofs.Ytbohpjinkdffhaa
