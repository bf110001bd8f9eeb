/- Readers: so many bytes, and rows of bytes. -/
import Derived.Test.YtblknjclkecglaaOctetT
import Derived.Test.YtblknjclkecglaaTouch
import Derived.Deep.Onto
namespace Go.Proofs.Ytblknjclkecglaa
open Go.RowKit
set_option linter.unusedVariables false
set_option linter.unusedSimpArgs false

theorem flatU_take (xs : List Nat) (i : Nat) : flatU (xs.take i) = (flatU xs).take i := by simp [flatU, List.map_take]
theorem cells_take {w : World} {ad : Addr} {n c i B : Nat} {xs : List Nat} (h : Cells w B (some ad) n c 1 (flatU xs)) (hi : i ≤ n) (c' : Nat) : Cells w B (some ad) i c' 1 (flatU (xs.take i)) := by
  have hl := h.1
  rw [flatU_length, Nat.mul_one] at hl
  refine ⟨by rw [flatU_length, List.length_take]; omega, (fun e => by cases e), fun k u hu => ?_⟩
  rw [flatU_take, List.getElem?_take] at hu
  split at hu
  · exact h.2.2 k u hu
  · cases hu
theorem cells_mono {w : World} {B B' n c size : Nat} {A : Option Addr} {xs : List Value} (h : Cells w B A n c size xs) (hB : B ≤ B') : Cells w B' A n c size xs :=
  ⟨h.1, h.2.1, fun j u hu => by obtain ⟨q, o, e, hq, hc⟩ := h.2.2 j u hu; exact ⟨q, o, e, by omega, hc⟩⟩
/-- a row of bytes out of what is left -/
def nb (st : Option (List Nat)) : List Nat × Option (List Nat) := match nx st with
  | (n, some r) => if n ≤ r.length then (r.take n, some (r.drop n)) else ([], none)
  | (_, none) => ([], none)

set_option maxHeartbeats 2000000 in
set_option maxRecDepth 10000 in
theorem octRaw1 (b n : Nat) (r : List Nat) (w : World) (hl : r.length ≤ 1000000) (hr : Rd w b r false) (hn : n ≤ r.length) :
    Calls Try.prog 51 #[.pointer (some ⟨b, 0, none⟩), .int .i64 n] w fun e w' => ∃ v', e = .returned v' ∧ w'.ownsRow w.heap.size 5 1 v' (r.take n).length (flatU (r.take n)) ∧ Rd w' b (r.drop n) false ∧ Below b w w' := by
  obtain ⟨A, c, h0, hc, hm, hx⟩ := hr.row
  have hlow := hr.low
  have f0 := hr.free 0
  have HR := Lib.hid hr
  have HX := Lib.hid hx
  have hlt : (r.take n).length = n := by rw [List.length_take]; omega
  have HLT := Lib.hid hlt
  have k0 : ¬ ((n : Int) < 0) := by omega
  have k1 : ¬ ((r.length : Int) < (n : Int)) := by omega
  have k2 : (n : Int) ≤ (r.length : Int) := by omega
  have k3 : (n : Int) ≤ (c : Int) := by omega
  have k4 : (0 : Int) ≤ (n : Int) := by omega
  cases A with
  | none =>
    obtain ⟨hr0, hc0⟩ := hx.2.1 rfl
    have hr1 : r = [] := List.eq_nil_of_length_eq_zero hr0
    subst hr1
    obtain rfl : n = 0 := by simpa using hn
    subst hc0
    simp only [List.length_nil] at *
    clear hx hr
    go_enter Try.func51, Try.ntmps51
    go_wp2_with fail
    refine (octClone0 _ _ _).mono ?_
    rintro e w1 ⟨rfl, rfl⟩
    go_wp2_with fail
    go_ret
    refine ⟨_, rfl, World.ownsRow_nil _ _ _ _, ?_, b_set (Nat.le_refl _) (Below.refl _ _)⟩
    exact ⟨⟨none, 0, c_set_same (h_of h0), Nat.le_refl _, hm, ⟨rfl, fun _ => ⟨rfl, rfl⟩, fun j u hu => by simp [flatU] at hu⟩⟩, c_set_other (Or.inr (by decide)) HR.out.flag, fun j => f_set (HR.out.free j), by simpa [World.setCell] using hlow⟩
  | some ad =>
    obtain ⟨ab, ao, sp⟩ := ad
    have hsp : sp = none ∨ r = [] := by
      cases r with
      | nil => exact .inr rfl
      | cons x t =>
        obtain ⟨b', o', e, _, _⟩ := hx.2.2 0 (.int .u8 x) rfl
        injection e with e; injection e with e1 e2 e3
        exact .inl e3
    have HC := Lib.hid (cells_mono (cells_take hx hn c) (Nat.le_of_lt hlow))
    clear hx hr
    by_cases hcn : n = c
    · subst hcn
      have hrl : r.length = n := by omega
      go_enter Try.func51, Try.ntmps51
      go_wp2_with fail
      refine (octClone1 _ n _ _ _ (by omega) HC.out (flatU_one _)).mono ?_
      rintro e w1 ⟨v1, rfl, hown1, hb1⟩
      have c1 := bkeep hb1 h0 hlow
      have g1 := bfree hb1 f0 hlow
      have R1 := HR.out.touchBelow hb1 hlow
      have HO := Lib.hid hown1
      have HX1 := Lib.hid (cells_keep HX.out (hb1.mono (Nat.le_of_lt hlow)) (Nat.le_refl _))
      clear hown1 HC
      go_wp2_with fail
      go_ret
      refine ⟨_, rfl, by rw [HLT.out]; exact row_set HO.out hlow _, Rd.cutAll R1 c1 (by omega), b_set (Nat.le_refl _) (hb1.mono (Nat.le_of_lt hlow))⟩
    · have q1 : ¬ c = n := fun e => hcn e.symm
      go_enter Try.func51, Try.ntmps51
      go_wp2_with fail
      refine (octClone1 _ n _ _ _ (by omega) HC.out (flatU_one _)).mono ?_
      rintro e w1 ⟨v1, rfl, hown1, hb1⟩
      have c1 := bkeep hb1 h0 hlow
      have g1 := bfree hb1 f0 hlow
      have R1 := HR.out.touchBelow hb1 hlow
      have HO := Lib.hid hown1
      have HX1 := Lib.hid (cells_keep HX.out (hb1.mono (Nat.le_of_lt hlow)) (Nat.le_refl _))
      clear hown1 HC
      go_wp2_with fail
      go_ret
      rcases hsp with rfl | rfl
      · exact ⟨_, rfl, by rw [HLT.out]; exact row_set HO.out hlow _, by rw [add_none]; exact Rd.cut R1 c1 HX1.out hc hm hn, b_set (Nat.le_refl _) (hb1.mono (Nat.le_of_lt hlow))⟩
      · obtain rfl : n = 0 := by simpa using hn
        refine ⟨_, rfl, row_set HO.out hlow _, ?_, b_set (Nat.le_refl _) (hb1.mono (Nat.le_of_lt hlow))⟩
        exact ⟨⟨_, _, c_set_same (h_of c1), by simp, by omega, ⟨rfl, (fun e => by cases e), fun j u hu => by simp [flatU] at hu⟩⟩, c_set_other (Or.inr (by decide)) R1.flag, fun j => f_set (R1.free j), by simpa [World.setCell] using R1.low⟩

set_option maxHeartbeats 1000000 in
theorem octRawErr (b : Nat) (w : World) (hr : Rd w b [] true) :
    Calls Try.prog 51 #[.pointer (some ⟨b, 0, none⟩), .int .i64 0] w fun e w' => ∃ v', e = .returned v' ∧ w'.ownsRow w.heap.size 5 1 v' 0 [] ∧ Rd w' b [] true ∧ Below b w w' := by
  obtain ⟨A, c, h0, hc, hm, hx⟩ := hr.row
  have hlow := hr.low
  have f0 := hr.free 0
  have HR := Lib.hid hr
  have HX := Lib.hid hx
  simp only [List.length_nil] at h0
  cases A with
  | none =>
    obtain ⟨_, hc0⟩ := hx.2.1 rfl
    subst hc0
    clear hx hr
    go_enter Try.func51, Try.ntmps51
    go_wp2_with fail
    refine (octClone0 _ _ _).mono ?_
    rintro e w1 ⟨rfl, rfl⟩
    go_wp2_with fail
    go_ret
    refine ⟨_, rfl, World.ownsRow_nil _ _ _ _, ?_, b_set (Nat.le_refl _) (Below.refl _ _)⟩
    exact ⟨⟨none, 0, c_set_same (h_of h0), Nat.le_refl _, hm, ⟨rfl, fun _ => ⟨rfl, rfl⟩, fun j u hu => by simp [flatU] at hu⟩⟩, c_set_other (Or.inr (by decide)) HR.out.flag, fun j => f_set (HR.out.free j), by simpa [World.setCell] using hlow⟩
  | some ad =>
    have HC : Hid (Cells w w.heap.size (some ad) 0 c 1 (flatU [])) := Lib.hid ⟨rfl, (fun e => by cases e), fun j u hu => by simp [flatU] at hu⟩
    clear hx hr
    by_cases hcn : c = 0
    · subst hcn
      go_enter Try.func51, Try.ntmps51
      go_wp2_with fail
      refine (octClone1 _ 0 _ _ _ (by omega) HC.out (flatU_one _)).mono ?_
      rintro e w1 ⟨v1, rfl, hown1, hb1⟩
      have c1 := bkeep hb1 h0 hlow
      have g1 := bfree hb1 f0 hlow
      have R1 := HR.out.touchBelow hb1 hlow
      have HO := Lib.hid hown1
      clear hown1 HC
      go_wp2_with fail
      go_ret
      refine ⟨_, rfl, row_set HO.out hlow _, ?_, b_set (Nat.le_refl _) (hb1.mono (Nat.le_of_lt hlow))⟩
      exact ⟨⟨_, _, c_set_same (h_of c1), by simp, by unfold maxLen; omega, ⟨rfl, (fun e => by cases e), fun j u hu => by simp [flatU] at hu⟩⟩, c_set_other (Or.inr (by decide)) R1.flag, fun j => f_set (R1.free j), by simpa [World.setCell] using R1.low⟩
    · have q1 : 0 < (c : Int) := by omega
      go_enter Try.func51, Try.ntmps51
      go_wp2_with fail
      refine (octClone1 _ 0 _ _ _ (by omega) HC.out (flatU_one _)).mono ?_
      rintro e w1 ⟨v1, rfl, hown1, hb1⟩
      have c1 := bkeep hb1 h0 hlow
      have g1 := bfree hb1 f0 hlow
      have R1 := HR.out.touchBelow hb1 hlow
      have HO := Lib.hid hown1
      clear hown1 HC
      go_wp2_with fail
      go_ret
      refine ⟨_, rfl, row_set HO.out hlow _, ?_, b_set (Nat.le_refl _) (hb1.mono (Nat.le_of_lt hlow))⟩
      exact ⟨⟨_, _, c_set_same (h_of c1), by simp, by omega, ⟨rfl, (fun e => by cases e), fun j u hu => by simp [flatU] at hu⟩⟩, c_set_other (Or.inr (by decide)) R1.flag, fun j => f_set (R1.free j), by simpa [World.setCell] using R1.low⟩

set_option maxHeartbeats 1000000 in
theorem octRawNo (b n : Nat) (r : List Nat) (w : World) (hr : Rd w b r false) (hn : r.length < n) (hl : r.length ≤ 1000000) :
    Calls Try.prog 51 #[.pointer (some ⟨b, 0, none⟩), .int .i64 n] w fun e w' => e = .returned (.slice none 0 0) ∧ Rd w' b [] true ∧ Below b w w' := by
  obtain ⟨A, c, h0, hc, hm, hx⟩ := hr.row
  have HR := Lib.hid hr
  have k0 : ¬ ((n : Int) < 0) := by omega
  have k1 : ((r.length : Int) < (n : Int)) := by omega
  clear hx hr
  go_enter Try.func51, Try.ntmps51
  go_wp2_with fail
  refine (rdBad b _ _ _ HR.out).mono ?_
  rintro e w1 ⟨rfl, hr1, hb1⟩
  have HR1 := Lib.hid hr1
  clear hr1
  go_wp2_with fail
  go_ret
  exact ⟨rfl, HR1.out, hb1⟩
theorem nx_bytes {st : Option (List Nat)} (hb : ∀ x ∈ st.getD [], x < 256) (hl : (st.getD []).length ≤ 100000) : (∀ x ∈ (nx st).2.getD [], x < 256) ∧ ((nx st).2.getD []).length ≤ 100000 := by
  cases st with
  | none => simp [nx]
  | some r =>
    simp only [nx]
    cases h : rd 0 0 r with
    | none => simp
    | some p =>
      obtain ⟨n, t⟩ := p
      obtain ⟨h1, h2, _⟩ := rd_suffix r 0 0 n t h
      simp only [Option.getD_some] at *
      exact ⟨fun x hx => hb x (h2 x hx), by omega⟩
set_option maxHeartbeats 1000000 in
theorem octNb (b : Nat) (st : Option (List Nat)) (w : World) (hr : RS w b st) :
    Calls Try.prog 31 #[.pointer (some ⟨b, 0, none⟩)] w fun e w' => ∃ v', e = .returned v' ∧ w'.ownsRow w.heap.size 5 1 v' (nb st).1.length (flatU (nb st).1) ∧ RS w' b (nb st).2 ∧ Below b w w' := by
  have hlow := hr.low
  have HR := Lib.hid hr
  clear hr
  go_enter Try.func31, Try.ntmps31
  go_wp2_with fail
  refine (octNx b st _ HR.out).mono ?_
  rintro e w1 ⟨rfl, hr1, hb1⟩
  have hs1 := hb1.size
  have hnb := nx_le st
  cases h2 : (nx st).2 with
  | none =>
    have hn : (nx st).1 = 0 := by
      cases st with
      | none => rfl
      | some r => simp only [nx] at h2 ⊢; cases h : rd 0 0 r with | none => rfl | some p => rw [h] at h2; cases h2
    have hv : nb st = ([], none) := by
      unfold nb
      rw [show nx st = ((nx st).1, (nx st).2) from rfl, h2]
    rw [h2] at hr1
    have HR1 := Lib.hid hr1
    have HV := Lib.hid hv
    rw [hn]
    clear hr1 hv hn h2 hnb
    go_wp2_with fail
    refine (octRawErr b _ HR1.out.rd).mono ?_
    rintro e w2 ⟨v2, rfl, hown2, hr2, hb2⟩
    have HO := Lib.hid (World.ownsRow.mono hown2 hs1)
    have HR2 := Lib.hid hr2
    clear hown2 hr2
    go_wp2_with fail
    go_ret
    rw [HV.out]
    exact ⟨_, rfl, HO.out, RS.bad HR2.out, hb1.trans hb2⟩
  | some r =>
    rw [h2] at hr1
    have hlr := hr1.len
    simp only [Option.getD_some] at hlr
    have hbr := hr1.byt
    simp only [Option.getD_some] at hbr
    generalize hN : (nx st).1 = N at *
    have HR1 := Lib.hid hr1
    by_cases hle : N ≤ r.length
    · have hv : nb st = (r.take N, some (r.drop N)) := by
        unfold nb
        rw [show nx st = ((nx st).1, (nx st).2) from rfl, h2, hN]
        simp only; rw [if_pos hle]
      have HV := Lib.hid hv
      have HBR := Lib.hid hbr
      clear hr1 hv h2 hnb hbr
      go_wp2_with fail
      refine (octRaw1 b N r _ (by omega) HR1.out.rd hle).mono ?_
      rintro e w2 ⟨v2, rfl, hown2, hr2, hb2⟩
      have HO := Lib.hid (World.ownsRow.mono hown2 hs1)
      have HR2 := Lib.hid hr2
      clear hown2 hr2
      go_wp2_with fail
      go_ret
      rw [HV.out]
      exact ⟨_, rfl, HO.out, RS.of HR2.out (by rw [List.length_drop]; omega) (fun x hx => HBR.out x (List.mem_of_mem_drop hx)), hb1.trans hb2⟩
    · have hv : nb st = ([], none) := by
        unfold nb
        rw [show nx st = ((nx st).1, (nx st).2) from rfl, h2, hN]
        simp only; rw [if_neg hle]
      have HV := Lib.hid hv
      clear hr1 hv h2 hnb hbr
      go_wp2_with fail
      refine (octRawNo b N r _ HR1.out.rd (by omega) (by omega)).mono ?_
      rintro e w2 ⟨rfl, hr2, hb2⟩
      have HR2 := Lib.hid hr2
      clear hr2
      go_wp2_with fail
      go_ret
      rw [HV.out]
      exact ⟨_, rfl, World.ownsRow_nil _ _ _ _, RS.bad HR2.out, hb1.trans hb2⟩
end Go.Proofs.Ytblknjclkecglaa
