/- plan.mayMap; slices.Equal of zones. -/
import Derived.Test.YtepjehcmiofehaaGreatPq21
namespace Go.Proofs.YtepjehcmiofehaaGreat
open Go.RowKit
set_option linter.unusedVariables false
set_option linter.unusedSimpArgs false
def znEqB (a b : Zn) : Bool := decide (a.id = b.id ∧ a.fr.toList = b.fr.toList ∧ a.tt.toList = b.tt.toList ∧ a.ow = b.ow ∧ a.ep = b.ep ∧ a.pd = b.pd ∧ a.mv = b.mv ∧ a.ky.toList = b.ky.toList ∧ a.nw = b.nw)
theorem ba_ext {a b : ByteArray} (h : a.toList = b.toList) : a = b := by
  have h1 := congrArg List.toArray h
  simp only [ByteArray.toList_eq] at h
  cases a; cases b; simp_all
theorem znEqB_iff {a b : Zn} : znEqB a b = true ↔ a = b := by
  constructor
  · intro h
    obtain ⟨h0, h1, h2, h3, h4, h5, h6, h7, h8⟩ := of_decide_eq_true h
    cases a; cases b
    simp only at h0 h1 h2 h3 h4 h5 h6 h7 h8
    obtain rfl := h0
    obtain rfl := ba_ext h1
    obtain rfl := ba_ext h2
    subst h3 h4 h5 h6
    obtain rfl := ba_ext h7
    subst h8
    rfl
  · rintro rfl
    simp [znEqB]
set_option maxHeartbeats 4000000 in
set_option maxRecDepth 100000 in
theorem znNeqB (a b : Zn) (w : World) : (binOp .neq 56 (.agg #[.int .i64 a.id, .string a.fr, .string a.tt, .int .i64 a.ow, .int .i64 a.ep, .int .i64 a.pd, .int .i64 a.mv, .string a.ky, .int .i64 a.nw]) (.agg #[.int .i64 b.id, .string b.fr, .string b.tt, .int .i64 b.ow, .int .i64 b.ep, .int .i64 b.pd, .int .i64 b.mv, .string b.ky, .int .i64 b.nw])).run Tryz.prog w = .ok (.bool (!znEqB a b)) w := by
  unfold znEqB
  go_simp
  repeat' split
  all_goals simp [*]
set_option maxHeartbeats 4000000 in
set_option maxRecDepth 10000 in
theorem slZonesEq (l1 l2 : List Zn) (A1 A2 : Option Addr) (c1 c2 : Nat) (w : World) (h1 : RowZ w A1 c1 l1) (h2 : RowZ w A2 c2 l2) (hl : l1.length ≤ 100000) {b : Bool} (hb : b = true ↔ l1 = l2) :
    Calls Tryz.prog 28 #[.slice A1 l1.length c1, .slice A2 l2.length c2] w fun e w' => e = .returned (.bool b) ∧ Below w.heap.size w w' := by
  have H1 := Lib.hid h1
  have H2 := Lib.hid h2
  have HB := Lib.hid hb
  clear h1 h2 hb
  by_cases hn : l1.length = l2.length
  case neg =>
    have hbf : b = false := by cases b with | false => rfl | true => exact absurd (congrArg List.length (HB.out.1 rfl)) hn
    subst hbf
    have q1 : ((l1.length : Int) != (l2.length : Int)) = true := by rw [bne_iff_ne]; omega
    go_enter Tryz.func28, Tryz.ntmps28
    go_wp2_with fail
    go_ret
    exact ⟨rfl, by ((repeat (first | (with_reducible exact Below.refl _ _) | (with_reducible assumption) | ((with_reducible refine b_set ?_ ?_); · (first | omega | (simp; done) | (simp; omega))) | ((with_reducible refine b_alloc ?_ ?_); · (first | omega | (simp; done) | (simp; omega))) | (with_reducible refine Below.drew ?_) | (with_reducible refine b_drewN ?_) | ((with_reducible refine b_call (by assumption) ?_ ?_); · (first | omega | (simp; done) | (simp; omega))))); done)⟩
  have q1 : ((l1.length : Int) != (l2.length : Int)) = false := by rw [bne_eq_false_iff_eq]; omega
  go_enter Tryz.func28, Tryz.ntmps28
  go_wp2_with fail
  go_loopw [13] (fun iv wr => ∃ i : Nat, i ≤ l1.length ∧ iv = .int .i64 i ∧ (∀ j (hj : j < l1.length), j < i → l1[j] = l2[j]'(by omega)) ∧ Below w.heap.size w wr) (fun iv _ => l1.length - (intOf iv).toNat)
  case atStart => exact ⟨0, Nat.zero_le _, rfl, fun j hj h => absurd h (Nat.not_lt_zero _), Below.refl _ _⟩
  case round =>
    obtain ⟨i, hil, rfl, hal, hBw⟩ := hrel
    have HBW := Lib.hid hBw
    have HAL := Lib.hid hal
    clear hal
    by_cases hlt : i < l1.length
    · have q3 : (i : Int) < (l1.length : Int) := by omega
      have q4 : (i : Int) < (l2.length : Int) := by omega
      have hlt2 : i < l2.length := by omega
      have hr1 := H1.out.below hBw
      have hr2 := H2.out.below hBw
      obtain ⟨g1, p1, hA1, hg1, -⟩ := zn_at hr1.cells hlt
      subst hA1
      obtain ⟨g2, p2, hA2, hg2, -⟩ := zn_at hr2.cells hlt2
      subst hA2
      obtain ⟨z, hz⟩ : ∃ z, z = l1[i] := ⟨_, rfl⟩
      obtain ⟨y, hy⟩ : ∃ y, y = l2[i] := ⟨_, rfl⟩
      obtain ⟨a0, a1, a2, a3, a4, a5, a6, a7, a8⟩ := rowC_at hr1 hlt
      obtain ⟨b0, b1, b2, b3, b4, b5, b6, b7, b8⟩ := rowC_at hr2 hlt2
      rw [← hz] at a0 a1 a2 a3 a4 a5 a6 a7 a8
      rw [← hy] at b0 b1 b2 b3 b4 b5 b6 b7 b8
      have hne := znNeqB z y
      have HZ := Lib.hid hz
      have HY := Lib.hid hy
      clear hr1 hr2 hz hy hBw
      by_cases he : znEqB z y = true
      · rw [he] at hne
        simp only [Bool.not_true] at hne
        go_wp2_with fail
        go_quiet (fail)
        go_wp2_with fail
        refine ⟨⟨i + 1, hlt, by go_num, fun j hj h => ?_, b_drewN HBW.out⟩, measZ hlt⟩
        by_cases e : j = i
        · subst e; rw [← HZ.out, ← HY.out]; exact znEqB_iff.1 he
        · exact HAL.out j hj (by omega)
      · have hbf : b = false := by
          cases b with
          | false => rfl
          | true =>
            have e := HB.out.1 rfl
            exact absurd (znEqB_iff.2 (by rw [HZ.out, HY.out]; simp [e])) he
        subst hbf
        rw [Bool.not_eq_true] at he
        rw [he] at hne
        simp only [Bool.not_false] at hne
        go_wp2_with fail
        go_quiet (fail)
        go_wp2_with fail
        go_ret
        exact ⟨rfl, b_drewN HBW.out⟩
    · obtain rfl : l1.length = i := by omega
      have hbt : b = true := HB.out.2 (List.ext_getElem hn (fun j h3 h4 => HAL.out j h3 h3))
      subst hbt
      go_wp2_with fail
      go_ret
      exact ⟨rfl, HBW.out⟩
theorem mBs_le {m : Mp} (h : SmZ m) : (mBs m).length ≤ 43000 := by
  have h1 := zsBs_take h m.zs.length
  rw [List.take_length] at h1
  have h2 := encs_le [m.ver, m.nxt, (m.zs.length : Int)] 3 (by simp)
  unfold mBs
  rw [List.length_append]
  omega
theorem enc_byteP : ∀ (n : Nat), ∀ x ∈ enc n, x < 256 := by
  intro n
  induction n using Nat.strongRecOn with
  | _ n ih =>
    rw [enc]
    split
    · intro x hx
      simp only [List.mem_cons] at hx
      rcases hx with rfl | hx
      · omega
      · exact ih (n / 128) (by omega) x hx
    · intro x hx; simp at hx; omega
theorem encs_byte (l : List Int) : ∀ x ∈ encs l, x < 256 := by
  intro x hx
  simp only [encs, List.mem_flatMap] at hx
  obtain ⟨n, _, h⟩ := hx
  exact enc_byteP _ x h
theorem bs_byte (s : ByteArray) : ∀ x ∈ bs s, x < 256 := by
  intro x hx
  unfold bs at hx
  obtain ⟨b, _, rfl⟩ := List.mem_map.1 hx
  exact b.toNat_lt
theorem encb_byte : ∀ (l : List (List Nat)), (∀ y ∈ l, ∀ x ∈ y, x < 256) → ∀ x ∈ encb l, x < 256 := by
  intro l h x hx
  simp only [encb, List.mem_flatMap] at hx
  obtain ⟨y, hy, hx⟩ := hx
  rcases List.mem_append.1 hx with hx | hx
  · exact enc_byteP _ x hx
  · exact h y hy x hx
theorem zBs_byte (z : Zn) : ∀ x ∈ zBs z, x < 256 := by
  intro x hx
  unfold zBs at hx
  simp only [List.mem_append] at hx
  rcases hx with hx | hx | hx | hx | hx
  · exact encs_byte _ x hx
  · exact encb_byte _ (by intro y hy; simp only [List.mem_cons, List.not_mem_nil, or_false] at hy; rcases hy with rfl | rfl <;> exact bs_byte _) x hx
  · exact encs_byte _ x hx
  · exact encb_byte _ (by intro y hy; simp only [List.mem_cons, List.not_mem_nil, or_false] at hy; subst hy; exact bs_byte _) x hx
  · exact encs_byte _ x hx
theorem mBs_byte (m : Mp) : ∀ x ∈ mBs m, x < 256 := by
  intro x hx
  unfold mBs at hx
  rcases List.mem_append.1 hx with hx | hx
  · exact encs_byte _ x hx
  · unfold zsBs at hx
    obtain ⟨z, _, hx⟩ := List.mem_flatMap.1 hx
    exact zBs_byte z x hx
theorem own_cells {w : World} {base e size n c : Nat} {A : Option Addr} {xs : List Value} (h : w.ownsRow base e size (.slice A n c) n xs) : Cells w w.heap.size A n c size xs := by
  obtain ⟨A2, c2, e2, _, _, h2⟩ := row_cells h
  injection e2 with e3 e4 e5
  subst e3 e5
  exact h2
theorem mOk_mayP {s : Option (List Nat)} (h : mOk s = true) : MayP (mD s) := by
  unfold mOk at h
  rw [Bool.and_eq_true] at h
  exact (mayB_iff _).1 h.2
set_option maxHeartbeats 8000000 in
set_option maxRecDepth 10000 in
theorem plMayMap (A : Option Addr) (cp : Nat) (m : Mp) (w : World) (h : RowZ w A cp m.zs) (hsm : SmZ m) {b : Bool} (hb : b = true ↔ MayP m) :
    Calls Tryz.prog 14 #[.agg #[.int .i64 m.ver, .int .i64 m.nxt, .slice A m.zs.length cp]] w fun e w' => e = .returned (.bool b) ∧ Below w.heap.size w w' := by
  have HR := Lib.hid (h.alloc (.cells #[.int .i64 m.ver, .int .i64 m.nxt, .slice A m.zs.length cp] 24))
  have HSM := Lib.hid hsm
  have hNB : ¬ MayP m → b = false := fun h => by cases e : b with | false => rfl | true => exact absurd (hb.1 e) h
  have HNB := Lib.hid hNB
  have HYB := Lib.hid hb.2
  clear h hb hsm hNB
  by_cases hbig : (16 : Int) < (m.zs.length : Int)
  case pos =>
    obtain rfl : b = false := HNB.out (fun h => by have := h.len; omega)
    go_enter Tryz.func14, Tryz.ntmps14
    go_wp2_with fail
    go_ret
    exact ⟨rfl, by ((repeat (first | (with_reducible exact Below.refl _ _) | (with_reducible assumption) | ((with_reducible refine b_set ?_ ?_); · (first | omega | (simp; done) | (simp; omega))) | ((with_reducible refine b_alloc ?_ ?_); · (first | omega | (simp; done) | (simp; omega))) | (with_reducible refine Below.drew ?_) | (with_reducible refine b_drewN ?_) | ((with_reducible refine b_call (by assumption) ?_ ?_); · (first | omega | (simp; done) | (simp; omega))))); done)⟩
  obtain ⟨N, hN⟩ : ∃ N, N = mBs m := ⟨_, rfl⟩
  have HN := Lib.hid hN
  have hNl : N.length ≤ 100000 := by rw [hN]; have := mBs_le HSM.out; omega
  have HNb := Lib.hid (show ∀ x ∈ N, x < 256 by rw [hN]; exact mBs_byte m)
  have hml : m.zs.length ≤ 100000 := by omega
  have hP : Whl (w.alloc (.cells #[.int .i64 m.ver, .int .i64 m.nxt, .slice A m.zs.length cp] 24)) w.heap.size 24 #[.int .i64 m.ver, .int .i64 m.nxt, .slice A m.zs.length cp] := Whl.new rfl
  have HP := Lib.hid hP
  have HBV := Lib.hid (show Below w.heap.size w (w.alloc (.cells #[.int .i64 m.ver, .int .i64 m.nxt, .slice A m.zs.length cp] 24)) from (Below.refl _ _).alloc (Nat.le_refl _) _)
  clear hN hP
  by_cases hok : mOk (some N) = true
  case neg =>
    obtain rfl : b = false := HNB.out (fun h => hok (by rw [HN.out]; exact (mp_back h HSM.out).1))
    rw [Bool.not_eq_true] at hok
    have HOK := Lib.hid hok
    clear hok
    go_enter Tryz.func14, Tryz.ntmps14
    go_wp2_with (first
      | (go_at_call 26; go_loud (refine (drDecode A2 c2 N _ hNl HNb.out (own_cells HO2.out)).mono ?_; rintro e w3 ⟨hm3, hb3⟩; obtain rfl := hm3.no HOK.out; have HB3 := Lib.hid (HB2.out.trans (hb3.mono HB2.out.size)); have hP3 := (HP2.out.below hb3 HP2.out.low); have x0 := hP3.cell 0; have x1 := hP3.cell 1; have x2 := hP3.cell 2; simp only [List.getElem?_toArray, List.getElem?_cons_succ, List.getElem?_cons_zero] at x0 x1 x2; clear hm3 hb3))
      | (go_at_call 27; go_loud (refine (drEncode A cp m _ HR.out.cells HSM.out).mono ?_; rintro e w2 ⟨v2, rfl, ho2, hb2⟩; rw [← HN.out] at ho2; obtain ⟨A2, c2, rfl, -, -, -⟩ := row_cells ho2; have HO2 := Lib.hid ho2; have HB2 := Lib.hid (HBV.out.trans (hb2.mono (by simp))); have HP2 := Lib.hid (HP.out.below hb2 HP.out.low); clear ho2 hb2))
      | fail)
    go_ret
    exact ⟨rfl, HB3.out.alloc HB3.out.size _⟩
  have HOK := Lib.hid hok
  obtain ⟨M, hM⟩ : ∃ M, M = mD (some N) := ⟨_, rfl⟩
  have hMP : MayP M := by rw [hM]; exact mOk_mayP hok
  have hMl : M.zs.length ≤ 100000 := by have := hMP.len; omega
  have HM := Lib.hid hM
  clear hok hM
  have hbM : b = true ↔ M = m := by
    constructor
    · intro e
      cases b with
      | false => cases e
      | true =>
        by_cases hp : MayP m
        · rw [HM.out, HN.out]; exact (mp_back hp HSM.out).2
        · have := HNB.out hp; cases this
    · intro e
      exact HYB.out (e ▸ hMP)
  have HBM := Lib.hid hbM
  clear hbM hMP
  have arm : True := trivial
  by_cases hv : M.ver = m.ver
  case neg =>
    obtain rfl : b = false := by cases b with | false => rfl | true => exact absurd (congrArg Mp.ver (HBM.out.1 rfl)) hv
    have qv : (M.ver == m.ver) = false := by rw [beq_eq_false_iff_ne]; exact hv
    go_enter Tryz.func14, Tryz.ntmps14
    go_wp2_with (first
      | (go_at_call 26; go_loud (refine (drDecode A2 c2 N _ hNl HNb.out (own_cells HO2.out)).mono ?_; rintro e w3 ⟨hm3, hb3⟩; obtain ⟨z3, rfl, ho3⟩ := hm3.yes HOK.out; rw [← HM.out] at ho3; rw [← HM.out]; obtain ⟨A3, c3, rfl, HR3⟩ := RowZ.of (n := 0) ho3; have HR3 := Lib.hid HR3; have HRm := Lib.hid (HR2.out.below hb3); have HB3 := Lib.hid (HB2.out.trans (hb3.mono HB2.out.size)); have hs3 := HB3.out.size; have hP3 := (HP2.out.below hb3 HP2.out.low); have hl3 := hP3.low; have x0 := hP3.cell 0; have x1 := hP3.cell 1; have x2 := hP3.cell 2; simp only [List.getElem?_toArray, List.getElem?_cons_succ, List.getElem?_cons_zero] at x0 x1 x2; clear hm3 hb3 ho3))
      | (go_at_call 27; go_loud (refine (drEncode A cp m _ HR.out.cells HSM.out).mono ?_; rintro e w2 ⟨v2, rfl, ho2, hb2⟩; rw [← HN.out] at ho2; obtain ⟨A2, c2, rfl, -, -, -⟩ := row_cells ho2; have HO2 := Lib.hid ho2; have HR2 := Lib.hid (HR.out.below hb2); have HB2 := Lib.hid (HBV.out.trans (hb2.mono (by simp))); have HP2 := Lib.hid (HP.out.below hb2 HP.out.low); clear ho2 hb2))
      | fail)
    go_ret
    exact ⟨rfl, HB3.out.alloc HB3.out.size _⟩
  have qv : (M.ver == m.ver) = true := by rw [beq_iff_eq]; exact hv
  by_cases hx : M.nxt = m.nxt
  case neg =>
    obtain rfl : b = false := by cases b with | false => rfl | true => exact absurd (congrArg Mp.nxt (HBM.out.1 rfl)) hx
    have qx : (M.nxt == m.nxt) = false := by rw [beq_eq_false_iff_ne]; exact hx
    have HV := Lib.hid hv
    clear hv
    go_enter Tryz.func14, Tryz.ntmps14
    go_wp2_with (first
      | (go_at_call 26; go_loud (refine (drDecode A2 c2 N _ hNl HNb.out (own_cells HO2.out)).mono ?_; rintro e w3 ⟨hm3, hb3⟩; obtain ⟨z3, rfl, ho3⟩ := hm3.yes HOK.out; rw [← HM.out] at ho3; rw [← HM.out]; obtain ⟨A3, c3, rfl, HR3⟩ := RowZ.of (n := 0) ho3; have HR3 := Lib.hid HR3; have HRm := Lib.hid (HR2.out.below hb3); have HB3 := Lib.hid (HB2.out.trans (hb3.mono HB2.out.size)); have hs3 := HB3.out.size; have hP3 := (HP2.out.below hb3 HP2.out.low); have hl3 := hP3.low; have x0 := hP3.cell 0; have x1 := hP3.cell 1; have x2 := hP3.cell 2; simp only [List.getElem?_toArray, List.getElem?_cons_succ, List.getElem?_cons_zero] at x0 x1 x2; clear hm3 hb3 ho3))
      | (go_at_call 27; go_loud (refine (drEncode A cp m _ HR.out.cells HSM.out).mono ?_; rintro e w2 ⟨v2, rfl, ho2, hb2⟩; rw [← HN.out] at ho2; obtain ⟨A2, c2, rfl, -, -, -⟩ := row_cells ho2; have HO2 := Lib.hid ho2; have HR2 := Lib.hid (HR.out.below hb2); have HB2 := Lib.hid (HBV.out.trans (hb2.mono (by simp))); have HP2 := Lib.hid (HP.out.below hb2 HP.out.low); clear ho2 hb2))
      | fail)
    go_ret
    exact ⟨rfl, HB3.out.alloc HB3.out.size _⟩
  have qx : (M.nxt == m.nxt) = true := by rw [beq_iff_eq]; exact hx
  have HBZ : Hid (b = true ↔ M.zs = m.zs) := Lib.hid (by
    rw [HBM.out]
    exact ⟨fun e => by rw [e], fun e => by cases M; cases m; simp_all⟩)
  have HV := Lib.hid hv
  have HX := Lib.hid hx
  clear hv hx
  go_enter Tryz.func14, Tryz.ntmps14
  go_wp2_with (first
    | (go_at_call 26; go_loud (refine (drDecode A2 c2 N _ hNl HNb.out (own_cells HO2.out)).mono ?_; rintro e w3 ⟨hm3, hb3⟩; obtain ⟨z3, rfl, ho3⟩ := hm3.yes HOK.out; rw [← HM.out] at ho3; rw [← HM.out]; obtain ⟨A3, c3, rfl, HR3⟩ := RowZ.of (n := 0) ho3; have HR3 := Lib.hid HR3; have HRm := Lib.hid (HR2.out.below hb3); have HB3 := Lib.hid (HB2.out.trans (hb3.mono HB2.out.size)); have hs3 := HB3.out.size; have hP3 := (HP2.out.below hb3 HP2.out.low); have hl3 := hP3.low; have x0 := hP3.cell 0; have x1 := hP3.cell 1; have x2 := hP3.cell 2; simp only [List.getElem?_toArray, List.getElem?_cons_succ, List.getElem?_cons_zero] at x0 x1 x2; clear hm3 hb3 ho3))
      | (go_at_call 27; go_loud (refine (drEncode A cp m _ HR.out.cells HSM.out).mono ?_; rintro e w2 ⟨v2, rfl, ho2, hb2⟩; rw [← HN.out] at ho2; obtain ⟨A2, c2, rfl, -, -, -⟩ := row_cells ho2; have HO2 := Lib.hid ho2; have HR2 := Lib.hid (HR.out.below hb2); have HB2 := Lib.hid (HBV.out.trans (hb2.mono (by simp))); have HP2 := Lib.hid (HP.out.below hb2 HP.out.low); clear ho2 hb2))
    | (go_at_call 28; go_loud (refine (slZonesEq M.zs m.zs A3 A c3 cp _ (HR3.out.alloc _) (HRm.out.alloc _) hMl HBZ.out).mono ?_; rintro e w4 ⟨rfl, hb4⟩; have HB4 : Hid (Below w.heap.size w w4) := Lib.hid (Below.trans (HB3.out.alloc HB3.out.size _) (hb4.mono (by (have := HB3.out.size; simp; omega)))); clear hb4))
    | fail)
  go_ret
  exact ⟨rfl, HB4.out⟩
end Go.Proofs.YtepjehcmiofehaaGreat
