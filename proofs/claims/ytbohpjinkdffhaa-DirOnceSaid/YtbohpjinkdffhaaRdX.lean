/- The law DirOnce: what was done of an Epoch is not done again. -/
import Derived.Test.YtbohpjinkdffhaaRdW
namespace Go.Proofs.Ytbohpjinkdffhaa
open Go.RowKit
set_option linter.unusedVariables false
set_option linter.unusedSimpArgs false

theorem hosts3 {w : World} : Cells (w.alloc (.cells #[.int .i64 8, .int .i64 9, .int .i64 10] 3)) (w.alloc (.cells #[.int .i64 8, .int .i64 9, .int .i64 10] 3)).heap.size (some ⟨w.heap.size, 0, none⟩) ([8, 9, 10] : List Int).length 3 1 (intsV [8, 9, 10]) := by
  have h := World.ownsRow_lit (base := w.heap.size) (e := 3) (size := 1) w #[.int .i64 8, .int .i64 9, .int .i64 10] 3 (Nat.le_refl _) (by unfold maxLen; omega) rfl
  refine ⟨rfl, (fun h => nomatch h), fun j u hj => ⟨w.heap.size, 0, rfl, by simp, ?_⟩⟩
  rw [Nat.zero_add, h.cellAt j (by have := (List.getElem?_eq_some_iff.1 hj).1; simpa [intsV] using this)]
  exact hj
theorem and65535 (z : Int) : bits .and .i64 z 65535 = z % 65536 := by
  show IntKind.i64.wrap (((BitVec.ofInt 64 z &&& BitVec.ofInt 64 65535).toNat : Nat) : Int) = _
  rw [BitVec.toNat_and, BitVec.toNat_ofInt, show (BitVec.ofInt 64 65535).toNat = 2 ^ 16 - 1 from rfl, Nat.and_two_pow_sub_one_eq_mod, IntKind.wrap_i64]
  omega
theorem DrH.fzlow {w : World} {B d : Nat} {hv zv : Value} {hosts : List Int} {m : Mp} (h : DrH w B d hv zv hosts m) : ∀ k, Fz d zv k → B ≤ k ∧ k < w.heap.size := fun k hk => h.lows k (hk.elim .inl (fun h => .inr (.inr h)))
theorem RdH.fzlow {w : World} {B d : Nat} {hv zv : Value} {hosts : List Int} {m : Mp} (h : RdH w B d hv zv hosts m) : ∀ k, Fz d zv k → B ≤ k ∧ k < w.heap.size := fun k hk => h.lows k (hk.elim .inl (fun h => .inr (.inr h)))
/-- what is done of an Epoch is of an elder one behind it -/
theorem Applies.older {hosts : List Int} {m m1 : Mp} {c : Ch} (h : Applies hosts m c m1) (hk : c.kd = 4) (hi : InvZ m) : ∀ y ∈ m1.zs, y.id = c.zo → c.ep < y.ep := by
  have hi1 := h.inv hi
  obtain ⟨i, hl, hid, _, m2, hd, rfl⟩ := h.deed
  intro y hy e
  have key : ∀ s : Zn, s ∈ m2.zs → s.id = c.zo → c.ep < s.ep → c.ep < y.ep := fun s hs h1 h2 => by
    rw [idsA_inj hi1.nodup hy hs (by rw [e, h1])]; exact h2
  cases hd with
  | split k p q n x => omega
  | merge k h2 p q o => omega
  | move k p q o n => omega
  | abort k p e x => omega
  | splitDone k p ee q x => exact key _ (List.mem_append_right _ List.mem_cons_self) hid (by show c.ep < m.zs[i].ep + 1; omega)
  | mergeDone k p ee h2 o q x => exact key _ (List.mem_append_right _ List.mem_cons_self) hid (by show c.ep < max m.zs[i].ep m.zs[i + 1].ep + 1; omega)
  | moveDone k p p1 p2 ee x => exact key _ (List.mem_set hl _) hid (by show c.ep < m.zs[i].ep + 1; omega)
theorem no_again {hosts : List Int} {m : Mp} {c : Ch} (hk : c.kd = 4 ∨ c.kd = 5) (h : ∀ y ∈ m.zs, y.id = c.zo → c.ep < y.ep) : ∀ m1, ¬ Applies hosts m c m1 := by
  intro m1 ha
  obtain ⟨i, hl, hid, _, m2, hd, rfl⟩ := ha.deed
  have := h m.zs[i] (List.getElem_mem hl) hid
  cases hd <;> omega
set_option maxHeartbeats 8000000 in
set_option maxRecDepth 10000 in
theorem walkDirOnce (A : Option Addr) (c : Nat) (xs : List Ch) (pick : Int) (w : World) (hx : Cells w w.heap.size A xs.length c 5 (xs.flatMap chV)) :
    Calls Try.prog 5 #[.slice A xs.length c, .int .i64 pick] w fun e w' => e = .returned (.bool true) ∧ Below w.heap.size w w' := by
  have HX := Lib.hid hx
  clear hx
  by_cases hP : Hv xs
  case pos =>
    have HP : Hid (true = true ↔ Hv xs) := Lib.hid ⟨fun _ => hP, fun _ => rfl⟩
    clear hP
    go_enter Try.func5, Try.ntmps5
    go_wp2_with (first
      | (go_at_call 9; go_loud (refine (drHeavyB A c xs _ HX.out HP.out).mono ?_; rintro e w0 ⟨rfl, hb0⟩; have HB0 := Lib.hid hb0; have hs0 := hb0.size; clear hb0))
      | fail)
    go_ret
    exact ⟨rfl, HB0.out⟩
  have HP : Hid (false = true ↔ Hv xs) := Lib.hid ⟨fun h => (by cases h), fun h => absurd h hP⟩
  clear hP
  go_enter Try.func5, Try.ntmps5
  go_upto_region 6 with (first
    | (go_at_call 9; go_loud (refine (drHeavyB A c xs _ HX.out HP.out).mono ?_; rintro e w0 ⟨rfl, hb0⟩; have HB0 := Lib.hid hb0; have hs0 := hb0.size; clear hb0))
    | (go_at_call 10; go_loud (refine (played1 (some ⟨w0.heap.size, 0, none⟩) 3 [8, 9, 10] A c xs _ hosts3 (by decide) (cells_keep HX.out (HB0.out.alloc hs0 _) (by simp; omega))).mono ?_; rintro e w1 ⟨d, x, hv, zv, hv2, zv2, m, rfl, hd1, hr1, hm1, hv1, hsm1, hap1, hb1⟩; have HB1 : Hid (Below w.heap.size w w1) := Lib.hid ((HB0.out.alloc hs0 _).trans (hb1.mono (by simp; omega))); have hs1 := HB1.out.size; have HD1 := Lib.hid (hd1.lower (show w0.heap.size ≤ _ by simp)); have HR1 := Lib.hid (hr1.lower (show w0.heap.size ≤ _ by simp)); have HM1 := Lib.hid hm1; have HV1 := Lib.hid hv1; have HS1 := Lib.hid hsm1; have HAP1 := Lib.hid hap1; have hs01 : w0.heap.size ≤ w1.heap.size := (by have := hb1.size; simp at this; omega); clear hd1 hr1 hm1 hv1 hsm1 hap1 hb1))
    | fail)
  have hlen : m.zs.length ≤ 16 := by have := HM1.out.okn.sum; omega
  have hone := HM1.out.okn.one
  have hk0 := HR1.out.blk.cell 2
  simp only [List.getElem?_toArray, List.getElem?_cons_succ, List.getElem?_cons_zero] at hk0
  obtain ⟨gz, cz, hzv, _, hgz, _, _⟩ := own_form HR1.out.row (by omega)
  subst hzv
  have hxl := HR1.out.blk.low
  have hand := and65535 pick
  obtain ⟨p, hp⟩ : ∃ p, p = pick % 65536 := ⟨_, rfl⟩
  rw [← hp] at hand
  obtain ⟨i, hi⟩ : ∃ i : Nat, (i : Int) = p % (m.zs.length : Int) := ⟨(p % (m.zs.length : Int)).toNat, Int.toNat_of_nonneg (Int.emod_nonneg _ (by omega))⟩
  have hpl : 0 ≤ p := by rw [hp]; exact Int.emod_nonneg _ (by decide)
  have hir : Int.tmod p (m.zs.length : Int) = (i : Int) := by rw [Int.tmod_eq_emod_of_nonneg hpl, hi]
  have hil : i < m.zs.length := by
    have := Int.emod_lt_of_pos p (show (0 : Int) < (m.zs.length : Int) by omega)
    omega
  obtain ⟨z, hz⟩ : ∃ z, z = m.zs[i] := ⟨_, rfl⟩
  obtain ⟨v0, v1, v2, v3, v4, v5, v6, v7, v8⟩ := rowZ_at HR1.out.row hil
  rw [← hz] at v0 v1 v2 v3 v4 v5 v6 v7 v8
  have HZ := Lib.hid hz
  have q3 : (i : Int) < (m.zs.length : Int) := by omega
  have q0 : ((m.zs.length : Int) == 0) = false := by rw [beq_eq_false_iff_ne]; omega
  clear hz hi hp
  go_region
  go_upto_region 8 with fail
  have HM := Lib.hid HM1.out
  obtain ⟨V, hV⟩ : ∃ V, V = ((w1.alloc (.cells #[.int .i64 z.id, .string z.fr, .string z.tt, .int .i64 z.ow, .int .i64 z.ep, .int .i64 z.pd, .int .i64 z.mv, .string z.ky, .int .i64 z.nw] 39)).alloc (.cells #[.int .i64 4, .int .i64 z.id, .int .i64 z.ep, .int .i64 0, .string ⟨#[]⟩] 47)).drew := ⟨_, rfl⟩
  obtain ⟨N, hN⟩ : ∃ n, n = w1.heap.size + 1 := ⟨_, rfl⟩
  have hPV : Whl V N 47 #[.int .i64 4, .int .i64 z.id, .int .i64 z.ep, .int .i64 0, .string ⟨#[]⟩] := by rw [hV, hN]; exact (Whl.new (by simp)).drew
  have hBV : Below w1.heap.size w1 V := by
    rw [hV]
    exact (((Below.refl _ _).alloc (Nat.le_refl _) _).alloc (by simp) _).drew
  rw [← hN, ← hV]
  have hNV := hPV.low
  have hNl : w1.heap.size < N := by omega
  have HPV := Lib.hid hPV
  have HBV := Lib.hid hBV
  have HDV := Lib.hid (HD1.out.below hBV)
  have HXV := Lib.hid (HR1.out.below hBV)
  have hsV := hBV.size
  have n0 := hPV.cell 0
  have n1 := hPV.cell 1
  have n2 := hPV.cell 2
  have n3 := hPV.cell 3
  have n4 := hPV.cell 4
  simp only [List.getElem?_toArray, List.getElem?_cons_succ, List.getElem?_cons_zero] at n0 n1 n2 n3 n4
  clear hV hN hPV hBV v0 v1 v2 v3 v4 v5 v6 v7 v8 hk0
  obtain ⟨b, m2, ha⟩ := Ap.ex [8, 9, 10] m ⟨4, z.id, z.ep, 0, ⟨#[]⟩⟩
  have HA := Lib.hid ha
  have hFN : ∀ k, Fz d zv k → k ≠ N := fun k hk => by
    have : k < w1.heap.size := by
      rcases hk with h | h
      · have := HD1.out.blk.low; omega
      · exact (HD1.out.row.lt k h).2
    omega
  cases b with
  | false =>
    go_wp2_with (first
      | (go_at_call 17; go_loud (refine (rdAp w0.heap.size x hv2 _ [8, 9, 10] m ⟨4, z.id, z.ep, 0, ⟨#[]⟩⟩ _ HX2.out (by omega) (by decide) HM.out HV1.out (HS1.out.mono (by decide)) HA.out).mono ?_; rintro e w3 ⟨z3, rfl, _, ht3, _⟩; have HB3 : Hid (Below w.heap.size w w3) := Lib.hid (HB2.out.trans (ht3.below (by omega) (fun k hk => (by have := (HR1.out.fzlow k hk).1; omega)))); have hs3 := HB3.out.size; clear ht3))
      | (go_at_call 16; go_loud (refine (drAp w0.heap.size d hv zv [8, 9, 10] m ⟨4, z.id, z.ep, 0, ⟨#[]⟩⟩ _ HDV.out (by omega) HM.out.okn.okm (by decide) HA.out).mono ?_; rintro e w2 ⟨z2, rfl, hd2, ht2, hw2⟩; have HP2 : Hid (Whl w2 N 47 #[.int .i64 4, .int .i64 z.id, .int .i64 z.ep, .int .i64 0, .string ⟨#[]⟩]) := Lib.hid ((ht2.block N hNV (fun h => hFN N h rfl)).trans HPV.out); have n0 := HP2.out.cell 0; have n1 := HP2.out.cell 1; have n2 := HP2.out.cell 2; have n3 := HP2.out.cell 3; have n4 := HP2.out.cell 4; simp only [List.getElem?_toArray, List.getElem?_cons_succ, List.getElem?_cons_zero] at n0 n1 n2 n3 n4; have HX2 := Lib.hid (HXV.out.keep ht2 (fun k hk hf => HAP1.out k (hf.elim .inl (fun h => .inr (.inr h))) hk)); have hs2 := ht2.size; have HB2 : Hid (Below w.heap.size w w2) := Lib.hid ((HB1.out.trans (HBV.out.mono hs1)).trans (ht2.below (by omega) (fun k hk => (by have := (HD1.out.fzlow k hk).1; omega)))); clear hd2 ht2 hw2))
      | (go_at_call 11; go_loud (refine (drKnown _).mono ?_; rintro e w9 ⟨rfl, hb9⟩; have HB9 := Lib.hid (HB3.out.trans (hb9.mono (by omega))); clear hb9))
      | fail)
    go_ret
    exact ⟨rfl, HB9.out⟩
  | true =>
    have hap : Applies [8, 9, 10] m ⟨4, z.id, z.ep, 0, ⟨#[]⟩⟩ m2 := by
      rcases ha with ⟨_, h⟩ | ⟨h, _⟩
      · exact h
      · cases h
    have hold := hap.older rfl HM.out.inv
    have HA2 : Hid (Ap [8, 9, 10] m2 ⟨4, z.id, z.ep, 0, ⟨#[]⟩⟩ false m2) := Lib.hid (.inr ⟨rfl, rfl, no_again (.inl rfl) hold⟩)
    have HA3 : Hid (Ap [8, 9, 10] m2 ⟨5, z.id, z.ep, 0, ⟨#[]⟩⟩ false m2) := Lib.hid (.inr ⟨rfl, rfl, no_again (.inr rfl) hold⟩)
    have HM2 := Lib.hid (hap.may HM.out)
    clear hap hold ha
    go_wp2_with (first
      | (go_at_call 16; have hgg := HP3; clear hgg; go_loud (have ht4 : Touch (fun k => k = N) w3 (w3.setCell ⟨N, 0, none⟩ (.int .i64 5)) := (Touch.refl _ _).set (fun _ => rfl); have HD4 := Lib.hid (HD3.out.keep ht4 (fun k hk e => hFN3 k hk e)); have HB4 : Hid (Below w.heap.size w (w3.setCell ⟨N, 0, none⟩ (.int .i64 5))) := Lib.hid (HB3.out.trans (ht4.below (by omega) (fun k hk => by omega))); refine (drAp w0.heap.size d hv z3 [8, 9, 10] m2 ⟨5, z.id, z.ep, 0, ⟨#[]⟩⟩ _ HD4.out (by (try simp) <;> omega) HM2.out.okn.okm (by decide) HA3.out).mono ?_; rintro e w5 ⟨z5, rfl, _, ht5, _⟩; have HB5 : Hid (Below w.heap.size w w5) := Lib.hid (HB4.out.trans (ht5.below (by (try simp) <;> omega) (fun k hk => (by have := (HD4.out.fzlow k hk).1; omega)))); have hs5 := HB5.out.size; clear ht5 ht4))
      | (go_at_call 16; go_loud (refine (drAp w0.heap.size d hv _ [8, 9, 10] m2 ⟨4, z.id, z.ep, 0, ⟨#[]⟩⟩ _ HD2.out (by omega) HM2.out.okn.okm (by decide) HA2.out).mono ?_; rintro e w3 ⟨z3, rfl, hd3, ht3, hw3⟩; have HP3 : Hid (Whl w3 N 47 #[.int .i64 4, .int .i64 z.id, .int .i64 z.ep, .int .i64 0, .string ⟨#[]⟩]) := Lib.hid ((ht3.block N (by omega) (fun h => hFN2 N h rfl)).trans HP2.out); have n0 := HP3.out.cell 0; have n1 := HP3.out.cell 1; have n2 := HP3.out.cell 2; have n3 := HP3.out.cell 3; have n4 := HP3.out.cell 4; simp only [List.getElem?_toArray, List.getElem?_cons_succ, List.getElem?_cons_zero] at n0 n1 n2 n3 n4; have nf := (fun k => HP3.out.free k); have HD3 := Lib.hid hd3; have hs3 := ht3.size; have HB3 : Hid (Below w.heap.size w w3) := Lib.hid (HB2.out.trans (ht3.below (by omega) (fun k hk => (by have := (HD2.out.fzlow k hk).1; omega)))); have hFN3 : ∀ k, Fd d hv z3 k → k ≠ N := (fun k hk => hk.elim (fun h => hFN2 k (.inl h)) (fun h => h.elim (fun h => hHN k h) (fun h => (hw3 k h).elim (fun h => hFN2 k (.inr h)) (fun h => (by omega))))); clear hd3 ht3 hw3))
      | (go_at_call 16; go_loud (refine (drAp w0.heap.size d hv zv [8, 9, 10] m ⟨4, z.id, z.ep, 0, ⟨#[]⟩⟩ _ HDV.out (by omega) HM.out.okn.okm (by decide) HA.out).mono ?_; rintro e w2 ⟨z2, rfl, hd2, ht2, hw2⟩; have HP2 : Hid (Whl w2 N 47 #[.int .i64 4, .int .i64 z.id, .int .i64 z.ep, .int .i64 0, .string ⟨#[]⟩]) := Lib.hid ((ht2.block N hNV (fun h => hFN N h rfl)).trans HPV.out); have n0 := HP2.out.cell 0; have n1 := HP2.out.cell 1; have n2 := HP2.out.cell 2; have n3 := HP2.out.cell 3; have n4 := HP2.out.cell 4; simp only [List.getElem?_toArray, List.getElem?_cons_succ, List.getElem?_cons_zero] at n0 n1 n2 n3 n4; have HD2 := Lib.hid hd2; have hs2 := ht2.size; have HB2 : Hid (Below w.heap.size w w2) := Lib.hid ((HB1.out.trans (HBV.out.mono hs1)).trans (ht2.below (by omega) (fun k hk => (by have := (HD1.out.fzlow k hk).1; omega)))); have hFN2 : ∀ k, Fz d z2 k → k ≠ N := (fun k hk => hk.elim (fun h => hFN k (.inl h)) (fun h => (hw2 k h).elim (fun h => hFN k (.inr h)) (fun h => (by omega)))); have hHN : ∀ k, hv.ownBlock = some k → k ≠ N := (fun k hk => (by (have := (HD1.out.hrow.lt k hk).2; omega))); clear hd2 ht2 hw2))
      | (go_at_call 11; go_loud (refine (drKnown _).mono ?_; rintro e w9 ⟨rfl, hb9⟩; have HB9 := Lib.hid (HB5.out.trans (hb9.mono (by omega))); clear hb9))
      | fail)
    go_ret
    exact ⟨rfl, HB9.out⟩
end Go.Proofs.Ytbohpjinkdffhaa
