/- PieceGoes returns true. -/
import Derived.Test.YtliljfncbljfpaaPieceR
import Derived.Test.YtliljfncbljfpaaOpenBytes
import Derived.Deep.DeepCutAuto
namespace Go.Proofs.Ytliljfncbljfpaa
open Go.RowKit
set_option linter.unusedVariables false
set_option linter.unusedSimpArgs false

theorem Touch.below_of {w w' : World} {v : Value} {B : Nat} (h : Touch (fun k => v.ownBlock = some k) w w') (hB : B ≤ w.heap.size) (hv : ∀ g, v.ownBlock = some g → B ≤ g) : Below B w w' := h.below hB hv
theorem Touch.none_below {w w' : World} {B : Nat} (h : Touch (fun _ => False) w w') (hB : B ≤ w.heap.size) : Below B w w' := h.below hB (fun _ h => h.elim)
theorem ints_at {w : World} {B : Nat} {A : Option Addr} {l : List Int} (h : Ints w B A l) {k : Nat} (hk : k < l.length) : ∃ b o, A = some ⟨b, o, none⟩ ∧ b < B ∧ w.cell? ⟨b, o + k, none⟩ = some (.int .i64 l[k]) := h k hk
theorem flat_take (p : List Nat) : (flatU (p ++ [171])).take p.length = flatU p := by
  rw [flatU_app, List.take_left' (flatU_length p)]

structure PG (w0 w : World) (b L r : Nat) (A : Option Addr) (c : Nat) (p : List Nat) (come : Nat) : Prop where
  po : Po w b L p come
  ro : Ro w r w0.heap.size A c p come
  be : Below w0.heap.size w0 w
theorem PG.below {w0 w w' : World} {b L r c come : Nat} {A : Option Addr} {p : List Nat} (h : PG w0 w b L r A c p come) (hb : Below w.heap.size w w') : PG w0 w' b L r A c p come :=
  ⟨h.po.below hb h.po.low, h.ro.touch (Touch.of_below hb) (by have := h.ro.low; omega) (fun g hg => by have := h.ro.low; have := h.ro.high; omega), h.be.trans (hb.mono h.be.size)⟩
theorem poWholeB (b L : Nat) (row : List Nat) (come : Nat) (bb : Bool) (w : World) (h : Po w b L row come) (hb : decide (come = row.length) = bb) :
    Calls Try.prog 31 #[.pointer (some ⟨b, 0, none⟩)] w fun e w' => e = .returned (.bool bb) ∧ Below w.heap.size w w' :=
  (poWhole b L row come w h).mono fun e w' ⟨he, n, hw⟩ => ⟨by rw [he, hb], by rw [hw]; exact b_drewN (Below.refl _ _)⟩
theorem roWholeB (b B c : Nat) (A : Option Addr) (row : List Nat) (come : Nat) (bb : Bool) (w : World) (h : Ro w b B A c row come) (hb : decide (come = row.length) = bb) :
    Calls Try.prog 32 #[.pointer (some ⟨b, 0, none⟩)] w fun e w' => e = .returned (.bool bb) ∧ Below w.heap.size w w' :=
  (roWhole b B c A row come w h).mono fun e w' ⟨he, ht⟩ => ⟨by rw [he, hb], ht.none_below (Nat.le_refl _)⟩

set_option maxHeartbeats 2000000 in
set_option maxRecDepth 10000 in
theorem walkPieceGoes1 (A A2 : Option Addr) (c c2 : Nat) (p : List Nat) (l : List Int) (w : World) (hp : p.length ≤ 3000) (hpc : p.length ≤ c) (hcm : c ≤ maxLen) (hx : Cells w w.heap.size A p.length c 1 (flatU p)) (hl : Ints w w.heap.size A2 l) (hlc : l.length ≤ c2) (hcm2 : c2 ≤ maxLen) :
    Calls Try.prog 8 #[.slice A p.length c, .slice A2 l.length c2] w fun e w' => e = .returned (.bool true) ∧ Below w.heap.size w w' := by
  have HX := Lib.hid hx
  have HL := Lib.hid hl
  have q3 : ¬ (3000 : Int) < (p.length : Int) := by omega
  unfold maxLen at hcm hcm2
  clear hx hl
  go_enter Try.func8, Try.ntmps8
  go_wp2_with fail
  refine (lawRoomy A c p _ (by omega) HX.out).mono ?_
  rintro e w1 ⟨gw, cw, rfl, hown1, hb1⟩
  have hs1 := hb1.size
  obtain ⟨q4, q5⟩ : w.heap.size ≤ gw ∧ gw < w1.heap.size := ⟨(hown1.lt gw rfl).1, (hown1.lt gw rfl).2⟩
  have hpre := own_prefix hown1 (k := p.length) (by omega)
  rw [flat_take] at hpre
  obtain ⟨A0, cap0, hA0, q6, _, hx1⟩ := row_cells hpre
  injection hA0 with hA1 hA2 hA3
  subst hA1 hA3
  have HX1 := Lib.hid hx1
  have HO1 := Lib.hid hown1
  have q7 : (p.length : Int) ≤ (cw : Int) := by omega
  clear hx1 hpre hown1
  go_wp2_with fail
  refine (poNew ⟨gw, 0, none⟩ cw p _ (by omega) HX1.out).mono ?_
  rintro e w2 ⟨b, rfl, hbs, hpo, hb2⟩
  have hs2 := hb2.size
  have HP := Lib.hid hpo
  have q8 := hpo.low
  clear hpo
  go_wp2_with fail
  have HP2 : Hid (Po (w2.alloc (.cells #[.slice A p.length c, .int .i64 0] 59)) b w1.heap.size p 0) := Lib.hid (HP.out.below ((Below.refl _ _).alloc (Nat.le_refl _) _) q8)
  have HR2 : Hid (Ro (w2.alloc (.cells #[.slice A p.length c, .int .i64 0] 59)) w2.heap.size w.heap.size A c p 0) := Lib.hid ⟨by ((repeat (first | (with_reducible assumption) | ((with_reducible refine c_set_same ?_); ((repeat (first | (with_reducible exact h_of (by assumption)) | (with_reducible assumption) | (with_reducible refine h_set ?_) | ((with_reducible refine h_alloc ?_ ?_); · (first | omega | (simp; done) | (simp; omega))) | ((with_reducible refine h_new ?_ ?_) <;> (first | omega | (simp; done) | (simp; omega))) | (with_reducible refine h_drew ?_) | (with_reducible refine h_drewN ?_) | ((with_reducible refine h_keep (by assumption) ?_ ?_); · (first | omega | (simp; done) | (simp; omega))))); done)) | ((with_reducible refine c_set_other ?_ ?_); · (first | omega | (simp; done) | (simp; omega))) | ((with_reducible refine c_alloc ?_ ?_); · (first | omega | (simp; done) | (simp; omega))) | ((with_reducible refine c_new ?_ ?_) <;> (first | omega | (simp; done) | (simp; omega))) | (with_reducible refine c_drew ?_) | (with_reducible refine c_drewN ?_) | ((with_reducible refine c_keep (by assumption) ?_ ?_); · (first | omega | (simp; done) | (simp; omega))))); done), by ((repeat (first | (with_reducible assumption) | ((with_reducible refine c_set_same ?_); ((repeat (first | (with_reducible exact h_of (by assumption)) | (with_reducible assumption) | (with_reducible refine h_set ?_) | ((with_reducible refine h_alloc ?_ ?_); · (first | omega | (simp; done) | (simp; omega))) | ((with_reducible refine h_new ?_ ?_) <;> (first | omega | (simp; done) | (simp; omega))) | (with_reducible refine h_drew ?_) | (with_reducible refine h_drewN ?_) | ((with_reducible refine h_keep (by assumption) ?_ ?_); · (first | omega | (simp; done) | (simp; omega))))); done)) | ((with_reducible refine c_set_other ?_ ?_); · (first | omega | (simp; done) | (simp; omega))) | ((with_reducible refine c_alloc ?_ ?_); · (first | omega | (simp; done) | (simp; omega))) | ((with_reducible refine c_new ?_ ?_) <;> (first | omega | (simp; done) | (simp; omega))) | (with_reducible refine c_drew ?_) | (with_reducible refine c_drewN ?_) | ((with_reducible refine c_keep (by assumption) ?_ ?_); · (first | omega | (simp; done) | (simp; omega))))); done), by intro j; ((repeat (first | (with_reducible assumption) | (with_reducible refine f_set ?_) | ((with_reducible refine f_alloc ?_ ?_); · (first | omega | (simp; done) | (simp; omega))) | ((with_reducible refine f_new ?_); (first | omega | (simp; done) | (simp; omega)); done) | (with_reducible refine f_drew ?_) | (with_reducible refine f_drewN ?_) | ((with_reducible refine f_keep (by assumption) ?_ ?_); · (first | omega | (simp; done) | (simp; omega))))); done), by simp, by omega, hpc, hcm, cells_keep HX.out (((hb1.trans (hb2.mono hs1)).alloc (by omega) _)) (Nat.le_refl _)⟩
  have HO2 : Hid ((w2.alloc (.cells #[.slice A p.length c, .int .i64 0] 59)).ownsRow w.heap.size 5 1 (.slice (some ⟨gw, 0, none⟩) (p.length + 1) cw) (p.length + 1) (flatU (p ++ [171]))) := Lib.hid ((row_below HO1.out hb2).alloc _)
  have HB2 : Hid (Below w.heap.size w (w2.alloc (.cells #[.slice A p.length c, .int .i64 0] 59))) := Lib.hid ((hb1.trans (hb2.mono hs1)).alloc (by omega) _)
  refine (lawSpoil w.heap.size (p.length + 1) _ _ _ (by omega) HO2.out (by simp; omega)).mono ?_
  rintro e w3 ⟨rfl, ht3⟩
  have hs3 := ht3.size
  simp at hs3
  have HP3 : Hid (Po w3 b w1.heap.size p 0) := Lib.hid (HP2.out.touch ht3 (by simp [Value.ownBlock]; omega) (fun g hg _ => by simp [Value.ownBlock]; omega))
  have HR3 : Hid (Ro w3 w2.heap.size w.heap.size A c p 0) := Lib.hid (HR2.out.touch ht3 (by simp [Value.ownBlock]; omega) (fun g hg => by simp [Value.ownBlock]; omega))
  have HB3 : Hid (Below w.heap.size w w3) := Lib.hid (HB2.out.trans (ht3.below_of (by simp; omega) (by simp [Value.ownBlock]; omega)))
  clear ht3 HP2 HR2 HO2 HB2 HP HX1 HO1
  obtain ⟨r, hr⟩ : ∃ r, r = w2.heap.size := ⟨_, rfl⟩
  have q9 : b < r := by omega
  have q10 : r < w3.heap.size := by omega
  have q11 : w.heap.size ≤ b := by omega
  rw [← hr] at HR3
  have HRE := Lib.hid hr
  clear hb1 hb2 hs1 hs2
  rw [← hr]
  clear hr
  go_wp2_with fail
  have HG : Hid (PG w w3 b w1.heap.size r A c p 0) := Lib.hid ⟨HP3.out, HR3.out, HB3.out⟩
  clear HP3 HR3 HB3 HRE
  go_loopw [8] (fun i wr => ∃ k come : Nat, k ≤ l.length + 1 ∧ k ≤ 101 ∧ i = .int .i64 k ∧ come ≤ p.length ∧ r < wr.heap.size ∧ Hid (PG w wr b w1.heap.size r A c p come)) (fun i _ => l.length + 1 - (intOf i).toNat)
  case atStart => exact ⟨0, 0, by omega, by omega, rfl, by omega, q10, HG⟩
  case round =>
    obtain ⟨k, come, hk1, hk2, rfl, hcome, hrw, HW⟩ := hrel
    by_cases hk : k ≤ l.length ∧ k ≤ 100
    · have i1 : (k : Int) ≤ (l.length : Int) := by omega
      have i2 : (k : Int) ≤ 100 := by omega
      clear hk
      go_wp2_with fail
      refine (poNext b _ p come _ HW.out.po (by omega) hcome).mono ?_
      rintro e wa ⟨v3, rfl, hown3, hba⟩
      have hXl : ((p.drop come).take (min 512 (p.length - come))).length = min 512 (p.length - come) := by rw [List.length_take, List.length_drop]; omega
      have hXb : ((p.drop come).take (min 512 (p.length - come))).length ≤ 512 := by omega
      obtain ⟨X, hX⟩ : ∃ X, X = (p.drop come).take (min 512 (p.length - come)) := ⟨_, rfl⟩
      rw [← hX] at hXl hXb hown3
      rw [← hXl] at hown3
      have HXE := Lib.hid hX
      have HXL := Lib.hid hXl
      clear hX hXl
      obtain ⟨A3, c3, rfl, q12, q13, hx3⟩ := row_cells hown3
      have HO3 := Lib.hid hown3
      have HX3 := Lib.hid hx3
      have hsa := hba.size
      have HGa := Lib.hid (HW.out.below hba)
      clear hown3 hx3
      go_wp2_with fail
      refine (roNext r _ c A p come _ (by omega) hcome HGa.out.ro).mono ?_
      rintro e wb ⟨v4, rfl, hown4, hbb⟩
      rw [← HXE.out, ← HXL.out] at hown4
      obtain ⟨A4, c4, rfl, q14, q15, hx4⟩ := row_cells hown4
      have HX4 := Lib.hid hx4
      have hsb := hbb.size
      have HX3b := Lib.hid (cells_keep HX3.out hbb hsb)
      clear hown4 hx4
      go_wp2_with fail
      refine (lawSame A3 A4 c3 c4 _ _ X _ (by omega) HX3b.out HX4.out).mono ?_
      rintro e wc ⟨rfl, htc⟩
      have hbc := htc.none_below (Nat.le_refl _)
      have hsc := hbc.size
      have hac : Below wr.heap.size wr wc := (hba.trans (hbb.mono hsa)).trans (hbc.mono (by omega))
      have HGc := Lib.hid (HW.out.below hac)
      obtain ⟨bb, hbbb⟩ : ∃ bb, decide (come = p.length) = bb := ⟨_, rfl⟩
      have HBB := Lib.hid hbbb
      clear hbbb
      go_wp2_with fail
      refine (poWholeB b _ p come bb _ HGc.out.po HBB.out).mono ?_
      rintro e wd ⟨rfl, hbd⟩
      have hsd := hbd.size
      have HGd := Lib.hid (HGc.out.below hbd)
      go_wp2_with fail
      refine (roWholeB r _ c A p come bb _ HGd.out.ro HBB.out).mono ?_
      rintro e we ⟨rfl, hbe⟩
      have hse := hbe.size
      have HGe := Lib.hid (HGd.out.below hbe)
      go_wp2_with fail
      refine (poSize b _ p come _ HGe.out.po).mono ?_
      rintro e wz ⟨rfl, rfl⟩
      go_wp2_with fail
      have hae : Below wa.heap.size wa we := ((hbb.trans (hbc.mono hsb)).trans (hbd.mono (by omega))).trans (hbe.mono (by omega))
      refine (lawSpoil wr.heap.size X.length _ _ _ (by omega) (row_below HO3.out hae) (by omega)).mono ?_
      rintro e wf ⟨rfl, htf⟩
      have hbf : Below wr.heap.size wr wf := ((hba.trans (hae.mono hsa))).trans (htf.below_of (by omega) (fun g hg => (HO3.out.lt g hg).1))
      have HGf := Lib.hid (HW.out.below hbf)
      have hsf := hbf.size
      clear htf hae hbe hbd hbc hbb hba HGe HGd HGc HGa HX3 HX3b HX4 HO3 HXE HXL hac
      go_wp2_with fail
      by_cases hkl : k < l.length
      · obtain ⟨ab, ao, rfl, hab, hcell⟩ := ints_at HL.out hkl
        replace hcell := bkeep HGf.out.be hcell hab
        have i3 : (k : Int) < (l.length : Int) := by omega
        generalize hV : wf = V at *
        have HVV := Lib.hid hV
        clear hV
        have hkeep : ∀ W, Below w.heap.size V W → (Below w.heap.size V W ∧ W.cell? ⟨ab, ao + k, none⟩ = some (.int .i64 l[k])) := fun W hh => ⟨hh, bkeep hh hcell hab⟩
        by_cases hok : (come : Int) + 1 ≤ l[k] ∧ l[k] ≤ p.length
        · obtain ⟨n, hn⟩ : ∃ n : Nat, l[k] = (n : Int) := ⟨l[k].toNat, by omega⟩
          rw [hn] at hcell hkeep hok
          obtain ⟨hok1, hok2⟩ := hok
          clear hn
          refine wp_region_held_drew (S := (fun W => Below w.heap.size V W ∧ W.cell? ⟨ab, ao + k, none⟩ = some (.int .i64 n))) (by kernel_rfl) (hkeep _ (Below.refl _ _).drew) (fun hHeld => ?_)
          refine wpAnyH_take (i := 0) (oi := ⟨some 75, _, _, _, _, _⟩) (v := ?v0a) rfl (by kernel_rfl) (by kernel_rfl) (by kernel_rfl) (fun _ _ _ h => h) (Or.inl ⟨by rfl, ?y0a⟩) (by assumption) ?r0a
          case y0a => (intro w hSw; (try dsimp only at hSw); (try go_split_ands); go_simp); (try with_reducible rfl)
          case r0a =>
          (try simp only [Act.put, List.setIfInBounds_toArray, List.set_cons_zero, List.set_cons_succ])
          refine wpAnyH_take (i := 1) (oi := ⟨some 76, _, _, _, _, _⟩) (v := ?v1a) rfl (by kernel_rfl) (by kernel_rfl) (by kernel_rfl) (fun _ _ _ h => h) (Or.inl ⟨by rfl, ?y1a⟩) (by assumption) ?r1a
          case y1a => (intro w hSw; (try dsimp only at hSw); (try go_split_ands); go_simp); (try with_reducible rfl)
          case r1a =>
          (try simp only [Act.put, List.setIfInBounds_toArray, List.set_cons_zero, List.set_cons_succ])
          refine wpAnyH_take (i := 2) (oi := ⟨some 77, _, _, _, _, _⟩) (v := ?v2a) rfl (by kernel_rfl) (by kernel_rfl) (by kernel_rfl) (fun _ _ _ h => h) (Or.inl ⟨by rfl, ?y2a⟩) (by assumption) ?r2a
          case y2a => (intro w hSw; (try dsimp only at hSw); (try go_split_ands); go_simp); (try with_reducible rfl)
          case r2a =>
          (try simp only [Act.put, List.setIfInBounds_toArray, List.set_cons_zero, List.set_cons_succ])
          refine wpAnyH_take (i := 3) (oi := ⟨some 78, _, _, _, _, _⟩) (v := ?v3a) rfl (by kernel_rfl) (by kernel_rfl) (by kernel_rfl) (fun _ _ _ h => h) (Or.inl ⟨by rfl, ?y3a⟩) (by assumption) ?r3a
          case y3a => (intro w hSw; (try dsimp only at hSw); (try go_split_ands); go_simp); (try with_reducible rfl)
          case r3a =>
          (try simp only [Act.put, List.setIfInBounds_toArray, List.set_cons_zero, List.set_cons_succ])
          refine wpAnyH_take (i := 4) (oi := ⟨some 79, _, _, _, _, _⟩) (v := ?v4a) rfl (by kernel_rfl) (by kernel_rfl) (by kernel_rfl) (fun _ _ _ h => h) (Or.inl ⟨by rfl, ?y4a⟩) (by assumption) ?r4a
          case y4a => (intro w hSw; (try dsimp only at hSw); (try go_split_ands); go_simp); (try with_reducible rfl)
          case r4a =>
          (try simp only [Act.put, List.setIfInBounds_toArray, List.set_cons_zero, List.set_cons_succ])
          refine wpAnyH_take (i := 5) (oi := ⟨some 80, _, _, _, _, _⟩) (v := ?v5a) rfl (by kernel_rfl) (by kernel_rfl) (by kernel_rfl) (fun _ _ _ h => h) (Or.inl ⟨by rfl, ?y5a⟩) (by assumption) ?r5a
          case y5a => (intro w hSw; (try dsimp only at hSw); (try go_split_ands); go_simp); (try with_reducible rfl)
          case r5a =>
          (try simp only [Act.put, List.setIfInBounds_toArray, List.set_cons_zero, List.set_cons_succ])
          refine wpAnyH_take (i := 6) (oi := ⟨some 81, _, _, _, _, _⟩) (v := ?v6a) rfl (by kernel_rfl) (by kernel_rfl) (by kernel_rfl) (fun _ _ _ h => h) (Or.inl ⟨by rfl, ?y6a⟩) (by assumption) ?r6a
          case y6a => (intro w hSw; (try dsimp only at hSw); (try go_split_ands); go_simp); (try with_reducible rfl)
          case r6a =>
          (try simp only [Act.put, List.setIfInBounds_toArray, List.set_cons_zero, List.set_cons_succ])
          refine wpAnyH_take (i := 7) (oi := ⟨some 82, _, _, _, _, _⟩) (v := ?v7a) rfl (by kernel_rfl) (by kernel_rfl) (by kernel_rfl) (fun _ _ _ h => h) (Or.inl ⟨by rfl, ?y7a⟩) (by assumption) ?r7a
          case y7a => (intro w hSw; (try dsimp only at hSw); (try go_split_ands); go_simp); (try with_reducible rfl)
          case r7a =>
          (try simp only [Act.put, List.setIfInBounds_toArray, List.set_cons_zero, List.set_cons_succ])
          refine wpAnyH_take (i := 8) (oi := ⟨some 83, _, _, _, _, _⟩) (v := ?v8a) rfl (by kernel_rfl) (by kernel_rfl) (by kernel_rfl) (fun _ _ _ h => h) (Or.inl ⟨by rfl, ?y8a⟩) (by assumption) ?r8a
          case y8a => (intro w hSw; (try dsimp only at hSw); (try go_split_ands); go_simp); (try with_reducible rfl)
          case r8a =>
          (try simp only [Act.put, List.setIfInBounds_toArray, List.set_cons_zero, List.set_cons_succ])
          refine wpAnyH_take (i := 9) (oi := ⟨some 84, _, _, _, _, _⟩) (v := ?v9a) rfl (by kernel_rfl) (by kernel_rfl) (by kernel_rfl) (fun _ _ _ h => h) (Or.inl ⟨by rfl, ?y9a⟩) (by assumption) ?r9a
          case y9a => (intro w hSw; (try dsimp only at hSw); (try go_split_ands); go_simp); (try with_reducible rfl)
          case r9a =>
          (try simp only [Act.put, List.setIfInBounds_toArray, List.set_cons_zero, List.set_cons_succ])
          refine wpAnyH_take (i := 11) (oi := ⟨some 86, _, _, _, _, _⟩) (v := ?v11a) rfl (by kernel_rfl) (by kernel_rfl) (by kernel_rfl) (fun _ _ _ h => h) (Or.inl ⟨by rfl, ?y11a⟩) (by assumption) ?r11a
          case y11a => (intro w hSw; (try dsimp only at hSw); (try go_split_ands); go_simp); (try with_reducible rfl)
          case r11a =>
          (try simp only [Act.put, List.setIfInBounds_toArray, List.set_cons_zero, List.set_cons_succ])
          refine wpAnyH_take (i := 12) (oi := ⟨some 87, _, _, _, _, _⟩) (v := ?v12a) rfl (by kernel_rfl) (by kernel_rfl) (by kernel_rfl) (fun _ _ _ h => h) (Or.inl ⟨by rfl, ?y12a⟩) (by assumption) ?r12a
          case y12a => (intro w hSw; (try dsimp only at hSw); (try go_split_ands); go_simp); (try with_reducible rfl)
          case r12a =>
          (try simp only [Act.put, List.setIfInBounds_toArray, List.set_cons_zero, List.set_cons_succ])
          refine wpAnyH_take (i := 13) (oi := ⟨some 88, _, _, _, _, _⟩) (v := ?v13a) rfl (by kernel_rfl) (by kernel_rfl) (by kernel_rfl) (fun _ _ _ h => h) (Or.inl ⟨by rfl, ?y13a⟩) (by assumption) ?r13a
          case y13a => (intro w hSw; (try dsimp only at hSw); (try go_split_ands); go_simp); (try with_reducible rfl)
          case r13a =>
          (try simp only [Act.put, List.setIfInBounds_toArray, List.set_cons_zero, List.set_cons_succ])
          refine wpAnyH_take (i := 14) (oi := ⟨some 89, _, _, _, _, _⟩) (v := ?v14a) rfl (by kernel_rfl) (by kernel_rfl) (by kernel_rfl) (fun _ _ _ h => h) (Or.inl ⟨by rfl, ?y14a⟩) (by assumption) ?r14a
          case y14a => (intro w hSw; (try dsimp only at hSw); (try go_split_ands); go_simp); (try with_reducible rfl)
          case r14a =>
          (try simp only [Act.put, List.setIfInBounds_toArray, List.set_cons_zero, List.set_cons_succ])
          refine wpAnyH_take (i := 15) (oi := ⟨some 90, _, _, _, _, _⟩) (v := ?v15a) rfl (by kernel_rfl) (by kernel_rfl) (by kernel_rfl) (fun _ _ _ h => h) (Or.inl ⟨by rfl, ?y15a⟩) (by assumption) ?r15a
          case y15a => (intro w hSw; (try dsimp only at hSw); (try go_split_ands); go_simp); (try with_reducible rfl)
          case r15a =>
          (try simp only [Act.put, List.setIfInBounds_toArray, List.set_cons_zero, List.set_cons_succ])
          refine wpAnyH_ready (rs := [10]) (by kernel_rfl) (by simp) ?_
          refine AllReadyH.cons (o := ⟨some 85, _, _, _, _, _⟩) rfl (fun K hK => ?_) AllReadyH.nil
          go_simp
          refine (poAck b _ p come n V.drew (HGf.out.po.drewN 1) (by omega) (by omega) (by omega)).mono ?_
          rintro e w5 ⟨rfl, hpo5, hw5⟩
          have HT5 : Hid (Touch (fun k => k = b) V w5) := Lib.hid (by rw [hw5]; exact ((Touch.refl _ V).drewN 2).set (fun _ => rfl))
          have HP5 := Lib.hid hpo5
          have hb3 : Below w.heap.size V w5 := HT5.out.below (by omega) (by rintro k rfl; omega)
          clear hpo5 hw5
          go_wp2_with fail
          refine hK.out _ _ (hkeep _ hb3) (fun hHeld => ?_)
          clear hK K
          (try simp only [Act.put, List.setIfInBounds_toArray, List.set_cons_zero, List.set_cons_succ])
          refine wpAnyH_ready (rs := [16]) (by kernel_rfl) (by simp) ?_
          refine AllReadyH.cons (o := ⟨some 91, _, _, _, _, _⟩) rfl (fun K hK => ?_) AllReadyH.nil
          go_simp
          refine (roAck r _ c A p come n _ (HGf.out.ro.touch HT5.out (by omega) (fun g hg => by omega)) (by omega) (by omega)).mono ?_
          rintro e w6 ⟨rfl, hro6, ht6⟩
          have HT6 := Lib.hid ht6
          have HR6 := Lib.hid hro6
          have hb4 := ht6.below (B := w.heap.size) (by have := hb3.size; omega) (by rintro k rfl; omega)
          replace hb3 := hb3.trans hb4
          clear ht6 hro6 hb4
          go_wp2_with fail
          refine hK.out _ _ (hkeep _ hb3) (fun hHeld => ?_)
          clear hK K
          (try simp only [Act.put, List.setIfInBounds_toArray, List.set_cons_zero, List.set_cons_succ])
          refine wpAnyH_take (i := 17) (oi := ⟨some 92, _, _, _, _, _⟩) (v := ?v17a) rfl (by kernel_rfl) (by kernel_rfl) (by kernel_rfl) (fun _ _ _ h => h) (Or.inl ⟨by rfl, ?y17a⟩) (by assumption) ?r17a
          case y17a => (intro w hSw; (try dsimp only at hSw); (try go_split_ands); go_simp); (try with_reducible rfl)
          case r17a =>
          (try simp only [Act.put, List.setIfInBounds_toArray, List.set_cons_zero, List.set_cons_succ])
          refine wpAnyH_take (i := 18) (oi := ⟨some 93, _, _, _, _, _⟩) (v := ?v18a) rfl (by kernel_rfl) (by kernel_rfl) (by kernel_rfl) (fun _ _ _ h => h) (Or.inl ⟨by rfl, ?y18a⟩) (by assumption) ?r18a
          case y18a => (intro w hSw; (try dsimp only at hSw); (try go_split_ands); go_simp); (try with_reducible rfl)
          case r18a =>
          (try simp only [Act.put, List.setIfInBounds_toArray, List.set_cons_zero, List.set_cons_succ])
          refine wpAnyH_done (by kernel_rfl) ?_ _
          go_wp2_with fail
          go_roundw
          case rel => exact ⟨k + 1, n, by omega, by omega, by go_num, by omega, by have h5 := HT5.out.size; have h6 := HT6.out.size; omega, Lib.hid ⟨HP5.out.touch HT6.out (by omega) (fun g h1 h2 => by omega), HR6.out, HGf.out.be.trans hHeld.1⟩⟩
          case measure => simp [intOf]; omega
        · have hno : l[k] < (come : Int) + 1 ∨ (p.length : Int) < l[k] := by omega
          generalize l[k] = z at hcell hkeep hno
          have HNO := Lib.hid hno
          clear hok hno
          refine wp_region_held_drew (S := (fun W => Below w.heap.size V W ∧ W.cell? ⟨ab, ao + k, none⟩ = some (.int .i64 z))) (by kernel_rfl) (hkeep _ (Below.refl _ _).drew) (fun hHeld => ?_)
          refine wpAnyH_take (i := 0) (oi := ⟨some 75, _, _, _, _, _⟩) (v := ?v0b) rfl (by kernel_rfl) (by kernel_rfl) (by kernel_rfl) (fun _ _ _ h => h) (Or.inl ⟨by rfl, ?y0b⟩) (by assumption) ?r0b
          case y0b => (intro w hSw; (try dsimp only at hSw); (try go_split_ands); go_simp); (try with_reducible rfl)
          case r0b =>
          (try simp only [Act.put, List.setIfInBounds_toArray, List.set_cons_zero, List.set_cons_succ])
          refine wpAnyH_take (i := 1) (oi := ⟨some 76, _, _, _, _, _⟩) (v := ?v1b) rfl (by kernel_rfl) (by kernel_rfl) (by kernel_rfl) (fun _ _ _ h => h) (Or.inl ⟨by rfl, ?y1b⟩) (by assumption) ?r1b
          case y1b => (intro w hSw; (try dsimp only at hSw); (try go_split_ands); go_simp); (try with_reducible rfl)
          case r1b =>
          (try simp only [Act.put, List.setIfInBounds_toArray, List.set_cons_zero, List.set_cons_succ])
          refine wpAnyH_take (i := 2) (oi := ⟨some 77, _, _, _, _, _⟩) (v := ?v2b) rfl (by kernel_rfl) (by kernel_rfl) (by kernel_rfl) (fun _ _ _ h => h) (Or.inl ⟨by rfl, ?y2b⟩) (by assumption) ?r2b
          case y2b => (intro w hSw; (try dsimp only at hSw); (try go_split_ands); go_simp); (try with_reducible rfl)
          case r2b =>
          (try simp only [Act.put, List.setIfInBounds_toArray, List.set_cons_zero, List.set_cons_succ])
          refine wpAnyH_take (i := 3) (oi := ⟨some 78, _, _, _, _, _⟩) (v := ?v3b) rfl (by kernel_rfl) (by kernel_rfl) (by kernel_rfl) (fun _ _ _ h => h) (Or.inl ⟨by rfl, ?y3b⟩) (by assumption) ?r3b
          case y3b => (intro w hSw; (try dsimp only at hSw); (try go_split_ands); go_simp); (try with_reducible rfl)
          case r3b =>
          (try simp only [Act.put, List.setIfInBounds_toArray, List.set_cons_zero, List.set_cons_succ])
          refine wpAnyH_take (i := 4) (oi := ⟨some 79, _, _, _, _, _⟩) (v := ?v4b) rfl (by kernel_rfl) (by kernel_rfl) (by kernel_rfl) (fun _ _ _ h => h) (Or.inl ⟨by rfl, ?y4b⟩) (by assumption) ?r4b
          case y4b => (intro w hSw; (try dsimp only at hSw); (try go_split_ands); go_simp); (try with_reducible rfl)
          case r4b =>
          (try simp only [Act.put, List.setIfInBounds_toArray, List.set_cons_zero, List.set_cons_succ])
          refine wpAnyH_take (i := 5) (oi := ⟨some 80, _, _, _, _, _⟩) (v := ?v5b) rfl (by kernel_rfl) (by kernel_rfl) (by kernel_rfl) (fun _ _ _ h => h) (Or.inl ⟨by rfl, ?y5b⟩) (by assumption) ?r5b
          case y5b => (intro w hSw; (try dsimp only at hSw); (try go_split_ands); go_simp); (try with_reducible rfl)
          case r5b =>
          (try simp only [Act.put, List.setIfInBounds_toArray, List.set_cons_zero, List.set_cons_succ])
          refine wpAnyH_take (i := 6) (oi := ⟨some 81, _, _, _, _, _⟩) (v := ?v6b) rfl (by kernel_rfl) (by kernel_rfl) (by kernel_rfl) (fun _ _ _ h => h) (Or.inl ⟨by rfl, ?y6b⟩) (by assumption) ?r6b
          case y6b => (intro w hSw; (try dsimp only at hSw); (try go_split_ands); go_simp); (try with_reducible rfl)
          case r6b =>
          (try simp only [Act.put, List.setIfInBounds_toArray, List.set_cons_zero, List.set_cons_succ])
          refine wpAnyH_take (i := 7) (oi := ⟨some 82, _, _, _, _, _⟩) (v := ?v7b) rfl (by kernel_rfl) (by kernel_rfl) (by kernel_rfl) (fun _ _ _ h => h) (Or.inl ⟨by rfl, ?y7b⟩) (by assumption) ?r7b
          case y7b => (intro w hSw; (try dsimp only at hSw); (try go_split_ands); go_simp); (try with_reducible rfl)
          case r7b =>
          (try simp only [Act.put, List.setIfInBounds_toArray, List.set_cons_zero, List.set_cons_succ])
          refine wpAnyH_take (i := 8) (oi := ⟨some 83, _, _, _, _, _⟩) (v := ?v8b) rfl (by kernel_rfl) (by kernel_rfl) (by kernel_rfl) (fun _ _ _ h => h) (Or.inl ⟨by rfl, ?y8b⟩) (by assumption) ?r8b
          case y8b => (intro w hSw; (try dsimp only at hSw); (try go_split_ands); go_simp); (try with_reducible rfl)
          case r8b =>
          (try simp only [Act.put, List.setIfInBounds_toArray, List.set_cons_zero, List.set_cons_succ])
          refine wpAnyH_take (i := 9) (oi := ⟨some 84, _, _, _, _, _⟩) (v := ?v9b) rfl (by kernel_rfl) (by kernel_rfl) (by kernel_rfl) (fun _ _ _ h => h) (Or.inl ⟨by rfl, ?y9b⟩) (by assumption) ?r9b
          case y9b => (intro w hSw; (try dsimp only at hSw); (try go_split_ands); go_simp); (try with_reducible rfl)
          case r9b =>
          (try simp only [Act.put, List.setIfInBounds_toArray, List.set_cons_zero, List.set_cons_succ])
          refine wpAnyH_take (i := 11) (oi := ⟨some 86, _, _, _, _, _⟩) (v := ?v11b) rfl (by kernel_rfl) (by kernel_rfl) (by kernel_rfl) (fun _ _ _ h => h) (Or.inl ⟨by rfl, ?y11b⟩) (by assumption) ?r11b
          case y11b => (intro w hSw; (try dsimp only at hSw); (try go_split_ands); go_simp); (try with_reducible rfl)
          case r11b =>
          (try simp only [Act.put, List.setIfInBounds_toArray, List.set_cons_zero, List.set_cons_succ])
          refine wpAnyH_take (i := 12) (oi := ⟨some 87, _, _, _, _, _⟩) (v := ?v12b) rfl (by kernel_rfl) (by kernel_rfl) (by kernel_rfl) (fun _ _ _ h => h) (Or.inl ⟨by rfl, ?y12b⟩) (by assumption) ?r12b
          case y12b => (intro w hSw; (try dsimp only at hSw); (try go_split_ands); go_simp); (try with_reducible rfl)
          case r12b =>
          (try simp only [Act.put, List.setIfInBounds_toArray, List.set_cons_zero, List.set_cons_succ])
          refine wpAnyH_take (i := 13) (oi := ⟨some 88, _, _, _, _, _⟩) (v := ?v13b) rfl (by kernel_rfl) (by kernel_rfl) (by kernel_rfl) (fun _ _ _ h => h) (Or.inl ⟨by rfl, ?y13b⟩) (by assumption) ?r13b
          case y13b => (intro w hSw; (try dsimp only at hSw); (try go_split_ands); go_simp); (try with_reducible rfl)
          case r13b =>
          (try simp only [Act.put, List.setIfInBounds_toArray, List.set_cons_zero, List.set_cons_succ])
          refine wpAnyH_take (i := 14) (oi := ⟨some 89, _, _, _, _, _⟩) (v := ?v14b) rfl (by kernel_rfl) (by kernel_rfl) (by kernel_rfl) (fun _ _ _ h => h) (Or.inl ⟨by rfl, ?y14b⟩) (by assumption) ?r14b
          case y14b => (intro w hSw; (try dsimp only at hSw); (try go_split_ands); go_simp); (try with_reducible rfl)
          case r14b =>
          (try simp only [Act.put, List.setIfInBounds_toArray, List.set_cons_zero, List.set_cons_succ])
          refine wpAnyH_take (i := 15) (oi := ⟨some 90, _, _, _, _, _⟩) (v := ?v15b) rfl (by kernel_rfl) (by kernel_rfl) (by kernel_rfl) (fun _ _ _ h => h) (Or.inl ⟨by rfl, ?y15b⟩) (by assumption) ?r15b
          case y15b => (intro w hSw; (try dsimp only at hSw); (try go_split_ands); go_simp); (try with_reducible rfl)
          case r15b =>
          (try simp only [Act.put, List.setIfInBounds_toArray, List.set_cons_zero, List.set_cons_succ])
          refine wpAnyH_ready (rs := [10]) (by kernel_rfl) (by simp) ?_
          refine AllReadyH.cons (o := ⟨some 85, _, _, _, _, _⟩) rfl (fun K hK => ?_) AllReadyH.nil
          go_simp
          refine (poAckNo b _ p come z V.drew (HGf.out.po.drewN 1) (by omega) hcome HNO.out).mono ?_
          rintro e w5 ⟨rfl, hw5⟩
          have HT5 : Hid (Touch (fun _ => False) V w5) := Lib.hid (by rw [hw5]; exact (Touch.refl _ V).drewN 2)
          have hb3 : Below w.heap.size V w5 := HT5.out.none_below (by omega)
          clear hw5
          go_wp2_with fail
          refine hK.out _ _ (hkeep _ hb3) (fun hHeld => ?_)
          clear hK K
          (try simp only [Act.put, List.setIfInBounds_toArray, List.set_cons_zero, List.set_cons_succ])
          refine wpAnyH_ready (rs := [16]) (by kernel_rfl) (by simp) ?_
          refine AllReadyH.cons (o := ⟨some 91, _, _, _, _, _⟩) rfl (fun K hK => ?_) AllReadyH.nil
          go_simp
          refine (roAckNo r _ c A p come z _ (HGf.out.ro.touch HT5.out (by simp) (fun g hg => by simp)) HNO.out).mono ?_
          rintro e w6 ⟨rfl, rfl⟩
          go_wp2_with fail
          refine hK.out _ _ (hkeep _ hb3) (fun hHeld => ?_)
          clear hK K
          (try simp only [Act.put, List.setIfInBounds_toArray, List.set_cons_zero, List.set_cons_succ])
          refine wpAnyH_take (i := 17) (oi := ⟨some 92, _, _, _, _, _⟩) (v := ?v17b) rfl (by kernel_rfl) (by kernel_rfl) (by kernel_rfl) (fun _ _ _ h => h) (Or.inl ⟨by rfl, ?y17b⟩) (by assumption) ?r17b
          case y17b => (intro w hSw; (try dsimp only at hSw); (try go_split_ands); go_simp); (try with_reducible rfl)
          case r17b =>
          (try simp only [Act.put, List.setIfInBounds_toArray, List.set_cons_zero, List.set_cons_succ])
          refine wpAnyH_take (i := 18) (oi := ⟨some 93, _, _, _, _, _⟩) (v := ?v18b) rfl (by kernel_rfl) (by kernel_rfl) (by kernel_rfl) (fun _ _ _ h => h) (Or.inl ⟨by rfl, ?y18b⟩) (by assumption) ?r18b
          case y18b => (intro w hSw; (try dsimp only at hSw); (try go_split_ands); go_simp); (try with_reducible rfl)
          case r18b =>
          (try simp only [Act.put, List.setIfInBounds_toArray, List.set_cons_zero, List.set_cons_succ])
          refine wpAnyH_done (by kernel_rfl) ?_ _
          go_wp2_with fail
          go_roundw
          case rel => exact ⟨k + 1, come, by omega, by omega, by go_num, by omega, by have h5 := HT5.out.size; omega, Lib.hid (HGf.out.below (HT5.out.none_below (Nat.le_refl _)))⟩
          case measure => simp [intOf]; omega
      · have i3 : ¬ (k : Int) < (l.length : Int) := by omega
        generalize hV : wf = V at *
        have HVV := Lib.hid hV
        clear hV
        refine wp_region_held_drew (S := (fun W => Below w.heap.size V W ∧ True)) (by kernel_rfl) (⟨(Below.refl _ _).drew, trivial⟩) (fun hHeld => ?_)
        refine wpAnyH_take (i := 0) (oi := ⟨some 75, _, _, _, _, _⟩) (v := ?v0c) rfl (by kernel_rfl) (by kernel_rfl) (by kernel_rfl) (fun _ _ _ h => h) (Or.inl ⟨by rfl, ?y0c⟩) (by assumption) ?r0c
        case y0c => (intro w hSw; (try dsimp only at hSw); (try go_split_ands); go_simp); (try with_reducible rfl)
        case r0c =>
        (try simp only [Act.put, List.setIfInBounds_toArray, List.set_cons_zero, List.set_cons_succ])
        refine wpAnyH_take (i := 1) (oi := ⟨some 76, _, _, _, _, _⟩) (v := ?v1c) rfl (by kernel_rfl) (by kernel_rfl) (by kernel_rfl) (fun _ _ _ h => h) (Or.inl ⟨by rfl, ?y1c⟩) (by assumption) ?r1c
        case y1c => (intro w hSw; (try dsimp only at hSw); (try go_split_ands); go_simp); (try with_reducible rfl)
        case r1c =>
        (try simp only [Act.put, List.setIfInBounds_toArray, List.set_cons_zero, List.set_cons_succ])
        refine wpAnyH_take (i := 2) (oi := ⟨some 77, _, _, _, _, _⟩) (v := ?v2c) rfl (by kernel_rfl) (by kernel_rfl) (by kernel_rfl) (fun _ _ _ h => h) (Or.inl ⟨by rfl, ?y2c⟩) (by assumption) ?r2c
        case y2c => (intro w hSw; (try dsimp only at hSw); (try go_split_ands); go_simp); (try with_reducible rfl)
        case r2c =>
        (try simp only [Act.put, List.setIfInBounds_toArray, List.set_cons_zero, List.set_cons_succ])
        refine wpAnyH_take (i := 3) (oi := ⟨some 78, _, _, _, _, _⟩) (v := ?v3c) rfl (by kernel_rfl) (by kernel_rfl) (by kernel_rfl) (fun _ _ _ h => h) (Or.inl ⟨by rfl, ?y3c⟩) (by assumption) ?r3c
        case y3c => (intro w hSw; (try dsimp only at hSw); (try go_split_ands); go_simp); (try with_reducible rfl)
        case r3c =>
        (try simp only [Act.put, List.setIfInBounds_toArray, List.set_cons_zero, List.set_cons_succ])
        refine wpAnyH_take (i := 4) (oi := ⟨some 79, _, _, _, _, _⟩) (v := ?v4c) rfl (by kernel_rfl) (by kernel_rfl) (by kernel_rfl) (fun _ _ _ h => h) (Or.inl ⟨by rfl, ?y4c⟩) (by assumption) ?r4c
        case y4c => (intro w hSw; (try dsimp only at hSw); (try go_split_ands); go_simp); (try with_reducible rfl)
        case r4c =>
        (try simp only [Act.put, List.setIfInBounds_toArray, List.set_cons_zero, List.set_cons_succ])
        refine wpAnyH_take (i := 5) (oi := ⟨some 80, _, _, _, _, _⟩) (v := undef) rfl (by kernel_rfl) (by kernel_rfl) (by kernel_rfl) (fun _ _ _ h => h) (Or.inr ⟨by rfl, rfl⟩) (by assumption) ?_
        (try simp only [Act.put, List.setIfInBounds_toArray, List.set_cons_zero, List.set_cons_succ])
        refine wpAnyH_take (i := 6) (oi := ⟨some 81, _, _, _, _, _⟩) (v := undef) rfl (by kernel_rfl) (by kernel_rfl) (by kernel_rfl) (fun _ _ _ h => h) (Or.inr ⟨by rfl, rfl⟩) (by assumption) ?_
        (try simp only [Act.put, List.setIfInBounds_toArray, List.set_cons_zero, List.set_cons_succ])
        refine wpAnyH_take (i := 7) (oi := ⟨some 82, _, _, _, _, _⟩) (v := undef) rfl (by kernel_rfl) (by kernel_rfl) (by kernel_rfl) (fun _ _ _ h => h) (Or.inr ⟨by rfl, rfl⟩) (by assumption) ?_
        (try simp only [Act.put, List.setIfInBounds_toArray, List.set_cons_zero, List.set_cons_succ])
        refine wpAnyH_take (i := 8) (oi := ⟨some 83, _, _, _, _, _⟩) (v := undef) rfl (by kernel_rfl) (by kernel_rfl) (by kernel_rfl) (fun _ _ _ h => h) (Or.inr ⟨by rfl, rfl⟩) (by assumption) ?_
        (try simp only [Act.put, List.setIfInBounds_toArray, List.set_cons_zero, List.set_cons_succ])
        refine wpAnyH_take (i := 9) (oi := ⟨some 84, _, _, _, _, _⟩) (v := undef) rfl (by kernel_rfl) (by kernel_rfl) (by kernel_rfl) (fun _ _ _ h => h) (Or.inr ⟨by rfl, rfl⟩) (by assumption) ?_
        (try simp only [Act.put, List.setIfInBounds_toArray, List.set_cons_zero, List.set_cons_succ])
        refine wpAnyH_take (i := 10) (oi := ⟨some 85, _, _, _, _, _⟩) (v := undef) rfl (by kernel_rfl) (by kernel_rfl) (by kernel_rfl) (fun _ _ _ h => h) (Or.inr ⟨by rfl, rfl⟩) (by assumption) ?_
        (try simp only [Act.put, List.setIfInBounds_toArray, List.set_cons_zero, List.set_cons_succ])
        refine wpAnyH_take (i := 11) (oi := ⟨some 86, _, _, _, _, _⟩) (v := undef) rfl (by kernel_rfl) (by kernel_rfl) (by kernel_rfl) (fun _ _ _ h => h) (Or.inr ⟨by rfl, rfl⟩) (by assumption) ?_
        (try simp only [Act.put, List.setIfInBounds_toArray, List.set_cons_zero, List.set_cons_succ])
        refine wpAnyH_take (i := 12) (oi := ⟨some 87, _, _, _, _, _⟩) (v := undef) rfl (by kernel_rfl) (by kernel_rfl) (by kernel_rfl) (fun _ _ _ h => h) (Or.inr ⟨by rfl, rfl⟩) (by assumption) ?_
        (try simp only [Act.put, List.setIfInBounds_toArray, List.set_cons_zero, List.set_cons_succ])
        refine wpAnyH_take (i := 13) (oi := ⟨some 88, _, _, _, _, _⟩) (v := undef) rfl (by kernel_rfl) (by kernel_rfl) (by kernel_rfl) (fun _ _ _ h => h) (Or.inr ⟨by rfl, rfl⟩) (by assumption) ?_
        (try simp only [Act.put, List.setIfInBounds_toArray, List.set_cons_zero, List.set_cons_succ])
        refine wpAnyH_take (i := 14) (oi := ⟨some 89, _, _, _, _, _⟩) (v := undef) rfl (by kernel_rfl) (by kernel_rfl) (by kernel_rfl) (fun _ _ _ h => h) (Or.inr ⟨by rfl, rfl⟩) (by assumption) ?_
        (try simp only [Act.put, List.setIfInBounds_toArray, List.set_cons_zero, List.set_cons_succ])
        refine wpAnyH_take (i := 15) (oi := ⟨some 90, _, _, _, _, _⟩) (v := undef) rfl (by kernel_rfl) (by kernel_rfl) (by kernel_rfl) (fun _ _ _ h => h) (Or.inr ⟨by rfl, rfl⟩) (by assumption) ?_
        (try simp only [Act.put, List.setIfInBounds_toArray, List.set_cons_zero, List.set_cons_succ])
        refine wpAnyH_take (i := 16) (oi := ⟨some 91, _, _, _, _, _⟩) (v := undef) rfl (by kernel_rfl) (by kernel_rfl) (by kernel_rfl) (fun _ _ _ h => h) (Or.inr ⟨by rfl, rfl⟩) (by assumption) ?_
        (try simp only [Act.put, List.setIfInBounds_toArray, List.set_cons_zero, List.set_cons_succ])
        refine wpAnyH_take (i := 17) (oi := ⟨some 92, _, _, _, _, _⟩) (v := undef) rfl (by kernel_rfl) (by kernel_rfl) (by kernel_rfl) (fun _ _ _ h => h) (Or.inr ⟨by rfl, rfl⟩) (by assumption) ?_
        (try simp only [Act.put, List.setIfInBounds_toArray, List.set_cons_zero, List.set_cons_succ])
        refine wpAnyH_take (i := 18) (oi := ⟨some 93, _, _, _, _, _⟩) (v := ?v18c) rfl (by kernel_rfl) (by kernel_rfl) (by kernel_rfl) (fun _ _ _ h => h) (Or.inl ⟨by rfl, ?y18c⟩) (by assumption) ?r18c
        case y18c => (intro w hSw; (try dsimp only at hSw); (try go_split_ands); go_simp); (try with_reducible rfl)
        case r18c =>
        (try simp only [Act.put, List.setIfInBounds_toArray, List.set_cons_zero, List.set_cons_succ])
        refine wpAnyH_done (by kernel_rfl) ?_ _
        go_wp2_with fail
        go_roundw
        case rel => exact ⟨k + 1, come, by omega, by omega, by go_num, by omega, by simp; omega, Lib.hid (HGf.out.below (Below.refl _ _).drew)⟩
        case measure => simp [intOf]; omega
    · have hk3 : l.length < k ∨ 100 < k := by omega
      have hfin : ∀ w', Below wr.heap.size wr w' → Below w.heap.size w w' := fun w' h => HW.out.be.trans (h.mono HW.out.be.size)
      have HF := Lib.hid hfin
      clear hfin
      by_cases hk4 : l.length < k
      · have i1 : ¬ (k : Int) ≤ (l.length : Int) := by omega
        clear hk hk3
        go_wp2_with (go_at_call 36; refine (knownPiece _).mono ?_; rintro e wc ⟨rfl, hbc⟩)
        go_ret
        exact ⟨rfl, HF.out _ hbc⟩
      · have i1 : (k : Int) ≤ (l.length : Int) := by omega
        have i2 : ¬ (k : Int) ≤ 100 := by omega
        clear hk hk3
        go_wp2_with (go_at_call 36; refine (knownPiece _).mono ?_; rintro e wc ⟨rfl, hbc⟩)
        go_ret
        exact ⟨rfl, HF.out _ hbc⟩

theorem walkPieceGoes (A A2 : Option Addr) (c c2 : Nat) (p : List Nat) (l : List Int) (w : World) (hpc : p.length ≤ c) (hcm : c ≤ maxLen) (hx : Cells w w.heap.size A p.length c 1 (flatU p)) (hl : Ints w w.heap.size A2 l) (hlc : l.length ≤ c2) (hcm2 : c2 ≤ maxLen) :
    Calls Try.prog 8 #[.slice A p.length c, .slice A2 l.length c2] w fun e w' => e = .returned (.bool true) ∧ Below w.heap.size w w' := by
  by_cases hp : p.length ≤ 3000
  · exact walkPieceGoes1 A A2 c c2 p l w hp hpc hcm hx hl hlc hcm2
  · have hn : (3000 : Int) < (p.length : Int) := by omega
    clear hp hx hl
    go_enter Try.func8, Try.ntmps8
    go_wp2_with fail
    go_ret
    exact ⟨rfl, Below.refl _ _⟩

end Go.Proofs.Ytliljfncbljfpaa
