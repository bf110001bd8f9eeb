/- The document's directory: change: split. The document's directory: change: merge. The document's directory: change: done. -/
import Derived.Test.YtepjehcmiofehaaPq20
namespace Go.Proofs.Ytepjehcmiofehaa
open Go.RowKit
set_option linter.unusedVariables false
set_option linter.unusedSimpArgs false
theorem RdH.setnxt {w : World} {B d : Nat} {hv zv : Value} {hosts : List Int} {m : Mp} (h : RdH w B d hv zv hosts m) (n : Int) : RdH (w.setCell ⟨d, 1, none⟩ (.int .i64 n)) B d hv zv hosts ⟨m.ver, n, m.zs⟩ :=
  ⟨h.blk.set 1 _, own_set_ne h.hrow (fun g hg => h.ha g hg), own_set_ne h.row (fun g hg => h.za g hg), h.ha, h.za, h.hz, h.low⟩
set_option maxHeartbeats 8000000 in
set_option maxRecDepth 10000 in
theorem rdChange1 (B d i : Nat) (hv zv : Value) (hosts : List Int) (m : Mp) (c : Ch) (hi : i < m.zs.length) (w : World) (h : RdH w B d hv zv hosts m) (hB : B ≤ w.heap.size) (hl : m.zs.length ≤ 1000) (hkd : c.kd = 1) (hnx : 0 ≤ m.nxt) :
    Calls Try.prog 24 #[.pointer (some ⟨d, 0, none⟩), .agg #[.int .i64 c.kd, .int .i64 c.zo, .int .i64 c.ep, .int .i64 c.mv, .string c.ky], .int .i64 i] w fun e w' => RdQ B d hv zv hosts m c i hi w e w' := by
  have HD := Lib.hid h
  have l2 := h.blk.cell 2
  simp only [List.getElem?_toArray, List.getElem?_cons_succ, List.getElem?_cons_zero] at l2
  obtain ⟨gz, cc, hzv, _, hgz, hnc, hcm⟩ := own_form h.row (by omega)
  subst hzv
  have hdl := h.blk.low
  have q3 : (i : Int) < (m.zs.length : Int) := by omega
  obtain ⟨z, hz⟩ : ∃ z, z = m.zs[i] := ⟨_, rfl⟩
  obtain ⟨v0, v1, v2, v3, v4, v5, v6, v7, v8⟩ := rowZ_at h.row hi
  rw [← hz] at v0 v1 v2 v3 v4 v5 v6 v7 v8
  have HZ := Lib.hid hz
  have HKD := Lib.hid hkd
  rw [hkd]
  obtain ⟨ct, hct⟩ : ∃ b, b = cutB m.zs[i].fr m.zs[i].tt c.ky := ⟨_, rfl⟩
  by_cases hp : m.zs[i].pd = 0
  case neg =>
    have HNO : Hid (∀ m1, ¬ Deed hosts m c i hi m1) := Lib.hid (fun m1 hd => by cases hd <;> first | omega | contradiction)
    rw [← hz] at hp hct
    have hp2 : (z.pd != 0) = true := by simpa using hp
    clear h hkd
    cases ct with
    | true =>
      have HC := Lib.hid hct.symm
      clear hz hct
      go_enter Try.func24, Try.ntmps24
      go_upto_region 9 with fail
      have hP : Whl ((w.alloc (.cells #[.int .i64 1, .int .i64 c.zo, .int .i64 c.ep, .int .i64 c.mv, .string c.ky] 42)).alloc (.cells #[.int .i64 z.id, .string z.fr, .string z.tt, .int .i64 z.ow, .int .i64 z.ep, .int .i64 z.pd, .int .i64 z.mv, .string z.ky, .int .i64 z.nw] 37)) w.heap.size 42 #[.int .i64 1, .int .i64 c.zo, .int .i64 c.ep, .int .i64 c.mv, .string c.ky] := (Whl.new rfl).alloc _
      have hF : Whl ((w.alloc (.cells #[.int .i64 1, .int .i64 c.zo, .int .i64 c.ep, .int .i64 c.mv, .string c.ky] 42)).alloc (.cells #[.int .i64 z.id, .string z.fr, .string z.tt, .int .i64 z.ow, .int .i64 z.ep, .int .i64 z.pd, .int .i64 z.mv, .string z.ky, .int .i64 z.nw] 37)) (w.heap.size + 1) 37 #[.int .i64 z.id, .string z.fr, .string z.tt, .int .i64 z.ow, .int .i64 z.ep, .int .i64 z.pd, .int .i64 z.mv, .string z.ky, .int .i64 z.nw] := Whl.new (by simp)
      have HBV : Hid (Below w.heap.size w ((w.alloc (.cells #[.int .i64 1, .int .i64 c.zo, .int .i64 c.ep, .int .i64 c.mv, .string c.ky] 42)).alloc (.cells #[.int .i64 z.id, .string z.fr, .string z.tt, .int .i64 z.ow, .int .i64 z.ep, .int .i64 z.pd, .int .i64 z.mv, .string z.ky, .int .i64 z.nw] 37))) := Lib.hid (((Below.refl _ _).alloc (Nat.le_refl _) _).alloc (by simp) _)
      have HDV := Lib.hid (HD.out.below HBV.out)
      have HPV := Lib.hid hP
      have HFV := Lib.hid hF
      have p2 := hP.cell 2
      have p4 := hP.cell 4
      have f1 := hF.cell 1
      have f2 := hF.cell 2
      have f5 := hF.cell 5
      have k0 := HDV.out.blk.cell 0
      have k1 := HDV.out.blk.cell 1
      simp only [List.getElem?_toArray, List.getElem?_cons_succ, List.getElem?_cons_zero] at p2 p4 f1 f2 f5 k0 k1
      have hsv : w.heap.size ≤ ((w.alloc (.cells #[.int .i64 1, .int .i64 c.zo, .int .i64 c.ep, .int .i64 c.mv, .string c.ky] 42)).alloc (.cells #[.int .i64 z.id, .string z.fr, .string z.tt, .int .i64 z.ow, .int .i64 z.ep, .int .i64 z.pd, .int .i64 z.mv, .string z.ky, .int .i64 z.nw] 37)).heap.size := by simp; omega
      have hsd : w.heap.size + 1 < ((w.alloc (.cells #[.int .i64 1, .int .i64 c.zo, .int .i64 c.ep, .int .i64 c.mv, .string c.ky] 42)).alloc (.cells #[.int .i64 z.id, .string z.fr, .string z.tt, .int .i64 z.ow, .int .i64 z.ep, .int .i64 z.pd, .int .i64 z.mv, .string z.ky, .int .i64 z.nw] 37)).heap.size := by simp
      clear hP hF l2 v0 v1 v2 v3 v4 v5 v6 v7 v8
      generalize ((w.alloc (.cells #[.int .i64 1, .int .i64 c.zo, .int .i64 c.ep, .int .i64 c.mv, .string c.ky] 42)).alloc (.cells #[.int .i64 z.id, .string z.fr, .string z.tt, .int .i64 z.ow, .int .i64 z.ep, .int .i64 z.pd, .int .i64 z.mv, .string z.ky, .int .i64 z.nw] 37)) = V at *
      go_wp2_with (first | (go_at_call 40; go_loud (refine (refCut1 z.fr z.tt c.ky _ HC.out).mono ?_; rintro e w3 ⟨rfl, hb3⟩; have HB3 := Lib.hid hb3; have hs3 := hb3.size; have f5 := bkeep hb3 f5 (by omega); have k1 := bkeep hb3 k1 (by omega); clear hb3)) | fail)
      refine bodyPost_ret (v := .bool false) (by simp [results, Try.results24, go_sem]) rfl (.inr ⟨HNO.out, rfl, HBV.out.trans (by (have h9 := HB3.out.mono hsv; have h8 := hsv; ((repeat (first | (with_reducible exact Below.refl _ _) | (with_reducible assumption) | ((with_reducible refine b_set ?_ ?_); · (first | omega | (simp; done) | (simp; omega))) | ((with_reducible refine b_alloc ?_ ?_); · (first | omega | (simp; done) | (simp; omega))) | (with_reducible refine Below.drew ?_) | (with_reducible refine b_drewN ?_) | ((with_reducible refine b_call (by assumption) ?_ ?_); · (first | omega | (simp; done) | (simp; omega))))); done)))⟩)

    | false =>
      have HC := Lib.hid hct.symm
      clear hz hct
      go_enter Try.func24, Try.ntmps24
      go_upto_region 9 with fail
      have hP : Whl ((w.alloc (.cells #[.int .i64 1, .int .i64 c.zo, .int .i64 c.ep, .int .i64 c.mv, .string c.ky] 42)).alloc (.cells #[.int .i64 z.id, .string z.fr, .string z.tt, .int .i64 z.ow, .int .i64 z.ep, .int .i64 z.pd, .int .i64 z.mv, .string z.ky, .int .i64 z.nw] 37)) w.heap.size 42 #[.int .i64 1, .int .i64 c.zo, .int .i64 c.ep, .int .i64 c.mv, .string c.ky] := (Whl.new rfl).alloc _
      have hF : Whl ((w.alloc (.cells #[.int .i64 1, .int .i64 c.zo, .int .i64 c.ep, .int .i64 c.mv, .string c.ky] 42)).alloc (.cells #[.int .i64 z.id, .string z.fr, .string z.tt, .int .i64 z.ow, .int .i64 z.ep, .int .i64 z.pd, .int .i64 z.mv, .string z.ky, .int .i64 z.nw] 37)) (w.heap.size + 1) 37 #[.int .i64 z.id, .string z.fr, .string z.tt, .int .i64 z.ow, .int .i64 z.ep, .int .i64 z.pd, .int .i64 z.mv, .string z.ky, .int .i64 z.nw] := Whl.new (by simp)
      have HBV : Hid (Below w.heap.size w ((w.alloc (.cells #[.int .i64 1, .int .i64 c.zo, .int .i64 c.ep, .int .i64 c.mv, .string c.ky] 42)).alloc (.cells #[.int .i64 z.id, .string z.fr, .string z.tt, .int .i64 z.ow, .int .i64 z.ep, .int .i64 z.pd, .int .i64 z.mv, .string z.ky, .int .i64 z.nw] 37))) := Lib.hid (((Below.refl _ _).alloc (Nat.le_refl _) _).alloc (by simp) _)
      have HDV := Lib.hid (HD.out.below HBV.out)
      have HPV := Lib.hid hP
      have HFV := Lib.hid hF
      have p2 := hP.cell 2
      have p4 := hP.cell 4
      have f1 := hF.cell 1
      have f2 := hF.cell 2
      have f5 := hF.cell 5
      have k0 := HDV.out.blk.cell 0
      have k1 := HDV.out.blk.cell 1
      simp only [List.getElem?_toArray, List.getElem?_cons_succ, List.getElem?_cons_zero] at p2 p4 f1 f2 f5 k0 k1
      have hsv : w.heap.size ≤ ((w.alloc (.cells #[.int .i64 1, .int .i64 c.zo, .int .i64 c.ep, .int .i64 c.mv, .string c.ky] 42)).alloc (.cells #[.int .i64 z.id, .string z.fr, .string z.tt, .int .i64 z.ow, .int .i64 z.ep, .int .i64 z.pd, .int .i64 z.mv, .string z.ky, .int .i64 z.nw] 37)).heap.size := by simp; omega
      have hsd : w.heap.size + 1 < ((w.alloc (.cells #[.int .i64 1, .int .i64 c.zo, .int .i64 c.ep, .int .i64 c.mv, .string c.ky] 42)).alloc (.cells #[.int .i64 z.id, .string z.fr, .string z.tt, .int .i64 z.ow, .int .i64 z.ep, .int .i64 z.pd, .int .i64 z.mv, .string z.ky, .int .i64 z.nw] 37)).heap.size := by simp
      clear hP hF l2 v0 v1 v2 v3 v4 v5 v6 v7 v8
      generalize ((w.alloc (.cells #[.int .i64 1, .int .i64 c.zo, .int .i64 c.ep, .int .i64 c.mv, .string c.ky] 42)).alloc (.cells #[.int .i64 z.id, .string z.fr, .string z.tt, .int .i64 z.ow, .int .i64 z.ep, .int .i64 z.pd, .int .i64 z.mv, .string z.ky, .int .i64 z.nw] 37)) = V at *
      go_wp2_with (first | (go_at_call 40; go_loud (refine (refCut0 z.fr z.tt c.ky _ HC.out).mono ?_; rintro e w3 ⟨rfl, hb3⟩; have HB3 := Lib.hid hb3; have hs3 := hb3.size; have f5 := bkeep hb3 f5 (by omega); have k1 := bkeep hb3 k1 (by omega); clear hb3)) | fail)
      refine bodyPost_ret (v := .bool false) (by simp [results, Try.results24, go_sem]) rfl (.inr ⟨HNO.out, rfl, HBV.out.trans (by (have h9 := HB3.out.mono hsv; have h8 := hsv; ((repeat (first | (with_reducible exact Below.refl _ _) | (with_reducible assumption) | ((with_reducible refine b_set ?_ ?_); · (first | omega | (simp; done) | (simp; omega))) | ((with_reducible refine b_alloc ?_ ?_); · (first | omega | (simp; done) | (simp; omega))) | (with_reducible refine Below.drew ?_) | (with_reducible refine b_drewN ?_) | ((with_reducible refine b_call (by assumption) ?_ ?_); · (first | omega | (simp; done) | (simp; omega))))); done)))⟩)

  have HP := Lib.hid hp
  rw [← hz] at hp
  rw [hp] at v5
  cases ct with
  | false =>
    have HNO : Hid (∀ m1, ¬ Deed hosts m c i hi m1) := Lib.hid (fun m1 hd => by cases hd <;> first | omega | (rename_i q _ _; rw [← hct] at q; cases q))
    rw [← hz] at hct
    have HC := Lib.hid hct.symm
    clear h hkd hz hct hp
    go_enter Try.func24, Try.ntmps24
    go_upto_region 9 with fail
    have hP : Whl ((w.alloc (.cells #[.int .i64 1, .int .i64 c.zo, .int .i64 c.ep, .int .i64 c.mv, .string c.ky] 42)).alloc (.cells #[.int .i64 z.id, .string z.fr, .string z.tt, .int .i64 z.ow, .int .i64 z.ep, .int .i64 0, .int .i64 z.mv, .string z.ky, .int .i64 z.nw] 37)) w.heap.size 42 #[.int .i64 1, .int .i64 c.zo, .int .i64 c.ep, .int .i64 c.mv, .string c.ky] := (Whl.new rfl).alloc _
    have hF : Whl ((w.alloc (.cells #[.int .i64 1, .int .i64 c.zo, .int .i64 c.ep, .int .i64 c.mv, .string c.ky] 42)).alloc (.cells #[.int .i64 z.id, .string z.fr, .string z.tt, .int .i64 z.ow, .int .i64 z.ep, .int .i64 0, .int .i64 z.mv, .string z.ky, .int .i64 z.nw] 37)) (w.heap.size + 1) 37 #[.int .i64 z.id, .string z.fr, .string z.tt, .int .i64 z.ow, .int .i64 z.ep, .int .i64 0, .int .i64 z.mv, .string z.ky, .int .i64 z.nw] := Whl.new (by simp)
    have HBV : Hid (Below w.heap.size w ((w.alloc (.cells #[.int .i64 1, .int .i64 c.zo, .int .i64 c.ep, .int .i64 c.mv, .string c.ky] 42)).alloc (.cells #[.int .i64 z.id, .string z.fr, .string z.tt, .int .i64 z.ow, .int .i64 z.ep, .int .i64 0, .int .i64 z.mv, .string z.ky, .int .i64 z.nw] 37))) := Lib.hid (((Below.refl _ _).alloc (Nat.le_refl _) _).alloc (by simp) _)
    have HDV := Lib.hid (HD.out.below HBV.out)
    have HPV := Lib.hid hP
    have HFV := Lib.hid hF
    have p2 := hP.cell 2
    have p4 := hP.cell 4
    have f1 := hF.cell 1
    have f2 := hF.cell 2
    have f5 := hF.cell 5
    have k0 := HDV.out.blk.cell 0
    have k1 := HDV.out.blk.cell 1
    simp only [List.getElem?_toArray, List.getElem?_cons_succ, List.getElem?_cons_zero] at p2 p4 f1 f2 f5 k0 k1
    have hsv : w.heap.size ≤ ((w.alloc (.cells #[.int .i64 1, .int .i64 c.zo, .int .i64 c.ep, .int .i64 c.mv, .string c.ky] 42)).alloc (.cells #[.int .i64 z.id, .string z.fr, .string z.tt, .int .i64 z.ow, .int .i64 z.ep, .int .i64 0, .int .i64 z.mv, .string z.ky, .int .i64 z.nw] 37)).heap.size := by simp; omega
    have hsd : w.heap.size + 1 < ((w.alloc (.cells #[.int .i64 1, .int .i64 c.zo, .int .i64 c.ep, .int .i64 c.mv, .string c.ky] 42)).alloc (.cells #[.int .i64 z.id, .string z.fr, .string z.tt, .int .i64 z.ow, .int .i64 z.ep, .int .i64 0, .int .i64 z.mv, .string z.ky, .int .i64 z.nw] 37)).heap.size := by simp
    clear hP hF l2 v0 v1 v2 v3 v4 v5 v6 v7 v8
    generalize ((w.alloc (.cells #[.int .i64 1, .int .i64 c.zo, .int .i64 c.ep, .int .i64 c.mv, .string c.ky] 42)).alloc (.cells #[.int .i64 z.id, .string z.fr, .string z.tt, .int .i64 z.ow, .int .i64 z.ep, .int .i64 0, .int .i64 z.mv, .string z.ky, .int .i64 z.nw] 37)) = V at *
    go_wp2_with (first | (go_at_call 40; go_loud (refine (refCut0 z.fr z.tt c.ky _ HC.out).mono ?_; rintro e w3 ⟨rfl, hb3⟩; have HB3 := Lib.hid hb3; have hs3 := hb3.size; have f5 := bkeep hb3 f5 (by omega); have k1 := bkeep hb3 k1 (by omega); clear hb3)) | fail)
    refine bodyPost_ret (v := .bool false) (by simp [results, Try.results24, go_sem]) rfl (.inr ⟨HNO.out, rfl, HBV.out.trans (by (have h9 := HB3.out.mono hsv; have h8 := hsv; ((repeat (first | (with_reducible exact Below.refl _ _) | (with_reducible assumption) | ((with_reducible refine b_set ?_ ?_); · (first | omega | (simp; done) | (simp; omega))) | ((with_reducible refine b_alloc ?_ ?_); · (first | omega | (simp; done) | (simp; omega))) | (with_reducible refine Below.drew ?_) | (with_reducible refine b_drewN ?_) | ((with_reducible refine b_call (by assumption) ?_ ?_); · (first | omega | (simp; done) | (simp; omega))))); done)))⟩)

  | true =>
  have HCUT := Lib.hid hct.symm
  rw [← hz] at hct
  have HC := Lib.hid hct.symm
  have hpl := pendN_le 1 m.zs
  have hwr : IntKind.i64.wrap ((m.zs.length : Int) + (pendN 1 m.zs : Int)) = (m.zs.length : Int) + (pendN 1 m.zs : Int) := by rw [IntKind.wrap_i64]; omega
  by_cases hn : (16 : Int) ≤ (m.zs.length : Int) + pendN 1 m.zs
  case pos =>
    have HNO : Hid (∀ m1, ¬ Deed hosts m c i hi m1) := Lib.hid (fun m1 hd => by cases hd <;> first | omega | contradiction)
    clear h hkd hz hct hp
    go_enter Try.func24, Try.ntmps24
    go_upto_region 9 with fail
    have hP : Whl ((w.alloc (.cells #[.int .i64 1, .int .i64 c.zo, .int .i64 c.ep, .int .i64 c.mv, .string c.ky] 42)).alloc (.cells #[.int .i64 z.id, .string z.fr, .string z.tt, .int .i64 z.ow, .int .i64 z.ep, .int .i64 0, .int .i64 z.mv, .string z.ky, .int .i64 z.nw] 37)) w.heap.size 42 #[.int .i64 1, .int .i64 c.zo, .int .i64 c.ep, .int .i64 c.mv, .string c.ky] := (Whl.new rfl).alloc _
    have hF : Whl ((w.alloc (.cells #[.int .i64 1, .int .i64 c.zo, .int .i64 c.ep, .int .i64 c.mv, .string c.ky] 42)).alloc (.cells #[.int .i64 z.id, .string z.fr, .string z.tt, .int .i64 z.ow, .int .i64 z.ep, .int .i64 0, .int .i64 z.mv, .string z.ky, .int .i64 z.nw] 37)) (w.heap.size + 1) 37 #[.int .i64 z.id, .string z.fr, .string z.tt, .int .i64 z.ow, .int .i64 z.ep, .int .i64 0, .int .i64 z.mv, .string z.ky, .int .i64 z.nw] := Whl.new (by simp)
    have HBV : Hid (Below w.heap.size w ((w.alloc (.cells #[.int .i64 1, .int .i64 c.zo, .int .i64 c.ep, .int .i64 c.mv, .string c.ky] 42)).alloc (.cells #[.int .i64 z.id, .string z.fr, .string z.tt, .int .i64 z.ow, .int .i64 z.ep, .int .i64 0, .int .i64 z.mv, .string z.ky, .int .i64 z.nw] 37))) := Lib.hid (((Below.refl _ _).alloc (Nat.le_refl _) _).alloc (by simp) _)
    have HDV := Lib.hid (HD.out.below HBV.out)
    have HPV := Lib.hid hP
    have HFV := Lib.hid hF
    have p2 := hP.cell 2
    have p4 := hP.cell 4
    have f1 := hF.cell 1
    have f2 := hF.cell 2
    have f5 := hF.cell 5
    have k0 := HDV.out.blk.cell 0
    have k1 := HDV.out.blk.cell 1
    simp only [List.getElem?_toArray, List.getElem?_cons_succ, List.getElem?_cons_zero] at p2 p4 f1 f2 f5 k0 k1
    have hsv : w.heap.size ≤ ((w.alloc (.cells #[.int .i64 1, .int .i64 c.zo, .int .i64 c.ep, .int .i64 c.mv, .string c.ky] 42)).alloc (.cells #[.int .i64 z.id, .string z.fr, .string z.tt, .int .i64 z.ow, .int .i64 z.ep, .int .i64 0, .int .i64 z.mv, .string z.ky, .int .i64 z.nw] 37)).heap.size := by simp; omega
    have hsd : w.heap.size + 1 < ((w.alloc (.cells #[.int .i64 1, .int .i64 c.zo, .int .i64 c.ep, .int .i64 c.mv, .string c.ky] 42)).alloc (.cells #[.int .i64 z.id, .string z.fr, .string z.tt, .int .i64 z.ow, .int .i64 z.ep, .int .i64 0, .int .i64 z.mv, .string z.ky, .int .i64 z.nw] 37)).heap.size := by simp
    clear hP hF l2 v0 v1 v2 v3 v4 v5 v6 v7 v8
    generalize ((w.alloc (.cells #[.int .i64 1, .int .i64 c.zo, .int .i64 c.ep, .int .i64 c.mv, .string c.ky] 42)).alloc (.cells #[.int .i64 z.id, .string z.fr, .string z.tt, .int .i64 z.ow, .int .i64 z.ep, .int .i64 0, .int .i64 z.mv, .string z.ky, .int .i64 z.nw] 37)) = V at *
    go_wp2_with (first | (go_at_call 40; go_loud (refine (refCut1 z.fr z.tt c.ky _ HC.out).mono ?_; rintro e w3 ⟨rfl, hb3⟩; have HB3 := Lib.hid hb3; have hs3 := hb3.size; have f5 := bkeep hb3 f5 (by omega); have k1 := bkeep hb3 k1 (by omega); clear hb3)) | (go_at_call 41; go_loud (refine (rdPending B d hv _ hosts m 1 _ (HDV.out.below (by (have h9 := HB3.out; ((repeat (first | (with_reducible exact Below.refl _ _) | (with_reducible assumption) | ((with_reducible refine b_set ?_ ?_); · (first | omega | (simp; done) | (simp; omega))) | ((with_reducible refine b_alloc ?_ ?_); · (first | omega | (simp; done) | (simp; omega))) | (with_reducible refine Below.drew ?_) | (with_reducible refine b_drewN ?_) | ((with_reducible refine b_call (by assumption) ?_ ?_); · (first | omega | (simp; done) | (simp; omega))))); done)))) hl).mono ?_; rintro e w4 ⟨rfl, hb4⟩; have HB4 := Lib.hid (Below.trans (show Below V.heap.size V _ from by (have h9 := HB3.out; ((repeat (first | (with_reducible exact Below.refl _ _) | (with_reducible assumption) | ((with_reducible refine b_set ?_ ?_); · (first | omega | (simp; done) | (simp; omega))) | ((with_reducible refine b_alloc ?_ ?_); · (first | omega | (simp; done) | (simp; omega))) | (with_reducible refine Below.drew ?_) | (with_reducible refine b_drewN ?_) | ((with_reducible refine b_call (by assumption) ?_ ?_); · (first | omega | (simp; done) | (simp; omega))))); done))) (hb4.mono (by (try simp) <;> omega))); have hs4 := HB4.out.size; have HD4 := Lib.hid (HDV.out.below HB4.out); have g1 := HD4.out.blk.cell 1; have g4 := (HPV.out.below HB4.out (by omega)).cell 4; simp only [List.getElem?_toArray, List.getElem?_cons_succ, List.getElem?_cons_zero] at g1 g4; obtain ⟨y0, y1, y2, y3, y4, y5, y6, y7, y8⟩ := rowZ_at HD4.out.row hi; have yf := fun k => HD4.out.row.frozenAt k; have df := fun k => HD4.out.blk.free k; clear hb4 f5 k1 p4)) | fail)
    refine bodyPost_ret (v := .bool false) (by simp [results, Try.results24, go_sem]) rfl (.inr ⟨HNO.out, rfl, HBV.out.trans (HB4.out.mono hsv)⟩)

  by_cases hx : (1099511627776 : Int) ≤ m.nxt
  case pos =>
    have HNO : Hid (∀ m1, ¬ Deed hosts m c i hi m1) := Lib.hid (fun m1 hd => by (unfold Not at *; cases hd <;> first | omega | (rename_i x; unfold topN at x; omega)))
    clear h hkd hz hct hp
    go_enter Try.func24, Try.ntmps24
    go_upto_region 9 with fail
    have hP : Whl ((w.alloc (.cells #[.int .i64 1, .int .i64 c.zo, .int .i64 c.ep, .int .i64 c.mv, .string c.ky] 42)).alloc (.cells #[.int .i64 z.id, .string z.fr, .string z.tt, .int .i64 z.ow, .int .i64 z.ep, .int .i64 0, .int .i64 z.mv, .string z.ky, .int .i64 z.nw] 37)) w.heap.size 42 #[.int .i64 1, .int .i64 c.zo, .int .i64 c.ep, .int .i64 c.mv, .string c.ky] := (Whl.new rfl).alloc _
    have hF : Whl ((w.alloc (.cells #[.int .i64 1, .int .i64 c.zo, .int .i64 c.ep, .int .i64 c.mv, .string c.ky] 42)).alloc (.cells #[.int .i64 z.id, .string z.fr, .string z.tt, .int .i64 z.ow, .int .i64 z.ep, .int .i64 0, .int .i64 z.mv, .string z.ky, .int .i64 z.nw] 37)) (w.heap.size + 1) 37 #[.int .i64 z.id, .string z.fr, .string z.tt, .int .i64 z.ow, .int .i64 z.ep, .int .i64 0, .int .i64 z.mv, .string z.ky, .int .i64 z.nw] := Whl.new (by simp)
    have HBV : Hid (Below w.heap.size w ((w.alloc (.cells #[.int .i64 1, .int .i64 c.zo, .int .i64 c.ep, .int .i64 c.mv, .string c.ky] 42)).alloc (.cells #[.int .i64 z.id, .string z.fr, .string z.tt, .int .i64 z.ow, .int .i64 z.ep, .int .i64 0, .int .i64 z.mv, .string z.ky, .int .i64 z.nw] 37))) := Lib.hid (((Below.refl _ _).alloc (Nat.le_refl _) _).alloc (by simp) _)
    have HDV := Lib.hid (HD.out.below HBV.out)
    have HPV := Lib.hid hP
    have HFV := Lib.hid hF
    have p2 := hP.cell 2
    have p4 := hP.cell 4
    have f1 := hF.cell 1
    have f2 := hF.cell 2
    have f5 := hF.cell 5
    have k0 := HDV.out.blk.cell 0
    have k1 := HDV.out.blk.cell 1
    simp only [List.getElem?_toArray, List.getElem?_cons_succ, List.getElem?_cons_zero] at p2 p4 f1 f2 f5 k0 k1
    have hsv : w.heap.size ≤ ((w.alloc (.cells #[.int .i64 1, .int .i64 c.zo, .int .i64 c.ep, .int .i64 c.mv, .string c.ky] 42)).alloc (.cells #[.int .i64 z.id, .string z.fr, .string z.tt, .int .i64 z.ow, .int .i64 z.ep, .int .i64 0, .int .i64 z.mv, .string z.ky, .int .i64 z.nw] 37)).heap.size := by simp; omega
    have hsd : w.heap.size + 1 < ((w.alloc (.cells #[.int .i64 1, .int .i64 c.zo, .int .i64 c.ep, .int .i64 c.mv, .string c.ky] 42)).alloc (.cells #[.int .i64 z.id, .string z.fr, .string z.tt, .int .i64 z.ow, .int .i64 z.ep, .int .i64 0, .int .i64 z.mv, .string z.ky, .int .i64 z.nw] 37)).heap.size := by simp
    clear hP hF l2 v0 v1 v2 v3 v4 v5 v6 v7 v8
    generalize ((w.alloc (.cells #[.int .i64 1, .int .i64 c.zo, .int .i64 c.ep, .int .i64 c.mv, .string c.ky] 42)).alloc (.cells #[.int .i64 z.id, .string z.fr, .string z.tt, .int .i64 z.ow, .int .i64 z.ep, .int .i64 0, .int .i64 z.mv, .string z.ky, .int .i64 z.nw] 37)) = V at *
    go_wp2_with (first | (go_at_call 40; go_loud (refine (refCut1 z.fr z.tt c.ky _ HC.out).mono ?_; rintro e w3 ⟨rfl, hb3⟩; have HB3 := Lib.hid hb3; have hs3 := hb3.size; have f5 := bkeep hb3 f5 (by omega); have k1 := bkeep hb3 k1 (by omega); clear hb3)) | (go_at_call 41; go_loud (refine (rdPending B d hv _ hosts m 1 _ (HDV.out.below (by (have h9 := HB3.out; ((repeat (first | (with_reducible exact Below.refl _ _) | (with_reducible assumption) | ((with_reducible refine b_set ?_ ?_); · (first | omega | (simp; done) | (simp; omega))) | ((with_reducible refine b_alloc ?_ ?_); · (first | omega | (simp; done) | (simp; omega))) | (with_reducible refine Below.drew ?_) | (with_reducible refine b_drewN ?_) | ((with_reducible refine b_call (by assumption) ?_ ?_); · (first | omega | (simp; done) | (simp; omega))))); done)))) hl).mono ?_; rintro e w4 ⟨rfl, hb4⟩; have HB4 := Lib.hid (Below.trans (show Below V.heap.size V _ from by (have h9 := HB3.out; ((repeat (first | (with_reducible exact Below.refl _ _) | (with_reducible assumption) | ((with_reducible refine b_set ?_ ?_); · (first | omega | (simp; done) | (simp; omega))) | ((with_reducible refine b_alloc ?_ ?_); · (first | omega | (simp; done) | (simp; omega))) | (with_reducible refine Below.drew ?_) | (with_reducible refine b_drewN ?_) | ((with_reducible refine b_call (by assumption) ?_ ?_); · (first | omega | (simp; done) | (simp; omega))))); done))) (hb4.mono (by (try simp) <;> omega))); have hs4 := HB4.out.size; have HD4 := Lib.hid (HDV.out.below HB4.out); have g1 := HD4.out.blk.cell 1; have g4 := (HPV.out.below HB4.out (by omega)).cell 4; simp only [List.getElem?_toArray, List.getElem?_cons_succ, List.getElem?_cons_zero] at g1 g4; obtain ⟨y0, y1, y2, y3, y4, y5, y6, y7, y8⟩ := rowZ_at HD4.out.row hi; have yf := fun k => HD4.out.row.frozenAt k; have df := fun k => HD4.out.blk.free k; clear hb4 f5 k1 p4)) | fail)
    refine bodyPost_ret (v := .bool false) (by simp [results, Try.results24, go_sem]) rfl (.inr ⟨HNO.out, rfl, HBV.out.trans (HB4.out.mono hsv)⟩)

  have HDEED : Hid (Deed hosts m c i hi ⟨m.ver, m.nxt + 1, m.zs.set i { m.zs[i] with pd := 1, ky := c.ky, nw := m.nxt }⟩) := Lib.hid (Deed.split hkd HP.out HCUT.out (by omega) (by unfold topN; omega))
  clear h hkd hz hct hp
  go_enter Try.func24, Try.ntmps24
  go_upto_region 9 with fail
  have hP : Whl ((w.alloc (.cells #[.int .i64 1, .int .i64 c.zo, .int .i64 c.ep, .int .i64 c.mv, .string c.ky] 42)).alloc (.cells #[.int .i64 z.id, .string z.fr, .string z.tt, .int .i64 z.ow, .int .i64 z.ep, .int .i64 0, .int .i64 z.mv, .string z.ky, .int .i64 z.nw] 37)) w.heap.size 42 #[.int .i64 1, .int .i64 c.zo, .int .i64 c.ep, .int .i64 c.mv, .string c.ky] := (Whl.new rfl).alloc _
  have hF : Whl ((w.alloc (.cells #[.int .i64 1, .int .i64 c.zo, .int .i64 c.ep, .int .i64 c.mv, .string c.ky] 42)).alloc (.cells #[.int .i64 z.id, .string z.fr, .string z.tt, .int .i64 z.ow, .int .i64 z.ep, .int .i64 0, .int .i64 z.mv, .string z.ky, .int .i64 z.nw] 37)) (w.heap.size + 1) 37 #[.int .i64 z.id, .string z.fr, .string z.tt, .int .i64 z.ow, .int .i64 z.ep, .int .i64 0, .int .i64 z.mv, .string z.ky, .int .i64 z.nw] := Whl.new (by simp)
  have HBV : Hid (Below w.heap.size w ((w.alloc (.cells #[.int .i64 1, .int .i64 c.zo, .int .i64 c.ep, .int .i64 c.mv, .string c.ky] 42)).alloc (.cells #[.int .i64 z.id, .string z.fr, .string z.tt, .int .i64 z.ow, .int .i64 z.ep, .int .i64 0, .int .i64 z.mv, .string z.ky, .int .i64 z.nw] 37))) := Lib.hid (((Below.refl _ _).alloc (Nat.le_refl _) _).alloc (by simp) _)
  have HDV := Lib.hid (HD.out.below HBV.out)
  have HPV := Lib.hid hP
  have HFV := Lib.hid hF
  have p2 := hP.cell 2
  have p4 := hP.cell 4
  have f1 := hF.cell 1
  have f2 := hF.cell 2
  have f5 := hF.cell 5
  have k0 := HDV.out.blk.cell 0
  have k1 := HDV.out.blk.cell 1
  simp only [List.getElem?_toArray, List.getElem?_cons_succ, List.getElem?_cons_zero] at p2 p4 f1 f2 f5 k0 k1
  have hsv : w.heap.size ≤ ((w.alloc (.cells #[.int .i64 1, .int .i64 c.zo, .int .i64 c.ep, .int .i64 c.mv, .string c.ky] 42)).alloc (.cells #[.int .i64 z.id, .string z.fr, .string z.tt, .int .i64 z.ow, .int .i64 z.ep, .int .i64 0, .int .i64 z.mv, .string z.ky, .int .i64 z.nw] 37)).heap.size := by simp; omega
  have hsd : w.heap.size + 1 < ((w.alloc (.cells #[.int .i64 1, .int .i64 c.zo, .int .i64 c.ep, .int .i64 c.mv, .string c.ky] 42)).alloc (.cells #[.int .i64 z.id, .string z.fr, .string z.tt, .int .i64 z.ow, .int .i64 z.ep, .int .i64 0, .int .i64 z.mv, .string z.ky, .int .i64 z.nw] 37)).heap.size := by simp
  clear hP hF l2 v0 v1 v2 v3 v4 v5 v6 v7 v8
  generalize ((w.alloc (.cells #[.int .i64 1, .int .i64 c.zo, .int .i64 c.ep, .int .i64 c.mv, .string c.ky] 42)).alloc (.cells #[.int .i64 z.id, .string z.fr, .string z.tt, .int .i64 z.ow, .int .i64 z.ep, .int .i64 0, .int .i64 z.mv, .string z.ky, .int .i64 z.nw] 37)) = V at *
  go_upto_region 12 with (first | (go_at_call 40; go_loud (refine (refCut1 z.fr z.tt c.ky _ HC.out).mono ?_; rintro e w3 ⟨rfl, hb3⟩; have HB3 := Lib.hid hb3; have hs3 := hb3.size; have f5 := bkeep hb3 f5 (by omega); have k1 := bkeep hb3 k1 (by omega); clear hb3)) | (go_at_call 41; go_loud (refine (rdPending B d hv _ hosts m 1 _ (HDV.out.below (by (have h9 := HB3.out; ((repeat (first | (with_reducible exact Below.refl _ _) | (with_reducible assumption) | ((with_reducible refine b_set ?_ ?_); · (first | omega | (simp; done) | (simp; omega))) | ((with_reducible refine b_alloc ?_ ?_); · (first | omega | (simp; done) | (simp; omega))) | (with_reducible refine Below.drew ?_) | (with_reducible refine b_drewN ?_) | ((with_reducible refine b_call (by assumption) ?_ ?_); · (first | omega | (simp; done) | (simp; omega))))); done)))) hl).mono ?_; rintro e w4 ⟨rfl, hb4⟩; have HB4 := Lib.hid (Below.trans (show Below V.heap.size V _ from by (have h9 := HB3.out; ((repeat (first | (with_reducible exact Below.refl _ _) | (with_reducible assumption) | ((with_reducible refine b_set ?_ ?_); · (first | omega | (simp; done) | (simp; omega))) | ((with_reducible refine b_alloc ?_ ?_); · (first | omega | (simp; done) | (simp; omega))) | (with_reducible refine Below.drew ?_) | (with_reducible refine b_drewN ?_) | ((with_reducible refine b_call (by assumption) ?_ ?_); · (first | omega | (simp; done) | (simp; omega))))); done))) (hb4.mono (by (try simp) <;> omega))); have hs4 := HB4.out.size; have HD4 := Lib.hid (HDV.out.below HB4.out); have g1 := HD4.out.blk.cell 1; have g4 := (HPV.out.below HB4.out (by omega)).cell 4; simp only [List.getElem?_toArray, List.getElem?_cons_succ, List.getElem?_cons_zero] at g1 g4; obtain ⟨y0, y1, y2, y3, y4, y5, y6, y7, y8⟩ := rowZ_at HD4.out.row hi; have yf := fun k => HD4.out.row.frozenAt k; have df := fun k => HD4.out.blk.free k; clear hb4 f5 k1 p4)) | fail)
  have hdg : d ≠ gz := fun e => HD4.out.za gz rfl e.symm
  have hgd : gz ≠ d := fun e => hdg e.symm
  have hwg : w.heap.size ≠ gz := by omega
  go_region
  go_wp2_with fail
  have s1 := HD4.out.setcell hi (k := 5) (by decide) (z := { m.zs[i] with pd := 1 }) (v := .int .i64 1) rfl
  have s2 := s1.setcell (j := i) (by simpa using hi) (k := 7) (by decide) (z := { m.zs[i] with pd := 1, ky := c.ky }) (v := .string c.ky) (by simp [znV])
  have s3 := s2.setcell (j := i) (by simpa using hi) (k := 8) (by decide) (z := { m.zs[i] with pd := 1, ky := c.ky, nw := m.nxt }) (v := .int .i64 m.nxt) (by simp [znV])
  have s4 := s3.setnxt (m.nxt + 1)
  simp only [List.set_set] at s4
  have t4 : Touch (Fz d (.slice (some ⟨gz, 0, none⟩) m.zs.length cc)) w4 ((((w4.setCell ⟨gz, i * 9 + 5, none⟩ (.int .i64 1)).setCell ⟨gz, i * 9 + 7, none⟩ (.string c.ky)).setCell ⟨gz, i * 9 + 8, none⟩ (.int .i64 m.nxt)).setCell ⟨d, 1, none⟩ (.int .i64 (m.nxt + 1))) := by
    refine ((((Touch.refl _ _).set ?_).set ?_).set ?_).set ?_
    · exact fun _ => .inr rfl
    · exact fun _ => .inr rfl
    · exact fun _ => .inr rfl
    · exact fun _ => .inl rfl
  generalize (((w4.setCell ⟨gz, i * 9 + 5, none⟩ (.int .i64 1)).setCell ⟨gz, i * 9 + 7, none⟩ (.string c.ky)).setCell ⟨gz, i * 9 + 8, none⟩ (.int .i64 m.nxt)).setCell ⟨d, 1, none⟩ (.int .i64 (m.nxt + 1)) = W9 at *
  have hbw4 : Below w.heap.size w w4 := HBV.out.trans (HB4.out.mono hsv)
  refine bodyPost_ret (v := .bool true) (by simp [results, Try.results24, go_sem]) rfl (.inl ⟨_, _, HDEED.out, rfl, s4.keep (D := fun _ => False) (Touch.of_drew _ _) (fun _ _ h => h), ?_, fun k hk => .inl hk⟩)
  exact (((Touch.of_below hbw4).mono'' (fun k h1 h2 => absurd h2 (by omega))).trans t4 (fun _ _ h => h)).trans (Touch.of_drew (fun _ => False) _) (fun _ _ h => h.elim)
end Go.Proofs.Ytepjehcmiofehaa
namespace Go.Proofs.Ytepjehcmiofehaa
open Go.RowKit
set_option linter.unusedVariables false
set_option linter.unusedSimpArgs false
set_option maxHeartbeats 8000000 in
set_option maxRecDepth 10000 in
theorem rdChange2 (B d i : Nat) (hv zv : Value) (hosts : List Int) (m : Mp) (c : Ch) (hi : i < m.zs.length) (w : World) (h : RdH w B d hv zv hosts m) (hB : B ≤ w.heap.size) (hl : m.zs.length ≤ 1000) (hkd : c.kd = 2) :
    Calls Try.prog 24 #[.pointer (some ⟨d, 0, none⟩), .agg #[.int .i64 c.kd, .int .i64 c.zo, .int .i64 c.ep, .int .i64 c.mv, .string c.ky], .int .i64 i] w fun e w' => RdQ B d hv zv hosts m c i hi w e w' := by
  have HD := Lib.hid h
  have l2 := h.blk.cell 2
  simp only [List.getElem?_toArray, List.getElem?_cons_succ, List.getElem?_cons_zero] at l2
  obtain ⟨gz, cc, hzv, _, hgz, hnc, hcm⟩ := own_form h.row (by omega)
  subst hzv
  have hdl := h.blk.low
  have q3 : (i : Int) < (m.zs.length : Int) := by omega
  obtain ⟨z, hz⟩ : ∃ z, z = m.zs[i] := ⟨_, rfl⟩
  obtain ⟨v0, v1, v2, v3, v4, v5, v6, v7, v8⟩ := rowZ_at h.row hi
  rw [← hz] at v0 v1 v2 v3 v4 v5 v6 v7 v8
  have HZ := Lib.hid hz
  have HKD := Lib.hid hkd
  rw [hkd]
  have hcast : IntKind.i64.wrap ((i : Int) + 1) = (i : Int) + 1 := by rw [IntKind.wrap_i64]; omega
  have hc0 : 0 ≤ (i : Int) + 1 := by omega
  by_cases h2 : i + 1 < m.zs.length
  case neg =>
    have HNO : Hid (∀ m1, ¬ Deed hosts m c i hi m1) := Lib.hid (fun m1 hd => by cases hd <;> first | omega | contradiction)
    have q4 : decide ((m.zs.length : Int) ≤ (i : Int) + 1) = true := by simp; omega
    clear h hkd hz
    go_enter Try.func24, Try.ntmps24
    go_upto_region 15 with fail
    have hP : Whl ((w.alloc (.cells #[.int .i64 2, .int .i64 c.zo, .int .i64 c.ep, .int .i64 c.mv, .string c.ky] 42)).alloc (.cells #[.int .i64 z.id, .string z.fr, .string z.tt, .int .i64 z.ow, .int .i64 z.ep, .int .i64 z.pd, .int .i64 z.mv, .string z.ky, .int .i64 z.nw] 37)) w.heap.size 42 #[.int .i64 2, .int .i64 c.zo, .int .i64 c.ep, .int .i64 c.mv, .string c.ky] := (Whl.new rfl).alloc _
    have hF : Whl ((w.alloc (.cells #[.int .i64 2, .int .i64 c.zo, .int .i64 c.ep, .int .i64 c.mv, .string c.ky] 42)).alloc (.cells #[.int .i64 z.id, .string z.fr, .string z.tt, .int .i64 z.ow, .int .i64 z.ep, .int .i64 z.pd, .int .i64 z.mv, .string z.ky, .int .i64 z.nw] 37)) (w.heap.size + 1) 37 #[.int .i64 z.id, .string z.fr, .string z.tt, .int .i64 z.ow, .int .i64 z.ep, .int .i64 z.pd, .int .i64 z.mv, .string z.ky, .int .i64 z.nw] := Whl.new (by simp)
    have HBV : Hid (Below w.heap.size w ((w.alloc (.cells #[.int .i64 2, .int .i64 c.zo, .int .i64 c.ep, .int .i64 c.mv, .string c.ky] 42)).alloc (.cells #[.int .i64 z.id, .string z.fr, .string z.tt, .int .i64 z.ow, .int .i64 z.ep, .int .i64 z.pd, .int .i64 z.mv, .string z.ky, .int .i64 z.nw] 37))) := Lib.hid (((Below.refl _ _).alloc (Nat.le_refl _) _).alloc (by simp) _)
    have HDV := Lib.hid (HD.out.below HBV.out)
    have HPV := Lib.hid hP
    have HFV := Lib.hid hF
    have p2 := hP.cell 2
    have p4 := hP.cell 4
    have f0 := hF.cell 0
    have f3 := hF.cell 3
    have f5 := hF.cell 5
    have k0 := HDV.out.blk.cell 0
    have k1 := HDV.out.blk.cell 1
    simp only [List.getElem?_toArray, List.getElem?_cons_succ, List.getElem?_cons_zero] at p2 p4 f0 f3 f5 k0 k1
    have hsv : w.heap.size ≤ ((w.alloc (.cells #[.int .i64 2, .int .i64 c.zo, .int .i64 c.ep, .int .i64 c.mv, .string c.ky] 42)).alloc (.cells #[.int .i64 z.id, .string z.fr, .string z.tt, .int .i64 z.ow, .int .i64 z.ep, .int .i64 z.pd, .int .i64 z.mv, .string z.ky, .int .i64 z.nw] 37)).heap.size := by simp; omega
    have hsd : w.heap.size + 1 < ((w.alloc (.cells #[.int .i64 2, .int .i64 c.zo, .int .i64 c.ep, .int .i64 c.mv, .string c.ky] 42)).alloc (.cells #[.int .i64 z.id, .string z.fr, .string z.tt, .int .i64 z.ow, .int .i64 z.ep, .int .i64 z.pd, .int .i64 z.mv, .string z.ky, .int .i64 z.nw] 37)).heap.size := by simp
    clear hP hF l2 v0 v1 v2 v3 v4 v5 v6 v7 v8
    generalize ((w.alloc (.cells #[.int .i64 2, .int .i64 c.zo, .int .i64 c.ep, .int .i64 c.mv, .string c.ky] 42)).alloc (.cells #[.int .i64 z.id, .string z.fr, .string z.tt, .int .i64 z.ow, .int .i64 z.ep, .int .i64 z.pd, .int .i64 z.mv, .string z.ky, .int .i64 z.nw] 37)) = V at *
    go_quiet (fail)
    go_wp2_with fail
    refine bodyPost_ret (v := .bool false) (by simp [results, Try.results24, go_sem]) rfl (.inr ⟨HNO.out, rfl, b_drewN HBV.out⟩)

  have q4 : decide ((m.zs.length : Int) ≤ (i : Int) + 1) = false := by simp; omega
  have q5 : (i : Int) + 1 < (m.zs.length : Int) := by omega
  obtain ⟨y, hy⟩ : ∃ y, y = m.zs[i + 1] := ⟨_, rfl⟩
  have HY := Lib.hid hy
  by_cases hp : m.zs[i].pd = 0
  case neg =>
    have HNO : Hid (∀ m1, ¬ Deed hosts m c i hi m1) := Lib.hid (fun m1 hd => by cases hd <;> first | omega | contradiction)
    rw [← hz] at hp
    have hp2 : (z.pd != 0) = true := by simpa using hp
    clear h hkd hz hy
    go_enter Try.func24, Try.ntmps24
    go_upto_region 15 with fail
    have hP : Whl ((w.alloc (.cells #[.int .i64 2, .int .i64 c.zo, .int .i64 c.ep, .int .i64 c.mv, .string c.ky] 42)).alloc (.cells #[.int .i64 z.id, .string z.fr, .string z.tt, .int .i64 z.ow, .int .i64 z.ep, .int .i64 z.pd, .int .i64 z.mv, .string z.ky, .int .i64 z.nw] 37)) w.heap.size 42 #[.int .i64 2, .int .i64 c.zo, .int .i64 c.ep, .int .i64 c.mv, .string c.ky] := (Whl.new rfl).alloc _
    have hF : Whl ((w.alloc (.cells #[.int .i64 2, .int .i64 c.zo, .int .i64 c.ep, .int .i64 c.mv, .string c.ky] 42)).alloc (.cells #[.int .i64 z.id, .string z.fr, .string z.tt, .int .i64 z.ow, .int .i64 z.ep, .int .i64 z.pd, .int .i64 z.mv, .string z.ky, .int .i64 z.nw] 37)) (w.heap.size + 1) 37 #[.int .i64 z.id, .string z.fr, .string z.tt, .int .i64 z.ow, .int .i64 z.ep, .int .i64 z.pd, .int .i64 z.mv, .string z.ky, .int .i64 z.nw] := Whl.new (by simp)
    have HBV : Hid (Below w.heap.size w ((w.alloc (.cells #[.int .i64 2, .int .i64 c.zo, .int .i64 c.ep, .int .i64 c.mv, .string c.ky] 42)).alloc (.cells #[.int .i64 z.id, .string z.fr, .string z.tt, .int .i64 z.ow, .int .i64 z.ep, .int .i64 z.pd, .int .i64 z.mv, .string z.ky, .int .i64 z.nw] 37))) := Lib.hid (((Below.refl _ _).alloc (Nat.le_refl _) _).alloc (by simp) _)
    have HDV := Lib.hid (HD.out.below HBV.out)
    have HPV := Lib.hid hP
    have HFV := Lib.hid hF
    have p2 := hP.cell 2
    have p4 := hP.cell 4
    have f0 := hF.cell 0
    have f3 := hF.cell 3
    have f5 := hF.cell 5
    have k0 := HDV.out.blk.cell 0
    have k1 := HDV.out.blk.cell 1
    simp only [List.getElem?_toArray, List.getElem?_cons_succ, List.getElem?_cons_zero] at p2 p4 f0 f3 f5 k0 k1
    have hsv : w.heap.size ≤ ((w.alloc (.cells #[.int .i64 2, .int .i64 c.zo, .int .i64 c.ep, .int .i64 c.mv, .string c.ky] 42)).alloc (.cells #[.int .i64 z.id, .string z.fr, .string z.tt, .int .i64 z.ow, .int .i64 z.ep, .int .i64 z.pd, .int .i64 z.mv, .string z.ky, .int .i64 z.nw] 37)).heap.size := by simp; omega
    have hsd : w.heap.size + 1 < ((w.alloc (.cells #[.int .i64 2, .int .i64 c.zo, .int .i64 c.ep, .int .i64 c.mv, .string c.ky] 42)).alloc (.cells #[.int .i64 z.id, .string z.fr, .string z.tt, .int .i64 z.ow, .int .i64 z.ep, .int .i64 z.pd, .int .i64 z.mv, .string z.ky, .int .i64 z.nw] 37)).heap.size := by simp
    clear hP hF l2 v0 v1 v2 v3 v4 v5 v6 v7 v8
    generalize ((w.alloc (.cells #[.int .i64 2, .int .i64 c.zo, .int .i64 c.ep, .int .i64 c.mv, .string c.ky] 42)).alloc (.cells #[.int .i64 z.id, .string z.fr, .string z.tt, .int .i64 z.ow, .int .i64 z.ep, .int .i64 z.pd, .int .i64 z.mv, .string z.ky, .int .i64 z.nw] 37)) = V at *
    go_quiet (fail)
    go_wp2_with fail
    refine bodyPost_ret (v := .bool false) (by simp [results, Try.results24, go_sem]) rfl (.inr ⟨HNO.out, rfl, b_drewN HBV.out⟩)

  have HP := Lib.hid hp
  rw [← hz] at hp
  rw [hp] at v5
  by_cases hq : m.zs[i + 1].pd = 0
  case neg =>
    have HNO : Hid (∀ m1, ¬ Deed hosts m c i hi m1) := Lib.hid (fun m1 hd => by cases hd <;> first | omega | contradiction)
    rw [← hy] at hq
    have hq2 : (y.pd != 0) = true := by simpa using hq
    clear h hkd hz hy hp
    go_enter Try.func24, Try.ntmps24
    go_upto_region 15 with fail
    have hP : Whl ((w.alloc (.cells #[.int .i64 2, .int .i64 c.zo, .int .i64 c.ep, .int .i64 c.mv, .string c.ky] 42)).alloc (.cells #[.int .i64 z.id, .string z.fr, .string z.tt, .int .i64 z.ow, .int .i64 z.ep, .int .i64 0, .int .i64 z.mv, .string z.ky, .int .i64 z.nw] 37)) w.heap.size 42 #[.int .i64 2, .int .i64 c.zo, .int .i64 c.ep, .int .i64 c.mv, .string c.ky] := (Whl.new rfl).alloc _
    have hF : Whl ((w.alloc (.cells #[.int .i64 2, .int .i64 c.zo, .int .i64 c.ep, .int .i64 c.mv, .string c.ky] 42)).alloc (.cells #[.int .i64 z.id, .string z.fr, .string z.tt, .int .i64 z.ow, .int .i64 z.ep, .int .i64 0, .int .i64 z.mv, .string z.ky, .int .i64 z.nw] 37)) (w.heap.size + 1) 37 #[.int .i64 z.id, .string z.fr, .string z.tt, .int .i64 z.ow, .int .i64 z.ep, .int .i64 0, .int .i64 z.mv, .string z.ky, .int .i64 z.nw] := Whl.new (by simp)
    have HBV : Hid (Below w.heap.size w ((w.alloc (.cells #[.int .i64 2, .int .i64 c.zo, .int .i64 c.ep, .int .i64 c.mv, .string c.ky] 42)).alloc (.cells #[.int .i64 z.id, .string z.fr, .string z.tt, .int .i64 z.ow, .int .i64 z.ep, .int .i64 0, .int .i64 z.mv, .string z.ky, .int .i64 z.nw] 37))) := Lib.hid (((Below.refl _ _).alloc (Nat.le_refl _) _).alloc (by simp) _)
    have HDV := Lib.hid (HD.out.below HBV.out)
    have HPV := Lib.hid hP
    have HFV := Lib.hid hF
    have p2 := hP.cell 2
    have p4 := hP.cell 4
    have f0 := hF.cell 0
    have f3 := hF.cell 3
    have f5 := hF.cell 5
    have k0 := HDV.out.blk.cell 0
    have k1 := HDV.out.blk.cell 1
    simp only [List.getElem?_toArray, List.getElem?_cons_succ, List.getElem?_cons_zero] at p2 p4 f0 f3 f5 k0 k1
    have hsv : w.heap.size ≤ ((w.alloc (.cells #[.int .i64 2, .int .i64 c.zo, .int .i64 c.ep, .int .i64 c.mv, .string c.ky] 42)).alloc (.cells #[.int .i64 z.id, .string z.fr, .string z.tt, .int .i64 z.ow, .int .i64 z.ep, .int .i64 0, .int .i64 z.mv, .string z.ky, .int .i64 z.nw] 37)).heap.size := by simp; omega
    have hsd : w.heap.size + 1 < ((w.alloc (.cells #[.int .i64 2, .int .i64 c.zo, .int .i64 c.ep, .int .i64 c.mv, .string c.ky] 42)).alloc (.cells #[.int .i64 z.id, .string z.fr, .string z.tt, .int .i64 z.ow, .int .i64 z.ep, .int .i64 0, .int .i64 z.mv, .string z.ky, .int .i64 z.nw] 37)).heap.size := by simp
    obtain ⟨u0, _, _, u3, _, u5, _, _, u8⟩ := rowZ_at HDV.out.row h2
    rw [← HY.out] at u0 u3 u5 u8
    clear hP hF l2 v0 v1 v2 v3 v4 v5 v6 v7 v8
    generalize ((w.alloc (.cells #[.int .i64 2, .int .i64 c.zo, .int .i64 c.ep, .int .i64 c.mv, .string c.ky] 42)).alloc (.cells #[.int .i64 z.id, .string z.fr, .string z.tt, .int .i64 z.ow, .int .i64 z.ep, .int .i64 0, .int .i64 z.mv, .string z.ky, .int .i64 z.nw] 37)) = V at *
    go_quiet (fail)
    go_wp2_with fail
    refine bodyPost_ret (v := .bool false) (by simp [results, Try.results24, go_sem]) rfl (.inr ⟨HNO.out, rfl, b_drewN HBV.out⟩)

  have HQ := Lib.hid hq
  rw [← hy] at hq
  by_cases how : m.zs[i].ow = m.zs[i + 1].ow
  case neg =>
    have HNO : Hid (∀ m1, ¬ Deed hosts m c i hi m1) := Lib.hid (fun m1 hd => by cases hd <;> first | omega | contradiction)
    rw [← hz, ← hy] at how
    have how2 : (y.ow != z.ow) = true := by simpa using fun e => how e.symm
    have HQY := Lib.hid hq
    clear h hkd hz hy hp hq
    go_enter Try.func24, Try.ntmps24
    go_upto_region 15 with fail
    have hP : Whl ((w.alloc (.cells #[.int .i64 2, .int .i64 c.zo, .int .i64 c.ep, .int .i64 c.mv, .string c.ky] 42)).alloc (.cells #[.int .i64 z.id, .string z.fr, .string z.tt, .int .i64 z.ow, .int .i64 z.ep, .int .i64 0, .int .i64 z.mv, .string z.ky, .int .i64 z.nw] 37)) w.heap.size 42 #[.int .i64 2, .int .i64 c.zo, .int .i64 c.ep, .int .i64 c.mv, .string c.ky] := (Whl.new rfl).alloc _
    have hF : Whl ((w.alloc (.cells #[.int .i64 2, .int .i64 c.zo, .int .i64 c.ep, .int .i64 c.mv, .string c.ky] 42)).alloc (.cells #[.int .i64 z.id, .string z.fr, .string z.tt, .int .i64 z.ow, .int .i64 z.ep, .int .i64 0, .int .i64 z.mv, .string z.ky, .int .i64 z.nw] 37)) (w.heap.size + 1) 37 #[.int .i64 z.id, .string z.fr, .string z.tt, .int .i64 z.ow, .int .i64 z.ep, .int .i64 0, .int .i64 z.mv, .string z.ky, .int .i64 z.nw] := Whl.new (by simp)
    have HBV : Hid (Below w.heap.size w ((w.alloc (.cells #[.int .i64 2, .int .i64 c.zo, .int .i64 c.ep, .int .i64 c.mv, .string c.ky] 42)).alloc (.cells #[.int .i64 z.id, .string z.fr, .string z.tt, .int .i64 z.ow, .int .i64 z.ep, .int .i64 0, .int .i64 z.mv, .string z.ky, .int .i64 z.nw] 37))) := Lib.hid (((Below.refl _ _).alloc (Nat.le_refl _) _).alloc (by simp) _)
    have HDV := Lib.hid (HD.out.below HBV.out)
    have HPV := Lib.hid hP
    have HFV := Lib.hid hF
    have p2 := hP.cell 2
    have p4 := hP.cell 4
    have f0 := hF.cell 0
    have f3 := hF.cell 3
    have f5 := hF.cell 5
    have k0 := HDV.out.blk.cell 0
    have k1 := HDV.out.blk.cell 1
    simp only [List.getElem?_toArray, List.getElem?_cons_succ, List.getElem?_cons_zero] at p2 p4 f0 f3 f5 k0 k1
    have hsv : w.heap.size ≤ ((w.alloc (.cells #[.int .i64 2, .int .i64 c.zo, .int .i64 c.ep, .int .i64 c.mv, .string c.ky] 42)).alloc (.cells #[.int .i64 z.id, .string z.fr, .string z.tt, .int .i64 z.ow, .int .i64 z.ep, .int .i64 0, .int .i64 z.mv, .string z.ky, .int .i64 z.nw] 37)).heap.size := by simp; omega
    have hsd : w.heap.size + 1 < ((w.alloc (.cells #[.int .i64 2, .int .i64 c.zo, .int .i64 c.ep, .int .i64 c.mv, .string c.ky] 42)).alloc (.cells #[.int .i64 z.id, .string z.fr, .string z.tt, .int .i64 z.ow, .int .i64 z.ep, .int .i64 0, .int .i64 z.mv, .string z.ky, .int .i64 z.nw] 37)).heap.size := by simp
    obtain ⟨u0, _, _, u3, _, u5, _, _, u8⟩ := rowZ_at HDV.out.row h2
    rw [← HY.out] at u0 u3 u5 u8
    rw [HQY.out] at u5
    clear hP hF l2 v0 v1 v2 v3 v4 v5 v6 v7 v8
    generalize ((w.alloc (.cells #[.int .i64 2, .int .i64 c.zo, .int .i64 c.ep, .int .i64 c.mv, .string c.ky] 42)).alloc (.cells #[.int .i64 z.id, .string z.fr, .string z.tt, .int .i64 z.ow, .int .i64 z.ep, .int .i64 0, .int .i64 z.mv, .string z.ky, .int .i64 z.nw] 37)) = V at *
    go_quiet (fail)
    go_wp2_with fail
    refine bodyPost_ret (v := .bool false) (by simp [results, Try.results24, go_sem]) rfl (.inr ⟨HNO.out, rfl, b_drewN HBV.out⟩)

  have HDEED : Hid (Deed hosts m c i hi ⟨m.ver, m.nxt, (m.zs.set i { m.zs[i] with pd := 2, nw := m.zs[i + 1].id }).set (i + 1) { m.zs[i + 1] with pd := 2, nw := m.zs[i].id }⟩) := Lib.hid (Deed.merge hkd h2 HP.out HQ.out how)
  rw [← hz, ← hy] at how
  have how2 : (y.ow != z.ow) = false := by simpa using how.symm
  have HQY := Lib.hid hq
  clear h hkd hz hy hp hq how
  go_enter Try.func24, Try.ntmps24
  go_upto_region 15 with fail
  have hP : Whl ((w.alloc (.cells #[.int .i64 2, .int .i64 c.zo, .int .i64 c.ep, .int .i64 c.mv, .string c.ky] 42)).alloc (.cells #[.int .i64 z.id, .string z.fr, .string z.tt, .int .i64 z.ow, .int .i64 z.ep, .int .i64 0, .int .i64 z.mv, .string z.ky, .int .i64 z.nw] 37)) w.heap.size 42 #[.int .i64 2, .int .i64 c.zo, .int .i64 c.ep, .int .i64 c.mv, .string c.ky] := (Whl.new rfl).alloc _
  have hF : Whl ((w.alloc (.cells #[.int .i64 2, .int .i64 c.zo, .int .i64 c.ep, .int .i64 c.mv, .string c.ky] 42)).alloc (.cells #[.int .i64 z.id, .string z.fr, .string z.tt, .int .i64 z.ow, .int .i64 z.ep, .int .i64 0, .int .i64 z.mv, .string z.ky, .int .i64 z.nw] 37)) (w.heap.size + 1) 37 #[.int .i64 z.id, .string z.fr, .string z.tt, .int .i64 z.ow, .int .i64 z.ep, .int .i64 0, .int .i64 z.mv, .string z.ky, .int .i64 z.nw] := Whl.new (by simp)
  have HBV : Hid (Below w.heap.size w ((w.alloc (.cells #[.int .i64 2, .int .i64 c.zo, .int .i64 c.ep, .int .i64 c.mv, .string c.ky] 42)).alloc (.cells #[.int .i64 z.id, .string z.fr, .string z.tt, .int .i64 z.ow, .int .i64 z.ep, .int .i64 0, .int .i64 z.mv, .string z.ky, .int .i64 z.nw] 37))) := Lib.hid (((Below.refl _ _).alloc (Nat.le_refl _) _).alloc (by simp) _)
  have HDV := Lib.hid (HD.out.below HBV.out)
  have HPV := Lib.hid hP
  have HFV := Lib.hid hF
  have p2 := hP.cell 2
  have p4 := hP.cell 4
  have f0 := hF.cell 0
  have f3 := hF.cell 3
  have f5 := hF.cell 5
  have k0 := HDV.out.blk.cell 0
  have k1 := HDV.out.blk.cell 1
  simp only [List.getElem?_toArray, List.getElem?_cons_succ, List.getElem?_cons_zero] at p2 p4 f0 f3 f5 k0 k1
  have hsv : w.heap.size ≤ ((w.alloc (.cells #[.int .i64 2, .int .i64 c.zo, .int .i64 c.ep, .int .i64 c.mv, .string c.ky] 42)).alloc (.cells #[.int .i64 z.id, .string z.fr, .string z.tt, .int .i64 z.ow, .int .i64 z.ep, .int .i64 0, .int .i64 z.mv, .string z.ky, .int .i64 z.nw] 37)).heap.size := by simp; omega
  have hsd : w.heap.size + 1 < ((w.alloc (.cells #[.int .i64 2, .int .i64 c.zo, .int .i64 c.ep, .int .i64 c.mv, .string c.ky] 42)).alloc (.cells #[.int .i64 z.id, .string z.fr, .string z.tt, .int .i64 z.ow, .int .i64 z.ep, .int .i64 0, .int .i64 z.mv, .string z.ky, .int .i64 z.nw] 37)).heap.size := by simp
  obtain ⟨u0, _, _, u3, _, u5, _, _, u8⟩ := rowZ_at HDV.out.row h2
  rw [← HY.out] at u0 u3 u5 u8
  rw [HQY.out] at u5
  clear hP hF l2 v0 v1 v2 v3 v4 v5 v6 v7 v8
  generalize ((w.alloc (.cells #[.int .i64 2, .int .i64 c.zo, .int .i64 c.ep, .int .i64 c.mv, .string c.ky] 42)).alloc (.cells #[.int .i64 z.id, .string z.fr, .string z.tt, .int .i64 z.ow, .int .i64 z.ep, .int .i64 0, .int .i64 z.mv, .string z.ky, .int .i64 z.nw] 37)) = V at *
  go_quiet (fail)
  have yf := fun k => HDV.out.row.frozenAt k
  obtain ⟨_, _, _, _, _, w5, _, _, w8⟩ := rowZ_at HDV.out.row hi
  rw [← HZ.out] at w5 w8
  go_wp2_with fail
  go_region
  go_wp2_with fail
  have ey := HY.out
  have ez := HZ.out
  subst ey
  subst ez
  have hN : RdH (V.drewN nq) B d hv (.slice (some ⟨gz, 0, none⟩) m.zs.length cc) hosts m := HDV.out.keep (D := fun _ => False) ((Touch.refl _ _).drewN _) (fun _ _ h => h)
  have s1 := hN.setcell hi (k := 5) (by decide) (z := { m.zs[i] with pd := 2 }) (v := .int .i64 2) rfl
  have s2 := s1.setcell (j := i) (by simpa using hi) (k := 8) (by decide) (z := { m.zs[i] with pd := 2, nw := m.zs[i + 1].id }) (v := .int .i64 m.zs[i + 1].id) (by simp [znV])
  simp only [List.set_set] at s2
  have s3 := s2.setcell (j := i + 1) (by simpa using h2) (k := 5) (by decide) (z := { m.zs[i + 1] with pd := 2 }) (v := .int .i64 2) (by show _ = (znV ((m.zs.set i _)[i + 1]'_)).set _ _; rw [List.getElem_set_ne (by omega)]; rfl)
  have s4 := s3.setcell (j := i + 1) (by simpa using h2) (k := 8) (by decide) (z := { m.zs[i + 1] with pd := 2, nw := m.zs[i].id }) (v := .int .i64 m.zs[i].id) (by simp [znV])
  simp only [List.set_set] at s4
  have t4 : Touch (Fz d (.slice (some ⟨gz, 0, none⟩) m.zs.length cc)) (V.drewN nq) (((((V.drewN nq).setCell ⟨gz, i * 9 + 5, none⟩ (.int .i64 2)).setCell ⟨gz, i * 9 + 8, none⟩ (.int .i64 m.zs[i + 1].id)).setCell ⟨gz, (i + 1) * 9 + 5, none⟩ (.int .i64 2)).setCell ⟨gz, (i + 1) * 9 + 8, none⟩ (.int .i64 m.zs[i].id)) := by
    refine ((((Touch.refl _ _).set ?_).set ?_).set ?_).set ?_ <;> exact fun _ => .inr rfl
  generalize (((((V.drewN nq).setCell ⟨gz, i * 9 + 5, none⟩ (.int .i64 2)).setCell ⟨gz, i * 9 + 8, none⟩ (.int .i64 m.zs[i + 1].id)).setCell ⟨gz, (i + 1) * 9 + 5, none⟩ (.int .i64 2)).setCell ⟨gz, (i + 1) * 9 + 8, none⟩ (.int .i64 m.zs[i].id)) = W9 at *
  refine bodyPost_ret (v := .bool true) (by simp [results, Try.results24, go_sem]) rfl (.inl ⟨_, _, HDEED.out, rfl, s4.keep (D := fun _ => False) (Touch.of_drew _ _) (fun _ _ h => h), ?_, fun k hk => .inl hk⟩)
  exact ((((Touch.of_below HBV.out).mono'' (fun k h1 h2 => absurd h2 (by omega))).drewN _).trans t4 (fun _ _ h => h)).trans (Touch.of_drew (fun _ => False) _) (fun _ _ h => h.elim)
end Go.Proofs.Ytepjehcmiofehaa
namespace Go.Proofs.Ytepjehcmiofehaa
open Go.RowKit
set_option linter.unusedVariables false
set_option linter.unusedSimpArgs false
theorem RdQ.bool {B d : Nat} {hv zv : Value} {hosts : List Int} {m : Mp} {c : Ch} {i : Nat} {hi : i < m.zs.length} {w : World} {e : Ending} {w' : World} (h : RdQ B d hv zv hosts m c i hi w e w') : ∃ b, e = .returned (.bool b) := by
  rcases h with ⟨m1, zv', h1, h2, _⟩ | ⟨h1, h2, _⟩
  · exact ⟨_, h2⟩
  · exact ⟨_, h2⟩
end Go.Proofs.Ytepjehcmiofehaa
