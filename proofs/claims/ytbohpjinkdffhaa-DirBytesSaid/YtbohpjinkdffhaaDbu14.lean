/- The directory: a split is done. -/
import Derived.Test.YtbohpjinkdffhaaProg
import Derived.WalkKit
import Derived.WalkSpells
import Derived.WalkLawsBesides
import Derived.Deep.QuietTactic
import Derived.BigQuiet
import Derived.RegionTactic
import Derived.BigRegion
import Derived.Outline
import Derived.LoopTactic
import Derived.Lib.Hide
import Derived.Deep.RegionHeld3
import GoSem.Op.String
import Derived.Lib.Strings
import Derived.Laws.AppendOwnNone
import Derived.Deep.AppendLies
import Derived.Maps.AppendAt
import Derived.Laws.Rows
import Derived.Deep.Cut
import Derived.StillTailTactics
import Derived.Laws.IdiomCopy
import Derived.Lib.AppendZerosOnto
import Derived.Lib.Overlaps
import Derived.Lib.ReflectliteSwap
import Derived.Deep.RegionLaw
import Derived.Test.YtbohpjinkdffhaaDbu0
import Derived.Test.YtbohpjinkdffhaaDbu3
import Derived.Test.YtbohpjinkdffhaaDbu6
import Derived.Test.YtbohpjinkdffhaaDbu9
import Derived.Test.YtbohpjinkdffhaaDbu10
import Derived.Test.YtbohpjinkdffhaaDbu11
import Derived.Test.YtbohpjinkdffhaaDbu12
import Derived.Test.YtbohpjinkdffhaaDbu13
namespace Go.Proofs.Ytbohpjinkdffhaa
open Go.RowKit
set_option linter.unusedVariables false
set_option linter.unusedSimpArgs false
theorem take_set1 {l : List Zn} {i : Nat} (h : i < l.length) (a : Zn) : (l.set i a).take (i + 1) = l.take i ++ [a] := by
  rw [List.take_succ_eq_append_getElem (by simpa using h), List.getElem_set_self, List.take_set, List.set_eq_of_length_le (by rw [List.length_take]; omega)]
theorem ins_flat {l : List Zn} {i : Nat} (h : i < l.length) (a x : Zn) : flatZ (l.take i ++ a :: x :: l.drop (i + 1)) = (flatZ (l.set i a)).take ((i + 1) * 9) ++ znV x ++ (flatZ (l.set i a)).drop ((i + 1) * 9) := by
  rw [← flatZ_take, ← flatZ_drop, take_set1 h, List.drop_set_of_lt (by omega)]
  simp [flatZ]
set_option maxHeartbeats 8000000 in
set_option maxRecDepth 10000 in
theorem drSplitDone (B d i : Nat) (hv zv : Value) (hosts : List Int) (m : Mp) (c : Ch) (hi : i < m.zs.length) (w : World) (h : DrH w B d hv zv hosts m) (hB : B ≤ w.heap.size) (hl : m.zs.length ≤ 1000) (hkd : c.kd = 4) (hpd : m.zs[i].pd = 1) (hep : m.zs[i].ep = c.ep) (hep0 : 0 ≤ m.zs[i].ep) :
    Calls Try.prog 92 #[.pointer (some ⟨d, 0, none⟩), .int .i64 i] w fun e w' => DeedQ B d hv zv hosts m c i hi w e w' := by
  have HD := Lib.hid h
  have l3 := h.blk.cell 3
  simp only [List.getElem?_toArray, List.getElem?_cons_succ, List.getElem?_cons_zero] at l3
  obtain ⟨gz, cc, hzv, _, hgz, hnc, hcm⟩ := own_form h.row (by omega)
  subst hzv
  have hdl := h.blk.low
  have q3 : (i : Int) < (m.zs.length : Int) := by omega
  obtain ⟨z, hz⟩ : ∃ z, z = m.zs[i] := ⟨_, rfl⟩
  obtain ⟨v0, v1, v2, v3, v4, v5, v6, v7, v8⟩ := rowZ_at h.row hi
  rw [← hz] at v0 v1 v2 v3 v4 v5 v6 v7 v8 hpd hep hep0
  have HZ := Lib.hid hz
  have HKD := Lib.hid hkd
  have HEP := Lib.hid hep
  have HPD := Lib.hid hpd
  rw [hpd] at v5
  clear h hkd hz hep hpd
  obtain ⟨ct, hct⟩ : ∃ b, cutB z.fr z.tt z.ky = b := ⟨_, rfl⟩
  have HCT := Lib.hid hct
  clear hct
  cases ct with
  | false =>
    go_enter Try.func92, Try.ntmps92
    go_wp2_with (first | (go_at_call 89; refine (spanCut0 _ _ _ _ HCT.out).mono ?_; rintro e w3 ⟨rfl, hb3⟩; obtain ⟨hc3, hf3⟩ := bcell hb3; have hs3 := hb3.size; have HB3 := Lib.hid hb3; (try simp at hs3)) | fail)
    refine bodyPost_ret (v := .bool false) (by simp [results, Try.results92, go_sem, *]) rfl (.inr ⟨fun m1 hd => ?_, rfl, by ((repeat (first | (with_reducible exact Below.refl _ _) | (with_reducible assumption) | ((with_reducible refine b_set ?_ ?_); · (first | omega | (simp; done) | (simp; omega))) | ((with_reducible refine b_alloc ?_ ?_); · (first | omega | (simp; done) | (simp; omega))) | (with_reducible refine Below.drew ?_) | (with_reducible refine b_drewN ?_) | ((with_reducible refine b_call (by assumption) ?_ ?_); · (first | omega | (simp; done) | (simp; omega))))); done)⟩)
    have hkd := HKD.out
    have hpd := HPD.out
    rw [HZ.out] at hpd
    cases hd <;> first | omega | (rename_i q _; rw [← HZ.out, HCT.out] at q; cases q)

  | true =>
  by_cases htop : z.ep < 1099511627776
  case neg =>
    go_enter Try.func92, Try.ntmps92
    go_wp2_with (first | (go_at_call 89; refine (spanCut1 _ _ _ _ HCT.out).mono ?_; rintro e w3 ⟨rfl, hb3⟩; obtain ⟨hc3, hf3⟩ := bcell hb3; have hs3 := hb3.size; have HB3 := Lib.hid hb3; (try simp at hs3)) | fail)
    refine bodyPost_ret (v := .bool false) (by simp [results, Try.results92, go_sem, *]) rfl (.inr ⟨fun m1 hd => ?_, rfl, by ((repeat (first | (with_reducible exact Below.refl _ _) | (with_reducible assumption) | ((with_reducible refine b_set ?_ ?_); · (first | omega | (simp; done) | (simp; omega))) | ((with_reducible refine b_alloc ?_ ?_); · (first | omega | (simp; done) | (simp; omega))) | (with_reducible refine Below.drew ?_) | (with_reducible refine b_drewN ?_) | ((with_reducible refine b_call (by assumption) ?_ ?_); · (first | omega | (simp; done) | (simp; omega))))); done)⟩)
    have hkd := HKD.out
    have hpd := HPD.out
    rw [HZ.out] at hpd
    cases hd <;> first | omega | (rename_i x; unfold topN at x; rw [← HZ.out] at x; omega)

  have hwr : IntKind.i64.wrap (z.ep + 1) = z.ep + 1 := by rw [IntKind.wrap_i64]; omega
  go_enter Try.func92, Try.ntmps92
  go_upto_region 7 with (first | (go_at_call 89; refine (spanCut1 _ _ _ _ HCT.out).mono ?_; rintro e w3 ⟨rfl, hb3⟩; obtain ⟨hc3, hf3⟩ := bcell hb3; have hs3 := hb3.size; have HB3 := Lib.hid hb3; (try simp at hs3)) | fail)
  have hP : Whl (w.alloc (.cells #[.int .i64 z.id, .string z.fr, .string z.tt, .int .i64 z.ow, .int .i64 z.ep, .int .i64 1, .int .i64 z.mv, .string z.ky, .int .i64 z.nw] 39)) w.heap.size 39 #[.int .i64 z.id, .string z.fr, .string z.tt, .int .i64 z.ow, .int .i64 z.ep, .int .i64 1, .int .i64 z.mv, .string z.ky, .int .i64 z.nw] := Whl.new rfl
  have hPl : w.heap.size < (w.alloc (.cells #[.int .i64 z.id, .string z.fr, .string z.tt, .int .i64 z.ow, .int .i64 z.ep, .int .i64 1, .int .i64 z.mv, .string z.ky, .int .i64 z.nw] 39)).heap.size := by simp
  have hlw : w.heap.size < w3.heap.size := Nat.lt_of_lt_of_le hPl HB3.out.size
  have hP1 := ((((((hP.below HB3.out hPl).alloc (.cells #[.string z.fr, .string z.ky] 37)).alloc (.cells #[.string z.ky, .string z.tt] 37)).alloc (.cells #[.int .i64 z.nw, .string z.ky, .string z.tt, .int .i64 z.ow, .int .i64 (z.ep + 1), .int .i64 0, .int .i64 0, .string ⟨#[]⟩, .int .i64 0] 39)).set 1 (.string z.fr)).set 2 (.string z.ky))
  simp only [List.setIfInBounds_toArray, List.set_cons_zero, List.set_cons_succ] at hP1
  have hO : Whl (((((w3.alloc (.cells #[.string z.fr, .string z.ky] 37)).alloc (.cells #[.string z.ky, .string z.tt] 37)).alloc (.cells #[.int .i64 z.nw, .string z.ky, .string z.tt, .int .i64 z.ow, .int .i64 (z.ep + 1), .int .i64 0, .int .i64 0, .string ⟨#[]⟩, .int .i64 0] 39)).setCell ⟨w.heap.size, 1, none⟩ (.string z.fr)).setCell ⟨w.heap.size, 2, none⟩ (.string z.ky)) (w3.heap.size + 1 + 1) 39 #[.int .i64 z.nw, .string z.ky, .string z.tt, .int .i64 z.ow, .int .i64 (z.ep + 1), .int .i64 0, .int .i64 0, .string ⟨#[]⟩, .int .i64 0] := ((Whl.new (by simp)).far (by show w3.heap.size + 1 + 1 ≠ w.heap.size; omega)).far (by show w3.heap.size + 1 + 1 ≠ w.heap.size; omega)
  have hBV : Below w.heap.size w (((((w3.alloc (.cells #[.string z.fr, .string z.ky] 37)).alloc (.cells #[.string z.ky, .string z.tt] 37)).alloc (.cells #[.int .i64 z.nw, .string z.ky, .string z.tt, .int .i64 z.ow, .int .i64 (z.ep + 1), .int .i64 0, .int .i64 0, .string ⟨#[]⟩, .int .i64 0] 39)).setCell ⟨w.heap.size, 1, none⟩ (.string z.fr)).setCell ⟨w.heap.size, 2, none⟩ (.string z.ky)) := by
    have h3 := HB3.out.mono (Nat.le_of_lt hPl)
    have h4 : Below w.heap.size w w3 := ((Below.refl _ w).alloc (Nat.le_refl _) _).trans h3
    exact b_set (Nat.le_refl _) (b_set (Nat.le_refl _) (((h4.alloc h4.size _).alloc (by simp; omega) _).alloc (by simp; omega) _))
  have HBV := Lib.hid hBV
  have HO := Lib.hid hO
  obtain ⟨N, hN⟩ : ∃ n, n = w3.heap.size + 1 + 1 := ⟨_, rfl⟩
  have hNw : w.heap.size < N := by omega
  have hsN : N < (((((w3.alloc (.cells #[.string z.fr, .string z.ky] 37)).alloc (.cells #[.string z.ky, .string z.tt] 37)).alloc (.cells #[.int .i64 z.nw, .string z.ky, .string z.tt, .int .i64 z.ow, .int .i64 (z.ep + 1), .int .i64 0, .int .i64 0, .string ⟨#[]⟩, .int .i64 0] 39)).setCell ⟨w.heap.size, 1, none⟩ (.string z.fr)).setCell ⟨w.heap.size, 2, none⟩ (.string z.ky)).heap.size := by rw [hN]; exact hO.low
  have hsv : w.heap.size < (((((w3.alloc (.cells #[.string z.fr, .string z.ky] 37)).alloc (.cells #[.string z.ky, .string z.tt] 37)).alloc (.cells #[.int .i64 z.nw, .string z.ky, .string z.tt, .int .i64 z.ow, .int .i64 (z.ep + 1), .int .i64 0, .int .i64 0, .string ⟨#[]⟩, .int .i64 0] 39)).setCell ⟨w.heap.size, 1, none⟩ (.string z.fr)).setCell ⟨w.heap.size, 2, none⟩ (.string z.ky)).heap.size := by omega
  rw [← hN] at hO
  have HDV := Lib.hid (HD.out.below hBV)
  obtain ⟨y, hy⟩ : ∃ y : Zn, y = ⟨z.id, z.fr, z.ky, z.ow, z.ep, 1, z.mv, z.ky, z.nw⟩ := ⟨_, rfl⟩
  have hP2 : Whl (((((w3.alloc (.cells #[.string z.fr, .string z.ky] 37)).alloc (.cells #[.string z.ky, .string z.tt] 37)).alloc (.cells #[.int .i64 z.nw, .string z.ky, .string z.tt, .int .i64 z.ow, .int .i64 (z.ep + 1), .int .i64 0, .int .i64 0, .string ⟨#[]⟩, .int .i64 0] 39)).setCell ⟨w.heap.size, 1, none⟩ (.string z.fr)).setCell ⟨w.heap.size, 2, none⟩ (.string z.ky)) w.heap.size 39 #[.int .i64 y.id, .string y.fr, .string y.tt, .int .i64 y.ow, .int .i64 y.ep, .int .i64 y.pd, .int .i64 y.mv, .string y.ky, .int .i64 y.nw] := by rw [hy]; exact hP1
  obtain ⟨x, hx⟩ : ∃ x : Zn, x = ⟨z.nw, z.ky, z.tt, z.ow, z.ep + 1, 0, 0, ⟨#[]⟩, 0⟩ := ⟨_, rfl⟩
  have hO2 : Whl (((((w3.alloc (.cells #[.string z.fr, .string z.ky] 37)).alloc (.cells #[.string z.ky, .string z.tt] 37)).alloc (.cells #[.int .i64 z.nw, .string z.ky, .string z.tt, .int .i64 z.ow, .int .i64 (z.ep + 1), .int .i64 0, .int .i64 0, .string ⟨#[]⟩, .int .i64 0] 39)).setCell ⟨w.heap.size, 1, none⟩ (.string z.fr)).setCell ⟨w.heap.size, 2, none⟩ (.string z.ky)) N 39 #[.int .i64 x.id, .string x.fr, .string x.tt, .int .i64 x.ow, .int .i64 x.ep, .int .i64 x.pd, .int .i64 x.mv, .string x.ky, .int .i64 x.nw] := by rw [hx]; exact hO
  have hye : y.ep = z.ep := by rw [hy]
  have k3 := HDV.out.blk.cell 3
  have p0 := hP2.cell 0
  have p1 := hP2.cell 1
  have p2 := hP2.cell 2
  have p3 := hP2.cell 3
  have p4 := hP2.cell 4
  have p5 := hP2.cell 5
  have p6 := hP2.cell 6
  have p7 := hP2.cell 7
  have p8 := hP2.cell 8
  simp only [List.getElem?_toArray, List.getElem?_cons_succ, List.getElem?_cons_zero] at k3 p0 p1 p2 p3 p4 p5 p6 p7 p8
  have hbg : w.heap.size ≠ gz := by omega
  have HBV := Lib.hid hBV
  have HO := Lib.hid hO2
  have HY := Lib.hid hy
  have HX := Lib.hid hx
  have HNw := Lib.hid hNw
  have HHN := Lib.hid hN
  rw [← hye] at hwr
  have hzy : z.ep + 1 = y.ep + 1 := by rw [hye]
  rw [← hN]
  change Code.wp _ _ _ _ (((((w3.alloc (.cells #[.string z.fr, .string z.ky] 37)).alloc (.cells #[.string z.ky, .string z.tt] 37)).alloc (.cells #[.int .i64 z.nw, .string z.ky, .string z.tt, .int .i64 z.ow, .int .i64 (z.ep + 1), .int .i64 0, .int .i64 0, .string ⟨#[]⟩, .int .i64 0] 39)).setCell ⟨w.heap.size, 1, none⟩ (.string z.fr)).setCell ⟨w.heap.size, 2, none⟩ (.string z.ky))
  clear hc3 hf3 hs3 hb3 hP hPl hlw hP1 hP2 hO hO2 hBV hy hx hye hNw hN HB3 l3 v0 v1 v2 v3 v4 v5 v6 v7 v8
  generalize (((((w3.alloc (.cells #[.string z.fr, .string z.ky] 37)).alloc (.cells #[.string z.ky, .string z.tt] 37)).alloc (.cells #[.int .i64 z.nw, .string z.ky, .string z.tt, .int .i64 z.ow, .int .i64 (z.ep + 1), .int .i64 0, .int .i64 0, .string ⟨#[]⟩, .int .i64 0] 39)).setCell ⟨w.heap.size, 1, none⟩ (.string z.fr)).setCell ⟨w.heap.size, 2, none⟩ (.string z.ky)) = V at *
  refine wp_region_held_drew (S := (fun W => W.cell? ⟨d, 3, none⟩ = some (.slice (some ⟨gz, 0, none⟩) m.zs.length cc) ∧ W.cell? ⟨w.heap.size, 0, none⟩ = some (.int .i64 y.id) ∧ W.cell? ⟨w.heap.size, 1, none⟩ = some (.string y.fr) ∧ W.cell? ⟨w.heap.size, 2, none⟩ = some (.string y.tt) ∧ W.cell? ⟨w.heap.size, 3, none⟩ = some (.int .i64 y.ow) ∧ W.cell? ⟨w.heap.size, 4, none⟩ = some (.int .i64 y.ep) ∧ W.cell? ⟨w.heap.size, 5, none⟩ = some (.int .i64 y.pd) ∧ W.cell? ⟨w.heap.size, 6, none⟩ = some (.int .i64 y.mv) ∧ W.cell? ⟨w.heap.size, 7, none⟩ = some (.string y.ky) ∧ W.cell? ⟨w.heap.size, 8, none⟩ = some (.int .i64 y.nw))) (by kernel_rfl) ⟨k3, p0, p1, p2, p3, p4, p5, p6, p7, p8⟩ (fun hHeld => ?_)
  refine wpAnyH_take (i := 0) (oi := ⟨some 45, _, _, _, _, _⟩) (v := ?v0s) rfl (by kernel_rfl) (by kernel_rfl) (by kernel_rfl) (fun _ _ _ h => h) (Or.inl ⟨by rfl, ?y0s⟩) (by assumption) ?r0s
  case y0s => (intro w hSw; (try dsimp only at hSw); (try go_split_ands); go_simp); (try with_reducible rfl)
  case r0s =>
  (try simp only [Act.put, List.setIfInBounds_toArray, List.set_cons_zero, List.set_cons_succ])
  refine wpAnyH_take (i := 1) (oi := ⟨some 46, _, _, _, _, _⟩) (v := ?v1s) rfl (by kernel_rfl) (by kernel_rfl) (by kernel_rfl) (fun _ _ _ h => h) (Or.inl ⟨by rfl, ?y1s⟩) (by assumption) ?r1s
  case y1s => (intro w hSw; (try dsimp only at hSw); (try go_split_ands); go_simp); (try with_reducible rfl)
  case r1s =>
  (try simp only [Act.put, List.setIfInBounds_toArray, List.set_cons_zero, List.set_cons_succ])
  refine wpAnyH_take (i := 2) (oi := ⟨some 47, _, _, _, _, _⟩) (v := ?v2s) rfl (by kernel_rfl) (by kernel_rfl) (by kernel_rfl) (fun _ _ _ h => h) (Or.inl ⟨by rfl, ?y2s⟩) (by assumption) ?r2s
  case y2s => (intro w hSw; (try dsimp only at hSw); (try go_split_ands); go_simp); (try with_reducible rfl)
  case r2s =>
  (try simp only [Act.put, List.setIfInBounds_toArray, List.set_cons_zero, List.set_cons_succ])
  refine wpAnyH_take (i := 3) (oi := ⟨some 48, _, _, _, _, _⟩) (v := ?v3s) rfl (by kernel_rfl) (by kernel_rfl) (by kernel_rfl) (fun _ _ _ h => h) (Or.inl ⟨by rfl, ?y3s⟩) (by assumption) ?r3s
  case y3s => (intro w hSw; (try dsimp only at hSw); (try go_split_ands); go_simp); (try with_reducible rfl)
  case r3s =>
  (try simp only [Act.put, List.setIfInBounds_toArray, List.set_cons_zero, List.set_cons_succ])
  refine wpAnyH_take (i := 4) (oi := ⟨some 49, _, _, _, _, _⟩) (v := ?v4s) rfl (by kernel_rfl) (by kernel_rfl) (by kernel_rfl) (fun _ _ _ h => h) (Or.inl ⟨by rfl, ?y4s⟩) (by assumption) ?r4s
  case y4s => (intro w hSw; (try dsimp only at hSw); (try go_split_ands); go_simp); (try with_reducible rfl)
  case r4s =>
  (try simp only [Act.put, List.setIfInBounds_toArray, List.set_cons_zero, List.set_cons_succ])
  refine wpAnyH_take (i := 5) (oi := ⟨some 50, _, _, _, _, _⟩) (v := ?v5s) rfl (by kernel_rfl) (by kernel_rfl) (by kernel_rfl) (fun _ _ _ h => h) (Or.inl ⟨by rfl, ?y5s⟩) (by assumption) ?r5s
  case y5s => (intro w hSw; (try dsimp only at hSw); (try go_split_ands); go_simp); (try with_reducible rfl)
  case r5s =>
  (try simp only [Act.put, List.setIfInBounds_toArray, List.set_cons_zero, List.set_cons_succ])
  refine wpAnyH_take (i := 6) (oi := ⟨some 51, _, _, _, _, _⟩) (v := ?v6s) rfl (by kernel_rfl) (by kernel_rfl) (by kernel_rfl) (fun _ _ _ h => h) (Or.inl ⟨by rfl, ?y6s⟩) (by assumption) ?r6s
  case y6s => (intro w hSw; (try dsimp only at hSw); (try go_split_ands); go_simp); (try with_reducible rfl)
  case r6s =>
  (try simp only [Act.put, List.setIfInBounds_toArray, List.set_cons_zero, List.set_cons_succ])
  refine wpAnyH_take (i := 7) (oi := ⟨some 52, _, _, _, _, _⟩) (v := ?v7s) rfl (by kernel_rfl) (by kernel_rfl) (by kernel_rfl) (fun _ _ _ h => h) (Or.inl ⟨by rfl, ?y7s⟩) (by assumption) ?r7s
  case y7s => (intro w hSw; (try dsimp only at hSw); (try go_split_ands); go_simp); (try with_reducible rfl)
  case r7s =>
  (try simp only [Act.put, List.setIfInBounds_toArray, List.set_cons_zero, List.set_cons_succ])
  refine wpAnyH_take (i := 8) (oi := ⟨some 53, _, _, _, _, _⟩) (v := ?v8s) rfl (by kernel_rfl) (by kernel_rfl) (by kernel_rfl) (fun _ _ _ h => h) (Or.inl ⟨by rfl, ?y8s⟩) (by assumption) ?r8s
  case y8s => (intro w hSw; (try dsimp only at hSw); (try go_split_ands); go_simp); (try with_reducible rfl)
  case r8s =>
  (try simp only [Act.put, List.setIfInBounds_toArray, List.set_cons_zero, List.set_cons_succ])
  refine wpAnyH_take (i := 9) (oi := ⟨some 54, _, _, _, _, _⟩) (v := ?v9s) rfl (by kernel_rfl) (by kernel_rfl) (by kernel_rfl) (fun _ _ _ h => h) (Or.inl ⟨by rfl, ?y9s⟩) (by assumption) ?r9s
  case y9s => (intro w hSw; (try dsimp only at hSw); (try go_split_ands); go_simp); (try with_reducible rfl)
  case r9s =>
  (try simp only [Act.put, List.setIfInBounds_toArray, List.set_cons_zero, List.set_cons_succ])
  refine wpAnyH_ready (rs := [10]) (by kernel_rfl) (by simp) ?_
  refine AllReadyH.cons (o := ⟨some 55, _, _, _, _, _⟩) rfl (fun K hK => ?_) AllReadyH.nil
  go_simp
  refine (drSettled y _ _).mono ?_; rintro e w5 ⟨rfl, hb5⟩
  go_wp2_with fail
  have HB5 : Hid (Below V.heap.size V w5) := Lib.hid ((Below.refl _ _).drew.trans hb5)
  have HD5 := Lib.hid (HDV.out.below HB5.out)
  have hA3 := bkeep HB5.out k3 (by omega)
  have hA40 := bkeep HB5.out p0 hsv
  have hA41 := bkeep HB5.out p1 hsv
  have hA42 := bkeep HB5.out p2 hsv
  have hA43 := bkeep HB5.out p3 hsv
  have hA44 := bkeep HB5.out p4 hsv
  have hA45 := bkeep HB5.out p5 hsv
  have hA46 := bkeep HB5.out p6 hsv
  have hA47 := bkeep HB5.out p7 hsv
  have hA48 := bkeep HB5.out p8 hsv
  clear hb5
  refine hK.out _ _ (by first | exact ⟨hB3, hB40, hB41, hB42, hB43, hB44, hB45, hB46, hB47, hB48⟩ | exact ⟨hA3, hA40, hA41, hA42, hA43, hA44, hA45, hA46, hA47, hA48⟩) (fun hHeld => ?_)
  clear hK K
  (try simp only [Act.put, List.setIfInBounds_toArray, List.set_cons_zero, List.set_cons_succ])
  refine wpAnyH_take (i := 11) (oi := ⟨some 56, _, _, _, _, _⟩) (v := ?v11s) rfl (by kernel_rfl) (by kernel_rfl) (by kernel_rfl) (fun _ _ _ h => h) (Or.inl ⟨by rfl, ?y11s⟩) (by assumption) ?r11s
  case y11s => (intro w hSw; (try dsimp only at hSw); (try go_split_ands); go_simp); (try with_reducible rfl)
  case r11s =>
  (try simp only [Act.put, List.setIfInBounds_toArray, List.set_cons_zero, List.set_cons_succ])
  refine wpAnyH_ready (rs := [12]) (by kernel_rfl) (by simp) ?_
  refine AllReadyH.cons (o := ⟨none, _, _, _, _, _⟩) rfl (fun K hK => ?_) AllReadyH.nil
  obtain ⟨y0, y1, y2, y3, y4, y5, y6, y7, y8⟩ := rowZ_at HD5.out.row hi
  have yf := fun k => HD5.out.row.frozenAt k
  have hdg : d ≠ gz := fun e => HD5.out.za gz rfl e.symm
  have hq := putZ_touch w5 gz i (settled y (y.ep + 1))
  have hB3 := hq.cell hA3 hdg
  have hB40 := hq.cell hA40 hbg
  have hB41 := hq.cell hA41 hbg
  have hB42 := hq.cell hA42 hbg
  have hB43 := hq.cell hA43 hbg
  have hB44 := hq.cell hA44 hbg
  have hB45 := hq.cell hA45 hbg
  have hB46 := hq.cell hA46 hbg
  have hB47 := hq.cell hA47 hbg
  have hB48 := hq.cell hA48 hbg
  have HQ := Lib.hid hq
  clear hq
  simp only [putZ, settled] at hB3 hB40 hB41 hB42 hB43 hB44 hB45 hB46 hB47 hB48
  go_simp
  refine hK.out _ _ (by first | exact ⟨hB3, hB40, hB41, hB42, hB43, hB44, hB45, hB46, hB47, hB48⟩ | exact ⟨hA3, hA40, hA41, hA42, hA43, hA44, hA45, hA46, hA47, hA48⟩) (fun hHeld => ?_)
  clear hK K
  (try simp only [Act.put, List.setIfInBounds_toArray, List.set_cons_zero, List.set_cons_succ])
  refine wpAnyH_done (by kernel_rfl) ?_ _

  go_wp2_with fail
  have hS := HD5.out.putZ hi (settled y (y.ep + 1))
  change Code.wp _ _ _ _ (putZ w5 gz i (settled y (y.ep + 1)))
  have hO9 : Whl (putZ w5 gz i (settled y (y.ep + 1))) N 39 #[.int .i64 x.id, .string x.fr, .string x.tt, .int .i64 x.ow, .int .i64 x.ep, .int .i64 x.pd, .int .i64 x.mv, .string x.ky, .int .i64 x.nw] := (HQ.out.block N (Nat.lt_of_lt_of_le hsN HB5.out.size) (by have := HNw.out; omega)).trans (HO.out.below HB5.out hsN)
  have HT9 : Hid (Touch (Fz d (.slice (some ⟨gz, 0, none⟩) m.zs.length cc)) w (putZ w5 gz i (settled y (y.ep + 1)))) := Lib.hid (((Touch.of_below (HBV.out.trans (HB5.out.mono (Nat.le_of_lt hsv)))).mono'' (fun k h1 h2 => by omega)).trans HQ.out (fun n _ h => .inr (by rw [h]; rfl)))
  have HS := Lib.hid hS
  have HO9 := Lib.hid hO9
  have hs9 : w.heap.size < (putZ w5 gz i (settled y (y.ep + 1))).heap.size := Nat.lt_of_lt_of_le (Nat.lt_of_lt_of_le hsv HB5.out.size) HQ.out.size
  have k3 := hS.blk.cell 3
  have p0 := hO9.cell 0
  have p1 := hO9.cell 1
  have p2 := hO9.cell 2
  have p3 := hO9.cell 3
  have p4 := hO9.cell 4
  have p5 := hO9.cell 5
  have p6 := hO9.cell 6
  have p7 := hO9.cell 7
  have p8 := hO9.cell 8
  simp only [List.getElem?_toArray, List.getElem?_cons_succ, List.getElem?_cons_zero] at k3 p0 p1 p2 p3 p4 p5 p6 p7 p8
  have hN9 := hO9.low
  have hd9 := hS.blk.low
  clear hS hO9
  clear hA3 hB3 y0 y1 y2 y3 y4 y5 y6 y7 y8 yf
  clear hA40 hB40 hA41 hB41 hA42 hB42 hA43 hB43 hA44 hB44 hA45 hB45 hA46 hB46 hA47 hB47 hA48 hB48
  generalize putZ w5 gz i (settled y (y.ep + 1)) = W9 at *
  have HFL : Hid (flatZ (m.zs.take i ++ settled y (y.ep + 1) :: x :: m.zs.drop (i + 1)) = (flatZ (m.zs.set i (settled y (y.ep + 1)))).take ((i + 1) * 9) ++ znV x ++ (flatZ (m.zs.set i (settled y (y.ep + 1)))).drop ((i + 1) * 9)) := Lib.hid (ins_flat hi _ _)
  have HLEN : Hid (m.zs.length + 1 = (m.zs.take i ++ settled y (y.ep + 1) :: x :: m.zs.drop (i + 1)).length) := Lib.hid (by rw [List.length_append, List.length_cons, List.length_cons, List.length_take, List.length_drop]; omega)
  have HDEED : Hid (Deed hosts m c i hi ⟨m.ver, m.nxt, m.zs.take i ++ settled y (y.ep + 1) :: x :: m.zs.drop (i + 1)⟩) := Lib.hid (by
    have hk := HCT.out
    have he := HEP.out
    have hp := HPD.out
    rw [HZ.out] at hk he hp htop
    rw [HY.out, HX.out, HZ.out]
    exact Deed.splitDone HKD.out hp he hk (by unfold topN; omega))
  have hwi : IntKind.i64.wrap ((i : Int) + 1) = (i : Int) + 1 := by rw [IntKind.wrap_i64]; omega
  have hins : ∀ W, Touch (fun _ => False) W9 W → Whl W W9.heap.size 39 #[.int .i64 x.id, .string x.fr, .string x.tt, .int .i64 x.ow, .int .i64 x.ep, .int .i64 x.pd, .int .i64 x.mv, .string x.ky, .int .i64 x.nw] → Calls Try.prog 100 #[.slice (some ⟨gz, 0, none⟩) m.zs.length cc, .int .i64 ((i : Int) + 1), .slice (some ⟨W9.heap.size, 0, none⟩) 1 1] W (InsQ B gz (m.zs.length + 1) ((flatZ (m.zs.set i (settled y (y.ep + 1)))).take ((i + 1) * 9) ++ znV x ++ (flatZ (m.zs.set i (settled y (y.ep + 1)))).drop ((i + 1) * 9)) W) := fun W h1 h2 => by
    have hr := h1.own HS.out.row (fun _ _ h => h)
    have e0 : (m.zs.set i (settled y (y.ep + 1))).length = m.zs.length := List.length_set
    rw [show (Mp.zs ⟨m.ver, m.nxt, m.zs.set i (settled y (y.ep + 1))⟩) = m.zs.set i (settled y (y.ep + 1)) from rfl, e0] at hr
    have := drInsert B gz cc m.zs.length (i + 1) W9.heap.size _ (znV x) W hr (by omega) hl (by have := h1.size; omega) h2 rfl (flatZ_one _) (znV_one _) (by omega)
    rw [show ((i + 1 : Nat) : Int) = (i : Int) + 1 by omega] at this
    exact this
  go_region_with (first
    | (go_at_call 100; refine (hins _ (by first | exact ((Touch.refl (fun _ => False) W9).alloc _).trans (Touch.of_drew _ _) (fun _ _ h => h) | exact (Touch.of_drew _ _).alloc _) (by first | exact (Whl.new rfl).drew | exact Whl.new rfl)).mono ?_; rintro e w6 ⟨s', rfl, ho6, ht6, hf6⟩; obtain ⟨g6, c6, e6, hg6a, hg6, hn6, hm6⟩ := own_form ho6 (by omega); subst e6; have HO6 := Lib.hid ho6; have HT6 := Lib.hid (Touch.trans (D := fun k => k = gz) (D' := fun k => k = gz) (a := W9) (by first | exact ((Touch.refl (fun k => k = gz) W9).alloc _).trans (Touch.of_drew (fun _ => False) _) (fun _ _ h => h.elim) | exact (Touch.of_drew _ _).alloc _) ht6 (fun _ _ h => h)); have HF6 : Hid (g6 = gz ∨ w.heap.size ≤ g6) := Lib.hid (by have h7 := hf6 g6 rfl; simp at h7; omega); have hdg : d ≠ gz := (fun e => HS.out.za gz rfl e.symm); have hWd := (HT6.out.block d hd9 hdg).trans HS.out.blk; have hc3 := Whl.cell hWd 3; have hf3 := Whl.free hWd; clear ho6 ht6 hf6)
    | fail)
  all_goals go_wp2_with fail
  all_goals refine bodyPost_ret (v := .bool true) (by simp [results, Try.results92, go_sem]) rfl (.inl ⟨_, _, HDEED.out, rfl, ⟨Whl.set hWd 3 _, own_set_ne (HT6.out.own HS.out.hrow (fun q hq e => HS.out.hz q hq (by rw [e]; rfl))) (fun q hq => HS.out.ha q hq), ?_, HS.out.ha, ?_, ?_, HS.out.low⟩, (HT9.out.trans HT6.out (fun n _ h => .inr (by rw [h]; rfl))).set (fun _ => .inl rfl), ?_⟩)
  all_goals first
    | (refine own_set_ne ?_ ?_
       · show World.ownsRow _ B _ 9 _ (m.zs.take i ++ settled y (y.ep + 1) :: x :: m.zs.drop (i + 1)).length (flatZ (m.zs.take i ++ settled y (y.ep + 1) :: x :: m.zs.drop (i + 1)))
         rw [← HLEN.out, HFL.out]; exact HO6.out
       · intro q hq e
         have e1 : g6 = q := by simpa [Value.ownBlock] using hq
         have e2 : q = d := e
         rcases HF6.out with h | h <;> omega)
    | (intro q hq
       have e1 : g6 = q := by simpa [Value.ownBlock] using hq
       intro e2
       rcases HF6.out with h | h <;> omega)
    | (intro q hq e2
       have e1 : g6 = q := by simpa [Value.ownBlock] using e2
       rcases HF6.out with h | h
       · exact HS.out.hz q hq (by rw [← e1, h]; rfl)
       · have := (HD.out.hrow.lt q hq).2; omega)
    | (intro q hq
       have e1 : g6 = q := by simpa [Value.ownBlock] using hq
       rcases HF6.out with h | h
       · exact .inl (by rw [← e1, h]; rfl)
       · exact .inr (by omega))
end Go.Proofs.Ytbohpjinkdffhaa
