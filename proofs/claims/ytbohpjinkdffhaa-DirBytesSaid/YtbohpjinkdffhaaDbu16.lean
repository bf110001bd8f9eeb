/- The directory: abort. -/
import Derived.Test.YtbohpjinkdffhaaProg
import Derived.WalkKit
import Derived.WalkSpells
import Derived.WalkLawsBesides
import Derived.Deep.QuietTactic
import Derived.BigQuiet
import Derived.RegionTactic
import Derived.BigRegion
import Derived.Outline
import Derived.LoopTactic
import Derived.Lib.Hide
import Derived.Deep.RegionHeld3
import GoSem.Op.String
import Derived.Lib.Strings
import Derived.Laws.AppendOwnNone
import Derived.Deep.AppendLies
import Derived.Maps.AppendAt
import Derived.Laws.Rows
import Derived.Deep.Cut
import Derived.StillTailTactics
import Derived.Deep.RegionLaw
import Derived.Test.YtbohpjinkdffhaaDbu0
import Derived.Test.YtbohpjinkdffhaaDbu3
import Derived.Test.YtbohpjinkdffhaaDbu6
import Derived.Test.YtbohpjinkdffhaaDbu11
import Derived.Test.YtbohpjinkdffhaaDbu12
import Derived.Test.YtbohpjinkdffhaaDbu13
namespace Go.Proofs.Ytbohpjinkdffhaa
open Go.RowKit
set_option linter.unusedVariables false
set_option linter.unusedSimpArgs false
set_option maxHeartbeats 8000000 in
set_option maxRecDepth 10000 in
theorem drAbort (B d i : Nat) (hv zv : Value) (hosts : List Int) (m : Mp) (c : Ch) (hi : i < m.zs.length) (w : World) (h : DrH w B d hv zv hosts m) (hl : m.zs.length ≤ 1000) (hkd : c.kd = 5) (hce : 1 ≤ c.ep) :
    Calls Try.prog 71 #[.pointer (some ⟨d, 0, none⟩), .int .i64 i, .agg #[.int .i64 c.kd, .int .i64 c.zo, .int .i64 c.ep, .int .i64 c.mv, .string c.ky]] w fun e w' => DeedQ B d hv zv hosts m c i hi w e w' := by
  have HD := Lib.hid h
  have l3 := h.blk.cell 3
  simp only [List.getElem?_toArray, List.getElem?_cons_succ, List.getElem?_cons_zero] at l3
  obtain ⟨gz, cc, hzv, _, hgz, hnc, hcm⟩ := own_form h.row (by omega)
  subst hzv
  have hdl := h.blk.low
  have q3 : (i : Int) < (m.zs.length : Int) := by omega
  obtain ⟨z, hz⟩ : ∃ z, z = m.zs[i] := ⟨_, rfl⟩
  obtain ⟨v0, v1, v2, v3, v4, v5, v6, v7, v8⟩ := rowZ_at h.row hi
  rw [← hz] at v0 v1 v2 v3 v4 v5 v6 v7 v8
  have HZ := Lib.hid hz
  have HKD := Lib.hid hkd
  clear h hkd hz
  by_cases hpd : z.pd = 3
  case neg =>
    go_enter Try.func71, Try.ntmps71
    go_wp2_with fail
    refine bodyPost_ret (v := .bool false) (by simp [results, Try.results71, go_sem]) rfl (.inr ⟨fun m1 hd => ?_, rfl, by ((repeat (first | (with_reducible exact Below.refl _ _) | (with_reducible assumption) | ((with_reducible refine b_set ?_ ?_); · (first | omega | (simp; done) | (simp; omega))) | ((with_reducible refine b_alloc ?_ ?_); · (first | omega | (simp; done) | (simp; omega))) | (with_reducible refine Below.drew ?_) | (with_reducible refine b_drewN ?_) | ((with_reducible refine b_call (by assumption) ?_ ?_); · (first | omega | (simp; done) | (simp; omega))))); done)⟩)
    have hkd := HKD.out
    cases hd <;> first | omega | (exact hpd (by rw [HZ.out]; assumption))
  have HPD := Lib.hid hpd
  by_cases hep : z.ep = c.ep
  case neg =>
    go_enter Try.func71, Try.ntmps71
    go_wp2_with fail
    refine bodyPost_ret (v := .bool false) (by simp [results, Try.results71, go_sem]) rfl (.inr ⟨fun m1 hd => ?_, rfl, by ((repeat (first | (with_reducible exact Below.refl _ _) | (with_reducible assumption) | ((with_reducible refine b_set ?_ ?_); · (first | omega | (simp; done) | (simp; omega))) | ((with_reducible refine b_alloc ?_ ?_); · (first | omega | (simp; done) | (simp; omega))) | (with_reducible refine Below.drew ?_) | (with_reducible refine b_drewN ?_) | ((with_reducible refine b_call (by assumption) ?_ ?_); · (first | omega | (simp; done) | (simp; omega))))); done)⟩)
    have hkd := HKD.out
    cases hd <;> first | omega | (exact hep (by rw [HZ.out]; assumption))
  have HEP := Lib.hid hep
  have hw1 : z.ep < 1099511627776 → IntKind.i64.wrap (z.ep + 1) = z.ep + 1 := fun _ => by rw [IntKind.wrap_i64]; omega
  have HW1 := Lib.hid hw1
  have hep2 := hep.symm
  clear hep hw1
  by_cases htop : z.ep < 1099511627776
  case neg =>
    go_enter Try.func71, Try.ntmps71
    go_wp2_with fail
    refine bodyPost_ret (v := .bool false) (by simp [results, Try.results71, go_sem]) rfl (.inr ⟨fun m1 hd => ?_, rfl, by ((repeat (first | (with_reducible exact Below.refl _ _) | (with_reducible assumption) | ((with_reducible refine b_set ?_ ?_); · (first | omega | (simp; done) | (simp; omega))) | ((with_reducible refine b_alloc ?_ ?_); · (first | omega | (simp; done) | (simp; omega))) | (with_reducible refine Below.drew ?_) | (with_reducible refine b_drewN ?_) | ((with_reducible refine b_call (by assumption) ?_ ?_); · (first | omega | (simp; done) | (simp; omega))))); done)⟩)
    have hkd := HKD.out
    cases hd <;> first | omega | (rename_i x; unfold topN at x; rw [← HZ.out] at x; omega)
  go_enter Try.func71, Try.ntmps71
  have hwr := HW1.out htop
  go_upto_region 4 with fail
  have HBV : Hid (Below w.heap.size w ((w.alloc (.cells #[.int .i64 c.kd, .int .i64 c.zo, .int .i64 z.ep, .int .i64 c.mv, .string c.ky] 47)).alloc (.cells #[.int .i64 z.id, .string z.fr, .string z.tt, .int .i64 z.ow, .int .i64 z.ep, .int .i64 3, .int .i64 z.mv, .string z.ky, .int .i64 z.nw] 39))) := Lib.hid (((Below.refl _ _).alloc (Nat.le_refl _) _).alloc (by simp) _)
  have HDV := Lib.hid (HD.out.below HBV.out)
  have hP : Whl ((w.alloc (.cells #[.int .i64 c.kd, .int .i64 c.zo, .int .i64 z.ep, .int .i64 c.mv, .string c.ky] 47)).alloc (.cells #[.int .i64 z.id, .string z.fr, .string z.tt, .int .i64 z.ow, .int .i64 z.ep, .int .i64 3, .int .i64 z.mv, .string z.ky, .int .i64 z.nw] 39)) (w.heap.size + 1) 39 #[.int .i64 z.id, .string z.fr, .string z.tt, .int .i64 z.ow, .int .i64 z.ep, .int .i64 3, .int .i64 z.mv, .string z.ky, .int .i64 z.nw] := Whl.new (by simp)
  have p0 := hP.cell 0
  have p1 := hP.cell 1
  have p2 := hP.cell 2
  have p3 := hP.cell 3
  have p4 := hP.cell 4
  have p5 := hP.cell 5
  have p6 := hP.cell 6
  have p7 := hP.cell 7
  have p8 := hP.cell 8
  simp only [List.getElem?_toArray, List.getElem?_cons_succ, List.getElem?_cons_zero] at p0 p1 p2 p3 p4 p5 p6 p7 p8
  have k3 := HDV.out.blk.cell 3
  simp only [List.getElem?_toArray, List.getElem?_cons_succ, List.getElem?_cons_zero] at k3
  have hsv : w.heap.size + 1 < (((w.alloc (.cells #[.int .i64 c.kd, .int .i64 c.zo, .int .i64 z.ep, .int .i64 c.mv, .string c.ky] 47)).alloc (.cells #[.int .i64 z.id, .string z.fr, .string z.tt, .int .i64 z.ow, .int .i64 z.ep, .int .i64 3, .int .i64 z.mv, .string z.ky, .int .i64 z.nw] 39))).heap.size := by simp
  clear hP l3 v0 v1 v2 v3 v4 v5 v6 v7 v8
  generalize ((w.alloc (.cells #[.int .i64 c.kd, .int .i64 c.zo, .int .i64 z.ep, .int .i64 c.mv, .string c.ky] 47)).alloc (.cells #[.int .i64 z.id, .string z.fr, .string z.tt, .int .i64 z.ow, .int .i64 z.ep, .int .i64 3, .int .i64 z.mv, .string z.ky, .int .i64 z.nw] 39)) = V at *
  refine wp_region_held_drew (S := (fun W => W.cell? ⟨d, 3, none⟩ = some (.slice (some ⟨gz, 0, none⟩) m.zs.length cc) ∧ W.cell? ⟨w.heap.size + 1, 0, none⟩ = some (.int .i64 z.id) ∧ W.cell? ⟨w.heap.size + 1, 1, none⟩ = some (.string z.fr) ∧ W.cell? ⟨w.heap.size + 1, 2, none⟩ = some (.string z.tt) ∧ W.cell? ⟨w.heap.size + 1, 3, none⟩ = some (.int .i64 z.ow) ∧ W.cell? ⟨w.heap.size + 1, 4, none⟩ = some (.int .i64 z.ep) ∧ W.cell? ⟨w.heap.size + 1, 5, none⟩ = some (.int .i64 3) ∧ W.cell? ⟨w.heap.size + 1, 6, none⟩ = some (.int .i64 z.mv) ∧ W.cell? ⟨w.heap.size + 1, 7, none⟩ = some (.string z.ky) ∧ W.cell? ⟨w.heap.size + 1, 8, none⟩ = some (.int .i64 z.nw))) (by kernel_rfl) ⟨k3, p0, p1, p2, p3, p4, p5, p6, p7, p8⟩ (fun hHeld => ?_)
  refine wpAnyH_take (i := 0) (oi := ⟨some 31, _, _, _, _, _⟩) (v := ?v0s) rfl (by kernel_rfl) (by kernel_rfl) (by kernel_rfl) (fun _ _ _ h => h) (Or.inl ⟨by rfl, ?y0s⟩) (by assumption) ?r0s
  case y0s => (intro w hSw; (try dsimp only at hSw); (try go_split_ands); go_simp); (try with_reducible rfl)
  case r0s =>
  (try simp only [Act.put, List.setIfInBounds_toArray, List.set_cons_zero, List.set_cons_succ])
  refine wpAnyH_take (i := 1) (oi := ⟨some 32, _, _, _, _, _⟩) (v := ?v1s) rfl (by kernel_rfl) (by kernel_rfl) (by kernel_rfl) (fun _ _ _ h => h) (Or.inl ⟨by rfl, ?y1s⟩) (by assumption) ?r1s
  case y1s => (intro w hSw; (try dsimp only at hSw); (try go_split_ands); go_simp); (try with_reducible rfl)
  case r1s =>
  (try simp only [Act.put, List.setIfInBounds_toArray, List.set_cons_zero, List.set_cons_succ])
  refine wpAnyH_take (i := 2) (oi := ⟨some 33, _, _, _, _, _⟩) (v := ?v2s) rfl (by kernel_rfl) (by kernel_rfl) (by kernel_rfl) (fun _ _ _ h => h) (Or.inl ⟨by rfl, ?y2s⟩) (by assumption) ?r2s
  case y2s => (intro w hSw; (try dsimp only at hSw); (try go_split_ands); go_simp); (try with_reducible rfl)
  case r2s =>
  (try simp only [Act.put, List.setIfInBounds_toArray, List.set_cons_zero, List.set_cons_succ])
  refine wpAnyH_take (i := 3) (oi := ⟨some 34, _, _, _, _, _⟩) (v := ?v3s) rfl (by kernel_rfl) (by kernel_rfl) (by kernel_rfl) (fun _ _ _ h => h) (Or.inl ⟨by rfl, ?y3s⟩) (by assumption) ?r3s
  case y3s => (intro w hSw; (try dsimp only at hSw); (try go_split_ands); go_simp); (try with_reducible rfl)
  case r3s =>
  (try simp only [Act.put, List.setIfInBounds_toArray, List.set_cons_zero, List.set_cons_succ])
  refine wpAnyH_take (i := 4) (oi := ⟨some 35, _, _, _, _, _⟩) (v := ?v4s) rfl (by kernel_rfl) (by kernel_rfl) (by kernel_rfl) (fun _ _ _ h => h) (Or.inl ⟨by rfl, ?y4s⟩) (by assumption) ?r4s
  case y4s => (intro w hSw; (try dsimp only at hSw); (try go_split_ands); go_simp); (try with_reducible rfl)
  case r4s =>
  (try simp only [Act.put, List.setIfInBounds_toArray, List.set_cons_zero, List.set_cons_succ])
  refine wpAnyH_take (i := 5) (oi := ⟨some 36, _, _, _, _, _⟩) (v := ?v5s) rfl (by kernel_rfl) (by kernel_rfl) (by kernel_rfl) (fun _ _ _ h => h) (Or.inl ⟨by rfl, ?y5s⟩) (by assumption) ?r5s
  case y5s => (intro w hSw; (try dsimp only at hSw); (try go_split_ands); go_simp); (try with_reducible rfl)
  case r5s =>
  (try simp only [Act.put, List.setIfInBounds_toArray, List.set_cons_zero, List.set_cons_succ])
  refine wpAnyH_take (i := 6) (oi := ⟨some 37, _, _, _, _, _⟩) (v := ?v6s) rfl (by kernel_rfl) (by kernel_rfl) (by kernel_rfl) (fun _ _ _ h => h) (Or.inl ⟨by rfl, ?y6s⟩) (by assumption) ?r6s
  case y6s => (intro w hSw; (try dsimp only at hSw); (try go_split_ands); go_simp); (try with_reducible rfl)
  case r6s =>
  (try simp only [Act.put, List.setIfInBounds_toArray, List.set_cons_zero, List.set_cons_succ])
  refine wpAnyH_take (i := 7) (oi := ⟨some 38, _, _, _, _, _⟩) (v := ?v7s) rfl (by kernel_rfl) (by kernel_rfl) (by kernel_rfl) (fun _ _ _ h => h) (Or.inl ⟨by rfl, ?y7s⟩) (by assumption) ?r7s
  case y7s => (intro w hSw; (try dsimp only at hSw); (try go_split_ands); go_simp); (try with_reducible rfl)
  case r7s =>
  (try simp only [Act.put, List.setIfInBounds_toArray, List.set_cons_zero, List.set_cons_succ])
  refine wpAnyH_take (i := 8) (oi := ⟨some 39, _, _, _, _, _⟩) (v := ?v8s) rfl (by kernel_rfl) (by kernel_rfl) (by kernel_rfl) (fun _ _ _ h => h) (Or.inl ⟨by rfl, ?y8s⟩) (by assumption) ?r8s
  case y8s => (intro w hSw; (try dsimp only at hSw); (try go_split_ands); go_simp); (try with_reducible rfl)
  case r8s =>
  (try simp only [Act.put, List.setIfInBounds_toArray, List.set_cons_zero, List.set_cons_succ])
  refine wpAnyH_take (i := 9) (oi := ⟨some 40, _, _, _, _, _⟩) (v := ?v9s) rfl (by kernel_rfl) (by kernel_rfl) (by kernel_rfl) (fun _ _ _ h => h) (Or.inl ⟨by rfl, ?y9s⟩) (by assumption) ?r9s
  case y9s => (intro w hSw; (try dsimp only at hSw); (try go_split_ands); go_simp); (try with_reducible rfl)
  case r9s =>
  (try simp only [Act.put, List.setIfInBounds_toArray, List.set_cons_zero, List.set_cons_succ])
  refine wpAnyH_ready (rs := [10]) (by kernel_rfl) (by simp) ?_
  refine AllReadyH.cons (o := ⟨some 41, _, _, _, _, _⟩) rfl (fun K hK => ?_) AllReadyH.nil
  go_simp
  refine (drSettled ⟨z.id, z.fr, z.tt, z.ow, z.ep, 3, z.mv, z.ky, z.nw⟩ _ _).mono ?_; rintro e w5 ⟨rfl, hb5⟩
  go_wp2_with fail
  have HB5 : Hid (Below V.heap.size V w5) := Lib.hid ((Below.refl _ _).drew.trans hb5)
  have HD5 := Lib.hid (HDV.out.below HB5.out)
  have hA3 := bkeep HB5.out k3 (by omega)
  have hA4 := And.intro (bkeep HB5.out p0 hsv) (And.intro (bkeep HB5.out p1 hsv) (And.intro (bkeep HB5.out p2 hsv) (And.intro (bkeep HB5.out p3 hsv) (And.intro (bkeep HB5.out p4 hsv) (And.intro (bkeep HB5.out p5 hsv) (And.intro (bkeep HB5.out p6 hsv) (And.intro (bkeep HB5.out p7 hsv) (bkeep HB5.out p8 hsv))))))))
  refine hK.out _ _ (by first | exact ⟨hA3, hA4.1, hA4.2.1, hA4.2.2.1, hA4.2.2.2.1, hA4.2.2.2.2.1, hA4.2.2.2.2.2.1, hA4.2.2.2.2.2.2.1, hA4.2.2.2.2.2.2.2.1, hA4.2.2.2.2.2.2.2.2⟩ | exact ⟨hB3, hB40, hB41, hB42, hB43, hB44, hB45, hB46, hB47, hB48⟩) (fun hHeld => ?_)
  clear hK K
  (try simp only [Act.put, List.setIfInBounds_toArray, List.set_cons_zero, List.set_cons_succ])
  refine wpAnyH_take (i := 11) (oi := ⟨some 42, _, _, _, _, _⟩) (v := ?v11s) rfl (by kernel_rfl) (by kernel_rfl) (by kernel_rfl) (fun _ _ _ h => h) (Or.inl ⟨by rfl, ?y11s⟩) (by assumption) ?r11s
  case y11s => (intro w hSw; (try dsimp only at hSw); (try go_split_ands); go_simp); (try with_reducible rfl)
  case r11s =>
  (try simp only [Act.put, List.setIfInBounds_toArray, List.set_cons_zero, List.set_cons_succ])
  refine wpAnyH_ready (rs := [12]) (by kernel_rfl) (by simp) ?_
  refine AllReadyH.cons (o := ⟨none, _, _, _, _, _⟩) rfl (fun K hK => ?_) AllReadyH.nil
  obtain ⟨y0, y1, y2, y3, y4, y5, y6, y7, y8⟩ := rowZ_at HD5.out.row hi
  have yf := fun k => HD5.out.row.frozenAt k
  have hdg : d ≠ gz := fun e => HD5.out.za gz rfl e.symm
  have hVg : w.heap.size + 1 ≠ gz := by omega
  have hq := putZ_touch w5 gz i (settled z (z.ep + 1))
  have hB3 := hq.cell hA3 hdg
  have hB40 := hq.cell (bkeep HB5.out p0 hsv) hVg
  have hB41 := hq.cell (bkeep HB5.out p1 hsv) hVg
  have hB42 := hq.cell (bkeep HB5.out p2 hsv) hVg
  have hB43 := hq.cell (bkeep HB5.out p3 hsv) hVg
  have hB44 := hq.cell (bkeep HB5.out p4 hsv) hVg
  have hB45 := hq.cell (bkeep HB5.out p5 hsv) hVg
  have hB46 := hq.cell (bkeep HB5.out p6 hsv) hVg
  have hB47 := hq.cell (bkeep HB5.out p7 hsv) hVg
  have hB48 := hq.cell (bkeep HB5.out p8 hsv) hVg
  have HQ := Lib.hid hq
  clear hq
  simp only [putZ, settled] at hB3 hB40 hB41 hB42 hB43 hB44 hB45 hB46 hB47 hB48
  go_simp
  refine hK.out _ _ ⟨hB3, hB40, hB41, hB42, hB43, hB44, hB45, hB46, hB47, hB48⟩ (fun hHeld => ?_)
  clear hK K
  (try simp only [Act.put, List.setIfInBounds_toArray, List.set_cons_zero, List.set_cons_succ])
  refine wpAnyH_done (by kernel_rfl) ?_ _

  go_wp2_with fail
  have hS := HD5.out.putZ hi (settled z (z.ep + 1))
  change bodyPost _ _ _ _ _ (putZ w5 gz i (settled z (z.ep + 1)))
  generalize putZ w5 gz i (settled z (z.ep + 1)) = W9 at *
  refine bodyPost_ret (v := .bool true) (by simp [results, Try.results71, go_sem]) rfl (.inl ⟨_, _, Deed.abort HKD.out (by rw [← HZ.out]; exact HPD.out) (by rw [← HZ.out]; exact HEP.out) (by rw [← HZ.out]; exact htop), rfl, ?_, ?_, fun k hk => .inl hk⟩)
  · rw [← HZ.out]; exact hS
  · exact ((Touch.of_below (HBV.out.trans (HB5.out.mono (by omega)))).mono'' (fun k h1 h2 => by omega)).trans HQ.out (fun n _ h => .inr (by rw [h]; rfl))
end Go.Proofs.Ytbohpjinkdffhaa
