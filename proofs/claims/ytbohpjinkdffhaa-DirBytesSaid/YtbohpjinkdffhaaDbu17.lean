/- The directory: what is under way is done. The directory: merge. -/
import Derived.Test.YtbohpjinkdffhaaProg
import Derived.WalkKit
import Derived.WalkSpells
import Derived.WalkLawsBesides
import Derived.Deep.QuietTactic
import Derived.BigQuiet
import Derived.RegionTactic
import Derived.BigRegion
import Derived.Outline
import Derived.LoopTactic
import Derived.Lib.Hide
import Derived.Deep.RegionHeld3
import GoSem.Op.String
import Derived.Lib.Strings
import Derived.Laws.AppendOwnNone
import Derived.Deep.AppendLies
import Derived.Maps.AppendAt
import Derived.Laws.Rows
import Derived.Deep.Cut
import Derived.StillTailTactics
import Derived.Laws.IdiomCopy
import Derived.Lib.AppendZerosOnto
import Derived.Lib.Overlaps
import Derived.Lib.ReflectliteSwap
import Derived.Deep.RegionLaw
import Derived.Deep.DeepCutAuto
import Derived.Test.YtbohpjinkdffhaaDbu0
import Derived.Test.YtbohpjinkdffhaaDbu3
import Derived.Test.YtbohpjinkdffhaaDbu6
import Derived.Test.YtbohpjinkdffhaaDbu9
import Derived.Test.YtbohpjinkdffhaaDbu10
import Derived.Test.YtbohpjinkdffhaaDbu11
import Derived.Test.YtbohpjinkdffhaaDbu12
import Derived.Test.YtbohpjinkdffhaaDbu13
import Derived.Test.YtbohpjinkdffhaaDbu14
import Derived.Test.YtbohpjinkdffhaaDbu15
import Derived.Test.YtbohpjinkdffhaaDbu16
namespace Go.Proofs.Ytbohpjinkdffhaa
open Go.RowKit
set_option linter.unusedVariables false
set_option linter.unusedSimpArgs false
theorem DeedQ.from_ {B d : Nat} {hv zv : Value} {hosts : List Int} {m : Mp} {c : Ch} {i : Nat} {hi : i < m.zs.length} {w V : World} {e : Ending} {w' : World} (h : DeedQ B d hv zv hosts m c i hi V e w') (hb : Below w.heap.size w V) : DeedQ B d hv zv hosts m c i hi w e w' := by
  have hs := hb.size
  rcases h with ⟨m1, zv', h1, h2, h3, h4, h5⟩ | ⟨h1, h2, h3⟩
  · refine .inl ⟨m1, zv', h1, h2, h3, ((Touch.of_below hb).mono'' (fun k h1 h2 => absurd h2 (by omega))).trans h4 (fun _ _ h => h), fun k hk => ?_⟩
    rcases h5 k hk with h | h
    · exact .inl h
    · exact .inr (by omega)
  · exact .inr ⟨h1, h2, hb.trans (h3.mono hs)⟩
theorem DeedQ.bool {B d : Nat} {hv zv : Value} {hosts : List Int} {m : Mp} {c : Ch} {i : Nat} {hi : i < m.zs.length} {w : World} {e : Ending} {w' : World} (h : DeedQ B d hv zv hosts m c i hi w e w') : ∃ b, e = .returned (.bool b) := by
  rcases h with ⟨m1, zv', h1, h2, _⟩ | ⟨h1, h2, _⟩
  · exact ⟨_, h2⟩
  · exact ⟨_, h2⟩
set_option maxHeartbeats 8000000 in
set_option maxRecDepth 10000 in
theorem drDone (B d i : Nat) (hv zv : Value) (hosts : List Int) (m : Mp) (c : Ch) (hi : i < m.zs.length) (w : World) (h : DrH w B d hv zv hosts m) (hB : B ≤ w.heap.size) (hl : m.zs.length ≤ 1000) (hkd : c.kd = 4) (hep0 : ∀ z ∈ m.zs, 0 ≤ z.ep) :
    Calls Try.prog 70 #[.pointer (some ⟨d, 0, none⟩), .int .i64 i, .agg #[.int .i64 c.kd, .int .i64 c.zo, .int .i64 c.ep, .int .i64 c.mv, .string c.ky]] w fun e w' => DeedQ B d hv zv hosts m c i hi w e w' := by
  have HD := Lib.hid h
  have l3 := h.blk.cell 3
  simp only [List.getElem?_toArray, List.getElem?_cons_succ, List.getElem?_cons_zero] at l3
  obtain ⟨gz, cc, hzv, _, hgz, hnc, hcm⟩ := own_form h.row (by omega)
  subst hzv
  have hdl := h.blk.low
  have q3 : (i : Int) < (m.zs.length : Int) := by omega
  obtain ⟨z, hz⟩ : ∃ z, z = m.zs[i] := ⟨_, rfl⟩
  obtain ⟨v0, v1, v2, v3, v4, v5, v6, v7, v8⟩ := rowZ_at h.row hi
  rw [← hz] at v0 v1 v2 v3 v4 v5 v6 v7 v8
  have HZ := Lib.hid hz
  have HKD := Lib.hid hkd
  have HE0 := Lib.hid hep0
  have hz0 : 0 ≤ z.ep := hep0 z (by rw [hz]; exact List.getElem_mem hi)
  clear h hkd hz hep0
  by_cases hp0 : z.pd = 0
  case pos =>
    have HP0 := Lib.hid hp0
    clear hp0
    have hp00 : z.pd = 0 := HP0.out
    go_enter Try.func70, Try.ntmps70
    go_wp2_with fail
    refine bodyPost_ret (v := .bool false) (by simp [results, Try.results70, go_sem]) rfl (.inr ⟨fun m1 hd => ?_, rfl, by ((repeat (first | (with_reducible exact Below.refl _ _) | (with_reducible assumption) | ((with_reducible refine b_set ?_ ?_); · (first | omega | (simp; done) | (simp; omega))) | ((with_reducible refine b_alloc ?_ ?_); · (first | omega | (simp; done) | (simp; omega))) | (with_reducible refine Below.drew ?_) | (with_reducible refine b_drewN ?_) | ((with_reducible refine b_call (by assumption) ?_ ?_); · (first | omega | (simp; done) | (simp; omega))))); done)⟩)
    have hkd := HKD.out
    cases hd <;> first | omega | (rename_i p _ _ _ _; exact p (by rw [← HZ.out]; exact HP0.out)) | (have hp := HP0.out; rw [HZ.out] at hp; omega)

  have hb1 : (z.pd == 0) = false := by simpa using hp0
  by_cases hep : z.ep = c.ep
  case neg =>
    have hb2 : (z.ep != c.ep) = true := by simpa using hep
    go_enter Try.func70, Try.ntmps70
    go_wp2_with fail
    refine bodyPost_ret (v := .bool false) (by simp [results, Try.results70, go_sem]) rfl (.inr ⟨fun m1 hd => ?_, rfl, by ((repeat (first | (with_reducible exact Below.refl _ _) | (with_reducible assumption) | ((with_reducible refine b_set ?_ ?_); · (first | omega | (simp; done) | (simp; omega))) | ((with_reducible refine b_alloc ?_ ?_); · (first | omega | (simp; done) | (simp; omega))) | (with_reducible refine Below.drew ?_) | (with_reducible refine b_drewN ?_) | ((with_reducible refine b_call (by assumption) ?_ ?_); · (first | omega | (simp; done) | (simp; omega))))); done)⟩)
    have hkd := HKD.out
    cases hd <;> first | omega | (exact hep (by rw [HZ.out]; assumption))

  have HEP := Lib.hid hep
  have hep2 := hep.symm
  clear hep
  by_cases h1 : z.pd = 1
  case pos =>
    have HP1 := Lib.hid h1
    go_enter Try.func70, Try.ntmps70
    go_wp2_with (first
      | (go_at_call 92; go_loud (refine (drSplitDone B d i hv _ hosts m c hi _ (HD.out.below (Below.alloc ((Below.refl _ w).alloc (Nat.le_refl _) _) (by simp) _)) (by simp; omega) hl HKD.out (by rw [← HZ.out]; exact HP1.out) (by rw [← HZ.out]; exact HEP.out) (by rw [← HZ.out]; exact hz0)).mono ?_; rintro e w2 hq; obtain ⟨bb, rfl⟩ := hq.bool; have HQ := Lib.hid (hq.from_ (Below.alloc ((Below.refl _ w).alloc (Nat.le_refl _) _) (by simp) _)); clear hq))
      | fail)
    exact bodyPost_ret (v := .bool bb) (by simp [results, Try.results70, go_sem]) rfl HQ.out
  by_cases h2 : z.pd = 2
  case pos =>
    have HP2 := Lib.hid h2
    go_enter Try.func70, Try.ntmps70
    go_wp2_with (first
      | (go_at_call 93; go_loud (refine (drMergeDone B d i hv _ hosts m c hi _ (HD.out.below (Below.alloc ((Below.refl _ w).alloc (Nat.le_refl _) _) (by simp) _)) (by simp; omega) hl HKD.out (by rw [← HZ.out]; exact HP2.out) (by rw [← HZ.out]; exact HEP.out) HE0.out).mono ?_; rintro e w2 hq; obtain ⟨bb, rfl⟩ := hq.bool; have HQ := Lib.hid (hq.from_ (Below.alloc ((Below.refl _ w).alloc (Nat.le_refl _) _) (by simp) _)); clear hq))
      | fail)
    exact bodyPost_ret (v := .bool bb) (by simp [results, Try.results70, go_sem]) rfl HQ.out
  by_cases htop : z.ep < 1099511627776
  case neg =>
    go_enter Try.func70, Try.ntmps70
    go_wp2_with fail
    refine bodyPost_ret (v := .bool false) (by simp [results, Try.results70, go_sem]) rfl (.inr ⟨fun m1 hd => ?_, rfl, by ((repeat (first | (with_reducible exact Below.refl _ _) | (with_reducible assumption) | ((with_reducible refine b_set ?_ ?_); · (first | omega | (simp; done) | (simp; omega))) | ((with_reducible refine b_alloc ?_ ?_); · (first | omega | (simp; done) | (simp; omega))) | (with_reducible refine Below.drew ?_) | (with_reducible refine b_drewN ?_) | ((with_reducible refine b_call (by assumption) ?_ ?_); · (first | omega | (simp; done) | (simp; omega))))); done)⟩)
    have hkd := HKD.out
    cases hd <;> first | omega | (rename_i x; unfold topN at x; rw [← HZ.out] at x; omega) | (rename_i p _ _; rw [← HZ.out] at p; omega) | (rename_i p _ _ _ _ _; rw [← HZ.out] at p; omega)

  have hwr : IntKind.i64.wrap (z.ep + 1) = z.ep + 1 := by rw [IntKind.wrap_i64]; omega
  go_enter Try.func70, Try.ntmps70
  go_upto_region 12 with fail
  have hP : Whl ((w.alloc (.cells #[.int .i64 c.kd, .int .i64 c.zo, .int .i64 z.ep, .int .i64 c.mv, .string c.ky] 47)).alloc (.cells #[.int .i64 z.id, .string z.fr, .string z.tt, .int .i64 z.mv, .int .i64 z.ep, .int .i64 z.pd, .int .i64 z.mv, .string z.ky, .int .i64 z.nw] 39)) (w.heap.size + 1) 39 #[.int .i64 z.id, .string z.fr, .string z.tt, .int .i64 z.mv, .int .i64 z.ep, .int .i64 z.pd, .int .i64 z.mv, .string z.ky, .int .i64 z.nw] := Whl.new (by simp)
  obtain ⟨y, hy⟩ : ∃ y : Zn, y = ⟨z.id, z.fr, z.tt, z.mv, z.ep, z.pd, z.mv, z.ky, z.nw⟩ := ⟨_, rfl⟩
  have hP2 : Whl ((w.alloc (.cells #[.int .i64 c.kd, .int .i64 c.zo, .int .i64 z.ep, .int .i64 c.mv, .string c.ky] 47)).alloc (.cells #[.int .i64 z.id, .string z.fr, .string z.tt, .int .i64 z.mv, .int .i64 z.ep, .int .i64 z.pd, .int .i64 z.mv, .string z.ky, .int .i64 z.nw] 39)) (w.heap.size + 1) 39 #[.int .i64 y.id, .string y.fr, .string y.tt, .int .i64 y.ow, .int .i64 y.ep, .int .i64 y.pd, .int .i64 y.mv, .string y.ky, .int .i64 y.nw] := by rw [hy]; exact hP
  have hBV : Below w.heap.size w ((w.alloc (.cells #[.int .i64 c.kd, .int .i64 c.zo, .int .i64 z.ep, .int .i64 c.mv, .string c.ky] 47)).alloc (.cells #[.int .i64 z.id, .string z.fr, .string z.tt, .int .i64 z.mv, .int .i64 z.ep, .int .i64 z.pd, .int .i64 z.mv, .string z.ky, .int .i64 z.nw] 39)) := ((Below.refl _ _).alloc (Nat.le_refl _) _).alloc (by simp) _
  have HDV := Lib.hid (HD.out.below hBV)
  have k3 := HDV.out.blk.cell 3
  have p0 := hP2.cell 0
  have p1 := hP2.cell 1
  have p2 := hP2.cell 2
  have p3 := hP2.cell 3
  have p4 := hP2.cell 4
  have p5 := hP2.cell 5
  have p6 := hP2.cell 6
  have p7 := hP2.cell 7
  have p8 := hP2.cell 8
  simp only [List.getElem?_toArray, List.getElem?_cons_succ, List.getElem?_cons_zero] at k3 p0 p1 p2 p3 p4 p5 p6 p7 p8
  have hsv : w.heap.size + 1 < ((w.alloc (.cells #[.int .i64 c.kd, .int .i64 c.zo, .int .i64 z.ep, .int .i64 c.mv, .string c.ky] 47)).alloc (.cells #[.int .i64 z.id, .string z.fr, .string z.tt, .int .i64 z.mv, .int .i64 z.ep, .int .i64 z.pd, .int .i64 z.mv, .string z.ky, .int .i64 z.nw] 39)).heap.size := by simp
  have hbg : w.heap.size + 1 ≠ gz := by omega
  have HBV := Lib.hid hBV
  have HY := Lib.hid hy
  have hye : y.ep = z.ep := by rw [hy]
  rw [← hye] at hwr
  change Code.wp _ _ _ _ ((w.alloc (.cells #[.int .i64 c.kd, .int .i64 c.zo, .int .i64 z.ep, .int .i64 c.mv, .string c.ky] 47)).alloc (.cells #[.int .i64 z.id, .string z.fr, .string z.tt, .int .i64 z.mv, .int .i64 z.ep, .int .i64 z.pd, .int .i64 z.mv, .string z.ky, .int .i64 z.nw] 39))
  clear hye hP hP2 hBV hy l3 v0 v1 v2 v3 v4 v5 v6 v7 v8
  generalize ((w.alloc (.cells #[.int .i64 c.kd, .int .i64 c.zo, .int .i64 z.ep, .int .i64 c.mv, .string c.ky] 47)).alloc (.cells #[.int .i64 z.id, .string z.fr, .string z.tt, .int .i64 z.mv, .int .i64 z.ep, .int .i64 z.pd, .int .i64 z.mv, .string z.ky, .int .i64 z.nw] 39)) = V at *
  refine wp_region_held_drew (S := (fun W => W.cell? ⟨d, 3, none⟩ = some (.slice (some ⟨gz, 0, none⟩) m.zs.length cc) ∧ W.cell? ⟨w.heap.size + 1, 0, none⟩ = some (.int .i64 y.id) ∧ W.cell? ⟨w.heap.size + 1, 1, none⟩ = some (.string y.fr) ∧ W.cell? ⟨w.heap.size + 1, 2, none⟩ = some (.string y.tt) ∧ W.cell? ⟨w.heap.size + 1, 3, none⟩ = some (.int .i64 y.ow) ∧ W.cell? ⟨w.heap.size + 1, 4, none⟩ = some (.int .i64 y.ep) ∧ W.cell? ⟨w.heap.size + 1, 5, none⟩ = some (.int .i64 y.pd) ∧ W.cell? ⟨w.heap.size + 1, 6, none⟩ = some (.int .i64 y.mv) ∧ W.cell? ⟨w.heap.size + 1, 7, none⟩ = some (.string y.ky) ∧ W.cell? ⟨w.heap.size + 1, 8, none⟩ = some (.int .i64 y.nw))) (by kernel_rfl) ⟨k3, p0, p1, p2, p3, p4, p5, p6, p7, p8⟩ (fun hHeld => ?_)
  refine wpAnyH_take (i := 0) (oi := ⟨some 44, _, _, _, _, _⟩) (v := ?v0s) rfl (by kernel_rfl) (by kernel_rfl) (by kernel_rfl) (fun _ _ _ h => h) (Or.inl ⟨by rfl, ?y0s⟩) (by assumption) ?r0s
  case y0s => (intro w hSw; (try dsimp only at hSw); (try go_split_ands); go_simp); (try with_reducible rfl)
  case r0s =>
  (try simp only [Act.put, List.setIfInBounds_toArray, List.set_cons_zero, List.set_cons_succ])
  refine wpAnyH_take (i := 1) (oi := ⟨some 45, _, _, _, _, _⟩) (v := ?v1s) rfl (by kernel_rfl) (by kernel_rfl) (by kernel_rfl) (fun _ _ _ h => h) (Or.inl ⟨by rfl, ?y1s⟩) (by assumption) ?r1s
  case y1s => (intro w hSw; (try dsimp only at hSw); (try go_split_ands); go_simp); (try with_reducible rfl)
  case r1s =>
  (try simp only [Act.put, List.setIfInBounds_toArray, List.set_cons_zero, List.set_cons_succ])
  refine wpAnyH_take (i := 2) (oi := ⟨some 46, _, _, _, _, _⟩) (v := ?v2s) rfl (by kernel_rfl) (by kernel_rfl) (by kernel_rfl) (fun _ _ _ h => h) (Or.inl ⟨by rfl, ?y2s⟩) (by assumption) ?r2s
  case y2s => (intro w hSw; (try dsimp only at hSw); (try go_split_ands); go_simp); (try with_reducible rfl)
  case r2s =>
  (try simp only [Act.put, List.setIfInBounds_toArray, List.set_cons_zero, List.set_cons_succ])
  refine wpAnyH_take (i := 3) (oi := ⟨some 47, _, _, _, _, _⟩) (v := ?v3s) rfl (by kernel_rfl) (by kernel_rfl) (by kernel_rfl) (fun _ _ _ h => h) (Or.inl ⟨by rfl, ?y3s⟩) (by assumption) ?r3s
  case y3s => (intro w hSw; (try dsimp only at hSw); (try go_split_ands); go_simp); (try with_reducible rfl)
  case r3s =>
  (try simp only [Act.put, List.setIfInBounds_toArray, List.set_cons_zero, List.set_cons_succ])
  refine wpAnyH_take (i := 4) (oi := ⟨some 48, _, _, _, _, _⟩) (v := ?v4s) rfl (by kernel_rfl) (by kernel_rfl) (by kernel_rfl) (fun _ _ _ h => h) (Or.inl ⟨by rfl, ?y4s⟩) (by assumption) ?r4s
  case y4s => (intro w hSw; (try dsimp only at hSw); (try go_split_ands); go_simp); (try with_reducible rfl)
  case r4s =>
  (try simp only [Act.put, List.setIfInBounds_toArray, List.set_cons_zero, List.set_cons_succ])
  refine wpAnyH_take (i := 5) (oi := ⟨some 49, _, _, _, _, _⟩) (v := ?v5s) rfl (by kernel_rfl) (by kernel_rfl) (by kernel_rfl) (fun _ _ _ h => h) (Or.inl ⟨by rfl, ?y5s⟩) (by assumption) ?r5s
  case y5s => (intro w hSw; (try dsimp only at hSw); (try go_split_ands); go_simp); (try with_reducible rfl)
  case r5s =>
  (try simp only [Act.put, List.setIfInBounds_toArray, List.set_cons_zero, List.set_cons_succ])
  refine wpAnyH_take (i := 6) (oi := ⟨some 50, _, _, _, _, _⟩) (v := ?v6s) rfl (by kernel_rfl) (by kernel_rfl) (by kernel_rfl) (fun _ _ _ h => h) (Or.inl ⟨by rfl, ?y6s⟩) (by assumption) ?r6s
  case y6s => (intro w hSw; (try dsimp only at hSw); (try go_split_ands); go_simp); (try with_reducible rfl)
  case r6s =>
  (try simp only [Act.put, List.setIfInBounds_toArray, List.set_cons_zero, List.set_cons_succ])
  refine wpAnyH_take (i := 7) (oi := ⟨some 51, _, _, _, _, _⟩) (v := ?v7s) rfl (by kernel_rfl) (by kernel_rfl) (by kernel_rfl) (fun _ _ _ h => h) (Or.inl ⟨by rfl, ?y7s⟩) (by assumption) ?r7s
  case y7s => (intro w hSw; (try dsimp only at hSw); (try go_split_ands); go_simp); (try with_reducible rfl)
  case r7s =>
  (try simp only [Act.put, List.setIfInBounds_toArray, List.set_cons_zero, List.set_cons_succ])
  refine wpAnyH_take (i := 8) (oi := ⟨some 52, _, _, _, _, _⟩) (v := ?v8s) rfl (by kernel_rfl) (by kernel_rfl) (by kernel_rfl) (fun _ _ _ h => h) (Or.inl ⟨by rfl, ?y8s⟩) (by assumption) ?r8s
  case y8s => (intro w hSw; (try dsimp only at hSw); (try go_split_ands); go_simp); (try with_reducible rfl)
  case r8s =>
  (try simp only [Act.put, List.setIfInBounds_toArray, List.set_cons_zero, List.set_cons_succ])
  refine wpAnyH_take (i := 9) (oi := ⟨some 53, _, _, _, _, _⟩) (v := ?v9s) rfl (by kernel_rfl) (by kernel_rfl) (by kernel_rfl) (fun _ _ _ h => h) (Or.inl ⟨by rfl, ?y9s⟩) (by assumption) ?r9s
  case y9s => (intro w hSw; (try dsimp only at hSw); (try go_split_ands); go_simp); (try with_reducible rfl)
  case r9s =>
  (try simp only [Act.put, List.setIfInBounds_toArray, List.set_cons_zero, List.set_cons_succ])
  refine wpAnyH_ready (rs := [10]) (by kernel_rfl) (by simp) ?_
  refine AllReadyH.cons (o := ⟨some 54, _, _, _, _, _⟩) rfl (fun K hK => ?_) AllReadyH.nil
  go_simp
  refine (drSettled y _ _).mono ?_; rintro e w5 ⟨rfl, hb5⟩
  go_wp2_with fail
  have HB5 : Hid (Below V.heap.size V w5) := Lib.hid ((Below.refl _ _).drew.trans hb5)
  have HD5 := Lib.hid (HDV.out.below HB5.out)
  have hA3 := bkeep HB5.out k3 (by omega)
  have hA40 := bkeep HB5.out p0 hsv
  have hA41 := bkeep HB5.out p1 hsv
  have hA42 := bkeep HB5.out p2 hsv
  have hA43 := bkeep HB5.out p3 hsv
  have hA44 := bkeep HB5.out p4 hsv
  have hA45 := bkeep HB5.out p5 hsv
  have hA46 := bkeep HB5.out p6 hsv
  have hA47 := bkeep HB5.out p7 hsv
  have hA48 := bkeep HB5.out p8 hsv
  clear hb5
  refine hK.out _ _ (by first | exact ⟨hB3, hB40, hB41, hB42, hB43, hB44, hB45, hB46, hB47, hB48⟩ | exact ⟨hA3, hA40, hA41, hA42, hA43, hA44, hA45, hA46, hA47, hA48⟩) (fun hHeld => ?_)
  clear hK K
  (try simp only [Act.put, List.setIfInBounds_toArray, List.set_cons_zero, List.set_cons_succ])
  refine wpAnyH_take (i := 11) (oi := ⟨some 55, _, _, _, _, _⟩) (v := ?v11s) rfl (by kernel_rfl) (by kernel_rfl) (by kernel_rfl) (fun _ _ _ h => h) (Or.inl ⟨by rfl, ?y11s⟩) (by assumption) ?r11s
  case y11s => (intro w hSw; (try dsimp only at hSw); (try go_split_ands); go_simp); (try with_reducible rfl)
  case r11s =>
  (try simp only [Act.put, List.setIfInBounds_toArray, List.set_cons_zero, List.set_cons_succ])
  refine wpAnyH_ready (rs := [12]) (by kernel_rfl) (by simp) ?_
  refine AllReadyH.cons (o := ⟨none, _, _, _, _, _⟩) rfl (fun K hK => ?_) AllReadyH.nil
  obtain ⟨y0, y1, y2, y3, y4, y5, y6, y7, y8⟩ := rowZ_at HD5.out.row hi
  have yf := fun k => HD5.out.row.frozenAt k
  have hdg : d ≠ gz := fun e => HD5.out.za gz rfl e.symm
  have hq := putZ_touch w5 gz i (settled y (y.ep + 1))
  have hB3 := hq.cell hA3 hdg
  have hB40 := hq.cell hA40 hbg
  have hB41 := hq.cell hA41 hbg
  have hB42 := hq.cell hA42 hbg
  have hB43 := hq.cell hA43 hbg
  have hB44 := hq.cell hA44 hbg
  have hB45 := hq.cell hA45 hbg
  have hB46 := hq.cell hA46 hbg
  have hB47 := hq.cell hA47 hbg
  have hB48 := hq.cell hA48 hbg
  have HQ := Lib.hid hq
  clear hq
  simp only [putZ, settled] at hB3 hB40 hB41 hB42 hB43 hB44 hB45 hB46 hB47 hB48
  go_simp
  refine hK.out _ _ (by first | exact ⟨hB3, hB40, hB41, hB42, hB43, hB44, hB45, hB46, hB47, hB48⟩ | exact ⟨hA3, hA40, hA41, hA42, hA43, hA44, hA45, hA46, hA47, hA48⟩) (fun hHeld => ?_)
  clear hK K
  (try simp only [Act.put, List.setIfInBounds_toArray, List.set_cons_zero, List.set_cons_succ])
  refine wpAnyH_done (by kernel_rfl) ?_ _

  go_wp2_with fail
  have hS := HD5.out.putZ hi (settled y (y.ep + 1))
  change bodyPost _ _ _ _ _ (putZ w5 gz i (settled y (y.ep + 1)))
  have HDEED : Hid (Deed hosts m c i hi ⟨m.ver, m.nxt, m.zs.set i (settled y (y.ep + 1))⟩) := Lib.hid (by
    have he := HEP.out
    rw [HY.out]
    rw [HZ.out] at hp0 h1 h2 he htop ⊢
    exact Deed.moveDone HKD.out hp0 h1 h2 he (by unfold topN; omega))
  generalize putZ w5 gz i (settled y (y.ep + 1)) = W9 at *
  exact bodyPost_ret (v := .bool true) (by simp [results, Try.results70, go_sem]) rfl (.inl ⟨_, _, HDEED.out, rfl, hS, ((Touch.of_below (HBV.out.trans (HB5.out.mono (by omega)))).mono'' (fun k h1 h2 => by omega)).trans HQ.out (fun n _ h => .inr (by rw [h]; rfl)), fun k hk => .inl hk⟩)
end Go.Proofs.Ytbohpjinkdffhaa
namespace Go.Proofs.Ytbohpjinkdffhaa
open Go.RowKit
set_option linter.unusedVariables false
set_option linter.unusedSimpArgs false
set_option maxHeartbeats 8000000 in
set_option maxRecDepth 10000 in
theorem drMerge (B d i : Nat) (hv zv : Value) (hosts : List Int) (m : Mp) (c : Ch) (hi : i < m.zs.length) (w : World) (h : DrH w B d hv zv hosts m) (hl : m.zs.length ≤ 1000) (hkd : c.kd = 2) :
    Calls Try.prog 68 #[.pointer (some ⟨d, 0, none⟩), .int .i64 i, .agg #[.int .i64 c.kd, .int .i64 c.zo, .int .i64 c.ep, .int .i64 c.mv, .string c.ky]] w fun e w' => DeedQ B d hv zv hosts m c i hi w e w' := by
  have HD := Lib.hid h
  have l3 := h.blk.cell 3
  simp only [List.getElem?_toArray, List.getElem?_cons_succ, List.getElem?_cons_zero] at l3
  obtain ⟨gz, cc, hzv, _, hgz, hnc, hcm⟩ := own_form h.row (by omega)
  subst hzv
  have hdl := h.blk.low
  have q3 : (i : Int) < (m.zs.length : Int) := by omega
  have HKD := Lib.hid hkd
  clear h hkd
  by_cases h2 : i + 1 < m.zs.length
  case neg =>
    have q4 : ¬ (i : Int) + 1 < (m.zs.length : Int) := by omega
    go_enter Try.func68, Try.ntmps68
    go_wp2_with fail
    refine bodyPost_ret (v := .bool false) (by simp [results, Try.results68, go_sem]) rfl (.inr ⟨fun m1 hd => ?_, rfl, by ((repeat (first | (with_reducible exact Below.refl _ _) | (with_reducible assumption) | ((with_reducible refine b_set ?_ ?_); · (first | omega | (simp; done) | (simp; omega))) | ((with_reducible refine b_alloc ?_ ?_); · (first | omega | (simp; done) | (simp; omega))) | (with_reducible refine Below.drew ?_) | (with_reducible refine b_drewN ?_) | ((with_reducible refine b_call (by assumption) ?_ ?_); · (first | omega | (simp; done) | (simp; omega))))); done)⟩)
    have hkd := HKD.out
    cases hd <;> omega
  have q4 : (i : Int) + 1 < (m.zs.length : Int) := by omega
  go_enter Try.func68, Try.ntmps68
  go_upto_region 3 with fail
  have HBV : Hid (Below w.heap.size w (w.alloc (.cells #[.int .i64 c.kd, .int .i64 c.zo, .int .i64 c.ep, .int .i64 c.mv, .string c.ky] 47))) := Lib.hid ((Below.refl _ _).alloc (Nat.le_refl _) _)
  have HDV := Lib.hid (HD.out.below HBV.out)
  obtain ⟨a, ha⟩ : ∃ z, z = m.zs[i] := ⟨_, rfl⟩
  obtain ⟨b, hb⟩ : ∃ z, z = m.zs[i + 1] := ⟨_, rfl⟩
  obtain ⟨v0, _, _, v3, _, v5, _, _, v8⟩ := rowZ_at HDV.out.row hi
  obtain ⟨u0, _, _, u3, _, u5, _, _, u8⟩ := rowZ_at HDV.out.row h2
  have ei : (i + 1) * 9 = i * 9 + 9 := by omega
  rw [← ha] at v0 v3 v5 v8
  rw [← hb] at u0 u3 u5 u8
  have k3 := HDV.out.blk.cell 3
  simp only [List.getElem?_toArray, List.getElem?_cons_succ, List.getElem?_cons_zero] at k3
  have hsv : w.heap.size ≤ (w.alloc (.cells #[.int .i64 c.kd, .int .i64 c.zo, .int .i64 c.ep, .int .i64 c.mv, .string c.ky] 47)).heap.size := by simp
  rw [ei] at u0 u3 u5 u8
  simp only [Nat.add_assoc, Nat.reduceAdd] at u0 u3 u5 u8
  have fz := fun k => HDV.out.row.frozenAt k
  have HA := Lib.hid ha
  have HB := Lib.hid hb
  have HFZ := Lib.hid fz
  clear l3 ha hb
  generalize w.alloc (.cells #[.int .i64 c.kd, .int .i64 c.zo, .int .i64 c.ep, .int .i64 c.mv, .string c.ky] 47) = V at *
  have q5 : IntKind.i64.wrap ((i : Int) + 1) = ((i + 1 : Nat) : Int) := by rw [IntKind.wrap_i64]; omega
  go_quiet (fail)
  go_wp2_with fail
  by_cases hp : a.pd = 0
  case neg =>
    have hp2 : (a.pd != 0) = true := by simpa using hp
    go_quiet (fail)
    go_wp2_with fail
    refine bodyPost_ret (v := .bool false) (by simp [results, Try.results68, go_sem]) rfl (.inr ⟨fun m1 hd => ?_, rfl, b_drewN (b_drewN HBV.out)⟩)
    have hkd := HKD.out
    cases hd <;> first | omega | (exact hp (by rw [HA.out]; assumption))

  by_cases hq : b.pd = 0
  case neg =>
    have hq2 : (b.pd != 0) = true := by simpa using hq
    go_quiet (fail)
    go_wp2_with fail
    refine bodyPost_ret (v := .bool false) (by simp [results, Try.results68, go_sem]) rfl (.inr ⟨fun m1 hd => ?_, rfl, b_drewN (b_drewN HBV.out)⟩)
    have hkd := HKD.out
    cases hd <;> first | omega | (exact hq (by rw [HB.out]; assumption))

  by_cases ho : a.ow = b.ow
  case neg =>
    have ho2 : (a.ow != b.ow) = true := by simpa using ho
    go_quiet (fail)
    go_wp2_with fail
    refine bodyPost_ret (v := .bool false) (by simp [results, Try.results68, go_sem]) rfl (.inr ⟨fun m1 hd => ?_, rfl, b_drewN (b_drewN HBV.out)⟩)
    have hkd := HKD.out
    cases hd <;> first | omega | (exact ho (by rw [HA.out, HB.out]; assumption))

  go_quiet (fail)
  go_wp2_with fail
  have hN : ∀ n, DrH (V.drewN n) B d hv (.slice (some ⟨gz, 0, none⟩) m.zs.length cc) hosts m := fun n => HDV.out.keep (D := fun _ => False) ((Touch.refl _ _).drewN _) (fun _ _ h => h)
  have hS1 := fun n => (hN n).set2 hi (k := 5) (k' := 8) (by decide) (by decide) (z := { a with pd := 2 }) (z' := { a with pd := 2, nw := b.id }) (v := .int .i64 2) (v' := .int .i64 b.id) (by rw [← HA.out]; rfl) rfl
  have hS2 := fun n => (hS1 n).set2 (j := i + 1) (k := 5) (k' := 8) (by simpa using h2) (by decide) (by decide) (z := { b with pd := 2 }) (z' := { b with pd := 2, nw := a.id }) (v := .int .i64 2) (v' := .int .i64 a.id) (by show _ = (znV ((m.zs.set i _)[i + 1]'_)).set _ _; rw [List.getElem_set_ne (by omega), ← HB.out]; rfl) rfl
  simp only [ei] at hS2
  refine bodyPost_ret (v := .bool true) (by simp [results, Try.results68, go_sem]) rfl (.inl ⟨_, _, Deed.merge HKD.out h2 (by rw [← HA.out]; exact hp) (by rw [← HB.out]; exact hq) (by rw [← HA.out, ← HB.out]; exact ho), rfl, ?_, ?_, fun k hk => .inl hk⟩)
  · rw [← HA.out, ← HB.out]; exact hS2 _
  · refine ((((((Touch.of_below HBV.out).mono'' (fun k h1 h2 => absurd h2 (by omega))).drewN _).set ?_).set ?_).set ?_).set ?_ <;> exact fun _ => .inr rfl
end Go.Proofs.Ytbohpjinkdffhaa
