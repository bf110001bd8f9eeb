/- the law's maps, like, changes; Own of any map. -/
import Derived.Test.YtepjehcmiofehaaGreatPmJ
namespace Go.Proofs.YtepjehcmiofehaaGreat
open Go.RowKit
set_option linter.unusedVariables false
set_option linter.unusedSimpArgs false

theorem znNeqM (z : Zn) (w : World) : (binOp .neq 56 (.agg #[.int .i64 z.id, .string z.fr, .string z.tt, .int .i64 z.ow, .int .i64 z.ep, .int .i64 z.pd, .int .i64 z.mv, .string z.ky, .int .i64 z.nw]) (.agg #[.int .i64 z.id, .string z.fr, .string z.tt, .int .i64 z.ow, .int .i64 z.ep, .int .i64 z.pd, .int .i64 z.mv, .string z.ky, .int .i64 z.nw])).run Tryz.prog w = .ok (.bool false) w := by
  go_simp
theorem chNeqM (z : Ch) (w : World) : (binOp .neq 58 (.agg #[.int .i64 z.kd, .int .i64 z.zo, .int .i64 z.ep, .int .i64 z.mv, .string z.ky]) (.agg #[.int .i64 z.kd, .int .i64 z.zo, .int .i64 z.ep, .int .i64 z.mv, .string z.ky])).run Tryz.prog w = .ok (.bool false) w := by
  go_simp
theorem lrNeqM (z : Lr) (w : World) : (binOp .neq 34 (.agg #[.int .i64 z.zo, .int .i64 z.hits, .string z.mid]) (.agg #[.int .i64 z.zo, .int .i64 z.hits, .string z.mid])).run Tryz.prog w = .ok (.bool false) w := by
  go_simp
set_option maxRecDepth 100000 in
theorem Tryz.infoRow19 : (Tryz.prog.info? 64).map (fun i => (i.zero, i.size, i.bytes)) = some (some (.agg #[.int .i64 0, .int .i64 0, .string ⟨#[]⟩]), 3, 32) := by kernel_rfl
set_option maxRecDepth 100000 in
theorem Tryz.infoRowL : (Tryz.prog.info? 34).map (fun i => (i.zero, i.size, i.bytes)) = some (some (.agg #[.int .i64 0, .int .i64 0, .string ⟨#[]⟩]), 3, 32) := by kernel_rfl
theorem lrV_oneM (z : Lr) : ∀ u ∈ lrV z, u.oneCell' = true := by
  intro u hu
  simp only [lrV, List.mem_cons, List.not_mem_nil, or_false] at hu
  rcases hu with rfl | rfl | rfl <;> rfl
theorem flatL_oneM (l : List Lr) : ∀ u ∈ flatL l, u.oneCell' = true := by
  intro u hu
  obtain ⟨z, _, hz⟩ := List.mem_flatMap.1 hu
  exact lrV_oneM z u hz
set_option maxHeartbeats 4000000 in
set_option maxRecDepth 10000 in
theorem plMapsC (ver nxt : Int) (l : List Zn) (A1 A2 : Option Addr) (c1 c2 : Nat) (w : World) (h1 : RowZ w A1 c1 l) (h2 : RowZ w A2 c2 l) (hl : l.length ≤ 100000) :
    Calls Tryz.prog 7 #[.agg #[.int .i64 ver, .int .i64 nxt, .slice A1 l.length c1], .agg #[.int .i64 ver, .int .i64 nxt, .slice A2 l.length c2]] w fun e w' => e = .returned (.bool true) ∧ Below w.heap.size w w' := by
  have H1 := Lib.hid h1
  have H2 := Lib.hid h2
  clear h1 h2
  go_enter Tryz.func7, Tryz.ntmps7
  go_wp2_with fail
  have hP : Whl ((w.alloc (.cells #[.int .i64 ver, .int .i64 nxt, .slice A1 l.length c1] 24)).alloc (.cells #[.int .i64 ver, .int .i64 nxt, .slice A2 l.length c2] 24)) w.heap.size 24 #[.int .i64 ver, .int .i64 nxt, .slice A1 l.length c1] := (Whl.new rfl).alloc _
  have hQ : Whl ((w.alloc (.cells #[.int .i64 ver, .int .i64 nxt, .slice A1 l.length c1] 24)).alloc (.cells #[.int .i64 ver, .int .i64 nxt, .slice A2 l.length c2] 24)) (w.heap.size + 1) 24 #[.int .i64 ver, .int .i64 nxt, .slice A2 l.length c2] := Whl.new (by simp)
  have hBV : Below w.heap.size w ((w.alloc (.cells #[.int .i64 ver, .int .i64 nxt, .slice A1 l.length c1] 24)).alloc (.cells #[.int .i64 ver, .int .i64 nxt, .slice A2 l.length c2] 24)) := ((Below.refl _ _).alloc (Nat.le_refl _) _).alloc (by simp) _
  have HP := Lib.hid hP
  have HQ := Lib.hid hQ
  have HBV := Lib.hid hBV
  clear hP hQ hBV
  generalize ((w.alloc (.cells #[.int .i64 ver, .int .i64 nxt, .slice A1 l.length c1] 24)).alloc (.cells #[.int .i64 ver, .int .i64 nxt, .slice A2 l.length c2] 24)) = V at *
  go_loopw [5] (fun iv wr => ∃ i : Nat, i ≤ l.length ∧ iv = .int .i64 i ∧ Below V.heap.size V wr) (fun iv _ => l.length - (intOf iv).toNat)
  case atStart => exact ⟨0, Nat.zero_le _, rfl, Below.refl _ _⟩
  case round =>
    obtain ⟨i, hil, rfl, hBw⟩ := hrel
    have HBW := Lib.hid hBw
    have HWW := Lib.hid (HBV.out.trans (hBw.mono HBV.out.size))
    have k1 := bkeep hBw (HP.out.cell 2) HP.out.low
    have k2 := bkeep hBw (HQ.out.cell 2) HQ.out.low
    have k1 : wr.cell? ⟨w.heap.size, 2, none⟩ = some (.slice A1 l.length c1) := k1
    have k2 : wr.cell? ⟨w.heap.size + 1, 2, none⟩ = some (.slice A2 l.length c2) := k2
    clear hBw
    by_cases hlt : i < l.length
    · have q3 : (i : Int) < (l.length : Int) := by omega
      have hr1 := H1.out.below HWW.out
      have hr2 := H2.out.below HWW.out
      obtain ⟨g1, p1, hA1, hg1, -⟩ := zn_at hr1.cells hlt
      subst hA1
      obtain ⟨g2, p2, hA2, hg2, -⟩ := zn_at hr2.cells hlt
      subst hA2
      obtain ⟨z, hz⟩ : ∃ z, z = l[i] := ⟨_, rfl⟩
      obtain ⟨a0, a1, a2, a3, a4, a5, a6, a7, a8⟩ := rowC_at hr1 hlt
      obtain ⟨b0, b1, b2, b3, b4, b5, b6, b7, b8⟩ := rowC_at hr2 hlt
      rw [← hz] at a0 a1 a2 a3 a4 a5 a6 a7 a8 b0 b1 b2 b3 b4 b5 b6 b7 b8
      have hne := znNeqM z
      clear hr1 hr2 hz
      go_wp2_with fail
      go_quiet (fail)
      go_wp2_with fail
      exact ⟨⟨i + 1, hlt, by go_num, b_drewN HBW.out⟩, measZ hlt⟩
    · obtain rfl : l.length = i := by omega
      go_wp2_with fail
      go_ret
      exact ⟨rfl, HWW.out⟩
end Go.Proofs.YtepjehcmiofehaaGreat
namespace Go.Proofs.YtepjehcmiofehaaGreat
open Go.RowKit Go.ChangeShapes Go.WideShapes Go.ChangeAt Go.Deep
set_option maxHeartbeats 4000000 in
set_option maxRecDepth 10000 in
theorem rdOwnA (A : Option Addr) (cc : Nat) (m : Mp) (w : World) (hC : RowZ w A cc m.zs) (hl : m.zs.length ≤ 1000) :
    Calls Tryz.prog 5 #[.agg #[.int .i64 m.ver, .int .i64 m.nxt, .slice A m.zs.length cc]] w fun e w' => ∃ v', e = .returned (.agg #[.int .i64 m.ver, .int .i64 m.nxt, v']) ∧ w'.ownsRow w.heap.size 56 9 v' m.zs.length (flatZ m.zs) ∧ Below w.heap.size w w' := by
  obtain ⟨i0, hi0, hz0, hz1, hz2⟩ := info_parts Tryz.infoZone
  have hnc := hC.le
  have hcm := hC.mx
  have HC := Lib.hid hC.cells
  clear hC
  go_enter Tryz.func5, Tryz.ntmps5
  go_wp2_with (first
    | (at_builtin; go_loud (refine wpList_append_row rfl (.tmp 3) (.tmp 5) 22 rfl (w.heap.size + 2) 56 i0 _ 9 96 Tryz.underlying22 hi0 hz0 hz1 hz2 rfl (by decide) (.slice (some ⟨w.heap.size + 2, 0, none⟩) 0 0) 0 [] rfl (owns_lit0 (by (first | omega | (simp; done) | (simp; omega))) (by (first | omega | (simp; done) | (simp; omega)))) w.heap.size A m.zs.length cc (flatZ m.zs) rfl (cells_keep HC.out (by ((repeat (first | (with_reducible exact Below.refl _ _) | (with_reducible assumption) | ((with_reducible refine b_set ?_ ?_); · (first | omega | (simp; done) | (simp; omega))) | ((with_reducible refine b_alloc ?_ ?_); · (first | omega | (simp; done) | (simp; omega))) | (with_reducible refine Below.drew ?_) | (with_reducible refine b_drewN ?_) | ((with_reducible refine b_call (by assumption) ?_ ?_); · (first | omega | (simp; done) | (simp; omega))))); done)) (Nat.le_refl _)) (flatZ_one m.zs) (by unfold maxLen; omega) (by omega) (by (first | omega | (simp; done) | (simp; omega))) ?_; intro v5 w5 ho5 hb5; obtain ⟨A5, c5, e5, _, _, _⟩ := own_slice ho5; subst e5; have HO5 := Lib.hid ho5; have HB5 := Lib.hid hb5; obtain ⟨hc5, hf5⟩ := bcell hb5; have hs5 := hb5.size; (try simp at hs5); clear ho5 hb5))
    | fail)
  refine bodyPost_ret (v := .agg #[.int .i64 m.ver, .int .i64 m.nxt, .slice A5 (0 + m.zs.length) c5]) (by simp [results, Tryz.results5, go_sem, *]) rfl ?_
  have h5 := HO5.out
  rw [Nat.zero_add, List.nil_append] at h5
  rw [Nat.zero_add]
  have hlt : ∀ g, (Value.slice A5 m.zs.length c5).ownBlock = some g → w.heap.size + 2 ≤ g := fun g hg => (h5.lt g hg).1
  refine ⟨_, rfl, ?_, ?_⟩
  · refine own_set_ne (own_set_ne (own_set_ne (own_set_ne (own_mono h5 (by omega)) ?_) ?_) ?_) ?_
    all_goals (intro g hg; have := hlt g hg; show g ≠ _; simp; omega)
  · have hA : Below w.heap.size w w5 := Below.trans (by ((repeat (first | (with_reducible exact Below.refl _ _) | (with_reducible assumption) | ((with_reducible refine b_set ?_ ?_); · (first | omega | (simp; done) | (simp; omega))) | ((with_reducible refine b_alloc ?_ ?_); · (first | omega | (simp; done) | (simp; omega))) | (with_reducible refine Below.drew ?_) | (with_reducible refine b_drewN ?_) | ((with_reducible refine b_call (by assumption) ?_ ?_); · (first | omega | (simp; done) | (simp; omega))))); done)) (HB5.out.mono (by omega))
    exact b_set (Nat.le_succ _) (b_set (Nat.le_succ _) (b_set (Nat.le_succ _) (b_set (Nat.le_refl _) hA)))
theorem ch_cellsM {w : World} {B : Nat} {A : Option Addr} {c : Nat} {l : List Ch} (h : Cells w B A l.length c 5 (l.flatMap chV)) {i : Nat} (hi : i < l.length) :
    ∃ g o, A = some ⟨g, o, none⟩ ∧ g < B ∧ w.cell? ⟨g, o + i * 5, none⟩ = some (.int .i64 l[i].kd) ∧ w.cell? ⟨g, o + i * 5 + 1, none⟩ = some (.int .i64 l[i].zo) ∧ w.cell? ⟨g, o + i * 5 + 2, none⟩ = some (.int .i64 l[i].ep) ∧ w.cell? ⟨g, o + i * 5 + 3, none⟩ = some (.int .i64 l[i].mv) ∧ w.cell? ⟨g, o + i * 5 + 4, none⟩ = some (.string l[i].ky) := by
  have hf := fun k (hk : k < 5) (v : Value) (hv : (chV l[i])[k]? = some v) => h.2.2 (i * 5 + k) v (by rw [flat_get chV 5 (fun _ => rfl) l i k hk, List.getElem?_eq_getElem hi]; exact hv)
  obtain ⟨g, o, e, hg, h0⟩ := hf 0 (by omega) _ rfl
  obtain ⟨g1, o1, e1, -, h1⟩ := hf 1 (by omega) _ rfl
  obtain ⟨g2, o2, e2, -, h2⟩ := hf 2 (by omega) _ rfl
  obtain ⟨g3, o3, e3, -, h3⟩ := hf 3 (by omega) _ rfl
  obtain ⟨g4, o4, e4, -, h4⟩ := hf 4 (by omega) _ rfl
  rw [e] at e1 e2 e3 e4
  injection e1 with e1; injection e1 with e11 e12
  injection e2 with e2; injection e2 with e21 e22
  injection e3 with e3; injection e3 with e31 e32
  injection e4 with e4; injection e4 with e41 e42
  subst e11 e12 e21 e22 e31 e32 e41 e42
  exact ⟨g, o, e, hg, by simpa using h0, by rw [Nat.add_assoc]; exact h1, by rw [Nat.add_assoc]; exact h2, by rw [Nat.add_assoc]; exact h3, by rw [Nat.add_assoc]; exact h4⟩
set_option maxHeartbeats 4000000 in
set_option maxRecDepth 10000 in
theorem plChanges (l : List Ch) (A1 A2 : Option Addr) (c1 c2 : Nat) (w : World) (h1 : Cells w w.heap.size A1 l.length c1 5 (l.flatMap chV)) (h2 : Cells w w.heap.size A2 l.length c2 5 (l.flatMap chV)) (hl : l.length ≤ maxLen) :
    Calls Tryz.prog 8 #[.slice A1 l.length c1, .slice A2 l.length c2] w fun e w' => e = .returned (.bool true) ∧ Below w.heap.size w w' := by
  have H1 := Lib.hid h1
  have H2 := Lib.hid h2
  clear h1 h2
  go_enter Tryz.func8, Tryz.ntmps8
  go_wp2_with fail
  go_loopw [5] (fun iv wr => ∃ i : Nat, i ≤ l.length ∧ iv = .int .i64 i ∧ Below w.heap.size w wr) (fun iv _ => l.length - (intOf iv).toNat)
  case atStart => exact ⟨0, Nat.zero_le _, rfl, Below.refl _ _⟩
  case round =>
    obtain ⟨i, hil, rfl, hBw⟩ := hrel
    have HBW := Lib.hid hBw
    by_cases hlt : i < l.length
    · have q3 : (i : Int) < (l.length : Int) := by omega
      have hwi : IntKind.i64.wrap ((i : Int) + 1) = (i : Int) + 1 := by rw [IntKind.wrap_i64]; unfold maxLen at hl; omega
      obtain ⟨g1, p1, hA1, hg1, a0, a1, a2, a3, a4⟩ := ch_cellsM (cells_keep H1.out hBw hBw.size) hlt
      subst hA1
      obtain ⟨g2, p2, hA2, hg2, b0, b1, b2, b3, b4⟩ := ch_cellsM (cells_keep H2.out hBw hBw.size) hlt
      subst hA2
      obtain ⟨z, hz⟩ : ∃ z, z = l[i] := ⟨_, rfl⟩
      rw [← hz] at a0 a1 a2 a3 a4 b0 b1 b2 b3 b4
      have hne := chNeqM z
      clear hz hBw
      go_wp2_with fail
      go_quiet (fail)
      go_wp2_with fail
      exact ⟨⟨i + 1, hlt, by go_num, b_drewN HBW.out⟩, measZ hlt⟩
    · obtain rfl : l.length = i := by omega
      clear hBw
      go_wp2_with fail
      go_ret
      exact ⟨rfl, HBW.out⟩
set_option maxHeartbeats 4000000 in
set_option maxRecDepth 10000 in
theorem plLike (A : Option Addr) (cc : Nat) (l : List Lr) (w : World) (h : RowL w A cc l) (hl : l.length ≤ 100000) :
    Calls Tryz.prog 10 #[.slice A l.length cc] w fun e w' => ∃ v, e = .returned v ∧ w'.ownsRow w.heap.size 64 3 v l.length (flatL l) ∧ Below w.heap.size w w' := by
  obtain ⟨i0, hi0, hz0, hz1, hz2⟩ := info_parts Tryz.infoRow19
  have H1 := Lib.hid h
  clear h
  go_enter Tryz.func10, Tryz.ntmps10
  go_wp2_with fail
  go_loopw [3, 4] (fun vv iv wr => ∃ (i : Nat) (v : Value), vv = v ∧ i ≤ l.length ∧ iv = .int .i64 i ∧ wr.ownsRow w.heap.size 64 3 v i (flatL (l.take i)) ∧ Below w.heap.size w wr) (fun _ iv _ => l.length - (intOf iv).toNat)
  case atStart => exact ⟨0, _, rfl, Nat.zero_le _, rfl, World.ownsRow_nil _ _ _ _, Below.refl _ _⟩
  case round =>
    obtain ⟨i, v, hv, hil, rfl, hO, hBw⟩ := hrel
    have hv := hv.symm
    subst hv
    have HBW := Lib.hid hBw
    have HO := Lib.hid hO
    have hsw := hBw.size
    by_cases hlt : i < l.length
    · have q3 : (i : Int) < (l.length : Int) := by omega
      obtain ⟨g1, p1, hA1, hg1, a0, a1, a2⟩ := lr_cells (cells_keep H1.out hBw hBw.size) hlt
      subst hA1
      obtain ⟨z, hz⟩ : ∃ z, z = l[i] := ⟨_, rfl⟩
      rw [← hz] at a0 a1 a2
      have htk : flatL (l.take (i + 1)) = flatL (l.take i) ++ lrV z := by
        rw [List.take_add_one, List.getElem?_eq_getElem hlt, ← hz]
        simp [flatL]
      have HTK := Lib.hid htk
      have HC := Lib.hid (cells_new (w := wr) (e := 64) (arr := #[.int .i64 z.zo, .int .i64 z.hits, .string z.mid]) (cs := lrV z) (size := 3) rfl rfl)
      clear hz hBw hO htk
      go_wp2_with (first
        | (at_builtin; go_loud (refine wpList_append_touch rfl (.tmp 11) (.tmp 16) 38 rfl w.heap.size 64 i0 (.agg #[.int .i64 0, .int .i64 0, .string ⟨#[]⟩]) 3 32 Tryz.underlying38 hi0 hz0 hz1 hz2 rfl (by decide) v i (flatL (l.take i)) rfl (HO.out.alloc _) _ (some ⟨wr.heap.size, 0, none⟩) 1 1 (lrV z) rfl HC.out (lrV_oneM _) (by unfold maxLen; omega) (by omega) (by simp; omega) ?_; intro v6 w6 hown6 ht6 hb6; have HO6 := Lib.hid hown6; have HB6 := Lib.hid ((HBW.out.alloc hsw _).trans (ht6.below (by simp; omega) (fun k hk => (HO.out.lt k hk).1))); clear hown6 ht6 hb6))
        | fail)
      exact ⟨⟨i + 1, v6, rfl, hlt, by go_num, by rw [HTK.out]; exact HO6.out, HB6.out⟩, measZ hlt⟩
    · obtain rfl : l.length = i := by omega
      rw [List.take_length] at HO
      clear hBw hO
      go_wp2_with fail
      go_ret
      exact ⟨v, rfl, HO.out, HBW.out⟩
end Go.Proofs.YtepjehcmiofehaaGreat
