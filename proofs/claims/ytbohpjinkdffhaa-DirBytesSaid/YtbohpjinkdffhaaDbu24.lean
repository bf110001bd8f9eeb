/- The document's directory, of any maps: merges, splits. The document's directory: May. -/
import Derived.Test.YtbohpjinkdffhaaProg
import Derived.WalkKit
import Derived.WalkSpells
import Derived.WalkLawsBesides
import Derived.Deep.QuietTactic
import Derived.BigQuiet
import Derived.RegionTactic
import Derived.BigRegion
import Derived.Outline
import Derived.LoopTactic
import Derived.Lib.Hide
import Derived.Deep.RegionHeld3
import GoSem.Op.String
import Derived.Lib.Strings
import Derived.Laws.AppendOwnNone
import Derived.Deep.AppendLies
import Derived.Maps.AppendAt
import Derived.Laws.Rows
import Derived.Deep.Cut
import Derived.StillTailTactics
import Derived.Laws.IdiomCopy
import Derived.Lib.AppendZerosOnto
import Derived.Lib.Overlaps
import Derived.Lib.ReflectliteSwap
import Derived.Deep.RegionLaw
import Derived.Deep.DeepCutAuto
import Derived.Laws.EntriesVeiled
import Derived.Lib.SliceRun
import Derived.Deep.Light
import Derived.Test.YtbohpjinkdffhaaDbu0
import Derived.Test.YtbohpjinkdffhaaDbu3
import Derived.Test.YtbohpjinkdffhaaDbu6
import Derived.Test.YtbohpjinkdffhaaDbu7
import Derived.Test.YtbohpjinkdffhaaDbu9
import Derived.Test.YtbohpjinkdffhaaDbu10
import Derived.Test.YtbohpjinkdffhaaDbu11
import Derived.Test.YtbohpjinkdffhaaDbu12
import Derived.Test.YtbohpjinkdffhaaDbu13
import Derived.Test.YtbohpjinkdffhaaDbu14
import Derived.Test.YtbohpjinkdffhaaDbu15
import Derived.Test.YtbohpjinkdffhaaDbu16
import Derived.Test.YtbohpjinkdffhaaDbu17
import Derived.Test.YtbohpjinkdffhaaDbu18
import Derived.Test.YtbohpjinkdffhaaDbu19
import Derived.Test.YtbohpjinkdffhaaDbu20
import Derived.Test.YtbohpjinkdffhaaDbu21
import Derived.Test.YtbohpjinkdffhaaDbu22
namespace Go.Proofs.Ytbohpjinkdffhaa
open Go.RowKit
set_option linter.unusedVariables false
set_option linter.unusedSimpArgs false
theorem MgP.of {l : List Zn} {i : Nat} {hi : i < l.length} (h : MgP l i hi) {k : Nat} (hk : k < l.length) (hkd : l[k].id = l[i].nw) (hkf : ∀ j (hj : j < l.length), j < k → l[j].id ≠ l[i].nw) : (k = i + 1 ∨ k + 1 = i) ∧ l[k].pd = 2 ∧ l[k].nw = l[i].id ∧ l[k].ow = l[i].ow := by
  obtain ⟨k2, hk2, e1, e2, e3⟩ := h.ex
  have : k2 = k := by
    rcases Nat.lt_trichotomy k2 k with h | h | h
    · exact absurd e1 (hkf k2 hk2 h)
    · exact h
    · exact absurd hkd (e2 k hk h)
  subst this
  exact e3
theorem no_of {b : Bool} {P : Prop} (h : b = true ↔ P) (hn : ¬ P) : b = false := by
  cases b with
  | false => rfl
  | true => exact absurd (h.1 rfl) hn
set_option maxHeartbeats 8000000 in
set_option maxRecDepth 10000 in
theorem rdMergesX (B i : Nat) (zv : Value) (l : List Zn) (w : World) (h : w.ownsRow B 39 9 zv l.length (flatZ l)) (hl : l.length ≤ 1000) (hi : i < l.length) {b : Bool} (hb : b = true ↔ MgP l i hi) :
    Calls Try.prog 88 #[zv, .int .i64 i] w fun e w' => e = .returned (.bool b) ∧ Below w.heap.size w w' := by
  have HR := Lib.hid h
  have HNB : Hid (¬ MgP l i hi → b = false) := Lib.hid (no_of hb)
  have HYB : Hid (MgP l i hi → b = true) := Lib.hid hb.2
  obtain ⟨gz, cc, hzv, _, hgz, hnc, hcm⟩ := own_form h (by omega)
  subst hzv
  have q3 : (i : Int) < (l.length : Int) := by omega
  obtain ⟨z, hz⟩ : ∃ z, z = l[i] := ⟨_, rfl⟩
  obtain ⟨v0, v1, v2, v3, v4, v5, v6, v7, v8⟩ := rowZ_at h hi
  rw [← hz] at v0 v1 v2 v3 v4 v5 v6 v7 v8
  have HZ := Lib.hid hz
  have hcast : IntKind.i64.wrap ((i : Int) + 1) = (i : Int) + 1 := by rw [IntKind.wrap_i64]; omega
  have hcast2 : IntKind.i64.wrap ((i : Int) - 1) = (i : Int) - 1 := by rw [IntKind.wrap_i64]; omega
  clear h hz hb
  go_enter Try.func88, Try.ntmps88
  go_upto_region 3 with (first
    | (go_at_call 40; refine (rdFind B _ l z.nw _ (HR.out.alloc _) (by omega)).mono ?_; rintro e w2 ⟨k2, rfl, hk2, hb2⟩; have HAT := Lib.hid hk2; have HB2 := Lib.hid hb2; clear hb2 hk2)
    | fail)
  have HBW : Hid (Below w.heap.size w w2) := Lib.hid (((Below.refl _ _).alloc (Nat.le_refl _) _).trans (HB2.out.mono (by simp)))
  have hPZ : Whl w2 w.heap.size 39 #[.int .i64 z.id, .string z.fr, .string z.tt, .int .i64 z.ow, .int .i64 z.ep, .int .i64 z.pd, .int .i64 z.mv, .string z.ky, .int .i64 z.nw] := (Whl.new rfl).below HB2.out (by simp)
  have p0 := hPZ.cell 0
  have p1 := hPZ.cell 1
  have p2 := hPZ.cell 2
  have p3 := hPZ.cell 3
  have p4 := hPZ.cell 4
  have p5 := hPZ.cell 5
  have p6 := hPZ.cell 6
  have p7 := hPZ.cell 7
  have p8 := hPZ.cell 8
  simp only [List.getElem?_toArray, List.getElem?_cons_succ, List.getElem?_cons_zero] at p0 p1 p2 p3 p4 p5 p6 p7 p8
  have hpl := hPZ.low
  clear hPZ v0 v1 v2 v3 v4 v5 v6 v7 v8
  by_cases c1 : z.mv = 0
  case neg =>
    have f1 : (z.mv != 0) = true := by simpa using c1
    go_quiet (fail)
    go_wp2_with fail
    go_ret
    exact ⟨ret_bool (HNB.out (fun h => c1 (by rw [HZ.out]; exact h.mv))).symm, b_drewN HBW.out⟩
  have f1 : (z.mv != 0) = false := by simpa using c1
  by_cases c2 : z.ky.size = 0
  case neg =>
    obtain ⟨n1, n2, n3, n4⟩ := nil_beq c2
    go_quiet (fail)
    go_wp2_with fail
    go_ret
    exact ⟨ret_bool (HNB.out (fun h => c2 (by rw [HZ.out]; exact h.ky))).symm, b_drewN HBW.out⟩
  have e2 := nil_size.1 c2
  rw [e2] at p7
  rcases HAT.out with ⟨rfl, hno⟩ | ⟨k, rfl, hk, hkd, hkf⟩
  · have f3 : decide ((-1 : Int) < 0) = true := rfl
    go_quiet (fail)
    go_wp2_with fail
    go_ret
    exact ⟨ret_bool (HNB.out (fun h => by obtain ⟨k, hk, e, _⟩ := h.ex; exact hno k hk hk (by rw [HZ.out]; exact e))).symm, b_drewN HBW.out⟩
  rw [HZ.out] at hkd hkf
  have q4 : (k : Int) < (l.length : Int) := by omega
  have f3 : decide ((k : Int) < 0) = false := decide_eq_false (by omega)
  obtain ⟨y, hy⟩ : ∃ y, y = l[k] := ⟨_, rfl⟩
  obtain ⟨u0, u1, u2, u3, u4, u5, u6, u7, u8⟩ := rowZ_at (row_belowZ HR.out HBW.out) hk
  rw [← hy] at u0 u1 u2 u3 u4 u5 u6 u7 u8
  have HY := Lib.hid hy
  clear hy e2
  by_cases c3 : k = i + 1
  case pos =>
    have f4 : ((k : Int) != (i : Int) + 1) = false := by simp; omega
    have HC3 := Lib.hid c3
    clear c3
    by_cases c0 : y.pd = 2
    case neg =>
      have g1 : (y.pd != 2) = true := by simpa using c0
      go_quiet (fail)
      go_wp2_with fail
      go_ret
      exact ⟨ret_bool (HNB.out (fun h => c0 (by rw [HY.out]; exact (h.of hk hkd hkf).2.1))).symm, b_drewN HBW.out⟩
    have g1 : (y.pd != 2) = false := by simpa using c0
    by_cases c1' : y.nw = z.id
    case neg =>
      have g2 : (y.nw != z.id) = true := by simpa using c1'
      go_quiet (fail)
      go_wp2_with fail
      go_ret
      exact ⟨ret_bool (HNB.out (fun h => c1' (by rw [HY.out, HZ.out]; exact (h.of hk hkd hkf).2.2.1))).symm, b_drewN HBW.out⟩
    have g2 : (y.nw != z.id) = false := by simpa using c1'
    by_cases c2' : y.ow = z.ow
    case neg =>
      have g3 : (y.ow != z.ow) = true := by simpa using c2'
      go_quiet (fail)
      go_wp2_with fail
      go_ret
      exact ⟨ret_bool (HNB.out (fun h => c2' (by rw [HY.out, HZ.out]; exact (h.of hk hkd hkf).2.2.2))).symm, b_drewN HBW.out⟩
    have g3 : (y.ow != z.ow) = false := by simpa using c2'
    go_quiet (fail)
    go_wp2_with fail
    go_ret
    exact ⟨ret_bool (HYB.out (⟨by rw [← HZ.out]; exact c1, by rw [← HZ.out]; exact c2, k, hk, hkd, hkf, .inl HC3.out, by rw [← HY.out]; exact c0, by rw [← HY.out, ← HZ.out]; exact c1', by rw [← HY.out, ← HZ.out]; exact c2'⟩)).symm, b_drewN HBW.out⟩
  have f4 : ((k : Int) != (i : Int) + 1) = true := by simp; omega
  by_cases c4 : k + 1 = i
  case neg =>
    have f5 : ((k : Int) != (i : Int) - 1) = true := by simp; omega
    go_quiet (fail)
    go_wp2_with fail
    go_ret
    exact ⟨ret_bool (HNB.out (fun h => by have := (h.of hk hkd hkf).1; omega)).symm, b_drewN HBW.out⟩
  have f5 : ((k : Int) != (i : Int) - 1) = false := by simp; omega
  have HC4 := Lib.hid c4
  clear c3 c4
  by_cases c0 : y.pd = 2
  case neg =>
    have g1 : (y.pd != 2) = true := by simpa using c0
    go_quiet (fail)
    go_wp2_with fail
    go_ret
    exact ⟨ret_bool (HNB.out (fun h => c0 (by rw [HY.out]; exact (h.of hk hkd hkf).2.1))).symm, b_drewN HBW.out⟩
  have g1 : (y.pd != 2) = false := by simpa using c0
  by_cases c1' : y.nw = z.id
  case neg =>
    have g2 : (y.nw != z.id) = true := by simpa using c1'
    go_quiet (fail)
    go_wp2_with fail
    go_ret
    exact ⟨ret_bool (HNB.out (fun h => c1' (by rw [HY.out, HZ.out]; exact (h.of hk hkd hkf).2.2.1))).symm, b_drewN HBW.out⟩
  have g2 : (y.nw != z.id) = false := by simpa using c1'
  by_cases c2' : y.ow = z.ow
  case neg =>
    have g3 : (y.ow != z.ow) = true := by simpa using c2'
    go_quiet (fail)
    go_wp2_with fail
    go_ret
    exact ⟨ret_bool (HNB.out (fun h => c2' (by rw [HY.out, HZ.out]; exact (h.of hk hkd hkf).2.2.2))).symm, b_drewN HBW.out⟩
  have g3 : (y.ow != z.ow) = false := by simpa using c2'
  go_quiet (fail)
  go_wp2_with fail
  go_ret
  exact ⟨ret_bool (HYB.out (⟨by rw [← HZ.out]; exact c1, by rw [← HZ.out]; exact c2, k, hk, hkd, hkf, .inr HC4.out, by rw [← HY.out]; exact c0, by rw [← HY.out, ← HZ.out]; exact c1', by rw [← HY.out, ← HZ.out]; exact c2'⟩)).symm, b_drewN HBW.out⟩
set_option maxHeartbeats 8000000 in
set_option maxRecDepth 10000 in
theorem rdSplitsX (B i : Nat) (zv : Value) (m : Mp) (w : World) (h : w.ownsRow B 39 9 zv m.zs.length (flatZ m.zs)) (hl : m.zs.length ≤ 1000) (hi : i < m.zs.length) {b : Bool} (hb : b = true ↔ SpP m i hi) :
    Calls Try.prog 87 #[.agg #[.int .i64 m.ver, .int .i64 m.nxt, zv], .int .i64 i] w fun e w' => e = .returned (.bool b) ∧ Below w.heap.size w w' := by
  have HR := Lib.hid h
  have HNB : Hid (¬ SpP m i hi → b = false) := Lib.hid (no_of hb)
  have HYB : Hid (SpP m i hi → b = true) := Lib.hid hb.2
  obtain ⟨gz, cc, hzv, _, hgz, hnc, hcm⟩ := own_form h (by omega)
  subst hzv
  have q3 : (i : Int) < (m.zs.length : Int) := by omega
  obtain ⟨z, hz⟩ : ∃ z, z = m.zs[i] := ⟨_, rfl⟩
  obtain ⟨v0, v1, v2, v3, v4, v5, v6, v7, v8⟩ := rowZ_at h hi
  rw [← hz] at v0 v1 v2 v3 v4 v5 v6 v7 v8
  have HZ := Lib.hid hz
  clear h hz hb
  cases hct : cutB z.fr z.tt z.ky with
  | false =>
    have HCT := Lib.hid hct
    clear hct
    go_enter Try.func87, Try.ntmps87
    go_wp2_with (first
      | (go_at_call 73; refine (refCut0 _ _ _ _ HCT.out).mono ?_; rintro e w3 ⟨rfl, hb3⟩; have HB3 := Lib.hid (Below.trans (show Below w.heap.size w _ by ((repeat (first | (with_reducible exact Below.refl _ _) | (with_reducible assumption) | ((with_reducible refine b_set ?_ ?_); · (first | omega | (simp; done) | (simp; omega))) | ((with_reducible refine b_alloc ?_ ?_); · (first | omega | (simp; done) | (simp; omega))) | (with_reducible refine Below.drew ?_) | (with_reducible refine b_drewN ?_) | ((with_reducible refine b_call (by assumption) ?_ ?_); · (first | omega | (simp; done) | (simp; omega))))); done)) (hb3.mono (by (first | omega | (simp; done) | (simp; omega))))); have hP3 := (show Whl _ w.heap.size 33 #[.int .i64 m.ver, .int .i64 m.nxt, .slice (some ⟨gz, 0, none⟩) m.zs.length cc] from (Whl.new rfl).alloc _).below hb3 (by (first | omega | (simp; done) | (simp; omega))); have hQ3 := (show Whl _ (w.heap.size + 1) 39 #[.int .i64 z.id, .string z.fr, .string z.tt, .int .i64 z.ow, .int .i64 z.ep, .int .i64 z.pd, .int .i64 z.mv, .string z.ky, .int .i64 z.nw] from Whl.new (by (first | omega | (simp; done) | (simp; omega)))).below hb3 (by (first | omega | (simp; done) | (simp; omega))); have y6 := hQ3.cell 6; have y8 := hQ3.cell 8; have x1 := hP3.cell 1; have x2 := hP3.cell 2; simp only [List.getElem?_toArray, List.getElem?_cons_succ, List.getElem?_cons_zero] at y6 y8 x1 x2; have hs3 := hb3.size; (try simp at hs3); clear hb3)
      | fail)
    go_ret
    exact ⟨ret_bool (HNB.out (fun h => by (have := h.cut; rw [← HZ.out, HCT.out] at this; cases this))).symm, (by (have h9 := HB3.out; ((repeat (first | (with_reducible exact Below.refl _ _) | (with_reducible assumption) | ((with_reducible refine b_set ?_ ?_); · (first | omega | (simp; done) | (simp; omega))) | ((with_reducible refine b_alloc ?_ ?_); · (first | omega | (simp; done) | (simp; omega))) | (with_reducible refine Below.drew ?_) | (with_reducible refine b_drewN ?_) | ((with_reducible refine b_call (by assumption) ?_ ?_); · (first | omega | (simp; done) | (simp; omega))))); done)))⟩
  | true =>
  have HCT := Lib.hid hct
  clear hct
  by_cases c1 : z.mv = 0
  case neg =>
    have f1 : (z.mv != 0) = true := by simpa using c1
    have C1 := Lib.hid c1
    clear c1
    go_enter Try.func87, Try.ntmps87
    go_wp2_with (first
      | (go_at_call 73; refine (refCut1 _ _ _ _ HCT.out).mono ?_; rintro e w3 ⟨rfl, hb3⟩; have HB3 := Lib.hid (Below.trans (show Below w.heap.size w _ by ((repeat (first | (with_reducible exact Below.refl _ _) | (with_reducible assumption) | ((with_reducible refine b_set ?_ ?_); · (first | omega | (simp; done) | (simp; omega))) | ((with_reducible refine b_alloc ?_ ?_); · (first | omega | (simp; done) | (simp; omega))) | (with_reducible refine Below.drew ?_) | (with_reducible refine b_drewN ?_) | ((with_reducible refine b_call (by assumption) ?_ ?_); · (first | omega | (simp; done) | (simp; omega))))); done)) (hb3.mono (by (first | omega | (simp; done) | (simp; omega))))); have hP3 := (show Whl _ w.heap.size 33 #[.int .i64 m.ver, .int .i64 m.nxt, .slice (some ⟨gz, 0, none⟩) m.zs.length cc] from (Whl.new rfl).alloc _).below hb3 (by (first | omega | (simp; done) | (simp; omega))); have hQ3 := (show Whl _ (w.heap.size + 1) 39 #[.int .i64 z.id, .string z.fr, .string z.tt, .int .i64 z.ow, .int .i64 z.ep, .int .i64 z.pd, .int .i64 z.mv, .string z.ky, .int .i64 z.nw] from Whl.new (by (first | omega | (simp; done) | (simp; omega)))).below hb3 (by (first | omega | (simp; done) | (simp; omega))); have y6 := hQ3.cell 6; have y8 := hQ3.cell 8; have x1 := hP3.cell 1; have x2 := hP3.cell 2; simp only [List.getElem?_toArray, List.getElem?_cons_succ, List.getElem?_cons_zero] at y6 y8 x1 x2; have hs3 := hb3.size; (try simp at hs3); clear hb3)
      | fail)
    go_ret
    exact ⟨ret_bool (HNB.out (fun h => C1.out (by rw [HZ.out]; exact h.mv))).symm, (by (have h9 := HB3.out; ((repeat (first | (with_reducible exact Below.refl _ _) | (with_reducible assumption) | ((with_reducible refine b_set ?_ ?_); · (first | omega | (simp; done) | (simp; omega))) | ((with_reducible refine b_alloc ?_ ?_); · (first | omega | (simp; done) | (simp; omega))) | (with_reducible refine Below.drew ?_) | (with_reducible refine b_drewN ?_) | ((with_reducible refine b_call (by assumption) ?_ ?_); · (first | omega | (simp; done) | (simp; omega))))); done)))⟩
  have f1 : (z.mv != 0) = false := by simpa using c1
  have C1 := Lib.hid c1
  clear c1
  by_cases c2 : z.nw < 1
  case pos =>
    have C2 := Lib.hid c2
    go_enter Try.func87, Try.ntmps87
    go_wp2_with (first
      | (go_at_call 73; refine (refCut1 _ _ _ _ HCT.out).mono ?_; rintro e w3 ⟨rfl, hb3⟩; have HB3 := Lib.hid (Below.trans (show Below w.heap.size w _ by ((repeat (first | (with_reducible exact Below.refl _ _) | (with_reducible assumption) | ((with_reducible refine b_set ?_ ?_); · (first | omega | (simp; done) | (simp; omega))) | ((with_reducible refine b_alloc ?_ ?_); · (first | omega | (simp; done) | (simp; omega))) | (with_reducible refine Below.drew ?_) | (with_reducible refine b_drewN ?_) | ((with_reducible refine b_call (by assumption) ?_ ?_); · (first | omega | (simp; done) | (simp; omega))))); done)) (hb3.mono (by (first | omega | (simp; done) | (simp; omega))))); have hP3 := (show Whl _ w.heap.size 33 #[.int .i64 m.ver, .int .i64 m.nxt, .slice (some ⟨gz, 0, none⟩) m.zs.length cc] from (Whl.new rfl).alloc _).below hb3 (by (first | omega | (simp; done) | (simp; omega))); have hQ3 := (show Whl _ (w.heap.size + 1) 39 #[.int .i64 z.id, .string z.fr, .string z.tt, .int .i64 z.ow, .int .i64 z.ep, .int .i64 z.pd, .int .i64 z.mv, .string z.ky, .int .i64 z.nw] from Whl.new (by (first | omega | (simp; done) | (simp; omega)))).below hb3 (by (first | omega | (simp; done) | (simp; omega))); have y6 := hQ3.cell 6; have y8 := hQ3.cell 8; have x1 := hP3.cell 1; have x2 := hP3.cell 2; simp only [List.getElem?_toArray, List.getElem?_cons_succ, List.getElem?_cons_zero] at y6 y8 x1 x2; have hs3 := hb3.size; (try simp at hs3); clear hb3)
      | fail)
    go_ret
    exact ⟨ret_bool (HNB.out (fun h => by (have h1 := h.lo; rw [← HZ.out] at h1; have := C2.out; omega))).symm, (by (have h9 := HB3.out; ((repeat (first | (with_reducible exact Below.refl _ _) | (with_reducible assumption) | ((with_reducible refine b_set ?_ ?_); · (first | omega | (simp; done) | (simp; omega))) | ((with_reducible refine b_alloc ?_ ?_); · (first | omega | (simp; done) | (simp; omega))) | (with_reducible refine Below.drew ?_) | (with_reducible refine b_drewN ?_) | ((with_reducible refine b_call (by assumption) ?_ ?_); · (first | omega | (simp; done) | (simp; omega))))); done)))⟩
  by_cases c3 : m.nxt ≤ z.nw
  case pos =>
    have C3 := Lib.hid c3
    go_enter Try.func87, Try.ntmps87
    go_wp2_with (first
      | (go_at_call 73; refine (refCut1 _ _ _ _ HCT.out).mono ?_; rintro e w3 ⟨rfl, hb3⟩; have HB3 := Lib.hid (Below.trans (show Below w.heap.size w _ by ((repeat (first | (with_reducible exact Below.refl _ _) | (with_reducible assumption) | ((with_reducible refine b_set ?_ ?_); · (first | omega | (simp; done) | (simp; omega))) | ((with_reducible refine b_alloc ?_ ?_); · (first | omega | (simp; done) | (simp; omega))) | (with_reducible refine Below.drew ?_) | (with_reducible refine b_drewN ?_) | ((with_reducible refine b_call (by assumption) ?_ ?_); · (first | omega | (simp; done) | (simp; omega))))); done)) (hb3.mono (by (first | omega | (simp; done) | (simp; omega))))); have hP3 := (show Whl _ w.heap.size 33 #[.int .i64 m.ver, .int .i64 m.nxt, .slice (some ⟨gz, 0, none⟩) m.zs.length cc] from (Whl.new rfl).alloc _).below hb3 (by (first | omega | (simp; done) | (simp; omega))); have hQ3 := (show Whl _ (w.heap.size + 1) 39 #[.int .i64 z.id, .string z.fr, .string z.tt, .int .i64 z.ow, .int .i64 z.ep, .int .i64 z.pd, .int .i64 z.mv, .string z.ky, .int .i64 z.nw] from Whl.new (by (first | omega | (simp; done) | (simp; omega)))).below hb3 (by (first | omega | (simp; done) | (simp; omega))); have y6 := hQ3.cell 6; have y8 := hQ3.cell 8; have x1 := hP3.cell 1; have x2 := hP3.cell 2; simp only [List.getElem?_toArray, List.getElem?_cons_succ, List.getElem?_cons_zero] at y6 y8 x1 x2; have hs3 := hb3.size; (try simp at hs3); clear hb3)
      | fail)
    go_ret
    exact ⟨ret_bool (HNB.out (fun h => by (have h1 := h.hi; rw [← HZ.out] at h1; have := C3.out; omega))).symm, (by (have h9 := HB3.out; ((repeat (first | (with_reducible exact Below.refl _ _) | (with_reducible assumption) | ((with_reducible refine b_set ?_ ?_); · (first | omega | (simp; done) | (simp; omega))) | ((with_reducible refine b_alloc ?_ ?_); · (first | omega | (simp; done) | (simp; omega))) | (with_reducible refine Below.drew ?_) | (with_reducible refine b_drewN ?_) | ((with_reducible refine b_call (by assumption) ?_ ?_); · (first | omega | (simp; done) | (simp; omega))))); done)))⟩
  by_cases c4 : ∀ j (hj : j < m.zs.length), m.zs[j].id ≠ z.nw
  case neg =>
    have C4 := Lib.hid c4
    clear c4
    go_enter Try.func87, Try.ntmps87
    go_wp2_with (first
      | (go_at_call 40; refine (rdFind B _ m.zs z.nw _ (row_belowZ HR.out (by (have h9 := HB3.out; ((repeat (first | (with_reducible exact Below.refl _ _) | (with_reducible assumption) | ((with_reducible refine b_set ?_ ?_); · (first | omega | (simp; done) | (simp; omega))) | ((with_reducible refine b_alloc ?_ ?_); · (first | omega | (simp; done) | (simp; omega))) | (with_reducible refine Below.drew ?_) | (with_reducible refine b_drewN ?_) | ((with_reducible refine b_call (by assumption) ?_ ?_); · (first | omega | (simp; done) | (simp; omega))))); done)))) (by omega)).mono ?_; rintro e w4 ⟨k2, rfl, hk2, hb4⟩; have hk0 : ¬ (k2 < 0) := (by rcases hk2 with ⟨_, hno⟩ | ⟨j, rfl, _⟩; exact absurd (fun j hj => hno j hj hj) C4.out; omega); clear hk2; have HB4 := Lib.hid (Below.trans (show Below w.heap.size w _ by (have h9 := HB3.out; ((repeat (first | (with_reducible exact Below.refl _ _) | (with_reducible assumption) | ((with_reducible refine b_set ?_ ?_); · (first | omega | (simp; done) | (simp; omega))) | ((with_reducible refine b_alloc ?_ ?_); · (first | omega | (simp; done) | (simp; omega))) | (with_reducible refine Below.drew ?_) | (with_reducible refine b_drewN ?_) | ((with_reducible refine b_call (by assumption) ?_ ?_); · (first | omega | (simp; done) | (simp; omega))))); done))) (hb4.mono (by (have h9 := HB3.out.size); (first | omega | (simp; done) | (simp; omega))))); have hP4 := Whl.below ((hP3.alloc _).alloc _) hb4 (by (have := hP3.low); (first | omega | (simp; done) | (simp; omega))); have hQ4 := Whl.below ((hQ3.alloc _).alloc _) hb4 (by (have := hQ3.low); (first | omega | (simp; done) | (simp; omega))); clear hb4)
      | (go_at_call 73; refine (refCut1 _ _ _ _ HCT.out).mono ?_; rintro e w3 ⟨rfl, hb3⟩; have HB3 := Lib.hid (Below.trans (show Below w.heap.size w _ by ((repeat (first | (with_reducible exact Below.refl _ _) | (with_reducible assumption) | ((with_reducible refine b_set ?_ ?_); · (first | omega | (simp; done) | (simp; omega))) | ((with_reducible refine b_alloc ?_ ?_); · (first | omega | (simp; done) | (simp; omega))) | (with_reducible refine Below.drew ?_) | (with_reducible refine b_drewN ?_) | ((with_reducible refine b_call (by assumption) ?_ ?_); · (first | omega | (simp; done) | (simp; omega))))); done)) (hb3.mono (by (first | omega | (simp; done) | (simp; omega))))); have hP3 := (show Whl _ w.heap.size 33 #[.int .i64 m.ver, .int .i64 m.nxt, .slice (some ⟨gz, 0, none⟩) m.zs.length cc] from (Whl.new rfl).alloc _).below hb3 (by (first | omega | (simp; done) | (simp; omega))); have hQ3 := (show Whl _ (w.heap.size + 1) 39 #[.int .i64 z.id, .string z.fr, .string z.tt, .int .i64 z.ow, .int .i64 z.ep, .int .i64 z.pd, .int .i64 z.mv, .string z.ky, .int .i64 z.nw] from Whl.new (by (first | omega | (simp; done) | (simp; omega)))).below hb3 (by (first | omega | (simp; done) | (simp; omega))); have y6 := hQ3.cell 6; have y8 := hQ3.cell 8; have x1 := hP3.cell 1; have x2 := hP3.cell 2; simp only [List.getElem?_toArray, List.getElem?_cons_succ, List.getElem?_cons_zero] at y6 y8 x1 x2; have hs3 := hb3.size; (try simp at hs3); clear hb3)
      | fail)
    go_ret
    exact ⟨ret_bool (HNB.out (fun h => C4.out (fun j hj => by (have := h.no j hj; rw [← HZ.out] at this; exact this)))).symm, HB4.out⟩
  have C2 := Lib.hid c2
  have C3 := Lib.hid c3
  have C4 := Lib.hid c4
  clear c4
  go_enter Try.func87, Try.ntmps87
  go_wp2_with (first
    | (go_at_call 40; refine (rdFind B _ m.zs z.nw _ (row_belowZ HR.out (by (have h9 := HB3.out; ((repeat (first | (with_reducible exact Below.refl _ _) | (with_reducible assumption) | ((with_reducible refine b_set ?_ ?_); · (first | omega | (simp; done) | (simp; omega))) | ((with_reducible refine b_alloc ?_ ?_); · (first | omega | (simp; done) | (simp; omega))) | (with_reducible refine Below.drew ?_) | (with_reducible refine b_drewN ?_) | ((with_reducible refine b_call (by assumption) ?_ ?_); · (first | omega | (simp; done) | (simp; omega))))); done)))) (by omega)).mono ?_; rintro e w4 ⟨k2, rfl, hk2, hb4⟩; obtain rfl : k2 = -1 := (by rcases hk2 with ⟨h, _⟩ | ⟨j, _, hj, hjd, _⟩; exact h; exact absurd hjd (C4.out j hj)); clear hk2; have HB4 := Lib.hid (Below.trans (show Below w.heap.size w _ by (have h9 := HB3.out; ((repeat (first | (with_reducible exact Below.refl _ _) | (with_reducible assumption) | ((with_reducible refine b_set ?_ ?_); · (first | omega | (simp; done) | (simp; omega))) | ((with_reducible refine b_alloc ?_ ?_); · (first | omega | (simp; done) | (simp; omega))) | (with_reducible refine Below.drew ?_) | (with_reducible refine b_drewN ?_) | ((with_reducible refine b_call (by assumption) ?_ ?_); · (first | omega | (simp; done) | (simp; omega))))); done))) (hb4.mono (by (have h9 := HB3.out.size); (first | omega | (simp; done) | (simp; omega))))); have hP4 := Whl.below ((hP3.alloc _).alloc _) hb4 (by (have := hP3.low); (first | omega | (simp; done) | (simp; omega))); have hQ4 := Whl.below ((hQ3.alloc _).alloc _) hb4 (by (have := hQ3.low); (first | omega | (simp; done) | (simp; omega))); clear hb4)
    | (go_at_call 73; refine (refCut1 _ _ _ _ HCT.out).mono ?_; rintro e w3 ⟨rfl, hb3⟩; have HB3 := Lib.hid (Below.trans (show Below w.heap.size w _ by ((repeat (first | (with_reducible exact Below.refl _ _) | (with_reducible assumption) | ((with_reducible refine b_set ?_ ?_); · (first | omega | (simp; done) | (simp; omega))) | ((with_reducible refine b_alloc ?_ ?_); · (first | omega | (simp; done) | (simp; omega))) | (with_reducible refine Below.drew ?_) | (with_reducible refine b_drewN ?_) | ((with_reducible refine b_call (by assumption) ?_ ?_); · (first | omega | (simp; done) | (simp; omega))))); done)) (hb3.mono (by (first | omega | (simp; done) | (simp; omega))))); have hP3 := (show Whl _ w.heap.size 33 #[.int .i64 m.ver, .int .i64 m.nxt, .slice (some ⟨gz, 0, none⟩) m.zs.length cc] from (Whl.new rfl).alloc _).below hb3 (by (first | omega | (simp; done) | (simp; omega))); have hQ3 := (show Whl _ (w.heap.size + 1) 39 #[.int .i64 z.id, .string z.fr, .string z.tt, .int .i64 z.ow, .int .i64 z.ep, .int .i64 z.pd, .int .i64 z.mv, .string z.ky, .int .i64 z.nw] from Whl.new (by (first | omega | (simp; done) | (simp; omega)))).below hb3 (by (first | omega | (simp; done) | (simp; omega))); have y6 := hQ3.cell 6; have y8 := hQ3.cell 8; have x1 := hP3.cell 1; have x2 := hP3.cell 2; simp only [List.getElem?_toArray, List.getElem?_cons_succ, List.getElem?_cons_zero] at y6 y8 x1 x2; have hs3 := hb3.size; (try simp at hs3); clear hb3)
    | fail)
  have x2 := hP4.cell 2
  have y7 := hQ4.cell 8
  simp only [List.getElem?_toArray, List.getElem?_cons_succ, List.getElem?_cons_zero] at x2 y7
  have hxl := hP4.low
  have hyl := hQ4.low
  clear hs3 hP3 hQ3 hP4 hQ4 v0 v1 v2 v3 v4 v5 v6 v7 v8 y6 y8 x1
  have hs4 := HB4.out.size
  go_loopw [9] (fun kv wk => ∃ k : Nat, k ≤ m.zs.length ∧ kv = .int .i64 k ∧ (∀ j (hj : j < m.zs.length), j < k → j ≠ i → m.zs[j].pd = 1 → m.zs[j].nw ≠ z.nw) ∧ Below w4.heap.size w4 wk) (fun kv _ => m.zs.length - (intOf kv).toNat)
  case atStart => exact ⟨0, Nat.zero_le _, rfl, fun j hj h => absurd h (Nat.not_lt_zero _), Below.refl _ _⟩
  case round =>
    obtain ⟨k, hkl, rfl, hno, hBk⟩ := hrel
    have HNO := Lib.hid hno
    have HBW := Lib.hid (HB4.out.trans (hBk.mono hs4))
    have x2 := bkeep hBk x2 hxl
    have y7 := bkeep hBk y7 hyl
    have hr := row_belowZ HR.out HBW.out
    have HBK := Lib.hid hBk
    clear hBk hno
    by_cases hkt : k < m.zs.length
    · have q5 : (k : Int) < (m.zs.length : Int) := by omega
      obtain ⟨y, hy⟩ : ∃ z, z = m.zs[k] := ⟨_, rfl⟩
      obtain ⟨_, _, _, _, _, u5, _, _, u8⟩ := rowZ_at hr hkt
      rw [← hy] at u5 u8
      have HY := Lib.hid hy
      clear hy hr
      have go : ∀ (P : k ≠ i → y.pd = 1 → y.nw ≠ z.nw), ∀ j (hj : j < m.zs.length), j < k + 1 → j ≠ i → m.zs[j].pd = 1 → m.zs[j].nw ≠ z.nw := fun P j hj h1 h2 h3 => by
        by_cases e : j = k
        · subst e
          rw [← HY.out] at h3 ⊢
          exact P h2 h3
        · exact HNO.out j hj (by omega) h2 h3
      have GO := Lib.hid go
      clear go
      by_cases hki : k = i
      · have hn1 : ((k : Int) != (i : Int)) = false := by simp; omega
        have HKI := Lib.hid hki
        clear hki
        go_wp2_with fail
        go_quiet (fail)
        go_wp2_with fail
        exact ⟨⟨k + 1, hkt, by go_num, GO.out (fun h => absurd HKI.out h), b_drewN HBK.out⟩, measZ hkt⟩
      · have hn1 : ((k : Int) != (i : Int)) = true := by simp; omega
        by_cases hp1 : y.pd = 1
        · by_cases hne : y.nw = z.nw
          · have hn2 : (y.nw == z.nw) = true := by simpa using hne
            have HNE := Lib.hid hne
            have HP1 := Lib.hid hp1
            clear hne
            go_wp2_with fail
            go_quiet (fail)
            go_wp2_with fail
            go_ret
            exact ⟨ret_bool (HNB.out (fun h => h.one k hkt hki (by rw [← HY.out]; exact HP1.out) (by rw [← HY.out, ← HZ.out]; exact HNE.out))).symm, b_drewN HBW.out⟩
          · have hn2 : (y.nw == z.nw) = false := by simpa using hne
            have HNE := Lib.hid hne
            clear hne
            go_wp2_with fail
            go_quiet (fail)
            go_wp2_with fail
            exact ⟨⟨k + 1, hkt, by go_num, GO.out (fun _ _ => HNE.out), b_drewN HBK.out⟩, measZ hkt⟩
        · have hn2 : (y.pd == 1) = false := by simpa using hp1
          have HP1 := Lib.hid hp1
          go_wp2_with fail
          go_quiet (fail)
          go_wp2_with fail
          exact ⟨⟨k + 1, hkt, by go_num, GO.out (fun _ h => absurd h HP1.out), b_drewN HBK.out⟩, measZ hkt⟩
    · obtain rfl : m.zs.length = k := by omega
      go_wp2_with fail
      go_ret
      refine ⟨ret_bool (HYB.out ⟨by rw [← HZ.out]; exact HCT.out, by rw [← HZ.out]; exact C1.out, by rw [← HZ.out]; (have := C2.out; omega), by rw [← HZ.out]; (have := C3.out; omega), by rw [← HZ.out]; exact C4.out, fun k hk hne hp => ?_⟩).symm, HBW.out⟩
      rw [← HZ.out]
      exact HNO.out k hk hk hne hp
end Go.Proofs.Ytbohpjinkdffhaa
namespace Go.Proofs.Ytbohpjinkdffhaa
open Go.RowKit
set_option linter.unusedVariables false
set_option linter.unusedSimpArgs false
def flatS : List (ByteArray × ByteArray) → List Value
  | [] => []
  | p :: r => .string p.1 :: .string p.2 :: flatS r
theorem flatS_app (xs ys : List (ByteArray × ByteArray)) : flatS (xs ++ ys) = flatS xs ++ flatS ys := by
  induction xs with
  | nil => rfl
  | cons p r ih => simp only [List.cons_append, flatS, ih]
theorem flatS_get : ∀ (xs : List (ByteArray × ByteArray)) (k : Nat) (h : k < xs.length), (flatS xs)[k * 2]? = some (.string xs[k].1) ∧ (flatS xs)[k * 2 + 1]? = some (.string xs[k].2)
  | p :: r, 0, _ => ⟨rfl, rfl⟩
  | p :: r, k + 1, h => by
    have := flatS_get r k (by simpa using h)
    simp only [flatS, List.getElem_cons_succ]
    rw [show (k + 1) * 2 = k * 2 + 1 + 1 from by omega, show k * 2 + 1 + 1 + 1 = (k * 2 + 1) + 1 + 1 from by omega]
    simpa using this
theorem Try.infoSpan2 : (Try.prog.info? 37).map (fun i => (i.zero, i.size, i.bytes)) = some (some (.agg #[.string ⟨#[]⟩, .string ⟨#[]⟩]), 2, 32) := by kernel_rfl
theorem spans_of_row {w : World} {B g c : Nat} {xs : List (ByteArray × ByteArray)} (h : w.ownsRow B 37 2 (.slice (some ⟨g, 0, none⟩) xs.length c) xs.length (flatS xs)) (hg : g < w.heap.size) : Spans w w.heap.size (some ⟨g, 0, none⟩) xs := by
  intro k hk
  obtain ⟨y0, y1⟩ := flatS_get xs k hk
  refine ⟨g, 0, rfl, hg, ?_, ?_⟩
  · rw [Nat.zero_add]; exact (h.cellAt (k * 2) (by omega)).trans y0
  · rw [Nat.zero_add]; exact (h.cellAt (k * 2 + 1) (by omega)).trans y1
theorem spans_take1 {l : List Zn} {k : Nat} (h : k < l.length) : flatS (spansZ (l.take (k + 1))) = flatS (spansZ (l.take k)) ++ [.string l[k].fr, .string l[k].tt] := by
  rw [List.take_add_one, List.getElem?_eq_getElem h, spans_app, flatS_app]
  rfl
end Go.Proofs.Ytbohpjinkdffhaa
