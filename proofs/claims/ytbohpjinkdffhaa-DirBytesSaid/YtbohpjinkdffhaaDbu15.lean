/- The directory: a merge is done. -/
import Derived.Test.YtbohpjinkdffhaaProg
import Derived.WalkKit
import Derived.WalkSpells
import Derived.WalkLawsBesides
import Derived.Deep.QuietTactic
import Derived.BigQuiet
import Derived.RegionTactic
import Derived.BigRegion
import Derived.Outline
import Derived.LoopTactic
import Derived.Lib.Hide
import Derived.Deep.RegionHeld3
import GoSem.Op.String
import Derived.Lib.Strings
import Derived.Laws.AppendOwnNone
import Derived.Deep.AppendLies
import Derived.Maps.AppendAt
import Derived.Laws.Rows
import Derived.Deep.Cut
import Derived.StillTailTactics
import Derived.Laws.IdiomCopy
import Derived.Lib.AppendZerosOnto
import Derived.Lib.Overlaps
import Derived.Lib.ReflectliteSwap
import Derived.Deep.RegionLaw
import Derived.Deep.DeepCutAuto
import Derived.Test.YtbohpjinkdffhaaDbu0
import Derived.Test.YtbohpjinkdffhaaDbu3
import Derived.Test.YtbohpjinkdffhaaDbu6
import Derived.Test.YtbohpjinkdffhaaDbu9
import Derived.Test.YtbohpjinkdffhaaDbu10
import Derived.Test.YtbohpjinkdffhaaDbu11
import Derived.Test.YtbohpjinkdffhaaDbu12
import Derived.Test.YtbohpjinkdffhaaDbu13
import Derived.Test.YtbohpjinkdffhaaDbu14
namespace Go.Proofs.Ytbohpjinkdffhaa
open Go.RowKit
set_option linter.unusedVariables false
set_option linter.unusedSimpArgs false
theorem del_flat {l : List Zn} {i : Nat} (h : i < l.length) (a : Zn) : flatZ (l.take i ++ a :: l.drop (i + 2)) = (flatZ (l.set i a)).take ((i + 1) * 9) ++ (flatZ (l.set i a)).drop ((i + 1 + 1) * 9) := by
  rw [← flatZ_take, ← flatZ_drop, take_set1 h, List.drop_set_of_lt (by omega)]
  simp [flatZ]
set_option maxRecDepth 10000 in
theorem boxZ (U : World) (y : Zn) (N : Nat) (hN : N = U.heap.size) : Whl ((((((((((U.alloc (.cells #[.int .i64 0, .string ⟨#[]⟩, .string ⟨#[]⟩, .int .i64 0, .int .i64 0, .int .i64 0, .int .i64 0, .string ⟨#[]⟩, .int .i64 0] 39)).setCell ⟨N, 0, none⟩ (.int .i64 y.id)).setCell ⟨N, 1, none⟩ (.string y.fr)).setCell ⟨N, 2, none⟩ (.string y.tt)).setCell ⟨N, 3, none⟩ (.int .i64 y.ow)).setCell ⟨N, 4, none⟩ (.int .i64 y.ep)).setCell ⟨N, 5, none⟩ (.int .i64 y.pd)).setCell ⟨N, 6, none⟩ (.int .i64 y.mv)).setCell ⟨N, 7, none⟩ (.string y.ky)).setCell ⟨N, 8, none⟩ (.int .i64 y.nw)) N 39 #[.int .i64 y.id, .string y.fr, .string y.tt, .int .i64 y.ow, .int .i64 y.ep, .int .i64 y.pd, .int .i64 y.mv, .string y.ky, .int .i64 y.nw] ∧ Below U.heap.size U ((((((((((U.alloc (.cells #[.int .i64 0, .string ⟨#[]⟩, .string ⟨#[]⟩, .int .i64 0, .int .i64 0, .int .i64 0, .int .i64 0, .string ⟨#[]⟩, .int .i64 0] 39)).setCell ⟨N, 0, none⟩ (.int .i64 y.id)).setCell ⟨N, 1, none⟩ (.string y.fr)).setCell ⟨N, 2, none⟩ (.string y.tt)).setCell ⟨N, 3, none⟩ (.int .i64 y.ow)).setCell ⟨N, 4, none⟩ (.int .i64 y.ep)).setCell ⟨N, 5, none⟩ (.int .i64 y.pd)).setCell ⟨N, 6, none⟩ (.int .i64 y.mv)).setCell ⟨N, 7, none⟩ (.string y.ky)).setCell ⟨N, 8, none⟩ (.int .i64 y.nw)) ∧ ((((((((((U.alloc (.cells #[.int .i64 0, .string ⟨#[]⟩, .string ⟨#[]⟩, .int .i64 0, .int .i64 0, .int .i64 0, .int .i64 0, .string ⟨#[]⟩, .int .i64 0] 39)).setCell ⟨N, 0, none⟩ (.int .i64 y.id)).setCell ⟨N, 1, none⟩ (.string y.fr)).setCell ⟨N, 2, none⟩ (.string y.tt)).setCell ⟨N, 3, none⟩ (.int .i64 y.ow)).setCell ⟨N, 4, none⟩ (.int .i64 y.ep)).setCell ⟨N, 5, none⟩ (.int .i64 y.pd)).setCell ⟨N, 6, none⟩ (.int .i64 y.mv)).setCell ⟨N, 7, none⟩ (.string y.ky)).setCell ⟨N, 8, none⟩ (.int .i64 y.nw)).heap.size = U.heap.size + 1 := by
  have h0 : Whl (U.alloc (.cells #[.int .i64 0, .string ⟨#[]⟩, .string ⟨#[]⟩, .int .i64 0, .int .i64 0, .int .i64 0, .int .i64 0, .string ⟨#[]⟩, .int .i64 0] 39)) N 39 #[.int .i64 0, .string ⟨#[]⟩, .string ⟨#[]⟩, .int .i64 0, .int .i64 0, .int .i64 0, .int .i64 0, .string ⟨#[]⟩, .int .i64 0] := Whl.new hN
  have s0 : (U.alloc (.cells #[.int .i64 0, .string ⟨#[]⟩, .string ⟨#[]⟩, .int .i64 0, .int .i64 0, .int .i64 0, .int .i64 0, .string ⟨#[]⟩, .int .i64 0] 39)).heap.size = U.heap.size + 1 := by simp
  have b0 : Below U.heap.size U (U.alloc (.cells #[.int .i64 0, .string ⟨#[]⟩, .string ⟨#[]⟩, .int .i64 0, .int .i64 0, .int .i64 0, .int .i64 0, .string ⟨#[]⟩, .int .i64 0] 39)) := (Below.refl _ _).alloc (Nat.le_refl _) _
  have h1 := h0.set 0 (.int .i64 y.id)
  simp only [List.setIfInBounds_toArray, List.set_cons_zero, List.set_cons_succ] at h1
  have b1 : Below U.heap.size U ((U.alloc (.cells #[.int .i64 0, .string ⟨#[]⟩, .string ⟨#[]⟩, .int .i64 0, .int .i64 0, .int .i64 0, .int .i64 0, .string ⟨#[]⟩, .int .i64 0] 39)).setCell ⟨N, 0, none⟩ (.int .i64 y.id)) := b_set (by rw [hN]; exact Nat.le_refl _) b0
  have h2 := h1.set 1 (.string y.fr)
  simp only [List.setIfInBounds_toArray, List.set_cons_zero, List.set_cons_succ] at h2
  have b2 : Below U.heap.size U (((U.alloc (.cells #[.int .i64 0, .string ⟨#[]⟩, .string ⟨#[]⟩, .int .i64 0, .int .i64 0, .int .i64 0, .int .i64 0, .string ⟨#[]⟩, .int .i64 0] 39)).setCell ⟨N, 0, none⟩ (.int .i64 y.id)).setCell ⟨N, 1, none⟩ (.string y.fr)) := b_set (by rw [hN]; exact Nat.le_refl _) b1
  have h3 := h2.set 2 (.string y.tt)
  simp only [List.setIfInBounds_toArray, List.set_cons_zero, List.set_cons_succ] at h3
  have b3 : Below U.heap.size U ((((U.alloc (.cells #[.int .i64 0, .string ⟨#[]⟩, .string ⟨#[]⟩, .int .i64 0, .int .i64 0, .int .i64 0, .int .i64 0, .string ⟨#[]⟩, .int .i64 0] 39)).setCell ⟨N, 0, none⟩ (.int .i64 y.id)).setCell ⟨N, 1, none⟩ (.string y.fr)).setCell ⟨N, 2, none⟩ (.string y.tt)) := b_set (by rw [hN]; exact Nat.le_refl _) b2
  have h4 := h3.set 3 (.int .i64 y.ow)
  simp only [List.setIfInBounds_toArray, List.set_cons_zero, List.set_cons_succ] at h4
  have b4 : Below U.heap.size U (((((U.alloc (.cells #[.int .i64 0, .string ⟨#[]⟩, .string ⟨#[]⟩, .int .i64 0, .int .i64 0, .int .i64 0, .int .i64 0, .string ⟨#[]⟩, .int .i64 0] 39)).setCell ⟨N, 0, none⟩ (.int .i64 y.id)).setCell ⟨N, 1, none⟩ (.string y.fr)).setCell ⟨N, 2, none⟩ (.string y.tt)).setCell ⟨N, 3, none⟩ (.int .i64 y.ow)) := b_set (by rw [hN]; exact Nat.le_refl _) b3
  have h5 := h4.set 4 (.int .i64 y.ep)
  simp only [List.setIfInBounds_toArray, List.set_cons_zero, List.set_cons_succ] at h5
  have b5 : Below U.heap.size U ((((((U.alloc (.cells #[.int .i64 0, .string ⟨#[]⟩, .string ⟨#[]⟩, .int .i64 0, .int .i64 0, .int .i64 0, .int .i64 0, .string ⟨#[]⟩, .int .i64 0] 39)).setCell ⟨N, 0, none⟩ (.int .i64 y.id)).setCell ⟨N, 1, none⟩ (.string y.fr)).setCell ⟨N, 2, none⟩ (.string y.tt)).setCell ⟨N, 3, none⟩ (.int .i64 y.ow)).setCell ⟨N, 4, none⟩ (.int .i64 y.ep)) := b_set (by rw [hN]; exact Nat.le_refl _) b4
  have h6 := h5.set 5 (.int .i64 y.pd)
  simp only [List.setIfInBounds_toArray, List.set_cons_zero, List.set_cons_succ] at h6
  have b6 : Below U.heap.size U (((((((U.alloc (.cells #[.int .i64 0, .string ⟨#[]⟩, .string ⟨#[]⟩, .int .i64 0, .int .i64 0, .int .i64 0, .int .i64 0, .string ⟨#[]⟩, .int .i64 0] 39)).setCell ⟨N, 0, none⟩ (.int .i64 y.id)).setCell ⟨N, 1, none⟩ (.string y.fr)).setCell ⟨N, 2, none⟩ (.string y.tt)).setCell ⟨N, 3, none⟩ (.int .i64 y.ow)).setCell ⟨N, 4, none⟩ (.int .i64 y.ep)).setCell ⟨N, 5, none⟩ (.int .i64 y.pd)) := b_set (by rw [hN]; exact Nat.le_refl _) b5
  have h7 := h6.set 6 (.int .i64 y.mv)
  simp only [List.setIfInBounds_toArray, List.set_cons_zero, List.set_cons_succ] at h7
  have b7 : Below U.heap.size U ((((((((U.alloc (.cells #[.int .i64 0, .string ⟨#[]⟩, .string ⟨#[]⟩, .int .i64 0, .int .i64 0, .int .i64 0, .int .i64 0, .string ⟨#[]⟩, .int .i64 0] 39)).setCell ⟨N, 0, none⟩ (.int .i64 y.id)).setCell ⟨N, 1, none⟩ (.string y.fr)).setCell ⟨N, 2, none⟩ (.string y.tt)).setCell ⟨N, 3, none⟩ (.int .i64 y.ow)).setCell ⟨N, 4, none⟩ (.int .i64 y.ep)).setCell ⟨N, 5, none⟩ (.int .i64 y.pd)).setCell ⟨N, 6, none⟩ (.int .i64 y.mv)) := b_set (by rw [hN]; exact Nat.le_refl _) b6
  have h8 := h7.set 7 (.string y.ky)
  simp only [List.setIfInBounds_toArray, List.set_cons_zero, List.set_cons_succ] at h8
  have b8 : Below U.heap.size U (((((((((U.alloc (.cells #[.int .i64 0, .string ⟨#[]⟩, .string ⟨#[]⟩, .int .i64 0, .int .i64 0, .int .i64 0, .int .i64 0, .string ⟨#[]⟩, .int .i64 0] 39)).setCell ⟨N, 0, none⟩ (.int .i64 y.id)).setCell ⟨N, 1, none⟩ (.string y.fr)).setCell ⟨N, 2, none⟩ (.string y.tt)).setCell ⟨N, 3, none⟩ (.int .i64 y.ow)).setCell ⟨N, 4, none⟩ (.int .i64 y.ep)).setCell ⟨N, 5, none⟩ (.int .i64 y.pd)).setCell ⟨N, 6, none⟩ (.int .i64 y.mv)).setCell ⟨N, 7, none⟩ (.string y.ky)) := b_set (by rw [hN]; exact Nat.le_refl _) b7
  have h9 := h8.set 8 (.int .i64 y.nw)
  simp only [List.setIfInBounds_toArray, List.set_cons_zero, List.set_cons_succ] at h9
  have b9 : Below U.heap.size U ((((((((((U.alloc (.cells #[.int .i64 0, .string ⟨#[]⟩, .string ⟨#[]⟩, .int .i64 0, .int .i64 0, .int .i64 0, .int .i64 0, .string ⟨#[]⟩, .int .i64 0] 39)).setCell ⟨N, 0, none⟩ (.int .i64 y.id)).setCell ⟨N, 1, none⟩ (.string y.fr)).setCell ⟨N, 2, none⟩ (.string y.tt)).setCell ⟨N, 3, none⟩ (.int .i64 y.ow)).setCell ⟨N, 4, none⟩ (.int .i64 y.ep)).setCell ⟨N, 5, none⟩ (.int .i64 y.pd)).setCell ⟨N, 6, none⟩ (.int .i64 y.mv)).setCell ⟨N, 7, none⟩ (.string y.ky)).setCell ⟨N, 8, none⟩ (.int .i64 y.nw)) := b_set (by rw [hN]; exact Nat.le_refl _) b8
  exact ⟨h9, b9, by simp⟩
set_option maxHeartbeats 8000000 in
set_option maxRecDepth 10000 in
theorem drMergeDone (B d i : Nat) (hv zv : Value) (hosts : List Int) (m : Mp) (c : Ch) (hi : i < m.zs.length) (w : World) (h : DrH w B d hv zv hosts m) (hB : B ≤ w.heap.size) (hl : m.zs.length ≤ 1000) (hkd : c.kd = 4) (hpd : m.zs[i].pd = 2) (hep : m.zs[i].ep = c.ep) (hep0 : ∀ z ∈ m.zs, 0 ≤ z.ep) :
    Calls Try.prog 93 #[.pointer (some ⟨d, 0, none⟩), .int .i64 i] w fun e w' => DeedQ B d hv zv hosts m c i hi w e w' := by
  have HD := Lib.hid h
  have l3 := h.blk.cell 3
  simp only [List.getElem?_toArray, List.getElem?_cons_succ, List.getElem?_cons_zero] at l3
  obtain ⟨gz, cc, hzv, _, hgz, hnc, hcm⟩ := own_form h.row (by omega)
  subst hzv
  have hdl := h.blk.low
  have q3 : (i : Int) < (m.zs.length : Int) := by omega
  have hwi : IntKind.i64.wrap ((i : Int) + 1) = (i : Int) + 1 := by rw [IntKind.wrap_i64]; omega
  have hwi2 : IntKind.i64.wrap ((i : Int) + 2) = (i : Int) + 2 := by rw [IntKind.wrap_i64]; omega
  obtain ⟨a, ha⟩ : ∃ z, z = m.zs[i] := ⟨_, rfl⟩
  have HEP0 := Lib.hid hep0
  obtain ⟨v0, v1, v2, v3, v4, v5, v6, v7, v8⟩ := rowZ_at h.row hi
  rw [← ha] at v0 v1 v2 v3 v4 v5 v6 v7 v8 hpd hep
  have HA := Lib.hid ha
  have HKD := Lib.hid hkd
  have HEP := Lib.hid hep
  have HPD := Lib.hid hpd
  clear hkd ha hep hpd hep0
  by_cases h2 : i + 1 < m.zs.length
  case neg =>
    clear h
    have q4 : decide ((m.zs.length : Int) ≤ (i : Int) + 1) = true := decide_eq_true (by omega)
    go_enter Try.func93, Try.ntmps93
    go_wp2_with fail
    go_quiet (fail)
    go_wp2_with fail
    refine bodyPost_ret (v := .bool false) (by simp [results, Try.results93, go_sem, *]) rfl (.inr ⟨fun m1 hd => ?_, rfl, b_drewN (Below.refl _ _)⟩)
    have hkd := HKD.out
    have hpd := HPD.out
    rw [HA.out] at hpd
    cases hd <;> first | omega | skip

  have q4 : decide ((m.zs.length : Int) ≤ (i : Int) + 1) = false := decide_eq_false (by omega)
  have q5 : (i : Int) + 1 < (m.zs.length : Int) := by omega
  have q6 : (0 : Int) ≤ (i : Int) + 1 := by omega
  obtain ⟨b, hb⟩ : ∃ z, z = m.zs[i + 1] := ⟨_, rfl⟩
  obtain ⟨u0, u1, u2, u3, u4, u5, u6, u7, u8⟩ := rowZ_at h.row h2
  rw [← hb] at u0 u1 u2 u3 u4 u5 u6 u7 u8
  have ei : (i + 1) * 9 = i * 9 + 9 := by omega
  rw [ei] at u0 u1 u2 u3 u4 u5 u6 u7 u8
  simp only [Nat.add_assoc, Nat.reduceAdd] at u0 u1 u2 u3 u4 u5 u6 u7 u8
  have HB := Lib.hid hb
  clear h hb
  by_cases hid : b.id = a.nw
  case neg =>
    have hn2 : (b.id != a.nw) = true := by simpa using hid
    go_enter Try.func93, Try.ntmps93
    go_wp2_with fail
    go_quiet (fail)
    go_wp2_with fail
    refine bodyPost_ret (v := .bool false) (by simp [results, Try.results93, go_sem, *]) rfl (.inr ⟨fun m1 hd => ?_, rfl, b_drewN (Below.refl _ _)⟩)
    have hkd := HKD.out
    have hpd := HPD.out
    rw [HA.out] at hpd
    cases hd <;> first | omega | (exact hid (by rw [HA.out, HB.out]; assumption))

  have hn2 : (b.id != a.nw) = false := by simpa using hid
  have HID := Lib.hid hid
  clear hid
  go_enter Try.func93, Try.ntmps93
  go_wp2_with fail
  go_quiet (fail)
  go_upto_region 3 with fail
  have hkeep : ∀ W, Below w.heap.size w W → (Below w.heap.size w W ∧ W.cell? ⟨d, 3, none⟩ = some (.slice (some ⟨gz, 0, none⟩) m.zs.length cc) ∧ W.cell? ⟨gz, i * 9, none⟩ = some (.int .i64 a.id) ∧ W.cell? ⟨gz, i * 9 + 1, none⟩ = some (.string a.fr) ∧ W.cell? ⟨gz, i * 9 + 2, none⟩ = some (.string a.tt) ∧ W.cell? ⟨gz, i * 9 + 3, none⟩ = some (.int .i64 a.ow) ∧ W.cell? ⟨gz, i * 9 + 4, none⟩ = some (.int .i64 a.ep) ∧ W.cell? ⟨gz, i * 9 + 5, none⟩ = some (.int .i64 a.pd) ∧ W.cell? ⟨gz, i * 9 + 6, none⟩ = some (.int .i64 a.mv) ∧ W.cell? ⟨gz, i * 9 + 7, none⟩ = some (.string a.ky) ∧ W.cell? ⟨gz, i * 9 + 8, none⟩ = some (.int .i64 a.nw) ∧ W.cell? ⟨gz, i * 9 + 9, none⟩ = some (.int .i64 b.id) ∧ W.cell? ⟨gz, i * 9 + 10, none⟩ = some (.string b.fr) ∧ W.cell? ⟨gz, i * 9 + 11, none⟩ = some (.string b.tt) ∧ W.cell? ⟨gz, i * 9 + 12, none⟩ = some (.int .i64 b.ow) ∧ W.cell? ⟨gz, i * 9 + 13, none⟩ = some (.int .i64 b.ep) ∧ W.cell? ⟨gz, i * 9 + 14, none⟩ = some (.int .i64 b.pd) ∧ W.cell? ⟨gz, i * 9 + 15, none⟩ = some (.int .i64 b.mv) ∧ W.cell? ⟨gz, i * 9 + 16, none⟩ = some (.string b.ky) ∧ W.cell? ⟨gz, i * 9 + 17, none⟩ = some (.int .i64 b.nw)) := fun W hh => ⟨hh, bkeep hh l3 hdl, bkeep hh v0 hgz, bkeep hh v1 hgz, bkeep hh v2 hgz, bkeep hh v3 hgz, bkeep hh v4 hgz, bkeep hh v5 hgz, bkeep hh v6 hgz, bkeep hh v7 hgz, bkeep hh v8 hgz, bkeep hh u0 hgz, bkeep hh u1 hgz, bkeep hh u2 hgz, bkeep hh u3 hgz, bkeep hh u4 hgz, bkeep hh u5 hgz, bkeep hh u6 hgz, bkeep hh u7 hgz, bkeep hh u8 hgz⟩
  have HKP := Lib.hid hkeep
  clear hkeep
  go_cut [5, 6] (fun p q wx => Below w.heap.size w wx ∧ ∃ P Q : Nat, p = .pointer (some ⟨P, 0, none⟩) ∧ q = .pointer (some ⟨Q, 0, none⟩) ∧ P ≠ Q ∧ w.heap.size ≤ P ∧ w.heap.size ≤ Q ∧ Whl wx P 39 #[.int .i64 a.id, .string a.fr, .string a.tt, .int .i64 a.ow, .int .i64 a.ep, .int .i64 a.pd, .int .i64 a.mv, .string a.ky, .int .i64 a.nw] ∧ Whl wx Q 39 #[.int .i64 b.id, .string b.fr, .string b.tt, .int .i64 b.ow, .int .i64 b.ep, .int .i64 b.pd, .int .i64 b.mv, .string b.ky, .int .i64 b.nw])
  case first =>
    refine wp_region_held_drew (S := (fun W => Below w.heap.size w W ∧ W.cell? ⟨d, 3, none⟩ = some (.slice (some ⟨gz, 0, none⟩) m.zs.length cc) ∧ W.cell? ⟨gz, i * 9, none⟩ = some (.int .i64 a.id) ∧ W.cell? ⟨gz, i * 9 + 1, none⟩ = some (.string a.fr) ∧ W.cell? ⟨gz, i * 9 + 2, none⟩ = some (.string a.tt) ∧ W.cell? ⟨gz, i * 9 + 3, none⟩ = some (.int .i64 a.ow) ∧ W.cell? ⟨gz, i * 9 + 4, none⟩ = some (.int .i64 a.ep) ∧ W.cell? ⟨gz, i * 9 + 5, none⟩ = some (.int .i64 a.pd) ∧ W.cell? ⟨gz, i * 9 + 6, none⟩ = some (.int .i64 a.mv) ∧ W.cell? ⟨gz, i * 9 + 7, none⟩ = some (.string a.ky) ∧ W.cell? ⟨gz, i * 9 + 8, none⟩ = some (.int .i64 a.nw) ∧ W.cell? ⟨gz, i * 9 + 9, none⟩ = some (.int .i64 b.id) ∧ W.cell? ⟨gz, i * 9 + 10, none⟩ = some (.string b.fr) ∧ W.cell? ⟨gz, i * 9 + 11, none⟩ = some (.string b.tt) ∧ W.cell? ⟨gz, i * 9 + 12, none⟩ = some (.int .i64 b.ow) ∧ W.cell? ⟨gz, i * 9 + 13, none⟩ = some (.int .i64 b.ep) ∧ W.cell? ⟨gz, i * 9 + 14, none⟩ = some (.int .i64 b.pd) ∧ W.cell? ⟨gz, i * 9 + 15, none⟩ = some (.int .i64 b.mv) ∧ W.cell? ⟨gz, i * 9 + 16, none⟩ = some (.string b.ky) ∧ W.cell? ⟨gz, i * 9 + 17, none⟩ = some (.int .i64 b.nw))) (by kernel_rfl) (HKP.out _ (b_drewN (b_drewN (Below.refl _ _)))) (fun hHeld => ?_)
    refine wpAnyH_take (i := 0) (oi := ⟨some 41, _, _, _, _, _⟩) (v := ?v0r_1) rfl (by kernel_rfl) (by kernel_rfl) (by kernel_rfl) (fun _ _ _ h => h) (Or.inl ⟨by rfl, ?y0r_1⟩) (by assumption) ?r0r_1
    case y0r_1 => (intro w hSw; (try dsimp only at hSw); (try go_split_ands); go_simp); (try with_reducible rfl)
    case r0r_1 =>
    (try simp only [Act.put, List.setIfInBounds_toArray, List.set_cons_zero, List.set_cons_succ])
    refine wpAnyH_take (i := 1) (oi := ⟨some 42, _, _, _, _, _⟩) (v := ?v1r_4) rfl (by kernel_rfl) (by kernel_rfl) (by kernel_rfl) (fun _ _ _ h => h) (Or.inl ⟨by rfl, ?y1r_4⟩) (by assumption) ?r1r_4
    case y1r_4 => (intro w hSw; (try dsimp only at hSw); (try go_split_ands); go_simp); (try with_reducible rfl)
    case r1r_4 =>
    (try simp only [Act.put, List.setIfInBounds_toArray, List.set_cons_zero, List.set_cons_succ])
    refine wpAnyH_take (i := 2) (oi := ⟨some 43, _, _, _, _, _⟩) (v := ?v2r_7) rfl (by kernel_rfl) (by kernel_rfl) (by kernel_rfl) (fun _ _ _ h => h) (Or.inl ⟨by rfl, ?y2r_7⟩) (by assumption) ?r2r_7
    case y2r_7 => (intro w hSw; (try dsimp only at hSw); (try go_split_ands); go_simp); (try with_reducible rfl)
    case r2r_7 =>
    (try simp only [Act.put, List.setIfInBounds_toArray, List.set_cons_zero, List.set_cons_succ])
    refine wpAnyH_take (i := 3) (oi := ⟨some 44, _, _, _, _, _⟩) (v := ?v3r_10) rfl (by kernel_rfl) (by kernel_rfl) (by kernel_rfl) (fun _ _ _ h => h) (Or.inl ⟨by rfl, ?y3r_10⟩) (by assumption) ?r3r_10
    case y3r_10 => (intro w hSw; (try dsimp only at hSw); (try go_split_ands); go_simp); (try with_reducible rfl)
    case r3r_10 =>
    (try simp only [Act.put, List.setIfInBounds_toArray, List.set_cons_zero, List.set_cons_succ])
    refine wpAnyH_take (i := 4) (oi := ⟨some 45, _, _, _, _, _⟩) (v := ?v4r_13) rfl (by kernel_rfl) (by kernel_rfl) (by kernel_rfl) (fun _ _ _ h => h) (Or.inl ⟨by rfl, ?y4r_13⟩) (by assumption) ?r4r_13
    case y4r_13 => (intro w hSw; (try dsimp only at hSw); (try go_split_ands); go_simp); (try with_reducible rfl)
    case r4r_13 =>
    (try simp only [Act.put, List.setIfInBounds_toArray, List.set_cons_zero, List.set_cons_succ])
    refine wpAnyH_take (i := 5) (oi := ⟨some 46, _, _, _, _, _⟩) (v := ?v5r_16) rfl (by kernel_rfl) (by kernel_rfl) (by kernel_rfl) (fun _ _ _ h => h) (Or.inl ⟨by rfl, ?y5r_16⟩) (by assumption) ?r5r_16
    case y5r_16 => (intro w hSw; (try dsimp only at hSw); (try go_split_ands); go_simp); (try with_reducible rfl)
    case r5r_16 =>
    (try simp only [Act.put, List.setIfInBounds_toArray, List.set_cons_zero, List.set_cons_succ])
    refine wpAnyH_take (i := 6) (oi := ⟨some 47, _, _, _, _, _⟩) (v := ?v6r_19) rfl (by kernel_rfl) (by kernel_rfl) (by kernel_rfl) (fun _ _ _ h => h) (Or.inl ⟨by rfl, ?y6r_19⟩) (by assumption) ?r6r_19
    case y6r_19 => (intro w hSw; (try dsimp only at hSw); (try go_split_ands); go_simp); (try with_reducible rfl)
    case r6r_19 =>
    (try simp only [Act.put, List.setIfInBounds_toArray, List.set_cons_zero, List.set_cons_succ])
    refine wpAnyH_take (i := 7) (oi := ⟨some 48, _, _, _, _, _⟩) (v := ?v7r_22) rfl (by kernel_rfl) (by kernel_rfl) (by kernel_rfl) (fun _ _ _ h => h) (Or.inl ⟨by rfl, ?y7r_22⟩) (by assumption) ?r7r_22
    case y7r_22 => (intro w hSw; (try dsimp only at hSw); (try go_split_ands); go_simp); (try with_reducible rfl)
    case r7r_22 =>
    (try simp only [Act.put, List.setIfInBounds_toArray, List.set_cons_zero, List.set_cons_succ])
    refine wpAnyH_take (i := 8) (oi := ⟨some 49, _, _, _, _, _⟩) (v := ?v8r_25) rfl (by kernel_rfl) (by kernel_rfl) (by kernel_rfl) (fun _ _ _ h => h) (Or.inl ⟨by rfl, ?y8r_25⟩) (by assumption) ?r8r_25
    case y8r_25 => (intro w hSw; (try dsimp only at hSw); (try go_split_ands); go_simp); (try with_reducible rfl)
    case r8r_25 =>
    (try simp only [Act.put, List.setIfInBounds_toArray, List.set_cons_zero, List.set_cons_succ])
    refine wpAnyH_take (i := 9) (oi := ⟨some 50, _, _, _, _, _⟩) (v := ?v9r_28) rfl (by kernel_rfl) (by kernel_rfl) (by kernel_rfl) (fun _ _ _ h => h) (Or.inl ⟨by rfl, ?y9r_28⟩) (by assumption) ?r9r_28
    case y9r_28 => (intro w hSw; (try dsimp only at hSw); (try go_split_ands); go_simp); (try with_reducible rfl)
    case r9r_28 =>
    (try simp only [Act.put, List.setIfInBounds_toArray, List.set_cons_zero, List.set_cons_succ])
    refine wpAnyH_take (i := 10) (oi := ⟨some 51, _, _, _, _, _⟩) (v := ?v10r_31) rfl (by kernel_rfl) (by kernel_rfl) (by kernel_rfl) (fun _ _ _ h => h) (Or.inl ⟨by rfl, ?y10r_31⟩) (by assumption) ?r10r_31
    case y10r_31 => (intro w hSw; (try dsimp only at hSw); (try go_split_ands); go_simp); (try with_reducible rfl)
    case r10r_31 =>
    (try simp only [Act.put, List.setIfInBounds_toArray, List.set_cons_zero, List.set_cons_succ])
    refine wpAnyH_take (i := 11) (oi := ⟨some 52, _, _, _, _, _⟩) (v := ?v11r_34) rfl (by kernel_rfl) (by kernel_rfl) (by kernel_rfl) (fun _ _ _ h => h) (Or.inl ⟨by rfl, ?y11r_34⟩) (by assumption) ?r11r_34
    case y11r_34 => (intro w hSw; (try dsimp only at hSw); (try go_split_ands); go_simp); (try with_reducible rfl)
    case r11r_34 =>
    (try simp only [Act.put, List.setIfInBounds_toArray, List.set_cons_zero, List.set_cons_succ])
    refine wpAnyH_take (i := 12) (oi := ⟨some 53, _, _, _, _, _⟩) (v := ?v12r_37) rfl (by kernel_rfl) (by kernel_rfl) (by kernel_rfl) (fun _ _ _ h => h) (Or.inl ⟨by rfl, ?y12r_37⟩) (by assumption) ?r12r_37
    case y12r_37 => (intro w hSw; (try dsimp only at hSw); (try go_split_ands); go_simp); (try with_reducible rfl)
    case r12r_37 =>
    (try simp only [Act.put, List.setIfInBounds_toArray, List.set_cons_zero, List.set_cons_succ])
    refine wpAnyH_take (i := 13) (oi := ⟨some 54, _, _, _, _, _⟩) (v := ?v13r_40) rfl (by kernel_rfl) (by kernel_rfl) (by kernel_rfl) (fun _ _ _ h => h) (Or.inl ⟨by rfl, ?y13r_40⟩) (by assumption) ?r13r_40
    case y13r_40 => (intro w hSw; (try dsimp only at hSw); (try go_split_ands); go_simp); (try with_reducible rfl)
    case r13r_40 =>
    (try simp only [Act.put, List.setIfInBounds_toArray, List.set_cons_zero, List.set_cons_succ])
    refine wpAnyH_take (i := 14) (oi := ⟨some 55, _, _, _, _, _⟩) (v := ?v14r_43) rfl (by kernel_rfl) (by kernel_rfl) (by kernel_rfl) (fun _ _ _ h => h) (Or.inl ⟨by rfl, ?y14r_43⟩) (by assumption) ?r14r_43
    case y14r_43 => (intro w hSw; (try dsimp only at hSw); (try go_split_ands); go_simp); (try with_reducible rfl)
    case r14r_43 =>
    (try simp only [Act.put, List.setIfInBounds_toArray, List.set_cons_zero, List.set_cons_succ])
    refine wpAnyH_take (i := 15) (oi := ⟨some 56, _, _, _, _, _⟩) (v := ?v15r_46) rfl (by kernel_rfl) (by kernel_rfl) (by kernel_rfl) (fun _ _ _ h => h) (Or.inl ⟨by rfl, ?y15r_46⟩) (by assumption) ?r15r_46
    case y15r_46 => (intro w hSw; (try dsimp only at hSw); (try go_split_ands); go_simp); (try with_reducible rfl)
    case r15r_46 =>
    (try simp only [Act.put, List.setIfInBounds_toArray, List.set_cons_zero, List.set_cons_succ])
    refine wpAnyH_take (i := 16) (oi := ⟨some 57, _, _, _, _, _⟩) (v := ?v16r_49) rfl (by kernel_rfl) (by kernel_rfl) (by kernel_rfl) (fun _ _ _ h => h) (Or.inl ⟨by rfl, ?y16r_49⟩) (by assumption) ?r16r_49
    case y16r_49 => (intro w hSw; (try dsimp only at hSw); (try go_split_ands); go_simp); (try with_reducible rfl)
    case r16r_49 =>
    (try simp only [Act.put, List.setIfInBounds_toArray, List.set_cons_zero, List.set_cons_succ])
    refine wpAnyH_ready (rs := [17, 18]) (by kernel_rfl) (by simp) ?_
    refine AllReadyH.cons (o := ⟨some 5, _, _, _, _, _⟩) rfl (fun K hK => ?_) (AllReadyH.cons (o := ⟨some 6, _, _, _, _, _⟩) rfl (fun K hK => ?_) AllReadyH.nil)
    · go_simp
      refine hK.out _ _ (HKP.out _ (by ((repeat (first | (with_reducible exact Below.refl _ _) | (with_reducible assumption) | ((with_reducible refine b_set ?_ ?_); · (first | omega | (simp; done) | (simp; omega))) | ((with_reducible refine b_alloc ?_ ?_); · (first | omega | (simp; done) | (simp; omega))) | (with_reducible refine Below.drew ?_) | (with_reducible refine b_drewN ?_) | ((with_reducible refine b_call (by assumption) ?_ ?_); · (first | omega | (simp; done) | (simp; omega))))); done))) (fun hHeld => ?_)
      clear hK K
      (try simp only [Act.put, List.setIfInBounds_toArray, List.set_cons_zero, List.set_cons_succ])
      refine wpAnyH_ready (rs := [18]) (by kernel_rfl) (by simp) ?_
      refine AllReadyH.cons (o := ⟨some 6, _, _, _, _, _⟩) rfl (fun K hK => ?_) AllReadyH.nil
      go_simp
      refine hK.out _ _ (HKP.out _ (by ((repeat (first | (with_reducible exact Below.refl _ _) | (with_reducible assumption) | ((with_reducible refine b_set ?_ ?_); · (first | omega | (simp; done) | (simp; omega))) | ((with_reducible refine b_alloc ?_ ?_); · (first | omega | (simp; done) | (simp; omega))) | (with_reducible refine Below.drew ?_) | (with_reducible refine b_drewN ?_) | ((with_reducible refine b_call (by assumption) ?_ ?_); · (first | omega | (simp; done) | (simp; omega))))); done))) (fun hHeld => ?_)
      clear hK K
      (try simp only [Act.put, List.setIfInBounds_toArray, List.set_cons_zero, List.set_cons_succ])
      refine wpAnyH_ready (rs := [19]) (by kernel_rfl) (by simp) ?_
      refine AllReadyH.cons (o := ⟨none, _, _, _, _, _⟩) rfl (fun K hK => ?_) AllReadyH.nil
      go_simp
      refine hK.out _ _ (HKP.out _ (by ((repeat (first | (with_reducible exact Below.refl _ _) | (with_reducible assumption) | ((with_reducible refine b_set ?_ ?_); · (first | omega | (simp; done) | (simp; omega))) | ((with_reducible refine b_alloc ?_ ?_); · (first | omega | (simp; done) | (simp; omega))) | (with_reducible refine Below.drew ?_) | (with_reducible refine b_drewN ?_) | ((with_reducible refine b_call (by assumption) ?_ ?_); · (first | omega | (simp; done) | (simp; omega))))); done))) (fun hHeld => ?_)
      clear hK K
      (try simp only [Act.put, List.setIfInBounds_toArray, List.set_cons_zero, List.set_cons_succ])
      refine wpAnyH_ready (rs := [20]) (by kernel_rfl) (by simp) ?_
      refine AllReadyH.cons (o := ⟨none, _, _, _, _, _⟩) rfl (fun K hK => ?_) AllReadyH.nil
      go_simp
      refine hK.out _ _ (HKP.out _ (by ((repeat (first | (with_reducible exact Below.refl _ _) | (with_reducible assumption) | ((with_reducible refine b_set ?_ ?_); · (first | omega | (simp; done) | (simp; omega))) | ((with_reducible refine b_alloc ?_ ?_); · (first | omega | (simp; done) | (simp; omega))) | (with_reducible refine Below.drew ?_) | (with_reducible refine b_drewN ?_) | ((with_reducible refine b_call (by assumption) ?_ ?_); · (first | omega | (simp; done) | (simp; omega))))); done))) (fun hHeld => ?_)
      clear hK K
      (try simp only [Act.put, List.setIfInBounds_toArray, List.set_cons_zero, List.set_cons_succ])
      refine wpAnyH_done (by kernel_rfl) ?_ _
      go_wp2_with fail
      go_meet
      obtain ⟨z1, z2, z3⟩ := boxZ (w.drewN (nq + 1)) a w.heap.size rfl
      exact ⟨Below.alloc (b_call z2 (Nat.le_refl _) (b_drewN (Below.refl _ _))) (by rw [z3]; exact Nat.le_succ _) _, w.heap.size, w.heap.size + 1, rfl, rfl, by omega, by omega, by omega, z1.alloc _, Whl.new z3.symm⟩
    · go_simp
      refine hK.out _ _ (HKP.out _ (by ((repeat (first | (with_reducible exact Below.refl _ _) | (with_reducible assumption) | ((with_reducible refine b_set ?_ ?_); · (first | omega | (simp; done) | (simp; omega))) | ((with_reducible refine b_alloc ?_ ?_); · (first | omega | (simp; done) | (simp; omega))) | (with_reducible refine Below.drew ?_) | (with_reducible refine b_drewN ?_) | ((with_reducible refine b_call (by assumption) ?_ ?_); · (first | omega | (simp; done) | (simp; omega))))); done))) (fun hHeld => ?_)
      clear hK K
      (try simp only [Act.put, List.setIfInBounds_toArray, List.set_cons_zero, List.set_cons_succ])
      refine wpAnyH_ready (rs := [17]) (by kernel_rfl) (by simp) ?_
      refine AllReadyH.cons (o := ⟨some 5, _, _, _, _, _⟩) rfl (fun K hK => ?_) AllReadyH.nil
      go_simp
      refine hK.out _ _ (HKP.out _ (by ((repeat (first | (with_reducible exact Below.refl _ _) | (with_reducible assumption) | ((with_reducible refine b_set ?_ ?_); · (first | omega | (simp; done) | (simp; omega))) | ((with_reducible refine b_alloc ?_ ?_); · (first | omega | (simp; done) | (simp; omega))) | (with_reducible refine Below.drew ?_) | (with_reducible refine b_drewN ?_) | ((with_reducible refine b_call (by assumption) ?_ ?_); · (first | omega | (simp; done) | (simp; omega))))); done))) (fun hHeld => ?_)
      clear hK K
      (try simp only [Act.put, List.setIfInBounds_toArray, List.set_cons_zero, List.set_cons_succ])
      refine wpAnyH_ready (rs := [19]) (by kernel_rfl) (by simp) ?_
      refine AllReadyH.cons (o := ⟨none, _, _, _, _, _⟩) rfl (fun K hK => ?_) AllReadyH.nil
      go_simp
      refine hK.out _ _ (HKP.out _ (by ((repeat (first | (with_reducible exact Below.refl _ _) | (with_reducible assumption) | ((with_reducible refine b_set ?_ ?_); · (first | omega | (simp; done) | (simp; omega))) | ((with_reducible refine b_alloc ?_ ?_); · (first | omega | (simp; done) | (simp; omega))) | (with_reducible refine Below.drew ?_) | (with_reducible refine b_drewN ?_) | ((with_reducible refine b_call (by assumption) ?_ ?_); · (first | omega | (simp; done) | (simp; omega))))); done))) (fun hHeld => ?_)
      clear hK K
      (try simp only [Act.put, List.setIfInBounds_toArray, List.set_cons_zero, List.set_cons_succ])
      refine wpAnyH_ready (rs := [20]) (by kernel_rfl) (by simp) ?_
      refine AllReadyH.cons (o := ⟨none, _, _, _, _, _⟩) rfl (fun K hK => ?_) AllReadyH.nil
      go_simp
      refine hK.out _ _ (HKP.out _ (by ((repeat (first | (with_reducible exact Below.refl _ _) | (with_reducible assumption) | ((with_reducible refine b_set ?_ ?_); · (first | omega | (simp; done) | (simp; omega))) | ((with_reducible refine b_alloc ?_ ?_); · (first | omega | (simp; done) | (simp; omega))) | (with_reducible refine Below.drew ?_) | (with_reducible refine b_drewN ?_) | ((with_reducible refine b_call (by assumption) ?_ ?_); · (first | omega | (simp; done) | (simp; omega))))); done))) (fun hHeld => ?_)
      clear hK K
      (try simp only [Act.put, List.setIfInBounds_toArray, List.set_cons_zero, List.set_cons_succ])
      refine wpAnyH_done (by kernel_rfl) ?_ _
      go_wp2_with fail
      go_meet
      obtain ⟨z1, z2, z3⟩ := boxZ (w.drewN (nq + 1)) b w.heap.size rfl
      exact ⟨Below.alloc (b_call z2 (Nat.le_refl _) (b_drewN (Below.refl _ _))) (by rw [z3]; exact Nat.le_succ _) _, w.heap.size + 1, w.heap.size, rfl, rfl, by omega, by omega, by omega, Whl.new z3.symm, z1.alloc _⟩

  case rest =>
    obtain ⟨hE, P, Q, rfl, rfl, hPQ, hP0, hQ0, hPa, hQb⟩ := hcut
    obtain ⟨U, rfl⟩ : ∃ x, x = wc := ⟨_, rfl⟩
    have HE := Lib.hid hE
    have HDU := Lib.hid (HD.out.below hE)
    have HPA := Lib.hid hPa
    have HQB := Lib.hid hQb
    have p1 := hPa.cell 1
    have x1 := hQb.cell 1
    have p2 := hPa.cell 2
    have x2 := hQb.cell 2
    have p4 := hPa.cell 4
    have x4 := hQb.cell 4
    simp only [List.getElem?_toArray, List.getElem?_cons_succ, List.getElem?_cons_zero] at p1 p2 p4 x1 x2 x4
    have hPl := hPa.low
    have hQl := hQb.low
    clear hPa hQb l3 v0 v1 v2 v3 v4 v5 v6 v7 v8 u0 u1 u2 u3 u4 u5 u6 u7 u8 hE q4 hn2
    obtain ⟨ct, hct⟩ : ∃ x, joinB a.fr a.tt b.fr b.tt = x := ⟨_, rfl⟩
    have HJ := Lib.hid hct
    clear hct
    cases ct with
    | false =>
      go_wp2_with (first | (go_at_call 98; refine (spanJoin0 _ _ _ _ _ HJ.out).mono ?_; rintro e w3 ⟨rfl, hb3⟩; obtain ⟨hc3, hf3⟩ := bcell hb3; have hs3 := hb3.size; have HB3 := Lib.hid hb3; (try simp at hs3)) | fail)
      all_goals refine bodyPost_ret (v := .bool false) (by simp [results, Try.results93, go_sem, *]) rfl (.inr ⟨fun m1 hd => ?_, rfl, ?_⟩)
      all_goals first
        | (have hkd := HKD.out
           have hpd := HPD.out
           rw [HA.out] at hpd
           cases hd with
           | mergeDone k p e h2 o q x => rw [← HA.out, ← HB.out, HJ.out] at q; cases q
           | _ => omega)
        | exact b_call HB3.out (by have := HE.out.size; omega) HE.out |>.alloc (by have := HE.out.size; omega) _
        | (have := HE.out.size; ((repeat (first | (with_reducible exact Below.refl _ _) | (with_reducible assumption) | ((with_reducible refine b_set ?_ ?_); · (first | omega | (simp; done) | (simp; omega))) | ((with_reducible refine b_alloc ?_ ?_); · (first | omega | (simp; done) | (simp; omega))) | (with_reducible refine Below.drew ?_) | (with_reducible refine b_drewN ?_) | ((with_reducible refine b_call (by assumption) ?_ ?_); · (first | omega | (simp; done) | (simp; omega))))); done))
    | true =>
    obtain ⟨mx, hmx⟩ : ∃ x, (if a.ep < b.ep then b.ep else a.ep) = x := ⟨_, rfl⟩
    have hmm : mx = max a.ep b.ep := by rw [← hmx]; split <;> omega
    have HMX := Lib.hid hmm
    have hmx0 : 0 ≤ mx := by have := HEP0.out a (by rw [HA.out]; exact List.getElem_mem hi); omega
    clear hmm
    by_cases htop : mx < 1099511627776
    case neg =>
      go_wp2_with (first | (go_at_call 98; refine (spanJoin1 _ _ _ _ _ HJ.out).mono ?_; rintro e w3 ⟨rfl, hb3⟩; obtain ⟨hc3, hf3⟩ := bcell hb3; have hs3 := hb3.size; have HB3 := Lib.hid hb3; (try simp at hs3)) | fail)
      all_goals refine bodyPost_ret (v := .bool false) (by simp [results, Try.results93, go_sem, *]) rfl (.inr ⟨fun m1 hd => ?_, rfl, ?_⟩)
      all_goals first
        | (have hkd := HKD.out
           have hpd := HPD.out
           rw [HA.out] at hpd
           cases hd with
           | mergeDone k p e h2 o q x => rw [← HA.out, ← HB.out, ← HMX.out] at x; unfold topN at x; omega
           | _ => omega)
        | exact b_call HB3.out (by have := HE.out.size; omega) HE.out |>.alloc (by have := HE.out.size; omega) _
        | (have := HE.out.size; ((repeat (first | (with_reducible exact Below.refl _ _) | (with_reducible assumption) | ((with_reducible refine b_set ?_ ?_); · (first | omega | (simp; done) | (simp; omega))) | ((with_reducible refine b_alloc ?_ ?_); · (first | omega | (simp; done) | (simp; omega))) | (with_reducible refine Below.drew ?_) | (with_reducible refine b_drewN ?_) | ((with_reducible refine b_call (by assumption) ?_ ?_); · (first | omega | (simp; done) | (simp; omega))))); done))
    have pf := fun k => HPA.out.free k
    go_upto_region 9 with (first | (go_at_call 98; refine (spanJoin1 _ _ _ _ _ HJ.out).mono ?_; rintro e w3 ⟨rfl, hb3⟩; obtain ⟨hc3, hf3⟩ := bcell hb3; have hs3 := hb3.size; have HB3 := Lib.hid hb3; (try simp at hs3)) | fail)
    have hP1 := (((HPA.out.below HB3.out hPl).alloc (.cells #[.string a.fr, .string b.tt] 37)).set 1 (.string a.fr)).set 2 (.string b.tt)
    simp only [List.setIfInBounds_toArray, List.set_cons_zero, List.set_cons_succ] at hP1
    obtain ⟨y, hy⟩ : ∃ y : Zn, y = ⟨a.id, a.fr, b.tt, a.ow, a.ep, a.pd, a.mv, a.ky, a.nw⟩ := ⟨_, rfl⟩
    have hP2 : Whl (((w3.alloc (.cells #[.string a.fr, .string b.tt] 37)).setCell ⟨P, 1, none⟩ (.string a.fr)).setCell ⟨P, 2, none⟩ (.string b.tt)) P 39 #[.int .i64 y.id, .string y.fr, .string y.tt, .int .i64 y.ow, .int .i64 y.ep, .int .i64 y.pd, .int .i64 y.mv, .string y.ky, .int .i64 y.nw] := by rw [hy]; exact hP1
    have hU := HE.out.size
    have hBV : Below w.heap.size w (((w3.alloc (.cells #[.string a.fr, .string b.tt] 37)).setCell ⟨P, 1, none⟩ (.string a.fr)).setCell ⟨P, 2, none⟩ (.string b.tt)) := b_set hP0 (b_set hP0 (Below.alloc (HE.out.trans (HB3.out.mono hU)) (by have := HB3.out.size; omega) _))
    have HDV := Lib.hid (HD.out.below hBV)
    have k3 := HDV.out.blk.cell 3
    have p0 := hP2.cell 0
    have p1 := hP2.cell 1
    have p2 := hP2.cell 2
    have p3 := hP2.cell 3
    have p4 := hP2.cell 4
    have p5 := hP2.cell 5
    have p6 := hP2.cell 6
    have p7 := hP2.cell 7
    have p8 := hP2.cell 8
    simp only [List.getElem?_toArray, List.getElem?_cons_succ, List.getElem?_cons_zero] at k3 p0 p1 p2 p3 p4 p5 p6 p7 p8
    have hsv : P < (((w3.alloc (.cells #[.string a.fr, .string b.tt] 37)).setCell ⟨P, 1, none⟩ (.string a.fr)).setCell ⟨P, 2, none⟩ (.string b.tt)).heap.size := hP2.low
    have hsw : w.heap.size ≤ (((w3.alloc (.cells #[.string a.fr, .string b.tt] 37)).setCell ⟨P, 1, none⟩ (.string a.fr)).setCell ⟨P, 2, none⟩ (.string b.tt)).heap.size := hBV.size
    have hbg : P ≠ gz := by omega
    have hwr : IntKind.i64.wrap (mx + 1) = mx + 1 := by rw [IntKind.wrap_i64]; omega
    have HBV := Lib.hid hBV
    have HY := Lib.hid hy
    change Code.wp _ _ _ _ (((w3.alloc (.cells #[.string a.fr, .string b.tt] 37)).setCell ⟨P, 1, none⟩ (.string a.fr)).setCell ⟨P, 2, none⟩ (.string b.tt))
    clear hc3 hf3 hs3 hb3 hP1 hP2 hBV hy hU x1 x2 x4 pf hmx
    generalize (((w3.alloc (.cells #[.string a.fr, .string b.tt] 37)).setCell ⟨P, 1, none⟩ (.string a.fr)).setCell ⟨P, 2, none⟩ (.string b.tt)) = V at *
    refine wp_region_held_drew (S := (fun W => W.cell? ⟨d, 3, none⟩ = some (.slice (some ⟨gz, 0, none⟩) m.zs.length cc) ∧ W.cell? ⟨P, 0, none⟩ = some (.int .i64 y.id) ∧ W.cell? ⟨P, 1, none⟩ = some (.string y.fr) ∧ W.cell? ⟨P, 2, none⟩ = some (.string y.tt) ∧ W.cell? ⟨P, 3, none⟩ = some (.int .i64 y.ow) ∧ W.cell? ⟨P, 4, none⟩ = some (.int .i64 y.ep) ∧ W.cell? ⟨P, 5, none⟩ = some (.int .i64 y.pd) ∧ W.cell? ⟨P, 6, none⟩ = some (.int .i64 y.mv) ∧ W.cell? ⟨P, 7, none⟩ = some (.string y.ky) ∧ W.cell? ⟨P, 8, none⟩ = some (.int .i64 y.nw))) (by kernel_rfl) ⟨k3, p0, p1, p2, p3, p4, p5, p6, p7, p8⟩ (fun hHeld => ?_)
    refine wpAnyH_take (i := 0) (oi := ⟨some 79, _, _, _, _, _⟩) (v := ?v0s) rfl (by kernel_rfl) (by kernel_rfl) (by kernel_rfl) (fun _ _ _ h => h) (Or.inl ⟨by rfl, ?y0s⟩) (by assumption) ?r0s
    case y0s => (intro w hSw; (try dsimp only at hSw); (try go_split_ands); go_simp); (try with_reducible rfl)
    case r0s =>
    (try simp only [Act.put, List.setIfInBounds_toArray, List.set_cons_zero, List.set_cons_succ])
    refine wpAnyH_take (i := 1) (oi := ⟨some 80, _, _, _, _, _⟩) (v := ?v1s) rfl (by kernel_rfl) (by kernel_rfl) (by kernel_rfl) (fun _ _ _ h => h) (Or.inl ⟨by rfl, ?y1s⟩) (by assumption) ?r1s
    case y1s => (intro w hSw; (try dsimp only at hSw); (try go_split_ands); go_simp); (try with_reducible rfl)
    case r1s =>
    (try simp only [Act.put, List.setIfInBounds_toArray, List.set_cons_zero, List.set_cons_succ])
    refine wpAnyH_take (i := 2) (oi := ⟨some 81, _, _, _, _, _⟩) (v := ?v2s) rfl (by kernel_rfl) (by kernel_rfl) (by kernel_rfl) (fun _ _ _ h => h) (Or.inl ⟨by rfl, ?y2s⟩) (by assumption) ?r2s
    case y2s => (intro w hSw; (try dsimp only at hSw); (try go_split_ands); go_simp); (try with_reducible rfl)
    case r2s =>
    (try simp only [Act.put, List.setIfInBounds_toArray, List.set_cons_zero, List.set_cons_succ])
    refine wpAnyH_take (i := 3) (oi := ⟨some 82, _, _, _, _, _⟩) (v := ?v3s) rfl (by kernel_rfl) (by kernel_rfl) (by kernel_rfl) (fun _ _ _ h => h) (Or.inl ⟨by rfl, ?y3s⟩) (by assumption) ?r3s
    case y3s => (intro w hSw; (try dsimp only at hSw); (try go_split_ands); go_simp); (try with_reducible rfl)
    case r3s =>
    (try simp only [Act.put, List.setIfInBounds_toArray, List.set_cons_zero, List.set_cons_succ])
    refine wpAnyH_take (i := 4) (oi := ⟨some 83, _, _, _, _, _⟩) (v := ?v4s) rfl (by kernel_rfl) (by kernel_rfl) (by kernel_rfl) (fun _ _ _ h => h) (Or.inl ⟨by rfl, ?y4s⟩) (by assumption) ?r4s
    case y4s => (intro w hSw; (try dsimp only at hSw); (try go_split_ands); go_simp); (try with_reducible rfl)
    case r4s =>
    (try simp only [Act.put, List.setIfInBounds_toArray, List.set_cons_zero, List.set_cons_succ])
    refine wpAnyH_take (i := 5) (oi := ⟨some 84, _, _, _, _, _⟩) (v := ?v5s) rfl (by kernel_rfl) (by kernel_rfl) (by kernel_rfl) (fun _ _ _ h => h) (Or.inl ⟨by rfl, ?y5s⟩) (by assumption) ?r5s
    case y5s => (intro w hSw; (try dsimp only at hSw); (try go_split_ands); go_simp); (try with_reducible rfl)
    case r5s =>
    (try simp only [Act.put, List.setIfInBounds_toArray, List.set_cons_zero, List.set_cons_succ])
    refine wpAnyH_take (i := 6) (oi := ⟨some 85, _, _, _, _, _⟩) (v := ?v6s) rfl (by kernel_rfl) (by kernel_rfl) (by kernel_rfl) (fun _ _ _ h => h) (Or.inl ⟨by rfl, ?y6s⟩) (by assumption) ?r6s
    case y6s => (intro w hSw; (try dsimp only at hSw); (try go_split_ands); go_simp); (try with_reducible rfl)
    case r6s =>
    (try simp only [Act.put, List.setIfInBounds_toArray, List.set_cons_zero, List.set_cons_succ])
    refine wpAnyH_take (i := 7) (oi := ⟨some 86, _, _, _, _, _⟩) (v := ?v7s) rfl (by kernel_rfl) (by kernel_rfl) (by kernel_rfl) (fun _ _ _ h => h) (Or.inl ⟨by rfl, ?y7s⟩) (by assumption) ?r7s
    case y7s => (intro w hSw; (try dsimp only at hSw); (try go_split_ands); go_simp); (try with_reducible rfl)
    case r7s =>
    (try simp only [Act.put, List.setIfInBounds_toArray, List.set_cons_zero, List.set_cons_succ])
    refine wpAnyH_take (i := 8) (oi := ⟨some 87, _, _, _, _, _⟩) (v := ?v8s) rfl (by kernel_rfl) (by kernel_rfl) (by kernel_rfl) (fun _ _ _ h => h) (Or.inl ⟨by rfl, ?y8s⟩) (by assumption) ?r8s
    case y8s => (intro w hSw; (try dsimp only at hSw); (try go_split_ands); go_simp); (try with_reducible rfl)
    case r8s =>
    (try simp only [Act.put, List.setIfInBounds_toArray, List.set_cons_zero, List.set_cons_succ])
    refine wpAnyH_ready (rs := [9]) (by kernel_rfl) (by simp) ?_
    refine AllReadyH.cons (o := ⟨some 88, _, _, _, _, _⟩) rfl (fun K hK => ?_) AllReadyH.nil
    go_simp
    refine (drSettled y _ _).mono ?_; rintro e w5 ⟨rfl, hb5⟩
    go_wp2_with fail
    have HB5 : Hid (Below V.heap.size V w5) := Lib.hid ((Below.refl _ _).drew.trans hb5)
    have HD5 := Lib.hid (HDV.out.below HB5.out)
    have hA3 := bkeep HB5.out k3 (by omega)
    have hA40 := bkeep HB5.out p0 hsv
    have hA41 := bkeep HB5.out p1 hsv
    have hA42 := bkeep HB5.out p2 hsv
    have hA43 := bkeep HB5.out p3 hsv
    have hA44 := bkeep HB5.out p4 hsv
    have hA45 := bkeep HB5.out p5 hsv
    have hA46 := bkeep HB5.out p6 hsv
    have hA47 := bkeep HB5.out p7 hsv
    have hA48 := bkeep HB5.out p8 hsv
    clear hb5
    refine hK.out _ _ (by first | exact ⟨hB3, hB40, hB41, hB42, hB43, hB44, hB45, hB46, hB47, hB48⟩ | exact ⟨hA3, hA40, hA41, hA42, hA43, hA44, hA45, hA46, hA47, hA48⟩) (fun hHeld => ?_)
    clear hK K
    (try simp only [Act.put, List.setIfInBounds_toArray, List.set_cons_zero, List.set_cons_succ])
    refine wpAnyH_take (i := 10) (oi := ⟨some 89, _, _, _, _, _⟩) (v := ?v10s) rfl (by kernel_rfl) (by kernel_rfl) (by kernel_rfl) (fun _ _ _ h => h) (Or.inl ⟨by rfl, ?y10s⟩) (by assumption) ?r10s
    case y10s => (intro w hSw; (try dsimp only at hSw); (try go_split_ands); go_simp); (try with_reducible rfl)
    case r10s =>
    (try simp only [Act.put, List.setIfInBounds_toArray, List.set_cons_zero, List.set_cons_succ])
    refine wpAnyH_ready (rs := [11]) (by kernel_rfl) (by simp) ?_
    refine AllReadyH.cons (o := ⟨none, _, _, _, _, _⟩) rfl (fun K hK => ?_) AllReadyH.nil
    obtain ⟨y0, y1, y2, y3, y4, y5, y6, y7, y8⟩ := rowZ_at HD5.out.row hi
    have yf := fun k => HD5.out.row.frozenAt k
    have hdg : d ≠ gz := fun e => HD5.out.za gz rfl e.symm
    have hq := putZ_touch w5 gz i (settled y (mx + 1))
    have hB3 := hq.cell hA3 hdg
    have hB40 := hq.cell hA40 hbg
    have hB41 := hq.cell hA41 hbg
    have hB42 := hq.cell hA42 hbg
    have hB43 := hq.cell hA43 hbg
    have hB44 := hq.cell hA44 hbg
    have hB45 := hq.cell hA45 hbg
    have hB46 := hq.cell hA46 hbg
    have hB47 := hq.cell hA47 hbg
    have hB48 := hq.cell hA48 hbg
    have HQ := Lib.hid hq
    clear hq
    simp only [putZ, settled] at hB3 hB40 hB41 hB42 hB43 hB44 hB45 hB46 hB47 hB48
    go_simp
    refine hK.out _ _ (by first | exact ⟨hB3, hB40, hB41, hB42, hB43, hB44, hB45, hB46, hB47, hB48⟩ | exact ⟨hA3, hA40, hA41, hA42, hA43, hA44, hA45, hA46, hA47, hA48⟩) (fun hHeld => ?_)
    clear hK K
    (try simp only [Act.put, List.setIfInBounds_toArray, List.set_cons_zero, List.set_cons_succ])
    refine wpAnyH_done (by kernel_rfl) ?_ _

    obtain ⟨k, hk⟩ : ∃ k, m.zs.length = k + 1 := ⟨m.zs.length - 1, by omega⟩
    have hS := HD5.out.putZ hi (settled y (mx + 1))
    have HS := Lib.hid hS
    have HT9 : Hid (Touch (Fz d (.slice (some ⟨gz, 0, none⟩) m.zs.length cc)) w (putZ w5 gz i (settled y (mx + 1)))) := Lib.hid (((Touch.of_below (HBV.out.trans (HB5.out.mono hsw))).mono'' (fun k h1 h2 => by omega)).trans HQ.out (fun n _ h => .inr (by rw [h]; rfl)))
    have k3 := hS.blk.cell 3
    simp only [List.getElem?_toArray, List.getElem?_cons_succ, List.getElem?_cons_zero] at k3
    have hd9 := hS.blk.low
    have hs9 : w.heap.size ≤ (putZ w5 gz i (settled y (mx + 1))).heap.size := Nat.le_trans (Nat.le_trans hsw HB5.out.size) HQ.out.size
    have hdel : ∀ W, Touch (fun _ => False) (putZ w5 gz i (settled y (mx + 1))) W → Calls Try.prog 101 #[.slice (some ⟨gz, 0, none⟩) m.zs.length cc, .int .i64 ((i : Int) + 1), .int .i64 ((i : Int) + 2)] W fun e w' => e = .returned (.slice (some ⟨gz, 0, none⟩) k cc) ∧ w'.ownsRow B 39 9 (.slice (some ⟨gz, 0, none⟩) k cc) k ((flatZ (m.zs.set i (settled y (mx + 1)))).take ((i + 1) * 9) ++ (flatZ (m.zs.set i (settled y (mx + 1)))).drop ((i + 1 + 1) * 9)) ∧ Touch (fun q => q = gz) W w' := fun W h1 => by
      have hr := h1.own HS.out.row (fun _ _ h => h)
      have e0 : (m.zs.set i (settled y (mx + 1))).length = m.zs.length := List.length_set
      rw [show (Mp.zs ⟨m.ver, m.nxt, m.zs.set i (settled y (mx + 1))⟩) = m.zs.set i (settled y (mx + 1)) from rfl, e0, hk] at hr
      have := drDelete B gz cc k (i + 1) _ W hr (by omega) (by omega) (flatZ_one _)
      rw [show ((i + 1 : Nat) : Int) = (i : Int) + 1 by omega, show (i : Int) + 1 + 1 = (i : Int) + 2 by omega] at this
      rw [hk]
      exact this
    have HFL : Hid (flatZ (m.zs.take i ++ settled y (mx + 1) :: m.zs.drop (i + 2)) = (flatZ (m.zs.set i (settled y (mx + 1)))).take ((i + 1) * 9) ++ (flatZ (m.zs.set i (settled y (mx + 1)))).drop ((i + 1 + 1) * 9)) := Lib.hid (del_flat hi _)
    have HLEN : Hid (k = (m.zs.take i ++ settled y (mx + 1) :: m.zs.drop (i + 2)).length) := Lib.hid (by rw [List.length_append, List.length_cons, List.length_take, List.length_drop]; omega)
    have HDEED : Hid (Deed hosts m c i hi ⟨m.ver, m.nxt, m.zs.take i ++ settled y (mx + 1) :: m.zs.drop (i + 2)⟩) := Lib.hid (by
      have hj := HJ.out
      have he := HEP.out
      have hp := HPD.out
      have hd := HID.out
      rw [HMX.out] at htop
      rw [HY.out, HMX.out]
      rw [HA.out] at he hp
      rw [HA.out, HB.out] at hj hd htop ⊢
      exact Deed.mergeDone HKD.out hp he h2 hd hj (by unfold topN; omega))
    have hdg : d ≠ gz := fun e => HS.out.za gz rfl e.symm
    clear hS hk
    clear hA3 hB3 y0 y1 y2 y3 y4 y5 y6 y7 y8 yf p0 p1 p2 p3 p4 p5 p6 p7 p8
    clear hA40 hB40 hA41 hB41 hA42 hB42 hA43 hB43 hA44 hB44 hA45 hB45 hA46 hB46 hA47 hB47 hA48 hB48
    change Exit.then _ _ _ _ (putZ w5 gz i (settled y (mx + 1)))
    generalize putZ w5 gz i (settled y (mx + 1)) = W9 at *
    go_wp2_with (first
      | (go_at_call 101; refine (hdel _ (Touch.refl _ _)).mono ?_; rintro e w6 ⟨rfl, ho6, ht6⟩; have HO6 := Lib.hid ho6; have HT6 := Lib.hid ht6; have hWd := (HT6.out.block d hd9 hdg).trans HS.out.blk; have hc3 := Whl.cell hWd 3; have hf3 := Whl.free hWd; clear ho6 ht6)
      | fail)
    refine bodyPost_ret (v := .bool true) (by simp [results, Try.results93, go_sem]) rfl (.inl ⟨_, _, HDEED.out, rfl, ⟨Whl.set hWd 3 _, own_set_ne (HT6.out.own HS.out.hrow (fun q hq e => HS.out.hz q hq (by rw [e]; rfl))) (fun q hq => HS.out.ha q hq), ?_, HS.out.ha, fun q hq => HS.out.za q hq, fun q hq => HS.out.hz q hq, HS.out.low⟩, (HT9.out.trans HT6.out (fun n _ h => .inr (by rw [h]; rfl))).set (fun _ => .inl rfl), fun q hq => .inl hq⟩)
    refine own_set_ne ?_ (fun q hq e => hdg (e.symm.trans (by simpa [Value.ownBlock] using hq.symm)))
    show World.ownsRow _ B _ 9 _ (m.zs.take i ++ settled y (mx + 1) :: m.zs.drop (i + 2)).length (flatZ (m.zs.take i ++ settled y (mx + 1) :: m.zs.drop (i + 2)))
    rw [← HLEN.out, HFL.out]; exact HO6.out
end Go.Proofs.Ytbohpjinkdffhaa
