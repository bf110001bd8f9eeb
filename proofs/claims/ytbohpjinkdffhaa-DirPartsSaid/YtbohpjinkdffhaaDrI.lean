/- The directory: merge. -/
import Derived.Test.YtbohpjinkdffhaaDrG
namespace Go.Proofs.Ytbohpjinkdffhaa
open Go.RowKit
set_option linter.unusedVariables false
set_option linter.unusedSimpArgs false

set_option maxHeartbeats 8000000 in
set_option maxRecDepth 10000 in
theorem drMerge (B d i : Nat) (hv zv : Value) (hosts : List Int) (m : Mp) (c : Ch) (hi : i < m.zs.length) (w : World) (h : DrH w B d hv zv hosts m) (hl : m.zs.length ≤ 1000) (hkd : c.kd = 2) :
    Calls Try.prog 68 #[.pointer (some ⟨d, 0, none⟩), .int .i64 i, .agg #[.int .i64 c.kd, .int .i64 c.zo, .int .i64 c.ep, .int .i64 c.mv, .string c.ky]] w fun e w' => DeedQ B d hv zv hosts m c i hi w e w' := by
  have HD := Lib.hid h
  have l3 := h.blk.cell 3
  simp only [List.getElem?_toArray, List.getElem?_cons_succ, List.getElem?_cons_zero] at l3
  obtain ⟨gz, cc, hzv, _, hgz, hnc, hcm⟩ := own_form h.row (by omega)
  subst hzv
  have hdl := h.blk.low
  have q3 : (i : Int) < (m.zs.length : Int) := by omega
  have HKD := Lib.hid hkd
  clear h hkd
  by_cases h2 : i + 1 < m.zs.length
  case neg =>
    have q4 : ¬ (i : Int) + 1 < (m.zs.length : Int) := by omega
    go_enter Try.func68, Try.ntmps68
    go_wp2_with fail
    refine bodyPost_ret (v := .bool false) (by simp [results, Try.results68, go_sem]) rfl (.inr ⟨fun m1 hd => ?_, rfl, by ((repeat (first | (with_reducible exact Below.refl _ _) | (with_reducible assumption) | ((with_reducible refine b_set ?_ ?_); · (first | omega | (simp; done) | (simp; omega))) | ((with_reducible refine b_alloc ?_ ?_); · (first | omega | (simp; done) | (simp; omega))) | (with_reducible refine Below.drew ?_) | (with_reducible refine b_drewN ?_) | ((with_reducible refine b_call (by assumption) ?_ ?_); · (first | omega | (simp; done) | (simp; omega))))); done)⟩)
    have hkd := HKD.out
    cases hd <;> omega
  have q4 : (i : Int) + 1 < (m.zs.length : Int) := by omega
  go_enter Try.func68, Try.ntmps68
  go_upto_region 3 with fail
  have HBV : Hid (Below w.heap.size w (w.alloc (.cells #[.int .i64 c.kd, .int .i64 c.zo, .int .i64 c.ep, .int .i64 c.mv, .string c.ky] 47))) := Lib.hid ((Below.refl _ _).alloc (Nat.le_refl _) _)
  have HDV := Lib.hid (HD.out.below HBV.out)
  obtain ⟨a, ha⟩ : ∃ z, z = m.zs[i] := ⟨_, rfl⟩
  obtain ⟨b, hb⟩ : ∃ z, z = m.zs[i + 1] := ⟨_, rfl⟩
  obtain ⟨v0, _, _, v3, _, v5, _, _, v8⟩ := rowZ_at HDV.out.row hi
  obtain ⟨u0, _, _, u3, _, u5, _, _, u8⟩ := rowZ_at HDV.out.row h2
  have ei : (i + 1) * 9 = i * 9 + 9 := by omega
  rw [← ha] at v0 v3 v5 v8
  rw [← hb] at u0 u3 u5 u8
  have k3 := HDV.out.blk.cell 3
  simp only [List.getElem?_toArray, List.getElem?_cons_succ, List.getElem?_cons_zero] at k3
  have hsv : w.heap.size ≤ (w.alloc (.cells #[.int .i64 c.kd, .int .i64 c.zo, .int .i64 c.ep, .int .i64 c.mv, .string c.ky] 47)).heap.size := by simp
  rw [ei] at u0 u3 u5 u8
  simp only [Nat.add_assoc, Nat.reduceAdd] at u0 u3 u5 u8
  have fz := fun k => HDV.out.row.frozenAt k
  have HA := Lib.hid ha
  have HB := Lib.hid hb
  have HFZ := Lib.hid fz
  clear l3 ha hb
  generalize w.alloc (.cells #[.int .i64 c.kd, .int .i64 c.zo, .int .i64 c.ep, .int .i64 c.mv, .string c.ky] 47) = V at *
  have q5 : IntKind.i64.wrap ((i : Int) + 1) = ((i + 1 : Nat) : Int) := by rw [IntKind.wrap_i64]; omega
  go_quiet (fail)
  go_wp2_with fail
  by_cases hp : a.pd = 0
  case neg =>
    have hp2 : (a.pd != 0) = true := by simpa using hp
    go_quiet (fail)
    go_wp2_with fail
    refine bodyPost_ret (v := .bool false) (by simp [results, Try.results68, go_sem]) rfl (.inr ⟨fun m1 hd => ?_, rfl, b_drewN (b_drewN HBV.out)⟩)
    have hkd := HKD.out
    cases hd <;> first | omega | (exact hp (by rw [HA.out]; assumption))

  by_cases hq : b.pd = 0
  case neg =>
    have hq2 : (b.pd != 0) = true := by simpa using hq
    go_quiet (fail)
    go_wp2_with fail
    refine bodyPost_ret (v := .bool false) (by simp [results, Try.results68, go_sem]) rfl (.inr ⟨fun m1 hd => ?_, rfl, b_drewN (b_drewN HBV.out)⟩)
    have hkd := HKD.out
    cases hd <;> first | omega | (exact hq (by rw [HB.out]; assumption))

  by_cases ho : a.ow = b.ow
  case neg =>
    have ho2 : (a.ow != b.ow) = true := by simpa using ho
    go_quiet (fail)
    go_wp2_with fail
    refine bodyPost_ret (v := .bool false) (by simp [results, Try.results68, go_sem]) rfl (.inr ⟨fun m1 hd => ?_, rfl, b_drewN (b_drewN HBV.out)⟩)
    have hkd := HKD.out
    cases hd <;> first | omega | (exact ho (by rw [HA.out, HB.out]; assumption))

  go_quiet (fail)
  go_wp2_with fail
  have hN : ∀ n, DrH (V.drewN n) B d hv (.slice (some ⟨gz, 0, none⟩) m.zs.length cc) hosts m := fun n => HDV.out.keep (D := fun _ => False) ((Touch.refl _ _).drewN _) (fun _ _ h => h)
  have hS1 := fun n => (hN n).set2 hi (k := 5) (k' := 8) (by decide) (by decide) (z := { a with pd := 2 }) (z' := { a with pd := 2, nw := b.id }) (v := .int .i64 2) (v' := .int .i64 b.id) (by rw [← HA.out]; rfl) rfl
  have hS2 := fun n => (hS1 n).set2 (j := i + 1) (k := 5) (k' := 8) (by simpa using h2) (by decide) (by decide) (z := { b with pd := 2 }) (z' := { b with pd := 2, nw := a.id }) (v := .int .i64 2) (v' := .int .i64 a.id) (by show _ = (znV ((m.zs.set i _)[i + 1]'_)).set _ _; rw [List.getElem_set_ne (by omega), ← HB.out]; rfl) rfl
  simp only [ei] at hS2
  refine bodyPost_ret (v := .bool true) (by simp [results, Try.results68, go_sem]) rfl (.inl ⟨_, _, Deed.merge HKD.out h2 (by rw [← HA.out]; exact hp) (by rw [← HB.out]; exact hq) (by rw [← HA.out, ← HB.out]; exact ho), rfl, ?_, ?_, fun k hk => .inl hk⟩)
  · rw [← HA.out, ← HB.out]; exact hS2 _
  · refine ((((((Touch.of_below HBV.out).mono'' (fun k h1 h2 => absurd h2 (by omega))).drewN _).set ?_).set ?_).set ?_).set ?_ <;> exact fun _ => .inr rfl
end Go.Proofs.Ytbohpjinkdffhaa
