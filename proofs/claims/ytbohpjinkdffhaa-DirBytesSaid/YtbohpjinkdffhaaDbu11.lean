/- The directory: slices.Delete of one zone. What span.Join returns. The directory in memory; how many are under way; where a zone stands. The directory: where a zone stands. The directory in memory behind a store; whether a host is among the hosts. -/
import Derived.Test.YtbohpjinkdffhaaProg
import Derived.WalkKit
import Derived.WalkSpells
import Derived.WalkLawsBesides
import Derived.Deep.QuietTactic
import Derived.BigQuiet
import Derived.RegionTactic
import Derived.BigRegion
import Derived.Outline
import Derived.LoopTactic
import Derived.Lib.Hide
import Derived.Deep.RegionHeld3
import GoSem.Op.String
import Derived.Lib.Strings
import Derived.Laws.AppendOwnNone
import Derived.Deep.AppendLies
import Derived.Maps.AppendAt
import Derived.Laws.Rows
import Derived.Deep.Cut
import Derived.StillTailTactics
import Derived.Laws.IdiomCopy
import Derived.Lib.AppendZerosOnto
import Derived.Lib.Overlaps
import Derived.Lib.ReflectliteSwap
import Derived.Deep.RegionLaw
import Derived.Test.YtbohpjinkdffhaaDbu0
import Derived.Test.YtbohpjinkdffhaaDbu3
import Derived.Test.YtbohpjinkdffhaaDbu6
import Derived.Test.YtbohpjinkdffhaaDbu9
import Derived.Test.YtbohpjinkdffhaaDbu10
namespace Go.Proofs.Ytbohpjinkdffhaa
open Go.RowKit
set_option linter.unusedVariables false
set_option linter.unusedSimpArgs false
set_option maxHeartbeats 8000000 in
set_option maxRecDepth 100000 in
theorem drDelete (B g cap k j : Nat) (xs : List Value) (w : World) (h : w.ownsRow B 39 9 (.slice (some ⟨g, 0, none⟩) (k + 1) cap) (k + 1) xs) (hj : j ≤ k) (hk : k ≤ 1000) (h1x : ∀ u ∈ xs, u.oneCell' = true) :
    Calls Try.prog 101 #[.slice (some ⟨g, 0, none⟩) (k + 1) cap, .int .i64 j, .int .i64 ((j : Int) + 1)] w fun e w' => e = .returned (.slice (some ⟨g, 0, none⟩) k cap) ∧ w'.ownsRow B 39 9 (.slice (some ⟨g, 0, none⟩) k cap) k (xs.take (j * 9) ++ xs.drop ((j + 1) * 9)) ∧ Touch (fun q => q = g) w w' := by
  obtain ⟨i0, hi0, hz0, hz1, hz2⟩ := info_parts Try.infoZone
  have hxl : xs.length = (k + 1) * 9 := h.1
  obtain ⟨C, hR, hCx, hnc, hcm, hB⟩ := RowB.of_own h
  have hdl : (xs.drop ((j + 1) * 9)).length = (k - j) * 9 := by rw [List.length_drop, hxl]; omega
  obtain ⟨A, hA, hsrc⟩ : ∃ A : Addr, (if cap = j + 1 then some (⟨g, 0, none⟩ : Addr) else some ⟨g, (j + 1) * 9, none⟩) = some A ∧ (∀ t u, (xs.drop ((j + 1) * 9))[t]? = some u → w.drew.cell? (A.add t) = some u) := by
    by_cases e : cap = j + 1
    · refine ⟨⟨g, 0, none⟩, by simp [e], fun t u hu => ?_⟩
      have := (List.getElem?_eq_some_iff.1 hu).1
      omega
    · refine ⟨⟨g, (j + 1) * 9, none⟩, by simp [e], fun t u hu => ?_⟩
      rw [add_none, hR.drew.cell]
      rw [List.getElem?_drop] at hu
      rw [← hu, ← hCx, List.getElem?_take, if_pos (by have := (List.getElem?_eq_some_iff.1 hu).1; omega)]
  have hra : ∀ ty dc, (Builtin.append_ #[31, 31] ty #[.slice (some ⟨g, 0, none⟩) j cap, .slice (some A) (k - j) dc]).run Try.prog w.drew = .ok (.slice (some ⟨g, 0, none⟩) k cap) (w.drew.setCells g (j * 9) (xs.drop ((j + 1) * 9))) := fun ty dc => by
    have := run_append_room_cells (P := Try.prog) w.drew 31 ty 39 i0 Try.underlying31 hi0 g 0 j cap A (k - j) dc (xs.drop ((j + 1) * 9)) (by rw [hz1]; exact hdl) hsrc (fun u hu => h1x u (List.mem_of_mem_drop hu)) (by omega) (fun t ht => by rw [hz1, Nat.zero_add]; exact hR.drew.isSome (by rw [hdl] at ht; omega)) (fun t _ => hR.drew.free _)
    rw [hz1, Nat.zero_add, show j + (k - j) = k by omega] at this
    exact this
  have hR1 := hR.drew.patch (j * 9) (xs.drop ((j + 1) * 9)) (by rw [hdl]; omega)
  obtain ⟨W1, hW1⟩ : ∃ W1, W1 = w.drew.setCells g (j * 9) (xs.drop ((j + 1) * 9)) := ⟨_, rfl⟩
  rw [← hW1] at hra hR1
  have hcl : ∀ ty dc, (Builtin.clear_ #[31] ty #[.slice (some ⟨g, k * 9, none⟩) 1 dc]).run Try.prog W1 = .ok (.tuple #[]) (W1.setCells g (k * 9) z0V) := fun ty dc =>
    run_clearN W1 31 39 ty _ Try.underlying31 Try.zeroValue39 (by decide) g (k * 9) 1 dc (by decide) z0V (by kernel_rfl) (by decide) (fun t ht => hR1.isSome (by have : z0V.length = 9 := rfl; omega)) (fun t _ => hR1.free _)
  have hR2 := hR1.patch (k * 9) z0V (by have : z0V.length = 9 := rfl; omega)
  have hown := hR2.own (B := B) (n := k) hB (by omega) hcm
  have hp := patch_out (C := C) (zs := z0V) (j := j) (n := k + 1) (S := 9) (by omega) (by rw [hR.len]; omega) rfl
  rw [hCx, Nat.add_sub_cancel] at hp
  rw [hp] at hown
  have HT : Hid (Touch (fun q => q = g) w (W1.setCells g (k * 9) z0V)) := Lib.hid (by
    rw [hW1]
    exact ((Touch.of_drew (fun q => q = g) w).trans (setCells_touch g _ _ _) (fun _ _ h => h) : Touch (fun q => q = g) w _) |>.trans (setCells_touch g _ _ _) (fun _ _ h => h))
  have HOWN := Lib.hid hown
  have hb0 : ¬ ((j : Int) = (j : Int) + 1) := by omega
  have hb1 : (0 : Int) ≤ (j : Int) + 1 := by omega
  have htn : ((j : Int) + 1).toNat = j + 1 := by omega
  have hjc : j ≤ cap := by omega
  have hjc1 : j + 1 ≤ cap := by omega
  have hjk : j ≤ k + 1 := by omega
  have hb2 : (j : Int) + 1 ≤ (k : Int) + 1 := by omega
  have hb3 : ¬ (cap = k) := by omega
  have hb4 : (k : Int) + 1 ≤ (cap : Int) := by omega
  have hcm' : (cap : Int) ≤ 9223372036854775807 := by unfold maxLen at hcm; omega
  clear hW1 hR hR1 hR2 hown hCx hxl hdl h hp hsrc
  go_enter Try.func101, Try.ntmps101
  go_wp2_with fail
  go_still_tail 6, (by kernel_rfl)
  change wpList _ _ _ _ _ w.drew
  go_wp2_with (first
    | (at_builtin; refine Lib.wpList_append_run _ rfl _ _ _ _ rfl _ _ rfl rfl _ _ (hra _ _) ?_)
    | (at_builtin; refine wpList_clear_run rfl _ 31 rfl _ rfl (hcl _ _) ?_)
    | fail)
  go_ret
  exact ⟨rfl, HOWN.out, HT.out⟩
end Go.Proofs.Ytbohpjinkdffhaa
namespace Go.Proofs.Ytbohpjinkdffhaa
open Go.RowKit
set_option linter.unusedVariables false
set_option linter.unusedSimpArgs false
theorem spanJoin1 (f t g u : ByteArray) (w : World) (h : joinB f t g u = true) :
    Calls Try.prog 98 #[.agg #[.string f, .string t], .agg #[.string g, .string u]] w fun e w' => e = .returned (.tuple #[.agg #[.string f, .string u], .bool true]) ∧ Below w.heap.size w w' := by
  simp only [joinB, Bool.and_eq_true, Bool.not_eq_true'] at h
  obtain ⟨⟨⟨a1, a2⟩, a3⟩, a4⟩ := h
  go_enter Try.func98, Try.ntmps98
  go_wp2_with fail
  refine (spanIs _ _ _).mono ?_
  rintro e w1 ⟨rfl, hb⟩
  obtain ⟨hc, hf⟩ := bcell hb
  cases h1 : isB f t
  · go_wp2_with fail
    all_goals (exfalso; clear hc hf hb; simp_all [joinB]; done)
  · go_wp2_with fail
    refine (spanIs _ _ _).mono ?_
    rintro e w2 ⟨rfl, hb2⟩
    replace hb2 := hb.trans (hb2.mono hb.size); clear hc hf; obtain ⟨hc, hf⟩ := bcell hb2
    cases h2 : isB g u
    all_goals go_wp2_with fail
    all_goals first
      | (exfalso; clear hc hf hb hb2; simp_all [joinB]; done)
      | skip
    all_goals refine bodyPost_ret (v := .tuple #[.agg #[.string f, .string u], .bool true]) (by simp [results, Try.results98, go_sem, hc]) rfl ⟨rfl, ?_⟩
    all_goals clear hc hf hb
    all_goals ((repeat (first | (with_reducible exact Below.refl _ _) | (with_reducible assumption) | ((with_reducible refine b_set ?_ ?_); · (first | omega | (simp; done) | (simp; omega))) | ((with_reducible refine b_alloc ?_ ?_); · (first | omega | (simp; done) | (simp; omega))) | (with_reducible refine Below.drew ?_) | (with_reducible refine b_drewN ?_) | ((with_reducible refine b_call (by assumption) ?_ ?_); · (first | omega | (simp; done) | (simp; omega))))); done)
theorem spanJoin0 (f t g u : ByteArray) (w : World) (h : joinB f t g u = false) :
    Calls Try.prog 98 #[.agg #[.string f, .string t], .agg #[.string g, .string u]] w fun e w' => e = .returned (.tuple #[.agg #[.string ⟨#[]⟩, .string ⟨#[]⟩], .bool false]) ∧ Below w.heap.size w w' := by
  go_enter Try.func98, Try.ntmps98
  go_wp2_with fail
  refine (spanIs _ _ _).mono ?_
  rintro e w1 ⟨rfl, hb⟩
  obtain ⟨hc, hf⟩ := bcell hb
  cases h1 : isB f t
  · go_wp2_with fail
    all_goals first
      | (exfalso; clear hc hf hb; simp_all [joinB]; done)
      | skip
    all_goals refine bodyPost_ret (v := .tuple #[.agg #[.string ⟨#[]⟩, .string ⟨#[]⟩], .bool false]) (by simp [results, Try.results98, go_sem, hc]) rfl ⟨rfl, ?_⟩
    all_goals clear hc hf
    all_goals ((repeat (first | (with_reducible exact Below.refl _ _) | (with_reducible assumption) | ((with_reducible refine b_set ?_ ?_); · (first | omega | (simp; done) | (simp; omega))) | ((with_reducible refine b_alloc ?_ ?_); · (first | omega | (simp; done) | (simp; omega))) | (with_reducible refine Below.drew ?_) | (with_reducible refine b_drewN ?_) | ((with_reducible refine b_call (by assumption) ?_ ?_); · (first | omega | (simp; done) | (simp; omega))))); done)
  · go_wp2_with fail
    refine (spanIs _ _ _).mono ?_
    rintro e w2 ⟨rfl, hb2⟩
    replace hb2 := hb.trans (hb2.mono hb.size); clear hc hf; obtain ⟨hc, hf⟩ := bcell hb2
    cases h2 : isB g u
    all_goals go_wp2_with fail
    all_goals first
      | (exfalso; clear hc hf hb hb2; simp_all [joinB]; done)
      | skip
    all_goals refine bodyPost_ret (v := .tuple #[.agg #[.string ⟨#[]⟩, .string ⟨#[]⟩], .bool false]) (by simp [results, Try.results98, go_sem, hc]) rfl ⟨rfl, ?_⟩
    all_goals clear hc hf hb
    all_goals ((repeat (first | (with_reducible exact Below.refl _ _) | (with_reducible assumption) | ((with_reducible refine b_set ?_ ?_); · (first | omega | (simp; done) | (simp; omega))) | ((with_reducible refine b_alloc ?_ ?_); · (first | omega | (simp; done) | (simp; omega))) | (with_reducible refine Below.drew ?_) | (with_reducible refine b_drewN ?_) | ((with_reducible refine b_call (by assumption) ?_ ?_); · (first | omega | (simp; done) | (simp; omega))))); done)
end Go.Proofs.Ytbohpjinkdffhaa
namespace Go.Proofs.Ytbohpjinkdffhaa
open Go.RowKit
set_option linter.unusedVariables false
set_option linter.unusedSimpArgs false
theorem row_belowZ {w w' : World} {base e size n : Nat} {v : Value} {xs : List Value} (h : w.ownsRow base e size v n xs) (hb : Below w.heap.size w w') : w'.ownsRow base e size v n xs := by
  refine ⟨h.1, ?_⟩
  rcases h.2 with h0 | ⟨g, cap, cur, hv, hg, hh, hr⟩
  · exact .inl h0
  · exact .inr ⟨g, cap, cur, hv, hg, by rw [hb.block g (Array.getElem?_eq_some_iff.1 hh).1]; exact hh, hr⟩
theorem measZ {j L : Nat} (h : j < L) : L - (intOf (.int .i64 ((j : Int) + 1))).toNat < L - (intOf (.int .i64 (j : Int))).toNat := by simp [intOf]; omega
def intsV (l : List Int) : List Value := l.map fun n => .int .i64 n
structure DrH (w : World) (B d : Nat) (hv zv : Value) (hosts : List Int) (m : Mp) : Prop where
  blk : Whl w d 74 #[hv, .int .i64 m.ver, .int .i64 m.nxt, zv]
  hrow : w.ownsRow B 3 1 hv hosts.length (intsV hosts)
  row : w.ownsRow B 39 9 zv m.zs.length (flatZ m.zs)
  ha : ∀ g, hv.ownBlock = some g → g ≠ d
  za : ∀ g, zv.ownBlock = some g → g ≠ d
  hz : ∀ g, hv.ownBlock = some g → zv.ownBlock ≠ some g
  low : B ≤ d
def Fd (d : Nat) (hv zv : Value) (k : Nat) : Prop := k = d ∨ hv.ownBlock = some k ∨ zv.ownBlock = some k
theorem DrH.keep {D : Nat → Prop} {w w' : World} {B d : Nat} {hv zv : Value} {hosts : List Int} {m : Mp} (h : DrH w B d hv zv hosts m) (ht : Touch D w w') (hD : ∀ k, Fd d hv zv k → ¬ D k) : DrH w' B d hv zv hosts m :=
  ⟨(ht.block d h.blk.low (hD d (.inl rfl))).trans h.blk, ht.own h.hrow (fun g hg => hD g (.inr (.inl hg))), ht.own h.row (fun g hg => hD g (.inr (.inr hg))), h.ha, h.za, h.hz, h.low⟩
theorem DrH.lows {w : World} {B d : Nat} {hv zv : Value} {hosts : List Int} {m : Mp} (h : DrH w B d hv zv hosts m) : ∀ k, Fd d hv zv k → B ≤ k ∧ k < w.heap.size := by
  rintro k (rfl | hk | hk)
  · exact ⟨h.low, h.blk.low⟩
  · exact h.hrow.lt k hk
  · exact h.row.lt k hk
theorem DrH.below {w w' : World} {B d : Nat} {hv zv : Value} {hosts : List Int} {m : Mp} (h : DrH w B d hv zv hosts m) (hb : Below w.heap.size w w') : DrH w' B d hv zv hosts m :=
  h.keep (Touch.of_below hb) (fun k hk hd => by have := (h.lows k hk).2; omega)
theorem ixZ {i n : Nat} (h : i < n) (k : Nat) (hk : k < 9) : i * 9 + k < n * 9 := by omega
theorem ixZ0 {i n : Nat} (h : i < n) : i * 9 < n * 9 := by omega
/-- the cells of a zone of a row -/
theorem rowZ_at {w : World} {B g c : Nat} {l : List Zn} (h : w.ownsRow B 39 9 (.slice (some ⟨g, 0, none⟩) l.length c) l.length (flatZ l)) {i : Nat} (hi : i < l.length) :
    w.cell? ⟨g, i * 9, none⟩ = some (.int .i64 l[i].id) ∧ w.cell? ⟨g, i * 9 + 1, none⟩ = some (.string l[i].fr) ∧ w.cell? ⟨g, i * 9 + 2, none⟩ = some (.string l[i].tt) ∧ w.cell? ⟨g, i * 9 + 3, none⟩ = some (.int .i64 l[i].ow) ∧ w.cell? ⟨g, i * 9 + 4, none⟩ = some (.int .i64 l[i].ep) ∧ w.cell? ⟨g, i * 9 + 5, none⟩ = some (.int .i64 l[i].pd) ∧ w.cell? ⟨g, i * 9 + 6, none⟩ = some (.int .i64 l[i].mv) ∧ w.cell? ⟨g, i * 9 + 7, none⟩ = some (.string l[i].ky) ∧ w.cell? ⟨g, i * 9 + 8, none⟩ = some (.int .i64 l[i].nw) := by
  obtain ⟨r0, r1, r2, r3, r4, r5, r6, r7, r8⟩ := flatZ_at l i hi
  exact ⟨(h.cellAt _ (ixZ0 hi)).trans r0, (h.cellAt _ (ixZ hi 1 (by decide))).trans r1, (h.cellAt _ (ixZ hi 2 (by decide))).trans r2, (h.cellAt _ (ixZ hi 3 (by decide))).trans r3, (h.cellAt _ (ixZ hi 4 (by decide))).trans r4, (h.cellAt _ (ixZ hi 5 (by decide))).trans r5, (h.cellAt _ (ixZ hi 6 (by decide))).trans r6, (h.cellAt _ (ixZ hi 7 (by decide))).trans r7, (h.cellAt _ (ixZ hi 8 (by decide))).trans r8⟩
theorem pendN_snoc (k : Int) {l : List Zn} {i : Nat} (h : i < l.length) : pendN k (l.take (i + 1)) = pendN k (l.take i) + if l[i].pd = k then 1 else 0 := by
  unfold pendN
  rw [List.take_add_one, List.getElem?_eq_getElem h, List.filter_append, List.length_append]
  simp only [Option.toList, List.filter_cons, List.filter_nil]
  by_cases e : l[i].pd = k
  · simp [e]
  · simp [e]
theorem pendN_le (k : Int) (l : List Zn) : pendN k l ≤ l.length := List.length_filter_le _ _
set_option maxHeartbeats 4000000 in
set_option maxRecDepth 10000 in
theorem drPending (B d : Nat) (hv zv : Value) (hosts : List Int) (m : Mp) (k : Int) (w : World) (h : DrH w B d hv zv hosts m) (hl : m.zs.length ≤ 1000) :
    Calls Try.prog 90 #[.pointer (some ⟨d, 0, none⟩), .int .i64 k] w fun e w' => e = .returned (.int .i64 (pendN k m.zs)) ∧ Below w.heap.size w w' := by
  have HD := Lib.hid h
  have l3 := h.blk.cell 3
  simp only [List.getElem?_toArray, List.getElem?_cons_succ, List.getElem?_cons_zero] at l3
  obtain ⟨A, c, hzv, _, hnc, hcm⟩ := own_slice h.row
  rw [hzv] at l3
  have hdl := h.blk.low
  clear h
  go_enter Try.func90, Try.ntmps90
  go_wp2_with fail
  go_loopw [5, 14] (fun nv iv wr => ∃ i : Nat, i ≤ m.zs.length ∧ iv = .int .i64 i ∧ nv = .int .i64 (pendN k (m.zs.take i)) ∧ Below w.heap.size w wr) (fun _ iv _ => m.zs.length - (intOf iv).toNat)
  case atStart => exact ⟨0, Nat.zero_le _, rfl, by simp [pendN], Below.refl _ _⟩
  case round =>
    obtain ⟨i, hil, rfl, rfl, hBw⟩ := hrel
    have HBW := Lib.hid hBw
    have hsw := hBw.size
    by_cases hlt : i < m.zs.length
    · have q3 : (i : Int) < (m.zs.length : Int) := by omega
      have hr := row_belowZ HD.out.row hBw
      obtain ⟨gu, ku, e5, _, hgu, _, _⟩ := own_form hr (by omega)
      rw [hzv] at e5
      injection e5 with e5 e6 e7
      subst e5 e7
      rw [hzv] at hr
      obtain ⟨z, hz⟩ : ∃ z, z = m.zs[i] := ⟨_, rfl⟩
      obtain ⟨a0, a1, a2, a3, a4, a5, a6, a7, a8⟩ := rowZ_at hr hlt
      rw [← hz] at a0 a1 a2 a3 a4 a5 a6 a7 a8
      have hps := pendN_snoc k hlt
      rw [← hz] at hps
      have hple := pendN_le k (m.zs.take i)
      rw [List.length_take] at hple
      have HPS := Lib.hid hps
      obtain ⟨pn, hpn⟩ : ∃ p, p = pendN k (m.zs.take i) := ⟨_, rfl⟩
      rw [← hpn] at hple ⊢
      have HPN := Lib.hid hpn
      clear hr hBw hz hps hpn
      by_cases hk : z.pd = k
      · go_wp2_with fail
        refine ⟨⟨i + 1, hlt, by go_num, ?_, HBW.out.trans (by ((repeat (first | (with_reducible exact Below.refl _ _) | (with_reducible assumption) | ((with_reducible refine b_set ?_ ?_); · (first | omega | (simp; done) | (simp; omega))) | ((with_reducible refine b_alloc ?_ ?_); · (first | omega | (simp; done) | (simp; omega))) | (with_reducible refine Below.drew ?_) | (with_reducible refine b_drewN ?_) | ((with_reducible refine b_call (by assumption) ?_ ?_); · (first | omega | (simp; done) | (simp; omega))))); done))⟩, measZ hlt⟩
        rw [HPS.out, if_pos hk, ← HPN.out]
        go_num
      · go_wp2_with fail
        refine ⟨⟨i + 1, hlt, by go_num, ?_, HBW.out.trans (by ((repeat (first | (with_reducible exact Below.refl _ _) | (with_reducible assumption) | ((with_reducible refine b_set ?_ ?_); · (first | omega | (simp; done) | (simp; omega))) | ((with_reducible refine b_alloc ?_ ?_); · (first | omega | (simp; done) | (simp; omega))) | (with_reducible refine Below.drew ?_) | (with_reducible refine b_drewN ?_) | ((with_reducible refine b_call (by assumption) ?_ ?_); · (first | omega | (simp; done) | (simp; omega))))); done))⟩, measZ hlt⟩
        rw [HPS.out, if_neg hk, ← HPN.out]
        rfl
    · obtain rfl : m.zs.length = i := by omega
      go_wp2_with fail
      go_ret
      rw [List.take_length]
      exact ⟨rfl, HBW.out⟩
end Go.Proofs.Ytbohpjinkdffhaa
namespace Go.Proofs.Ytbohpjinkdffhaa
open Go.RowKit
set_option linter.unusedVariables false
set_option linter.unusedSimpArgs false
/-- the first zone with this ID stands there; -1: none has it -/
def At (l : List Zn) (id : Int) (n : Nat) (k : Int) : Prop := (k = -1 ∧ ∀ j (hj : j < l.length), j < n → l[j].id ≠ id) ∨ ∃ i : Nat, k = i ∧ ∃ h : i < l.length, l[i].id = id ∧ ∀ j (hj : j < l.length), j < i → l[j].id ≠ id
theorem drIs (p : Nat) (z : Zn) (zid zo : Int) (w : World) (l1 : w.cell? ⟨p, 1, none⟩ = some (.int .i64 zo)) :
    Calls Try.prog 38 #[.agg #[.int .i64 zid, .string z.fr, .string z.tt, .int .i64 z.ow, .int .i64 z.ep, .int .i64 z.pd, .int .i64 z.mv, .string z.ky, .int .i64 z.nw], .pointer (some ⟨p, 0, none⟩)] w fun e w' => e = .returned (.bool (decide (zid = zo))) ∧ Below w.heap.size w w' := by
  have hpl : p < w.heap.size := World.block_lt_of_cell? w ⟨p, 1, none⟩ l1
  go_enter Try.func38, Try.ntmps38
  go_wp2_with fail
  go_ret
  exact ⟨ret_bool (by first | rfl | simp), by ((repeat (first | (with_reducible exact Below.refl _ _) | (with_reducible assumption) | ((with_reducible refine b_set ?_ ?_); · (first | omega | (simp; done) | (simp; omega))) | ((with_reducible refine b_alloc ?_ ?_); · (first | omega | (simp; done) | (simp; omega))) | (with_reducible refine Below.drew ?_) | (with_reducible refine b_drewN ?_) | ((with_reducible refine b_call (by assumption) ?_ ?_); · (first | omega | (simp; done) | (simp; omega))))); done)⟩
set_option maxHeartbeats 4000000 in
set_option maxRecDepth 10000 in
theorem drIndex (B p : Nat) (zv : Value) (l : List Zn) (c : Ch) (w : World) (h : w.ownsRow B 39 9 zv l.length (flatZ l)) (hp : Whl w p 47 #[.int .i64 c.kd, .int .i64 c.zo, .int .i64 c.ep, .int .i64 c.mv, .string c.ky]) (hl : l.length ≤ 1000) :
    Calls Try.prog 37 #[zv, .func (.func 38) #[] #[.pointer (some ⟨p, 0, none⟩)]] w fun e w' => ∃ k, e = .returned (.int .i64 k) ∧ At l c.zo l.length k ∧ Below w.heap.size w w' := by
  have HR := Lib.hid h
  obtain ⟨A, cc, hzv, _, hnc, hcm⟩ := own_slice h
  subst hzv
  have l1 := hp.cell 1
  simp only [List.getElem?_toArray, List.getElem?_cons_succ, List.getElem?_cons_zero] at l1
  have hpl := hp.low
  clear h hp
  go_enter Try.func37, Try.ntmps37
  go_wp2_with fail
  go_loopw [8] (fun iv wr => ∃ i : Nat, i ≤ l.length ∧ iv = .int .i64 i ∧ (∀ j (hj : j < l.length), j < i → l[j].id ≠ c.zo) ∧ Below w.heap.size w wr) (fun iv _ => l.length - (intOf iv).toNat)
  case atStart => exact ⟨0, Nat.zero_le _, rfl, fun j hj h => by omega, Below.refl _ _⟩
  case round =>
    obtain ⟨i, hil, rfl, hno, hBw⟩ := hrel
    have HBW := Lib.hid hBw
    have HNO := Lib.hid hno
    have hsw := hBw.size
    have l2 := bkeep hBw l1 hpl
    by_cases hlt : i < l.length
    · have q3 : (i : Int) < (l.length : Int) := by omega
      have hr := row_belowZ HR.out hBw
      obtain ⟨gu, ku, e5, _, hgu, _, _⟩ := own_form hr (by omega)
      injection e5 with e5 e6 e7
      subst e5 e7
      obtain ⟨z, hz⟩ : ∃ z, z = l[i] := ⟨_, rfl⟩
      obtain ⟨a0, a1, a2, a3, a4, a5, a6, a7, a8⟩ := rowZ_at hr hlt
      rw [← hz] at a0 a1 a2 a3 a4 a5 a6 a7 a8
      have HZ := Lib.hid hz
      clear hr hBw hz hno
      by_cases hk : z.id = c.zo
      · go_wp2_with (first
          | (go_at_call 38; go_loud (refine (drIs p z _ c.zo _ l2).mono ?_; rintro e w2 ⟨he, hb2⟩; rw [decide_eq_true rfl] at he; subst he; have HB2 := Lib.hid hb2; clear hb2))
          | fail)
        go_ret
        exact ⟨_, rfl, .inr ⟨i, rfl, hlt, by rw [← HZ.out]; exact hk, HNO.out⟩, HBW.out.trans (HB2.out.mono hsw)⟩
      · go_wp2_with (first
          | (go_at_call 38; go_loud (refine (drIs p z _ c.zo _ l2).mono ?_; rintro e w2 ⟨he, hb2⟩; rw [decide_eq_false hk] at he; subst he; have HB2 := Lib.hid hb2; clear hb2))
          | fail)
        refine ⟨⟨i + 1, hlt, by go_num, fun j hj h => ?_, HBW.out.trans (HB2.out.mono hsw)⟩, measZ hlt⟩
        by_cases e : j = i
        · subst e; rw [← HZ.out]; exact hk
        · exact HNO.out j hj (by omega)
    · obtain rfl : l.length = i := by omega
      go_wp2_with fail
      go_ret
      exact ⟨_, rfl, .inl ⟨rfl, HNO.out⟩, HBW.out⟩
end Go.Proofs.Ytbohpjinkdffhaa
namespace Go.Proofs.Ytbohpjinkdffhaa
open Go.RowKit
set_option linter.unusedVariables false
set_option linter.unusedSimpArgs false
theorem Touch.mono'' {D D' : Nat → Prop} {w w' : World} (h : Touch D w w') (hD : ∀ k, k < w.heap.size → D k → D' k) : Touch D' w w' := ⟨h.os, h.tape, h.output, h.size, fun k hk hn => h.block k hk (fun hd => hn (hD k hk hd))⟩
theorem flatZ_setcell : ∀ (l : List Zn) (j : Nat) (h : j < l.length) (k : Nat) (hk : k < 9) (z : Zn) (v : Value) (hz : znV z = (znV l[j]).set k v), flatZ (l.set j z) = (flatZ l).set (j * 9 + k) v
  | [], j, h, _, _, _, _, _ => by cases h
  | a :: r, 0, h, k, hk, z, v, hz => by
    have e : flatZ (a :: r) = znV a ++ flatZ r := rfl
    have e2 : flatZ ((a :: r).set 0 z) = znV z ++ flatZ r := rfl
    rw [e, e2, hz, List.set_append_left _ _ (by simp [znV]; omega)]
    simp
  | a :: r, j + 1, h, k, hk, z, v, hz => by
    have := flatZ_setcell r j (by simpa using h) k hk z v hz
    have e : (j + 1) * 9 + k = (j * 9 + k) + 9 := by omega
    have e1 : flatZ (a :: r) = znV a ++ flatZ r := rfl
    have e2 : flatZ ((a :: r).set (j + 1) z) = znV a ++ flatZ (r.set j z) := rfl
    rw [e1, e2, this, e, List.set_append_right _ _ (by simp [znV])]
    simp [znV]
theorem DrH.len {w : World} {B d : Nat} {hv zv : Value} {hosts : List Int} {m : Mp} (h : DrH w B d hv zv hosts m) {n : Nat} {A : Option Addr} {c : Nat} (e : zv = .slice A n c) : n = m.zs.length := by
  obtain ⟨A', c', e', _⟩ := own_slice h.row
  rw [e] at e'; injection e'
theorem DrH.setcell {w : World} {B d g c n : Nat} {hv : Value} {hosts : List Int} {m : Mp} (h : DrH w B d hv (.slice (some ⟨g, 0, none⟩) n c) hosts m) {j : Nat} (hj : j < m.zs.length) {k : Nat} (hk : k < 9) {z : Zn} {v : Value} (hz : znV z = (znV m.zs[j]).set k v) :
    DrH (w.setCell ⟨g, j * 9 + k, none⟩ v) B d hv (.slice (some ⟨g, 0, none⟩) n c) hosts ⟨m.ver, m.nxt, m.zs.set j z⟩ := by
  obtain rfl := h.len rfl
  refine ⟨h.blk.far (fun e => h.za g rfl e.symm), own_set_ne h.hrow (fun q hq e => ?_), ?_, h.ha, h.za, h.hz, h.low⟩
  · have := h.hz q hq; exact this (by rw [e]; rfl)
  · show World.ownsRow _ B _ 9 _ (m.zs.set j z).length (flatZ (m.zs.set j z))
    rw [flatZ_setcell m.zs j hj k hk z v hz, List.length_set]
    exact (h.row.stored (j * 9 + k) v).1
theorem DrH.set2 {w : World} {B d g c n : Nat} {hv : Value} {hosts : List Int} {m : Mp} (h : DrH w B d hv (.slice (some ⟨g, 0, none⟩) n c) hosts m) {j : Nat} (hj : j < m.zs.length) {k k' : Nat} (hk : k < 9) (hk' : k' < 9) {z z' : Zn} {v v' : Value} (hz : znV z = (znV m.zs[j]).set k v) (hz' : znV z' = (znV z).set k' v') :
    DrH ((w.setCell ⟨g, j * 9 + k, none⟩ v).setCell ⟨g, j * 9 + k', none⟩ v') B d hv (.slice (some ⟨g, 0, none⟩) n c) hosts ⟨m.ver, m.nxt, m.zs.set j z'⟩ := by
  have h1 := h.setcell hj hk hz
  have h2 := h1.setcell (j := j) (by simpa using hj) hk' (z := z') (v := v') (by simpa using hz')
  simpa using h2
theorem DrH.setver {w : World} {B d : Nat} {hv zv : Value} {hosts : List Int} {m : Mp} (h : DrH w B d hv zv hosts m) (n : Int) : DrH (w.setCell ⟨d, 1, none⟩ (.int .i64 n)) B d hv zv hosts ⟨n, m.nxt, m.zs⟩ :=
  ⟨h.blk.set 1 _, own_set_ne h.hrow (fun g hg => h.ha g hg), own_set_ne h.row (fun g hg => h.za g hg), h.ha, h.za, h.hz, h.low⟩
theorem DrH.setnxt {w : World} {B d : Nat} {hv zv : Value} {hosts : List Int} {m : Mp} (h : DrH w B d hv zv hosts m) (n : Int) : DrH (w.setCell ⟨d, 2, none⟩ (.int .i64 n)) B d hv zv hosts ⟨m.ver, n, m.zs⟩ :=
  ⟨h.blk.set 2 _, own_set_ne h.hrow (fun g hg => h.ha g hg), own_set_ne h.row (fun g hg => h.za g hg), h.ha, h.za, h.hz, h.low⟩
theorem intsV_at {l : List Int} {j : Nat} (h : j < l.length) : (intsV l)[j]? = some (.int .i64 l[j]) := by unfold intsV; rw [List.getElem?_map, List.getElem?_eq_getElem h]; rfl
def Fz (d : Nat) (zv : Value) (k : Nat) : Prop := k = d ∨ zv.ownBlock = some k
/-- what a deed answers, and the directory behind it -/
def DeedQ (B d : Nat) (hv zv : Value) (hosts : List Int) (m : Mp) (c : Ch) (i : Nat) (h : i < m.zs.length) (w : World) (e : Ending) (w' : World) : Prop :=
  (∃ (m1 : Mp) (zv' : Value), Deed hosts m c i h m1 ∧ e = .returned (.bool true) ∧ DrH w' B d hv zv' hosts m1 ∧ Touch (Fz d zv) w w' ∧ (∀ k, zv'.ownBlock = some k → zv.ownBlock = some k ∨ w.heap.size ≤ k)) ∨
  ((∀ m1, ¬ Deed hosts m c i h m1) ∧ e = .returned (.bool false) ∧ Below w.heap.size w w')
set_option maxHeartbeats 4000000 in
set_option maxRecDepth 10000 in
theorem drIdx (B : Nat) (hv : Value) (l : List Int) (n : Int) (w : World) (h : w.ownsRow B 3 1 hv l.length (intsV l)) (hl : l.length ≤ 1000) :
    Calls Try.prog 99 #[hv, .int .i64 n] w fun e w' => ∃ k : Int, e = .returned (.int .i64 k) ∧ ((k = -1 ∧ n ∉ l) ∨ (0 ≤ k ∧ n ∈ l)) ∧ Below w.heap.size w w' := by
  have HR := Lib.hid h
  obtain ⟨A, cc, hzv, _, hnc, hcm⟩ := own_slice h
  subst hzv
  clear h
  go_enter Try.func99, Try.ntmps99
  go_wp2_with fail
  go_loopw [8] (fun iv wr => ∃ i : Nat, i ≤ l.length ∧ iv = .int .i64 i ∧ (∀ j (hj : j < l.length), j < i → l[j] ≠ n) ∧ Below w.heap.size w wr) (fun iv _ => l.length - (intOf iv).toNat)
  case atStart => exact ⟨0, Nat.zero_le _, rfl, fun j hj h => by omega, Below.refl _ _⟩
  case round =>
    obtain ⟨i, hil, rfl, hno, hBw⟩ := hrel
    have HBW := Lib.hid hBw
    have HNO := Lib.hid hno
    by_cases hlt : i < l.length
    · have q3 : (i : Int) < (l.length : Int) := by omega
      have hr := row_belowZ HR.out hBw
      obtain ⟨gu, ku, e5, _, hgu, _, _⟩ := own_form hr (by omega)
      injection e5 with e5 e6 e7
      subst e5 e7
      have a0 := (hr.cellAt i (by omega)).trans (intsV_at hlt)
      obtain ⟨z, hz⟩ : ∃ z, z = l[i] := ⟨_, rfl⟩
      rw [← hz] at a0
      have HZ := Lib.hid hz
      clear hr hBw hz hno
      by_cases hk : n = z
      · go_wp2_with fail
        go_ret
        exact ⟨_, rfl, .inr ⟨by omega, by rw [HZ.out]; exact List.getElem_mem hlt⟩, HBW.out⟩
      · go_wp2_with fail
        refine ⟨⟨i + 1, hlt, by go_num, fun j hj h => ?_, HBW.out⟩, measZ hlt⟩
        by_cases e : j = i
        · subst e; rw [← HZ.out]; exact fun e => hk e.symm
        · exact HNO.out j hj (by omega)
    · obtain rfl : l.length = i := by omega
      go_wp2_with fail
      go_ret
      exact ⟨_, rfl, .inl ⟨rfl, fun hm => by obtain ⟨j, hj, e⟩ := List.getElem_of_mem hm; exact HNO.out j hj hj e⟩, HBW.out⟩
theorem drHas (B : Nat) (hv : Value) (l : List Int) (n : Int) (w : World) (h : w.ownsRow B 3 1 hv l.length (intsV l)) (hl : l.length ≤ 1000) :
    Calls Try.prog 91 #[hv, .int .i64 n] w fun e w' => e = .returned (.bool (decide (n ∈ l))) ∧ Below w.heap.size w w' := by
  by_cases hm : n ∈ l
  · go_enter Try.func91, Try.ntmps91
    go_wp2_with (first
      | (go_at_call 99; refine (drIdx B hv l n _ h hl).mono ?_; rintro e w2 ⟨k, rfl, hk, hb2⟩; have hk0 : 0 ≤ k := (by rcases hk with ⟨_, h⟩ | ⟨h, _⟩; exact absurd hm h; exact h); clear hk)
      | fail)
    go_ret
    exact ⟨ret_bool (by simp [*]), hb2⟩
  · go_enter Try.func91, Try.ntmps91
    go_wp2_with (first
      | (go_at_call 99; refine (drIdx B hv l n _ h hl).mono ?_; rintro e w2 ⟨k, rfl, hk, hb2⟩; obtain rfl : k = -1 := (by rcases hk with ⟨h, _⟩ | ⟨_, h⟩; exact h; exact absurd h hm); clear hk)
      | fail)
    go_ret
    exact ⟨ret_bool (by simp [*]), hb2⟩
end Go.Proofs.Ytbohpjinkdffhaa
