/- The directory in memory; how many are under way; where a zone stands. -/
import Derived.Test.YtbohpjinkdffhaaDrB
import Derived.Test.YtbohpjinkdffhaaSqJ
namespace Go.Proofs.Ytbohpjinkdffhaa
open Go.RowKit
set_option linter.unusedVariables false
set_option linter.unusedSimpArgs false

theorem row_belowZ {w w' : World} {base e size n : Nat} {v : Value} {xs : List Value} (h : w.ownsRow base e size v n xs) (hb : Below w.heap.size w w') : w'.ownsRow base e size v n xs := by
  refine ⟨h.1, ?_⟩
  rcases h.2 with h0 | ⟨g, cap, cur, hv, hg, hh, hr⟩
  · exact .inl h0
  · exact .inr ⟨g, cap, cur, hv, hg, by rw [hb.block g (Array.getElem?_eq_some_iff.1 hh).1]; exact hh, hr⟩
theorem measZ {j L : Nat} (h : j < L) : L - (intOf (.int .i64 ((j : Int) + 1))).toNat < L - (intOf (.int .i64 (j : Int))).toNat := by simp [intOf]; omega
def intsV (l : List Int) : List Value := l.map fun n => .int .i64 n
structure DrH (w : World) (B d : Nat) (hv zv : Value) (hosts : List Int) (m : Mp) : Prop where
  blk : Whl w d 74 #[hv, .int .i64 m.ver, .int .i64 m.nxt, zv]
  hrow : w.ownsRow B 3 1 hv hosts.length (intsV hosts)
  row : w.ownsRow B 39 9 zv m.zs.length (flatZ m.zs)
  ha : ∀ g, hv.ownBlock = some g → g ≠ d
  za : ∀ g, zv.ownBlock = some g → g ≠ d
  hz : ∀ g, hv.ownBlock = some g → zv.ownBlock ≠ some g
  low : B ≤ d
def Fd (d : Nat) (hv zv : Value) (k : Nat) : Prop := k = d ∨ hv.ownBlock = some k ∨ zv.ownBlock = some k
theorem DrH.keep {D : Nat → Prop} {w w' : World} {B d : Nat} {hv zv : Value} {hosts : List Int} {m : Mp} (h : DrH w B d hv zv hosts m) (ht : Touch D w w') (hD : ∀ k, Fd d hv zv k → ¬ D k) : DrH w' B d hv zv hosts m :=
  ⟨(ht.block d h.blk.low (hD d (.inl rfl))).trans h.blk, ht.own h.hrow (fun g hg => hD g (.inr (.inl hg))), ht.own h.row (fun g hg => hD g (.inr (.inr hg))), h.ha, h.za, h.hz, h.low⟩
theorem DrH.lows {w : World} {B d : Nat} {hv zv : Value} {hosts : List Int} {m : Mp} (h : DrH w B d hv zv hosts m) : ∀ k, Fd d hv zv k → B ≤ k ∧ k < w.heap.size := by
  rintro k (rfl | hk | hk)
  · exact ⟨h.low, h.blk.low⟩
  · exact h.hrow.lt k hk
  · exact h.row.lt k hk
theorem DrH.below {w w' : World} {B d : Nat} {hv zv : Value} {hosts : List Int} {m : Mp} (h : DrH w B d hv zv hosts m) (hb : Below w.heap.size w w') : DrH w' B d hv zv hosts m :=
  h.keep (Touch.of_below hb) (fun k hk hd => by have := (h.lows k hk).2; omega)
theorem ixZ {i n : Nat} (h : i < n) (k : Nat) (hk : k < 9) : i * 9 + k < n * 9 := by omega
theorem ixZ0 {i n : Nat} (h : i < n) : i * 9 < n * 9 := by omega
/-- the cells of a zone of a row -/
theorem rowZ_at {w : World} {B g c : Nat} {l : List Zn} (h : w.ownsRow B 39 9 (.slice (some ⟨g, 0, none⟩) l.length c) l.length (flatZ l)) {i : Nat} (hi : i < l.length) :
    w.cell? ⟨g, i * 9, none⟩ = some (.int .i64 l[i].id) ∧ w.cell? ⟨g, i * 9 + 1, none⟩ = some (.string l[i].fr) ∧ w.cell? ⟨g, i * 9 + 2, none⟩ = some (.string l[i].tt) ∧ w.cell? ⟨g, i * 9 + 3, none⟩ = some (.int .i64 l[i].ow) ∧ w.cell? ⟨g, i * 9 + 4, none⟩ = some (.int .i64 l[i].ep) ∧ w.cell? ⟨g, i * 9 + 5, none⟩ = some (.int .i64 l[i].pd) ∧ w.cell? ⟨g, i * 9 + 6, none⟩ = some (.int .i64 l[i].mv) ∧ w.cell? ⟨g, i * 9 + 7, none⟩ = some (.string l[i].ky) ∧ w.cell? ⟨g, i * 9 + 8, none⟩ = some (.int .i64 l[i].nw) := by
  obtain ⟨r0, r1, r2, r3, r4, r5, r6, r7, r8⟩ := flatZ_at l i hi
  exact ⟨(h.cellAt _ (ixZ0 hi)).trans r0, (h.cellAt _ (ixZ hi 1 (by decide))).trans r1, (h.cellAt _ (ixZ hi 2 (by decide))).trans r2, (h.cellAt _ (ixZ hi 3 (by decide))).trans r3, (h.cellAt _ (ixZ hi 4 (by decide))).trans r4, (h.cellAt _ (ixZ hi 5 (by decide))).trans r5, (h.cellAt _ (ixZ hi 6 (by decide))).trans r6, (h.cellAt _ (ixZ hi 7 (by decide))).trans r7, (h.cellAt _ (ixZ hi 8 (by decide))).trans r8⟩
theorem pendN_snoc (k : Int) {l : List Zn} {i : Nat} (h : i < l.length) : pendN k (l.take (i + 1)) = pendN k (l.take i) + if l[i].pd = k then 1 else 0 := by
  unfold pendN
  rw [List.take_add_one, List.getElem?_eq_getElem h, List.filter_append, List.length_append]
  simp only [Option.toList, List.filter_cons, List.filter_nil]
  by_cases e : l[i].pd = k
  · simp [e]
  · simp [e]
theorem pendN_le (k : Int) (l : List Zn) : pendN k l ≤ l.length := List.length_filter_le _ _
set_option maxHeartbeats 4000000 in
set_option maxRecDepth 10000 in
theorem drPending (B d : Nat) (hv zv : Value) (hosts : List Int) (m : Mp) (k : Int) (w : World) (h : DrH w B d hv zv hosts m) (hl : m.zs.length ≤ 1000) :
    Calls Try.prog 90 #[.pointer (some ⟨d, 0, none⟩), .int .i64 k] w fun e w' => e = .returned (.int .i64 (pendN k m.zs)) ∧ Below w.heap.size w w' := by
  have HD := Lib.hid h
  have l3 := h.blk.cell 3
  simp only [List.getElem?_toArray, List.getElem?_cons_succ, List.getElem?_cons_zero] at l3
  obtain ⟨A, c, hzv, _, hnc, hcm⟩ := own_slice h.row
  rw [hzv] at l3
  have hdl := h.blk.low
  clear h
  go_enter Try.func90, Try.ntmps90
  go_wp2_with fail
  go_loopw [5, 14] (fun nv iv wr => ∃ i : Nat, i ≤ m.zs.length ∧ iv = .int .i64 i ∧ nv = .int .i64 (pendN k (m.zs.take i)) ∧ Below w.heap.size w wr) (fun _ iv _ => m.zs.length - (intOf iv).toNat)
  case atStart => exact ⟨0, Nat.zero_le _, rfl, by simp [pendN], Below.refl _ _⟩
  case round =>
    obtain ⟨i, hil, rfl, rfl, hBw⟩ := hrel
    have HBW := Lib.hid hBw
    have hsw := hBw.size
    by_cases hlt : i < m.zs.length
    · have q3 : (i : Int) < (m.zs.length : Int) := by omega
      have hr := row_belowZ HD.out.row hBw
      obtain ⟨gu, ku, e5, _, hgu, _, _⟩ := own_form hr (by omega)
      rw [hzv] at e5
      injection e5 with e5 e6 e7
      subst e5 e7
      rw [hzv] at hr
      obtain ⟨z, hz⟩ : ∃ z, z = m.zs[i] := ⟨_, rfl⟩
      obtain ⟨a0, a1, a2, a3, a4, a5, a6, a7, a8⟩ := rowZ_at hr hlt
      rw [← hz] at a0 a1 a2 a3 a4 a5 a6 a7 a8
      have hps := pendN_snoc k hlt
      rw [← hz] at hps
      have hple := pendN_le k (m.zs.take i)
      rw [List.length_take] at hple
      have HPS := Lib.hid hps
      obtain ⟨pn, hpn⟩ : ∃ p, p = pendN k (m.zs.take i) := ⟨_, rfl⟩
      rw [← hpn] at hple ⊢
      have HPN := Lib.hid hpn
      clear hr hBw hz hps hpn
      by_cases hk : z.pd = k
      · go_wp2_with fail
        refine ⟨⟨i + 1, hlt, by go_num, ?_, HBW.out.trans (by ((repeat (first | (with_reducible exact Below.refl _ _) | (with_reducible assumption) | ((with_reducible refine b_set ?_ ?_); · (first | omega | (simp; done) | (simp; omega))) | ((with_reducible refine b_alloc ?_ ?_); · (first | omega | (simp; done) | (simp; omega))) | (with_reducible refine Below.drew ?_) | (with_reducible refine b_drewN ?_) | ((with_reducible refine b_call (by assumption) ?_ ?_); · (first | omega | (simp; done) | (simp; omega))))); done))⟩, measZ hlt⟩
        rw [HPS.out, if_pos hk, ← HPN.out]
        go_num
      · go_wp2_with fail
        refine ⟨⟨i + 1, hlt, by go_num, ?_, HBW.out.trans (by ((repeat (first | (with_reducible exact Below.refl _ _) | (with_reducible assumption) | ((with_reducible refine b_set ?_ ?_); · (first | omega | (simp; done) | (simp; omega))) | ((with_reducible refine b_alloc ?_ ?_); · (first | omega | (simp; done) | (simp; omega))) | (with_reducible refine Below.drew ?_) | (with_reducible refine b_drewN ?_) | ((with_reducible refine b_call (by assumption) ?_ ?_); · (first | omega | (simp; done) | (simp; omega))))); done))⟩, measZ hlt⟩
        rw [HPS.out, if_neg hk, ← HPN.out]
        rfl
    · obtain rfl : m.zs.length = i := by omega
      go_wp2_with fail
      go_ret
      rw [List.take_length]
      exact ⟨rfl, HBW.out⟩
end Go.Proofs.Ytbohpjinkdffhaa
