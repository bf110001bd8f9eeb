/- A block that is known whole (XBlk's first half: never beside XBlk). The directory: rows of zones; which change may be. Rows of elements of several cells: copy, clear, stores of many cells in a row's block; what slices.Insert and slices.Delete leave. The direct -/
import Derived.Deep.Cut
import Derived.StillTailTactics
import Derived.Laws.IdiomCopy
import Derived.Lib.AppendZerosOnto
import Derived.Lib.Overlaps
import Derived.Lib.ReflectliteSwap
import Derived.Deep.RegionLaw
import Derived.Deep.DeepCutAuto
import Derived.Laws.EntriesVeiled
import Derived.Test.YtepjehcmiofehaaGreatPq1
namespace Go.Proofs.YtepjehcmiofehaaGreat
open Go.RowKit
set_option linter.unusedVariables false
set_option linter.unusedSimpArgs false
/-- block g is just these cells -/
def Whl (w : World) (g : Nat) (t : TypeId) (cs : Array Value) : Prop := w.heap[g]? = some (.cells cs t (0, 0))
theorem Whl.low {w : World} {g : Nat} {t : TypeId} {cs : Array Value} (h : Whl w g t cs) : g < w.heap.size := (Array.getElem?_eq_some_iff.1 h).1
theorem Whl.cell {w : World} {g : Nat} {t : TypeId} {cs : Array Value} (h : Whl w g t cs) (i : Nat) : w.cell? ⟨g, i, none⟩ = cs[i]? := cell_of_row w g i cs t (0, 0) h
theorem Whl.free {w : World} {g : Nat} {t : TypeId} {cs : Array Value} (h : Whl w g t cs) (i : Nat) : w.frozen? ⟨g, i, none⟩ = false := by
  unfold Whl at h
  simp [World.frozen?, h]
theorem Whl.below {w w' : World} {g B : Nat} {t : TypeId} {cs : Array Value} (h : Whl w g t cs) (hb : Below B w w') (hB : g < B) : Whl w' g t cs := (hb.block g hB).trans h
theorem Whl.set {w : World} {g : Nat} {t : TypeId} {cs : Array Value} (h : Whl w g t cs) (i : Nat) (v : Value) : Whl (w.setCell ⟨g, i, none⟩ v) g t (cs.setIfInBounds i v) := by
  unfold Whl at *
  simp [World.setCell, Array.getElem?_modify, h]
theorem Whl.far {w : World} {g : Nat} {t : TypeId} {cs : Array Value} (h : Whl w g t cs) {a : Addr} {v : Value} (ha : g ≠ a.block) : Whl (w.setCell a v) g t cs := (Below.heap_setCell w a v g ha).trans h
theorem Whl.new {w : World} {t : TypeId} {cs : Array Value} {n : Nat} (hn : n = w.heap.size) : Whl (w.alloc (.cells cs t)) n t cs := by subst hn; exact heap_alloc_new w _
theorem Whl.alloc {w : World} {g : Nat} {t : TypeId} {cs : Array Value} (h : Whl w g t cs) (o : Obj) : Whl (w.alloc o) g t cs := (Below.heap_alloc w o g h.low).trans h
theorem Whl.drew {w : World} {g : Nat} {t : TypeId} {cs : Array Value} (h : Whl w g t cs) : Whl w.drew g t cs := h
end Go.Proofs.YtepjehcmiofehaaGreat
namespace Go.Proofs.YtepjehcmiofehaaGreat
open Go.RowKit
set_option linter.unusedVariables false
set_option linter.unusedSimpArgs false
def znA (z : Zn) : Value := .agg #[.int .i64 z.id, .string z.fr, .string z.tt, .int .i64 z.ow, .int .i64 z.ep, .int .i64 z.pd, .int .i64 z.mv, .string z.ky, .int .i64 z.nw]
theorem flatZ_app (a b : List Zn) : flatZ (a ++ b) = flatZ a ++ flatZ b := by simp [flatZ]
theorem flatZ_at : ∀ (l : List Zn) (j : Nat) (h : j < l.length), (flatZ l)[j * 9]? = some (.int .i64 l[j].id) ∧ (flatZ l)[j * 9 + 1]? = some (.string l[j].fr) ∧ (flatZ l)[j * 9 + 2]? = some (.string l[j].tt) ∧ (flatZ l)[j * 9 + 3]? = some (.int .i64 l[j].ow) ∧ (flatZ l)[j * 9 + 4]? = some (.int .i64 l[j].ep) ∧ (flatZ l)[j * 9 + 5]? = some (.int .i64 l[j].pd) ∧ (flatZ l)[j * 9 + 6]? = some (.int .i64 l[j].mv) ∧ (flatZ l)[j * 9 + 7]? = some (.string l[j].ky) ∧ (flatZ l)[j * 9 + 8]? = some (.int .i64 l[j].nw)
  | [], j, h => by cases h
  | a :: r, 0, h => by simp [flatZ, znV]
  | a :: r, j + 1, h => by
    have := flatZ_at r j (by simpa using h)
    have e : (j + 1) * 9 = j * 9 + 9 := by omega
    simp only [flatZ, List.flatMap_cons, znV, List.getElem_cons_succ] at this ⊢
    rw [e]
    exact this
theorem flatZ_one (l : List Zn) : ∀ u ∈ flatZ l, u.oneCell' = true := by
  intro u hu
  obtain ⟨z, _, hz⟩ := List.mem_flatMap.1 hu
  simp only [znV, List.mem_cons, List.not_mem_nil, or_false] at hz
  rcases hz with rfl | rfl | rfl | rfl | rfl | rfl | rfl | rfl | rfl <;> rfl
theorem drWithin (n a b : Int) (w : World) : Calls Tryz.prog 68 #[.int .i64 n, .int .i64 a, .int .i64 b] w fun e w' => e = .returned (.bool (decide (a ≤ n ∧ n ≤ b))) ∧ w' = w := by
  by_cases h1 : a ≤ n
  · by_cases h2 : n ≤ b
    · go_enter Tryz.func68, Tryz.ntmps68
      go_wp2_with fail
      go_ret
      exact ⟨ret_bool (by first | (simp [*]; done) | (simp [*]; omega) | (simp [*]; intro h; omega)), rfl⟩
    · go_enter Tryz.func68, Tryz.ntmps68
      go_wp2_with fail
      go_ret
      exact ⟨ret_bool (by first | (simp [*]; done) | (simp [*]; omega) | (simp [*]; intro h; omega)), rfl⟩
  · go_enter Tryz.func68, Tryz.ntmps68
    go_wp2_with fail
    go_ret
    exact ⟨ret_bool (by first | (simp [*]; done) | (simp [*]; omega) | (simp [*]; intro h; omega)), rfl⟩
end Go.Proofs.YtepjehcmiofehaaGreat
namespace Go.Proofs.YtepjehcmiofehaaGreat
open Go.RowKit
set_option linter.unusedVariables false
set_option linter.unusedSimpArgs false
section
variable {P : Program}
end
/-- the block of a row, with what is spare behind it -/
structure RowB (w : World) (g : Nat) (e : TypeId) (cap size : Nat) (C : List Value) : Prop where
  blk : ∃ cur, w.heap[g]? = some (.cells cur e (0, 0)) ∧ cur.toList = C
  len : C.length = cap * size
theorem RowB.lt {w : World} {g : Nat} {e : TypeId} {cap size : Nat} {C : List Value} (h : RowB w g e cap size C) : g < w.heap.size := by obtain ⟨cur, h1, _⟩ := h.blk; exact (Array.getElem?_eq_some_iff.1 h1).1
theorem RowB.own {w : World} {B : Nat} {e : TypeId} {size n g cap : Nat} {C : List Value} (h : RowB w g e cap size C) (hB : B ≤ g) (hn : n ≤ cap) (hm : cap ≤ maxLen) : w.ownsRow B e size (.slice (some ⟨g, 0, none⟩) n cap) n (C.take (n * size)) := by
  obtain ⟨cur, h1, h2⟩ := h.blk
  have hl := h.len
  have : n * size ≤ cap * size := Nat.mul_le_mul_right _ hn
  refine ⟨by rw [List.length_take]; omega, .inr ⟨g, cap, cur, rfl, hB, h1, hn, hm, ?_, by rw [h2]⟩⟩
  rw [← hl, ← h2]; simp
theorem RowB.cell {w : World} {g : Nat} {e : TypeId} {cap size : Nat} {C : List Value} (h : RowB w g e cap size C) (j : Nat) : w.cell? ⟨g, j, none⟩ = C[j]? := by
  obtain ⟨cur, h1, h2⟩ := h.blk
  rw [cell_of_row w g j cur e (0, 0) h1, ← h2]; simp
theorem RowB.free {w : World} {g : Nat} {e : TypeId} {cap size : Nat} {C : List Value} (h : RowB w g e cap size C) (j : Nat) : w.frozen? ⟨g, j, none⟩ = false := by
  obtain ⟨cur, h1, h2⟩ := h.blk
  exact frozen_of_row w g j cur e h1
theorem RowB.drew {w : World} {g : Nat} {e : TypeId} {cap size : Nat} {C : List Value} (h : RowB w g e cap size C) : RowB w.drew g e cap size C := ⟨h.blk, h.len⟩
end Go.Proofs.YtepjehcmiofehaaGreat
namespace Go.Proofs.YtepjehcmiofehaaGreat
open Go.RowKit
set_option linter.unusedVariables false
set_option linter.unusedSimpArgs false
theorem Tryz.infoZone : (Tryz.prog.info? 56).map (fun i => (i.zero, i.size, i.bytes)) = some (some (.agg #[.int .i64 0, .string ⟨#[]⟩, .string ⟨#[]⟩, .int .i64 0, .int .i64 0, .int .i64 0, .int .i64 0, .string ⟨#[]⟩, .int .i64 0]), 9, 96) := by kernel_rfl
end Go.Proofs.YtepjehcmiofehaaGreat
namespace Go.Proofs.YtepjehcmiofehaaGreat
open Go.RowKit
set_option linter.unusedVariables false
set_option linter.unusedSimpArgs false
theorem spanJoin1 (f t g u : ByteArray) (w : World) (h : joinB f t g u = true) :
    Calls Tryz.prog 80 #[.agg #[.string f, .string t], .agg #[.string g, .string u]] w fun e w' => e = .returned (.tuple #[.agg #[.string f, .string u], .bool true]) ∧ Below w.heap.size w w' := by
  simp only [joinB, Bool.and_eq_true, Bool.not_eq_true'] at h
  obtain ⟨⟨⟨a1, a2⟩, a3⟩, a4⟩ := h
  go_enter Tryz.func80, Tryz.ntmps80
  go_wp2_with fail
  refine (spanIs _ _ _).mono ?_
  rintro e w1 ⟨rfl, hb⟩
  obtain ⟨hc, hf⟩ := bcell hb
  cases h1 : isB f t
  · go_wp2_with fail
    all_goals (exfalso; clear hc hf hb; simp_all [joinB]; done)
  · go_wp2_with fail
    refine (spanIs _ _ _).mono ?_
    rintro e w2 ⟨rfl, hb2⟩
    replace hb2 := hb.trans (hb2.mono hb.size); clear hc hf; obtain ⟨hc, hf⟩ := bcell hb2
    cases h2 : isB g u
    all_goals go_wp2_with fail
    all_goals first
      | (exfalso; clear hc hf hb hb2; simp_all [joinB]; done)
      | skip
    all_goals refine bodyPost_ret (v := .tuple #[.agg #[.string f, .string u], .bool true]) (by simp [results, Tryz.results80, go_sem, hc]) rfl ⟨rfl, ?_⟩
    all_goals clear hc hf hb
    all_goals ((repeat (first | (with_reducible exact Below.refl _ _) | (with_reducible assumption) | ((with_reducible refine b_set ?_ ?_); · (first | omega | (simp; done) | (simp; omega))) | ((with_reducible refine b_alloc ?_ ?_); · (first | omega | (simp; done) | (simp; omega))) | (with_reducible refine Below.drew ?_) | (with_reducible refine b_drewN ?_) | ((with_reducible refine b_call (by assumption) ?_ ?_); · (first | omega | (simp; done) | (simp; omega))))); done)
theorem spanJoin0 (f t g u : ByteArray) (w : World) (h : joinB f t g u = false) :
    Calls Tryz.prog 80 #[.agg #[.string f, .string t], .agg #[.string g, .string u]] w fun e w' => e = .returned (.tuple #[.agg #[.string ⟨#[]⟩, .string ⟨#[]⟩], .bool false]) ∧ Below w.heap.size w w' := by
  go_enter Tryz.func80, Tryz.ntmps80
  go_wp2_with fail
  refine (spanIs _ _ _).mono ?_
  rintro e w1 ⟨rfl, hb⟩
  obtain ⟨hc, hf⟩ := bcell hb
  cases h1 : isB f t
  · go_wp2_with fail
    all_goals first
      | (exfalso; clear hc hf hb; simp_all [joinB]; done)
      | skip
    all_goals refine bodyPost_ret (v := .tuple #[.agg #[.string ⟨#[]⟩, .string ⟨#[]⟩], .bool false]) (by simp [results, Tryz.results80, go_sem, hc]) rfl ⟨rfl, ?_⟩
    all_goals clear hc hf
    all_goals ((repeat (first | (with_reducible exact Below.refl _ _) | (with_reducible assumption) | ((with_reducible refine b_set ?_ ?_); · (first | omega | (simp; done) | (simp; omega))) | ((with_reducible refine b_alloc ?_ ?_); · (first | omega | (simp; done) | (simp; omega))) | (with_reducible refine Below.drew ?_) | (with_reducible refine b_drewN ?_) | ((with_reducible refine b_call (by assumption) ?_ ?_); · (first | omega | (simp; done) | (simp; omega))))); done)
  · go_wp2_with fail
    refine (spanIs _ _ _).mono ?_
    rintro e w2 ⟨rfl, hb2⟩
    replace hb2 := hb.trans (hb2.mono hb.size); clear hc hf; obtain ⟨hc, hf⟩ := bcell hb2
    cases h2 : isB g u
    all_goals go_wp2_with fail
    all_goals first
      | (exfalso; clear hc hf hb hb2; simp_all [joinB]; done)
      | skip
    all_goals refine bodyPost_ret (v := .tuple #[.agg #[.string ⟨#[]⟩, .string ⟨#[]⟩], .bool false]) (by simp [results, Tryz.results80, go_sem, hc]) rfl ⟨rfl, ?_⟩
    all_goals clear hc hf hb
    all_goals ((repeat (first | (with_reducible exact Below.refl _ _) | (with_reducible assumption) | ((with_reducible refine b_set ?_ ?_); · (first | omega | (simp; done) | (simp; omega))) | ((with_reducible refine b_alloc ?_ ?_); · (first | omega | (simp; done) | (simp; omega))) | (with_reducible refine Below.drew ?_) | (with_reducible refine b_drewN ?_) | ((with_reducible refine b_call (by assumption) ?_ ?_); · (first | omega | (simp; done) | (simp; omega))))); done)
end Go.Proofs.YtepjehcmiofehaaGreat
namespace Go.Proofs.YtepjehcmiofehaaGreat
open Go.RowKit
set_option linter.unusedVariables false
set_option linter.unusedSimpArgs false
theorem row_belowZ {w w' : World} {base e size n : Nat} {v : Value} {xs : List Value} (h : w.ownsRow base e size v n xs) (hb : Below w.heap.size w w') : w'.ownsRow base e size v n xs := by
  refine ⟨h.1, ?_⟩
  rcases h.2 with h0 | ⟨g, cap, cur, hv, hg, hh, hr⟩
  · exact .inl h0
  · exact .inr ⟨g, cap, cur, hv, hg, by rw [hb.block g (Array.getElem?_eq_some_iff.1 hh).1]; exact hh, hr⟩
theorem measZ {j L : Nat} (h : j < L) : L - (intOf (.int .i64 ((j : Int) + 1))).toNat < L - (intOf (.int .i64 (j : Int))).toNat := by simp [intOf]; omega
def intsV (l : List Int) : List Value := l.map fun n => .int .i64 n
structure DrH (w : World) (B d : Nat) (hv zv : Value) (hosts : List Int) (m : Mp) : Prop where
  blk : Whl w d 67 #[hv, .int .i64 m.ver, .int .i64 m.nxt, zv]
  hrow : w.ownsRow B 3 1 hv hosts.length (intsV hosts)
  row : w.ownsRow B 56 9 zv m.zs.length (flatZ m.zs)
  ha : ∀ g, hv.ownBlock = some g → g ≠ d
  za : ∀ g, zv.ownBlock = some g → g ≠ d
  hz : ∀ g, hv.ownBlock = some g → zv.ownBlock ≠ some g
  low : B ≤ d
def Fd (d : Nat) (hv zv : Value) (k : Nat) : Prop := k = d ∨ hv.ownBlock = some k ∨ zv.ownBlock = some k
theorem DrH.keep {D : Nat → Prop} {w w' : World} {B d : Nat} {hv zv : Value} {hosts : List Int} {m : Mp} (h : DrH w B d hv zv hosts m) (ht : Touch D w w') (hD : ∀ k, Fd d hv zv k → ¬ D k) : DrH w' B d hv zv hosts m :=
  ⟨(ht.block d h.blk.low (hD d (.inl rfl))).trans h.blk, ht.own h.hrow (fun g hg => hD g (.inr (.inl hg))), ht.own h.row (fun g hg => hD g (.inr (.inr hg))), h.ha, h.za, h.hz, h.low⟩
theorem DrH.lows {w : World} {B d : Nat} {hv zv : Value} {hosts : List Int} {m : Mp} (h : DrH w B d hv zv hosts m) : ∀ k, Fd d hv zv k → B ≤ k ∧ k < w.heap.size := by
  rintro k (rfl | hk | hk)
  · exact ⟨h.low, h.blk.low⟩
  · exact h.hrow.lt k hk
  · exact h.row.lt k hk
theorem DrH.below {w w' : World} {B d : Nat} {hv zv : Value} {hosts : List Int} {m : Mp} (h : DrH w B d hv zv hosts m) (hb : Below w.heap.size w w') : DrH w' B d hv zv hosts m :=
  h.keep (Touch.of_below hb) (fun k hk hd => by have := (h.lows k hk).2; omega)
theorem ixZ {i n : Nat} (h : i < n) (k : Nat) (hk : k < 9) : i * 9 + k < n * 9 := by omega
theorem ixZ0 {i n : Nat} (h : i < n) : i * 9 < n * 9 := by omega
/-- the cells of a zone of a row -/
theorem rowZ_at {w : World} {B g c : Nat} {l : List Zn} (h : w.ownsRow B 56 9 (.slice (some ⟨g, 0, none⟩) l.length c) l.length (flatZ l)) {i : Nat} (hi : i < l.length) :
    w.cell? ⟨g, i * 9, none⟩ = some (.int .i64 l[i].id) ∧ w.cell? ⟨g, i * 9 + 1, none⟩ = some (.string l[i].fr) ∧ w.cell? ⟨g, i * 9 + 2, none⟩ = some (.string l[i].tt) ∧ w.cell? ⟨g, i * 9 + 3, none⟩ = some (.int .i64 l[i].ow) ∧ w.cell? ⟨g, i * 9 + 4, none⟩ = some (.int .i64 l[i].ep) ∧ w.cell? ⟨g, i * 9 + 5, none⟩ = some (.int .i64 l[i].pd) ∧ w.cell? ⟨g, i * 9 + 6, none⟩ = some (.int .i64 l[i].mv) ∧ w.cell? ⟨g, i * 9 + 7, none⟩ = some (.string l[i].ky) ∧ w.cell? ⟨g, i * 9 + 8, none⟩ = some (.int .i64 l[i].nw) := by
  obtain ⟨r0, r1, r2, r3, r4, r5, r6, r7, r8⟩ := flatZ_at l i hi
  exact ⟨(h.cellAt _ (ixZ0 hi)).trans r0, (h.cellAt _ (ixZ hi 1 (by decide))).trans r1, (h.cellAt _ (ixZ hi 2 (by decide))).trans r2, (h.cellAt _ (ixZ hi 3 (by decide))).trans r3, (h.cellAt _ (ixZ hi 4 (by decide))).trans r4, (h.cellAt _ (ixZ hi 5 (by decide))).trans r5, (h.cellAt _ (ixZ hi 6 (by decide))).trans r6, (h.cellAt _ (ixZ hi 7 (by decide))).trans r7, (h.cellAt _ (ixZ hi 8 (by decide))).trans r8⟩
end Go.Proofs.YtepjehcmiofehaaGreat
namespace Go.Proofs.YtepjehcmiofehaaGreat
open Go.RowKit
set_option linter.unusedVariables false
set_option linter.unusedSimpArgs false
/-- the first zone with this ID stands there; -1: none has it -/
def At (l : List Zn) (id : Int) (n : Nat) (k : Int) : Prop := (k = -1 ∧ ∀ j (hj : j < l.length), j < n → l[j].id ≠ id) ∨ ∃ i : Nat, k = i ∧ ∃ h : i < l.length, l[i].id = id ∧ ∀ j (hj : j < l.length), j < i → l[j].id ≠ id
end Go.Proofs.YtepjehcmiofehaaGreat
namespace Go.Proofs.YtepjehcmiofehaaGreat
open Go.RowKit
set_option linter.unusedVariables false
set_option linter.unusedSimpArgs false
theorem Touch.mono'' {D D' : Nat → Prop} {w w' : World} (h : Touch D w w') (hD : ∀ k, k < w.heap.size → D k → D' k) : Touch D' w w' := ⟨h.os, h.tape, h.output, h.size, fun k hk hn => h.block k hk (fun hd => hn (hD k hk hd))⟩
theorem flatZ_setcell : ∀ (l : List Zn) (j : Nat) (h : j < l.length) (k : Nat) (hk : k < 9) (z : Zn) (v : Value) (hz : znV z = (znV l[j]).set k v), flatZ (l.set j z) = (flatZ l).set (j * 9 + k) v
  | [], j, h, _, _, _, _, _ => by cases h
  | a :: r, 0, h, k, hk, z, v, hz => by
    have e : flatZ (a :: r) = znV a ++ flatZ r := rfl
    have e2 : flatZ ((a :: r).set 0 z) = znV z ++ flatZ r := rfl
    rw [e, e2, hz, List.set_append_left _ _ (by simp [znV]; omega)]
    simp
  | a :: r, j + 1, h, k, hk, z, v, hz => by
    have := flatZ_setcell r j (by simpa using h) k hk z v hz
    have e : (j + 1) * 9 + k = (j * 9 + k) + 9 := by omega
    have e1 : flatZ (a :: r) = znV a ++ flatZ r := rfl
    have e2 : flatZ ((a :: r).set (j + 1) z) = znV a ++ flatZ (r.set j z) := rfl
    rw [e1, e2, this, e, List.set_append_right _ _ (by simp [znV])]
    simp [znV]
theorem DrH.len {w : World} {B d : Nat} {hv zv : Value} {hosts : List Int} {m : Mp} (h : DrH w B d hv zv hosts m) {n : Nat} {A : Option Addr} {c : Nat} (e : zv = .slice A n c) : n = m.zs.length := by
  obtain ⟨A', c', e', _⟩ := own_slice h.row
  rw [e] at e'; injection e'
theorem DrH.setcell {w : World} {B d g c n : Nat} {hv : Value} {hosts : List Int} {m : Mp} (h : DrH w B d hv (.slice (some ⟨g, 0, none⟩) n c) hosts m) {j : Nat} (hj : j < m.zs.length) {k : Nat} (hk : k < 9) {z : Zn} {v : Value} (hz : znV z = (znV m.zs[j]).set k v) :
    DrH (w.setCell ⟨g, j * 9 + k, none⟩ v) B d hv (.slice (some ⟨g, 0, none⟩) n c) hosts ⟨m.ver, m.nxt, m.zs.set j z⟩ := by
  obtain rfl := h.len rfl
  refine ⟨h.blk.far (fun e => h.za g rfl e.symm), own_set_ne h.hrow (fun q hq e => ?_), ?_, h.ha, h.za, h.hz, h.low⟩
  · have := h.hz q hq; exact this (by rw [e]; rfl)
  · show World.ownsRow _ B _ 9 _ (m.zs.set j z).length (flatZ (m.zs.set j z))
    rw [flatZ_setcell m.zs j hj k hk z v hz, List.length_set]
    exact (h.row.stored (j * 9 + k) v).1
theorem intsV_at {l : List Int} {j : Nat} (h : j < l.length) : (intsV l)[j]? = some (.int .i64 l[j]) := by unfold intsV; rw [List.getElem?_map, List.getElem?_eq_getElem h]; rfl
def Fz (d : Nat) (zv : Value) (k : Nat) : Prop := k = d ∨ zv.ownBlock = some k
/-- what a deed answers, and the directory behind it -/
def DeedQ (B d : Nat) (hv zv : Value) (hosts : List Int) (m : Mp) (c : Ch) (i : Nat) (h : i < m.zs.length) (w : World) (e : Ending) (w' : World) : Prop :=
  (∃ (m1 : Mp) (zv' : Value), Deed hosts m c i h m1 ∧ e = .returned (.bool true) ∧ DrH w' B d hv zv' hosts m1 ∧ Touch (Fz d zv) w w' ∧ (∀ k, zv'.ownBlock = some k → zv.ownBlock = some k ∨ w.heap.size ≤ k)) ∨
  ((∀ m1, ¬ Deed hosts m c i h m1) ∧ e = .returned (.bool false) ∧ Below w.heap.size w w')
end Go.Proofs.YtepjehcmiofehaaGreat
namespace Go.Proofs.YtepjehcmiofehaaGreat
open Go.RowKit
set_option linter.unusedVariables false
set_option linter.unusedSimpArgs false
theorem DeedQ.bool {B d : Nat} {hv zv : Value} {hosts : List Int} {m : Mp} {c : Ch} {i : Nat} {hi : i < m.zs.length} {w : World} {e : Ending} {w' : World} (h : DeedQ B d hv zv hosts m c i hi w e w') : ∃ b, e = .returned (.bool b) := by
  rcases h with ⟨m1, zv', h1, h2, _⟩ | ⟨h1, h2, _⟩
  · exact ⟨_, h2⟩
  · exact ⟨_, h2⟩
end Go.Proofs.YtepjehcmiofehaaGreat
namespace Go.Proofs.YtepjehcmiofehaaGreat
open Go.RowKit
set_option linter.unusedVariables false
set_option linter.unusedSimpArgs false
theorem OkCh_iff (c : Ch) : OkCh c ↔ ((1 ≤ c.zo ∧ c.zo ≤ 1099511627776) ∧ (1 ≤ c.kd ∧ c.kd ≤ 5) ∧ ((c.kd = 1 → 1 ≤ c.ky.size ∧ c.ky.size ≤ 16) ∧ (c.kd ≠ 1 → c.ky.size = 0)) ∧ ((c.kd = 3 → 1 ≤ c.mv ∧ c.mv ≤ 1048576) ∧ (c.kd ≠ 3 → c.mv = 0)) ∧ ((c.kd = 4 ∨ c.kd = 5 → 1 ≤ c.ep ∧ c.ep ≤ 1099511627776) ∧ (c.kd ≠ 4 → c.kd ≠ 5 → c.ep = 0))) :=
  ⟨fun h => ⟨h.1, h.2, h.3, h.4, h.5⟩, fun ⟨a, b, c, d, e⟩ => ⟨a, b, c, d, e⟩⟩
instance (c : Ch) : Decidable (OkCh c) := decidable_of_iff _ (OkCh_iff c).symm
theorem nil_size {s : ByteArray} : s.size = 0 ↔ s = ⟨#[]⟩ := by
  constructor
  · intro h; obtain ⟨⟨l⟩⟩ := s; cases l with
    | nil => rfl
    | cons a r => simp [ByteArray.size] at h
  · rintro rfl; rfl
theorem nil_beq {s : ByteArray} (h : s.size ≠ 0) : (([] : List UInt8) == s.toList) = false ∧ (s.toList == ([] : List UInt8)) = false ∧ s.toList ≠ [] ∧ ¬ [] = s.toList := by
  have h1 : s.toList ≠ [] := fun e => by
    have := nonempty_of (s := s) (by omega)
    rw [e] at this; cases this
  exact ⟨by rw [beq_eq_false_iff_ne]; exact fun e => h1 e.symm, by rw [beq_eq_false_iff_ne]; exact h1, h1, fun e => h1 e.symm⟩
end Go.Proofs.YtepjehcmiofehaaGreat
namespace Go.Proofs.YtepjehcmiofehaaGreat
open Go.RowKit
set_option linter.unusedVariables false
set_option linter.unusedSimpArgs false
/-- what is asked of a map that changes -/
structure OkM (m : Mp) : Prop where
  len : m.zs.length ≤ 1000
  nxt : 0 ≤ m.nxt
  ver : 0 ≤ m.ver
  ep : ∀ z ∈ m.zs, 0 ≤ z.ep
theorem DeedQ.touch {B d : Nat} {hv zv : Value} {hosts : List Int} {m : Mp} {c : Ch} {i : Nat} {hi : i < m.zs.length} {w : World} {e : Ending} {w' : World} (h : DeedQ B d hv zv hosts m c i hi w e w') : Touch (Fz d zv) w w' := by
  rcases h with ⟨m1, zv', _, _, _, h4, _⟩ | ⟨_, _, h3⟩
  · exact h4
  · exact (Touch.of_below h3).mono'' (fun k h1 h2 => absurd h2 (by omega))
theorem Deed.ver {hosts : List Int} {m m' : Mp} {c : Ch} {i : Nat} {h : i < m.zs.length} (hd : Deed hosts m c i h m') : m'.ver = m.ver := by cases hd <;> rfl
theorem DeedQ.no {B d : Nat} {hv zv : Value} {hosts : List Int} {m : Mp} {c : Ch} {i : Nat} {hi : i < m.zs.length} {w : World} {w' : World} (h : DeedQ B d hv zv hosts m c i hi w (.returned (.bool false)) w') : (∀ m1, ¬ Deed hosts m c i hi m1) ∧ Below w.heap.size w w' := by
  rcases h with ⟨m1, zv', h1, h2, h3, h4, h5⟩ | ⟨h1, h2, h3⟩
  · cases h2
  · exact ⟨h1, h3⟩
end Go.Proofs.YtepjehcmiofehaaGreat
