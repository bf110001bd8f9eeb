/- The directory in memory; how many are under way; where a zone stands. The directory: where a zone stands. The directory in memory behind a store; whether a host is among the hosts. The directory: what is under way is done. The directory: which change may be. T -/
import Derived.Deep.DeepCutAuto
import Derived.Laws.EntriesVeiled
import Derived.Lib.SliceRun
import Derived.Test.YtepjehcmiofehaaPq1
namespace Go.Proofs.Ytepjehcmiofehaa
open Go.RowKit
set_option linter.unusedVariables false
set_option linter.unusedSimpArgs false
theorem row_belowZ {w w' : World} {base e size n : Nat} {v : Value} {xs : List Value} (h : w.ownsRow base e size v n xs) (hb : Below w.heap.size w w') : w'.ownsRow base e size v n xs := by
  refine ⟨h.1, ?_⟩
  rcases h.2 with h0 | ⟨g, cap, cur, hv, hg, hh, hr⟩
  · exact .inl h0
  · exact .inr ⟨g, cap, cur, hv, hg, by rw [hb.block g (Array.getElem?_eq_some_iff.1 hh).1]; exact hh, hr⟩
theorem measZ {j L : Nat} (h : j < L) : L - (intOf (.int .i64 ((j : Int) + 1))).toNat < L - (intOf (.int .i64 (j : Int))).toNat := by simp [intOf]; omega
def intsV (l : List Int) : List Value := l.map fun n => .int .i64 n
structure DrH (w : World) (B d : Nat) (hv zv : Value) (hosts : List Int) (m : Mp) : Prop where
  blk : Whl w d 72 #[hv, .int .i64 m.ver, .int .i64 m.nxt, zv]
  hrow : w.ownsRow B 3 1 hv hosts.length (intsV hosts)
  row : w.ownsRow B 37 9 zv m.zs.length (flatZ m.zs)
  ha : ∀ g, hv.ownBlock = some g → g ≠ d
  za : ∀ g, zv.ownBlock = some g → g ≠ d
  hz : ∀ g, hv.ownBlock = some g → zv.ownBlock ≠ some g
  low : B ≤ d
def Fd (d : Nat) (hv zv : Value) (k : Nat) : Prop := k = d ∨ hv.ownBlock = some k ∨ zv.ownBlock = some k
theorem DrH.keep {D : Nat → Prop} {w w' : World} {B d : Nat} {hv zv : Value} {hosts : List Int} {m : Mp} (h : DrH w B d hv zv hosts m) (ht : Touch D w w') (hD : ∀ k, Fd d hv zv k → ¬ D k) : DrH w' B d hv zv hosts m :=
  ⟨(ht.block d h.blk.low (hD d (.inl rfl))).trans h.blk, ht.own h.hrow (fun g hg => hD g (.inr (.inl hg))), ht.own h.row (fun g hg => hD g (.inr (.inr hg))), h.ha, h.za, h.hz, h.low⟩
theorem DrH.lows {w : World} {B d : Nat} {hv zv : Value} {hosts : List Int} {m : Mp} (h : DrH w B d hv zv hosts m) : ∀ k, Fd d hv zv k → B ≤ k ∧ k < w.heap.size := by
  rintro k (rfl | hk | hk)
  · exact ⟨h.low, h.blk.low⟩
  · exact h.hrow.lt k hk
  · exact h.row.lt k hk
theorem DrH.below {w w' : World} {B d : Nat} {hv zv : Value} {hosts : List Int} {m : Mp} (h : DrH w B d hv zv hosts m) (hb : Below w.heap.size w w') : DrH w' B d hv zv hosts m :=
  h.keep (Touch.of_below hb) (fun k hk hd => by have := (h.lows k hk).2; omega)
theorem ixZ {i n : Nat} (h : i < n) (k : Nat) (hk : k < 9) : i * 9 + k < n * 9 := by omega
theorem ixZ0 {i n : Nat} (h : i < n) : i * 9 < n * 9 := by omega
/-- the cells of a zone of a row -/
theorem rowZ_at {w : World} {B g c : Nat} {l : List Zn} (h : w.ownsRow B 37 9 (.slice (some ⟨g, 0, none⟩) l.length c) l.length (flatZ l)) {i : Nat} (hi : i < l.length) :
    w.cell? ⟨g, i * 9, none⟩ = some (.int .i64 l[i].id) ∧ w.cell? ⟨g, i * 9 + 1, none⟩ = some (.string l[i].fr) ∧ w.cell? ⟨g, i * 9 + 2, none⟩ = some (.string l[i].tt) ∧ w.cell? ⟨g, i * 9 + 3, none⟩ = some (.int .i64 l[i].ow) ∧ w.cell? ⟨g, i * 9 + 4, none⟩ = some (.int .i64 l[i].ep) ∧ w.cell? ⟨g, i * 9 + 5, none⟩ = some (.int .i64 l[i].pd) ∧ w.cell? ⟨g, i * 9 + 6, none⟩ = some (.int .i64 l[i].mv) ∧ w.cell? ⟨g, i * 9 + 7, none⟩ = some (.string l[i].ky) ∧ w.cell? ⟨g, i * 9 + 8, none⟩ = some (.int .i64 l[i].nw) := by
  obtain ⟨r0, r1, r2, r3, r4, r5, r6, r7, r8⟩ := flatZ_at l i hi
  exact ⟨(h.cellAt _ (ixZ0 hi)).trans r0, (h.cellAt _ (ixZ hi 1 (by decide))).trans r1, (h.cellAt _ (ixZ hi 2 (by decide))).trans r2, (h.cellAt _ (ixZ hi 3 (by decide))).trans r3, (h.cellAt _ (ixZ hi 4 (by decide))).trans r4, (h.cellAt _ (ixZ hi 5 (by decide))).trans r5, (h.cellAt _ (ixZ hi 6 (by decide))).trans r6, (h.cellAt _ (ixZ hi 7 (by decide))).trans r7, (h.cellAt _ (ixZ hi 8 (by decide))).trans r8⟩
end Go.Proofs.Ytepjehcmiofehaa
namespace Go.Proofs.Ytepjehcmiofehaa
open Go.RowKit
set_option linter.unusedVariables false
set_option linter.unusedSimpArgs false
/-- the first zone with this ID stands there; -1: none has it -/
def At (l : List Zn) (id : Int) (n : Nat) (k : Int) : Prop := (k = -1 ∧ ∀ j (hj : j < l.length), j < n → l[j].id ≠ id) ∨ ∃ i : Nat, k = i ∧ ∃ h : i < l.length, l[i].id = id ∧ ∀ j (hj : j < l.length), j < i → l[j].id ≠ id
end Go.Proofs.Ytepjehcmiofehaa
namespace Go.Proofs.Ytepjehcmiofehaa
open Go.RowKit
set_option linter.unusedVariables false
set_option linter.unusedSimpArgs false
theorem Touch.mono'' {D D' : Nat → Prop} {w w' : World} (h : Touch D w w') (hD : ∀ k, k < w.heap.size → D k → D' k) : Touch D' w w' := ⟨h.os, h.tape, h.output, h.size, fun k hk hn => h.block k hk (fun hd => hn (hD k hk hd))⟩
theorem flatZ_setcell : ∀ (l : List Zn) (j : Nat) (h : j < l.length) (k : Nat) (hk : k < 9) (z : Zn) (v : Value) (hz : znV z = (znV l[j]).set k v), flatZ (l.set j z) = (flatZ l).set (j * 9 + k) v
  | [], j, h, _, _, _, _, _ => by cases h
  | a :: r, 0, h, k, hk, z, v, hz => by
    have e : flatZ (a :: r) = znV a ++ flatZ r := rfl
    have e2 : flatZ ((a :: r).set 0 z) = znV z ++ flatZ r := rfl
    rw [e, e2, hz, List.set_append_left _ _ (by simp [znV]; omega)]
    simp
  | a :: r, j + 1, h, k, hk, z, v, hz => by
    have := flatZ_setcell r j (by simpa using h) k hk z v hz
    have e : (j + 1) * 9 + k = (j * 9 + k) + 9 := by omega
    have e1 : flatZ (a :: r) = znV a ++ flatZ r := rfl
    have e2 : flatZ ((a :: r).set (j + 1) z) = znV a ++ flatZ (r.set j z) := rfl
    rw [e1, e2, this, e, List.set_append_right _ _ (by simp [znV])]
    simp [znV]
theorem DrH.len {w : World} {B d : Nat} {hv zv : Value} {hosts : List Int} {m : Mp} (h : DrH w B d hv zv hosts m) {n : Nat} {A : Option Addr} {c : Nat} (e : zv = .slice A n c) : n = m.zs.length := by
  obtain ⟨A', c', e', _⟩ := own_slice h.row
  rw [e] at e'; injection e'
theorem DrH.setcell {w : World} {B d g c n : Nat} {hv : Value} {hosts : List Int} {m : Mp} (h : DrH w B d hv (.slice (some ⟨g, 0, none⟩) n c) hosts m) {j : Nat} (hj : j < m.zs.length) {k : Nat} (hk : k < 9) {z : Zn} {v : Value} (hz : znV z = (znV m.zs[j]).set k v) :
    DrH (w.setCell ⟨g, j * 9 + k, none⟩ v) B d hv (.slice (some ⟨g, 0, none⟩) n c) hosts ⟨m.ver, m.nxt, m.zs.set j z⟩ := by
  obtain rfl := h.len rfl
  refine ⟨h.blk.far (fun e => h.za g rfl e.symm), own_set_ne h.hrow (fun q hq e => ?_), ?_, h.ha, h.za, h.hz, h.low⟩
  · have := h.hz q hq; exact this (by rw [e]; rfl)
  · show World.ownsRow _ B _ 9 _ (m.zs.set j z).length (flatZ (m.zs.set j z))
    rw [flatZ_setcell m.zs j hj k hk z v hz, List.length_set]
    exact (h.row.stored (j * 9 + k) v).1
theorem intsV_at {l : List Int} {j : Nat} (h : j < l.length) : (intsV l)[j]? = some (.int .i64 l[j]) := by unfold intsV; rw [List.getElem?_map, List.getElem?_eq_getElem h]; rfl
def Fz (d : Nat) (zv : Value) (k : Nat) : Prop := k = d ∨ zv.ownBlock = some k
/-- what a deed answers, and the directory behind it -/
def DeedQ (B d : Nat) (hv zv : Value) (hosts : List Int) (m : Mp) (c : Ch) (i : Nat) (h : i < m.zs.length) (w : World) (e : Ending) (w' : World) : Prop :=
  (∃ (m1 : Mp) (zv' : Value), Deed hosts m c i h m1 ∧ e = .returned (.bool true) ∧ DrH w' B d hv zv' hosts m1 ∧ Touch (Fz d zv) w w' ∧ (∀ k, zv'.ownBlock = some k → zv.ownBlock = some k ∨ w.heap.size ≤ k)) ∨
  ((∀ m1, ¬ Deed hosts m c i h m1) ∧ e = .returned (.bool false) ∧ Below w.heap.size w w')
end Go.Proofs.Ytepjehcmiofehaa
namespace Go.Proofs.Ytepjehcmiofehaa
open Go.RowKit
set_option linter.unusedVariables false
set_option linter.unusedSimpArgs false
theorem DeedQ.bool {B d : Nat} {hv zv : Value} {hosts : List Int} {m : Mp} {c : Ch} {i : Nat} {hi : i < m.zs.length} {w : World} {e : Ending} {w' : World} (h : DeedQ B d hv zv hosts m c i hi w e w') : ∃ b, e = .returned (.bool b) := by
  rcases h with ⟨m1, zv', h1, h2, _⟩ | ⟨h1, h2, _⟩
  · exact ⟨_, h2⟩
  · exact ⟨_, h2⟩
end Go.Proofs.Ytepjehcmiofehaa
namespace Go.Proofs.Ytepjehcmiofehaa
open Go.RowKit
set_option linter.unusedVariables false
set_option linter.unusedSimpArgs false
theorem OkCh_iff (c : Ch) : OkCh c ↔ ((1 ≤ c.zo ∧ c.zo ≤ 1099511627776) ∧ (1 ≤ c.kd ∧ c.kd ≤ 5) ∧ ((c.kd = 1 → 1 ≤ c.ky.size ∧ c.ky.size ≤ 16) ∧ (c.kd ≠ 1 → c.ky.size = 0)) ∧ ((c.kd = 3 → 1 ≤ c.mv ∧ c.mv ≤ 1048576) ∧ (c.kd ≠ 3 → c.mv = 0)) ∧ ((c.kd = 4 ∨ c.kd = 5 → 1 ≤ c.ep ∧ c.ep ≤ 1099511627776) ∧ (c.kd ≠ 4 → c.kd ≠ 5 → c.ep = 0))) :=
  ⟨fun h => ⟨h.1, h.2, h.3, h.4, h.5⟩, fun ⟨a, b, c, d, e⟩ => ⟨a, b, c, d, e⟩⟩
instance (c : Ch) : Decidable (OkCh c) := decidable_of_iff _ (OkCh_iff c).symm
theorem nil_size {s : ByteArray} : s.size = 0 ↔ s = ⟨#[]⟩ := by
  constructor
  · intro h; obtain ⟨⟨l⟩⟩ := s; cases l with
    | nil => rfl
    | cons a r => simp [ByteArray.size] at h
  · rintro rfl; rfl
theorem nil_beq {s : ByteArray} (h : s.size ≠ 0) : (([] : List UInt8) == s.toList) = false ∧ (s.toList == ([] : List UInt8)) = false ∧ s.toList ≠ [] ∧ ¬ [] = s.toList := by
  have h1 : s.toList ≠ [] := fun e => by
    have := nonempty_of (s := s) (by omega)
    rw [e] at this; cases this
  exact ⟨by rw [beq_eq_false_iff_ne]; exact fun e => h1 e.symm, by rw [beq_eq_false_iff_ne]; exact h1, h1, fun e => h1 e.symm⟩
end Go.Proofs.Ytepjehcmiofehaa
namespace Go.Proofs.Ytepjehcmiofehaa
open Go.RowKit
set_option linter.unusedVariables false
set_option linter.unusedSimpArgs false
/-- what is asked of a map that changes -/
structure OkM (m : Mp) : Prop where
  len : m.zs.length ≤ 1000
  nxt : 0 ≤ m.nxt
  ver : 0 ≤ m.ver
  ep : ∀ z ∈ m.zs, 0 ≤ z.ep
/-- what Apply answers -/
def ApQ (B d : Nat) (hv zv : Value) (hosts : List Int) (m : Mp) (c : Ch) (w : World) (e : Ending) (w' : World) : Prop :=
  (∃ (m1 : Mp) (zv' : Value), Applies hosts m c m1 ∧ e = .returned (.bool true) ∧ DrH w' B d hv zv' hosts m1 ∧ Touch (Fz d zv) w w' ∧ (∀ k, zv'.ownBlock = some k → zv.ownBlock = some k ∨ w.heap.size ≤ k)) ∨
  ((∀ m1, ¬ Applies hosts m c m1) ∧ e = .returned (.bool false) ∧ Below w.heap.size w w')
theorem DeedQ.touch {B d : Nat} {hv zv : Value} {hosts : List Int} {m : Mp} {c : Ch} {i : Nat} {hi : i < m.zs.length} {w : World} {e : Ending} {w' : World} (h : DeedQ B d hv zv hosts m c i hi w e w') : Touch (Fz d zv) w w' := by
  rcases h with ⟨m1, zv', _, _, _, h4, _⟩ | ⟨_, _, h3⟩
  · exact h4
  · exact (Touch.of_below h3).mono'' (fun k h1 h2 => absurd h2 (by omega))
theorem Deed.ver {hosts : List Int} {m m' : Mp} {c : Ch} {i : Nat} {h : i < m.zs.length} (hd : Deed hosts m c i h m') : m'.ver = m.ver := by cases hd <;> rfl
theorem DeedQ.yes {B d : Nat} {hv zv : Value} {hosts : List Int} {m : Mp} {c : Ch} {i : Nat} {hi : i < m.zs.length} {w : World} {w' : World} (h : DeedQ B d hv zv hosts m c i hi w (.returned (.bool true)) w') : ∃ (m1 : Mp) (zv' : Value), Deed hosts m c i hi m1 ∧ DrH w' B d hv zv' hosts m1 ∧ Touch (Fz d zv) w w' ∧ (∀ k, zv'.ownBlock = some k → zv.ownBlock = some k ∨ w.heap.size ≤ k) := by
  rcases h with ⟨m1, zv', h1, h2, h3, h4, h5⟩ | ⟨h1, h2, h3⟩
  · exact ⟨m1, zv', h1, h3, h4, h5⟩
  · cases h2
theorem DeedQ.no {B d : Nat} {hv zv : Value} {hosts : List Int} {m : Mp} {c : Ch} {i : Nat} {hi : i < m.zs.length} {w : World} {w' : World} (h : DeedQ B d hv zv hosts m c i hi w (.returned (.bool false)) w') : (∀ m1, ¬ Deed hosts m c i hi m1) ∧ Below w.heap.size w w' := by
  rcases h with ⟨m1, zv', h1, h2, h3, h4, h5⟩ | ⟨h1, h2, h3⟩
  · cases h2
  · exact ⟨h1, h3⟩
end Go.Proofs.Ytepjehcmiofehaa
namespace Go.Proofs.Ytepjehcmiofehaa
open Go.RowKit
set_option linter.unusedVariables false
set_option linter.unusedSimpArgs false
theorem Try.infoI64 : (Try.prog.info? 3).map (fun i => (i.zero, i.size, i.bytes)) = some (some (.int .i64 0), 1, 8) := by kernel_rfl
theorem own_mono {w : World} {base base' : Nat} {e : TypeId} {size n : Nat} {v : Value} {xs : List Value} (h : w.ownsRow base e size v n xs) (hb : base' ≤ base) : w.ownsRow base' e size v n xs := by
  refine ⟨h.1, ?_⟩
  rcases h.2 with hn | ⟨g, cap, cur, hv, hg, rest⟩
  · exact .inl hn
  · exact .inr ⟨g, cap, cur, hv, by omega, rest⟩
theorem intsV_one (l : List Int) : ∀ u ∈ intsV l, u.oneCell' = true := by
  intro u hu
  obtain ⟨z, _, rfl⟩ := List.mem_map.1 hu
  rfl
set_option maxHeartbeats 4000000 in
set_option maxRecDepth 10000 in
theorem drCloneI (B : Nat) (v : Value) (l : List Int) (w : World) (h : w.ownsRow B 3 1 v l.length (intsV l)) (hl : l.length ≤ 1000) :
    Calls Try.prog 28 #[v] w fun e w' => ∃ v', e = .returned v' ∧ w'.ownsRow w.heap.size 3 1 v' l.length (intsV l) ∧ Below w.heap.size w w' := by
  obtain ⟨i0, hi0, hz0, hz1, hz2⟩ := info_parts Try.infoI64
  have qn : ∀ (w : World) (a : Option Addr) (n c n' c' : Nat), (binOp .eql 25 (.slice a n c) (.slice none n' c')).run Try.prog w = .ok (.bool a.isNone) w := fun w a n c n' c' => Lib.run_eql_slice_nil w _ _ a n c n' c' Try.underlying25
  rcases h.2 with ⟨rfl, h0⟩ | ⟨g, cap, cur, rfl, hB, hg, hnc, hcm, hcs, htake⟩
  · have hl0 : l = [] := List.length_eq_zero_iff.1 h0
    subst hl0
    clear h
    go_enter Try.func28, Try.ntmps28
    go_wp2_with fail
    go_ret
    exact ⟨_, rfl, World.ownsRow_nil _ _ _ _, by ((repeat (first | (with_reducible exact Below.refl _ _) | (with_reducible assumption) | ((with_reducible refine b_set ?_ ?_); · (first | omega | (simp; done) | (simp; omega))) | ((with_reducible refine b_alloc ?_ ?_); · (first | omega | (simp; done) | (simp; omega))) | (with_reducible refine Below.drew ?_) | (with_reducible refine b_drewN ?_) | ((with_reducible refine b_call (by assumption) ?_ ?_); · (first | omega | (simp; done) | (simp; omega))))); done)⟩
  · have hlw := (Array.getElem?_eq_some_iff.1 hg).1
    have hC : Cells w w.heap.size (some ⟨g, 0, none⟩) l.length cap 1 (intsV l) := by
      refine ⟨h.1, (fun h => nomatch h), fun j u hj => ⟨g, 0, rfl, hlw, ?_⟩⟩
      rw [Nat.zero_add, h.cellAt j (by have := (List.getElem?_eq_some_iff.1 hj).1; have h1 := h.1; omega)]
      exact hj
    have HC := Lib.hid hC
    clear hC h htake hg hcs
    go_enter Try.func28, Try.ntmps28
    go_wp2_with (first
      | (at_builtin; refine wpList_append_row rfl (.tmp 5) (.tmp 6) 25 rfl w.heap.size 3 i0 _ 1 8 Try.underlying25 hi0 hz0 hz1 hz2 rfl (by decide) (.slice (some ⟨w.heap.size, 0, none⟩) 0 0) 0 [] rfl (owns_lit0 rfl (Nat.le_refl _)) w.heap.size (some ⟨g, 0, none⟩) l.length cap (intsV l) rfl (cells_keep HC.out ((Below.refl _ _).alloc (Nat.le_refl _) _) (Nat.le_refl _)) (intsV_one l) (by unfold maxLen; omega) (by omega) (by simp) ?_; intro v5 w5 ho5 hb5; have HO5 := Lib.hid ho5; have HB5 := Lib.hid hb5; clear ho5 hb5)
      | fail)
    go_ret
    have h5 := HO5.out
    rw [Nat.zero_add, List.nil_append] at h5
    exact ⟨v5, rfl, h5, ((Below.refl _ _).alloc (Nat.le_refl _) _).trans (HB5.out.mono (by simp))⟩
/-- hosts, behind a number -/
def okFrom : Int → List Int → Bool
  | _, [] => true
  | a, h :: r => decide (a < h) && decide (h < 14) && okFrom h r
def hostsB (l : List Int) : Bool := decide (1 ≤ l.length) && decide (l.length ≤ 6) && okFrom 7 l
set_option maxHeartbeats 4000000 in
set_option maxRecDepth 10000 in
theorem drAreHosts (B : Nat) (hv : Value) (l : List Int) (w : World) (h : w.ownsRow B 3 1 hv l.length (intsV l)) (hl : l.length ≤ 100000) :
    Calls Try.prog 27 #[hv] w fun e w' => e = .returned (.bool (hostsB l)) ∧ Below w.heap.size w w' := by
  have HR := Lib.hid h
  obtain ⟨A, cc, hzv, _, hnc, hcm⟩ := own_slice h
  subst hzv
  clear h
  by_cases h1 : 1 ≤ l.length
  case neg =>
    have h0 : l.length = 0 := by omega
    have hb : hostsB l = false := by unfold hostsB; rw [decide_eq_false h1]; rfl
    go_enter Try.func27, Try.ntmps27
    go_wp2_with fail
    go_ret
    exact ⟨ret_bool (by rw [hb]), by ((repeat (first | (with_reducible exact Below.refl _ _) | (with_reducible assumption) | ((with_reducible refine b_set ?_ ?_); · (first | omega | (simp; done) | (simp; omega))) | ((with_reducible refine b_alloc ?_ ?_); · (first | omega | (simp; done) | (simp; omega))) | (with_reducible refine Below.drew ?_) | (with_reducible refine b_drewN ?_) | ((with_reducible refine b_call (by assumption) ?_ ?_); · (first | omega | (simp; done) | (simp; omega))))); done)⟩
  by_cases h6 : l.length ≤ 6
  case neg =>
    have hb : hostsB l = false := by unfold hostsB; rw [decide_eq_false h6, Bool.and_false]; rfl
    go_enter Try.func27, Try.ntmps27
    go_wp2_with fail
    go_ret
    exact ⟨ret_bool (by rw [hb]), by ((repeat (first | (with_reducible exact Below.refl _ _) | (with_reducible assumption) | ((with_reducible refine b_set ?_ ?_); · (first | omega | (simp; done) | (simp; omega))) | ((with_reducible refine b_alloc ?_ ?_); · (first | omega | (simp; done) | (simp; omega))) | (with_reducible refine Below.drew ?_) | (with_reducible refine b_drewN ?_) | ((with_reducible refine b_call (by assumption) ?_ ?_); · (first | omega | (simp; done) | (simp; omega))))); done)⟩
  have hb : hostsB l = okFrom 7 l := by unfold hostsB; rw [decide_eq_true h1, decide_eq_true h6]; rfl
  have HHB := Lib.hid hb
  clear hb
  go_enter Try.func27, Try.ntmps27
  go_wp2_with fail
  go_loopw [3, 5, 16] (fun av hv iv wr => ∃ (i : Nat) (a : Int), i ≤ l.length ∧ iv = .int .i64 i ∧ av = .int .i64 a ∧ okFrom 7 l = okFrom a (l.drop i) ∧ Below w.heap.size w wr) (fun _ _ iv _ => l.length - (intOf iv).toNat)
  case atStart => exact ⟨0, 7, Nat.zero_le _, rfl, rfl, rfl, by ((repeat (first | (with_reducible exact Below.refl _ _) | (with_reducible assumption) | ((with_reducible refine b_set ?_ ?_); · (first | omega | (simp; done) | (simp; omega))) | ((with_reducible refine b_alloc ?_ ?_); · (first | omega | (simp; done) | (simp; omega))) | (with_reducible refine Below.drew ?_) | (with_reducible refine b_drewN ?_) | ((with_reducible refine b_call (by assumption) ?_ ?_); · (first | omega | (simp; done) | (simp; omega))))); done)⟩
  case round =>
    obtain ⟨i, a, hil, rfl, rfl, hok, hBw⟩ := hrel
    have HBW := Lib.hid hBw
    have HOK := Lib.hid hok
    by_cases hlt : i < l.length
    · have q3 : (i : Int) < (l.length : Int) := by omega
      have hr := row_belowZ HR.out hBw
      obtain ⟨gu, ku, e5, _, hgu, _, _⟩ := own_form hr (by omega)
      injection e5 with e5 e6 e7
      subst e5 e7
      have a0 := (hr.cellAt i (by omega)).trans (intsV_at hlt)
      obtain ⟨z, hz⟩ : ∃ z, z = l[i] := ⟨_, rfl⟩
      rw [← hz] at a0
      have hdr : l.drop i = z :: l.drop (i + 1) := by rw [hz]; exact List.drop_eq_getElem_cons hlt
      have HDR := Lib.hid hdr
      clear hr hBw hz hok hdr
      by_cases hk : a < z
      · by_cases hk2 : z < 14
        · go_wp2_with fail
          refine ⟨⟨i + 1, z, hlt, by go_num, rfl, ?_, HBW.out⟩, measZ hlt⟩
          rw [HOK.out, HDR.out]
          show (decide (a < z) && decide (z < 14) && okFrom z (l.drop (i + 1))) = _
          rw [decide_eq_true hk, decide_eq_true hk2]; rfl
        · go_wp2_with fail
          go_ret
          refine ⟨ret_bool ?_, HBW.out⟩
          rw [HHB.out, HOK.out, HDR.out]
          show _ = (decide (a < z) && decide (z < 14) && okFrom z (l.drop (i + 1)))
          rw [decide_eq_false (show ¬ z < 14 by omega), Bool.and_false]; rfl
      · go_wp2_with fail
        go_ret
        refine ⟨ret_bool ?_, HBW.out⟩
        rw [HHB.out, HOK.out, HDR.out]
        show _ = (decide (a < z) && decide (z < 14) && okFrom z (l.drop (i + 1)))
        rw [decide_eq_false (show ¬ a < z by omega)]; rfl
    · obtain rfl : l.length = i := by omega
      go_wp2_with fail
      go_ret
      refine ⟨ret_bool ?_, HBW.out⟩
      rw [HHB.out, HOK.out, List.drop_length]; rfl
def mp1 (l : List Int) : Mp := ⟨1, 2, [⟨1, ⟨#[]⟩, ⟨#[]⟩, l.headD 0, 1, 0, 0, ⟨#[]⟩, 0⟩]⟩
theorem mp1_flat {l : List Int} (h : 1 ≤ l.length) : flatZ (mp1 l).zs = (#[.int .i64 1, .string ⟨#[]⟩, .string ⟨#[]⟩, .int .i64 l[0], .int .i64 1, .int .i64 0, .int .i64 0, .string ⟨#[]⟩, .int .i64 0] : Array Value).toList := by
  rcases l with _ | ⟨a, r⟩
  · simp at h
  · rfl
theorem row_below2 {w w' : World} {n : Nat} {b e sz k g c : Nat} {xs : List Value} (hb : Below n w w') (hg : g < n) (h : w.ownsRow b e sz (.slice (some ⟨g, 0, none⟩) k c) k xs) : w'.ownsRow b e sz (.slice (some ⟨g, 0, none⟩) k c) k xs :=
  (Touch.of_below hb).own h (fun q hq hd => by have : g = q := (by simpa [Value.ownBlock] using hq); omega)
theorem mkDr (b0 : Nat) (W : World) (d : Nat) (hv zv : Value) (l : List Int) (hd : d = W.heap.size) (h1 : W.ownsRow b0 3 1 hv l.length (intsV l)) (h2 : W.ownsRow b0 37 9 zv 1 (flatZ (mp1 l).zs)) (hne : ∀ g, hv.ownBlock = some g → zv.ownBlock ≠ some g) (hb : b0 ≤ W.heap.size) :
    DrH (W.alloc (.cells #[hv, .int .i64 1, .int .i64 2, zv] 72)) b0 d hv zv l (mp1 l) := by
  subst hd
  refine ⟨Whl.new rfl, h1.alloc _, h2.alloc _, fun g hg => ?_, fun g hg => ?_, hne, hb⟩
  · have := (h1.lt g hg).2; omega
  · have := (h2.lt g hg).2; omega
set_option maxHeartbeats 4000000 in
set_option maxRecDepth 10000 in
theorem drNew0 (B : Nat) (hv : Value) (l : List Int) (w : World) (h : w.ownsRow B 3 1 hv l.length (intsV l)) (hl : l.length ≤ 100000) (hb : hostsB l = false) :
    Calls Try.prog 16 #[hv] w fun e w' => e = .returned (.tuple #[.pointer none, .int .i64 1]) ∧ Below w.heap.size w w' := by
  have HR := Lib.hid h
  have HHB := Lib.hid hb
  clear h hb
  go_enter Try.func16, Try.ntmps16
  go_wp2_with (first
    | (go_at_call 27; go_loud (refine (drAreHosts B hv l _ HR.out hl).mono ?_; rintro e w2 ⟨rfl, hb2⟩; rw [HHB.out]; have HB2 := Lib.hid hb2; clear hb2))
    | fail)
  refine bodyPost_ret (v := .tuple #[.pointer none, .int .i64 1]) (by simp [results, Try.results16, go_sem]) rfl ⟨rfl, HB2.out⟩
set_option maxHeartbeats 4000000 in
set_option maxRecDepth 10000 in
theorem drNew1 (B : Nat) (hv : Value) (l : List Int) (w : World) (h : w.ownsRow B 3 1 hv l.length (intsV l)) (hb : hostsB l = true) :
    Calls Try.prog 16 #[hv] w fun e w' => ∃ (d : Nat) (hv' zv : Value), e = .returned (.tuple #[.pointer (some ⟨d, 0, none⟩), .int .i64 0]) ∧ DrH w' w.heap.size d hv' zv l (mp1 l) ∧ Below w.heap.size w w' := by
  have HR := Lib.hid h
  have HHB := Lib.hid hb
  have h1 : 1 ≤ l.length ∧ l.length ≤ 6 := by
    unfold hostsB at hb
    simp only [Bool.and_eq_true, decide_eq_true_eq] at hb
    exact hb.1
  obtain ⟨g, cc, rfl, _, hg, hnc, hcm⟩ := own_form h (by omega)
  have a0 := (h.cellAt 0 (by omega)).trans (intsV_at (show 0 < l.length by omega))
  have q1 : (1 : Int) ≤ (l.length : Int) := by omega
  have q0 : (0 : Int) < (l.length : Int) := by omega
  clear h hb
  go_enter Try.func16, Try.ntmps16
  go_upto_region 4 with (first
    | (go_at_call 27; go_loud (refine (drAreHosts B _ l _ HR.out (by omega)).mono ?_; rintro e w2 ⟨rfl, hb2⟩; rw [HHB.out]; have HB2 := Lib.hid hb2; have a2 := bkeep hb2 a0 hg; clear hb2))
    | fail)
  have HBV : Hid (Below w.heap.size w (w2.alloc (.cells #[.int .i64 1, .string ⟨#[]⟩, .string ⟨#[]⟩, .int .i64 l[0], .int .i64 1, .int .i64 0, .int .i64 0, .string ⟨#[]⟩, .int .i64 0] 37))) := Lib.hid (HB2.out.alloc HB2.out.size _)
  have hP : Whl (w2.alloc (.cells #[.int .i64 1, .string ⟨#[]⟩, .string ⟨#[]⟩, .int .i64 l[0], .int .i64 1, .int .i64 0, .int .i64 0, .string ⟨#[]⟩, .int .i64 0] 37)) w2.heap.size 37 #[.int .i64 1, .string ⟨#[]⟩, .string ⟨#[]⟩, .int .i64 l[0], .int .i64 1, .int .i64 0, .int .i64 0, .string ⟨#[]⟩, .int .i64 0] := Whl.new rfl
  have p0 := hP.cell 0
  have p1 := hP.cell 1
  have p2 := hP.cell 2
  have p3 := hP.cell 3
  have p4 := hP.cell 4
  have p5 := hP.cell 5
  have p6 := hP.cell 6
  have p7 := hP.cell 7
  have p8 := hP.cell 8
  simp only [List.getElem?_toArray, List.getElem?_cons_succ, List.getElem?_cons_zero] at p0 p1 p2 p3 p4 p5 p6 p7 p8
  have hrow : ∀ W, Below w.heap.size w W → W.ownsRow B 3 1 (.slice (some ⟨g, 0, none⟩) l.length cc) l.length (intsV l) := fun W hW => row_belowZ HR.out hW
  have hpl := hP.low
  have hs2 := HB2.out.size
  have hh : l.headD 0 = l[0] := by
    rcases l with _ | ⟨a, r⟩
    · simp at h1
    · rfl
  have HH := Lib.hid hh
  clear hP a2 hh
  obtain ⟨N, hN⟩ : ∃ n, n = w2.heap.size := ⟨_, rfl⟩
  rw [← hN] at p0 p1 p2 p3 p4 p5 p6 p7 p8 hpl hs2 ⊢
  clear hN
  generalize (w2.alloc (.cells #[.int .i64 1, .string ⟨#[]⟩, .string ⟨#[]⟩, .int .i64 l[0], .int .i64 1, .int .i64 0, .int .i64 0, .string ⟨#[]⟩, .int .i64 0] 37)) = V at *
  go_region_with (first
    | (go_at_call 28; go_loud (refine (drCloneI B _ l _ (hrow _ (by have h9 := HBV.out; ((repeat (first | (with_reducible exact Below.refl _ _) | (with_reducible assumption) | ((with_reducible refine b_set ?_ ?_); · (first | omega | (simp; done) | (simp; omega))) | ((with_reducible refine b_alloc ?_ ?_); · (first | omega | (simp; done) | (simp; omega))) | (with_reducible refine Below.drew ?_) | (with_reducible refine b_drewN ?_) | ((with_reducible refine b_call (by assumption) ?_ ?_); · (first | omega | (simp; done) | (simp; omega))))); done))) (by omega)).mono ?_; rintro e w5 ⟨v', rfl, ho5, hb5⟩; obtain ⟨g5, c5, hv5, hg5, hg5l, hn5, hc5⟩ := own_form ho5 (by omega); subst hv5; obtain ⟨hc6, hf6⟩ := bcell hb5; have hs6 := hb5.size; (try simp at hs6); have HO5 := Lib.hid ho5; have HB5 := Lib.hid hb5; clear ho5 hb5))
    | fail)
  all_goals go_wp2_with fail
  all_goals have hsV := HBV.out.size
  all_goals have hb5 := HB5.out
  all_goals have hs7 := hb5.size
  all_goals simp at hs7 hg5
  rotate_left 2
  · have hBW : Below w.heap.size w w5 := Below.trans (by have h9 := HBV.out; ((repeat (first | (with_reducible exact Below.refl _ _) | (with_reducible assumption) | ((with_reducible refine b_set ?_ ?_); · (first | omega | (simp; done) | (simp; omega))) | ((with_reducible refine b_alloc ?_ ?_); · (first | omega | (simp; done) | (simp; omega))) | (with_reducible refine Below.drew ?_) | (with_reducible refine b_drewN ?_) | ((with_reducible refine b_call (by assumption) ?_ ?_); · (first | omega | (simp; done) | (simp; omega))))); done)) (hb5.mono (by simp; omega))
    refine bodyPost_ret (v := .tuple #[.pointer (some ⟨w5.heap.size, 0, none⟩), .int .i64 0]) (by simp [results, Try.results16, go_sem]) rfl ⟨w5.heap.size, .slice (some ⟨g5, 0, none⟩) l.length c5, .slice (some ⟨V.heap.size, 0, none⟩) 1 1, rfl, ?_, hBW.alloc (by omega) _⟩
    refine mkDr _ w5 _ _ _ l rfl (own_mono HO5.out (by simp; omega)) ?_ (fun g hg e => ?_) (by omega)
    · refine row_below2 (Below.mono hb5 (Nat.le_refl _)) (by simp) ?_
      have h9 := World.ownsRow_lit (base := w.heap.size) (e := 37) (size := 9) V #[.int .i64 1, .string ⟨#[]⟩, .string ⟨#[]⟩, .int .i64 l[0], .int .i64 1, .int .i64 0, .int .i64 0, .string ⟨#[]⟩, .int .i64 0] 1 (by omega) (by unfold maxLen; omega) rfl
      rw [mp1_flat h1.1]
      exact h9
    · have e1 : g5 = g := by simpa [Value.ownBlock] using hg
      have e2 : V.heap.size = g := by simpa [Value.ownBlock] using e
      omega
  all_goals
    have hBW : Below w.heap.size w w5 := Below.trans (by have h9 := HBV.out; ((repeat (first | (with_reducible exact Below.refl _ _) | (with_reducible assumption) | ((with_reducible refine b_set ?_ ?_); · (first | omega | (simp; done) | (simp; omega))) | ((with_reducible refine b_alloc ?_ ?_); · (first | omega | (simp; done) | (simp; omega))) | (with_reducible refine Below.drew ?_) | (with_reducible refine b_drewN ?_) | ((with_reducible refine b_call (by assumption) ?_ ?_); · (first | omega | (simp; done) | (simp; omega))))); done)) (hb5.mono (by simp; omega))
    refine bodyPost_ret (v := .tuple #[.pointer (some ⟨w5.heap.size + 1, 0, none⟩), .int .i64 0]) (by simp [results, Try.results16, go_sem]) rfl ⟨w5.heap.size + 1, .slice (some ⟨g5, 0, none⟩) l.length c5, .slice (some ⟨w5.heap.size, 0, none⟩) 1 1, rfl, ?_, Below.alloc (hBW.alloc (by omega) _) (by simp; omega) _⟩
    refine mkDr _ (w5.alloc (.cells #[.int .i64 1, .string ⟨#[]⟩, .string ⟨#[]⟩, .int .i64 l[0], .int .i64 1, .int .i64 0, .int .i64 0, .string ⟨#[]⟩, .int .i64 0] 37)) _ _ _ l (by simp) ((own_mono HO5.out (by simp; omega)).alloc _) ?_ (fun g hg e => ?_) (by simp; omega)
    · have h9 := World.ownsRow_lit (base := w.heap.size) (e := 37) (size := 9) w5 #[.int .i64 1, .string ⟨#[]⟩, .string ⟨#[]⟩, .int .i64 l[0], .int .i64 1, .int .i64 0, .int .i64 0, .string ⟨#[]⟩, .int .i64 0] 1 (by omega) (by unfold maxLen; omega) rfl
      rw [mp1_flat h1.1]
      exact h9
    · have e1 : g5 = g := by simpa [Value.ownBlock] using hg
      have e2 : w5.heap.size = g := by simpa [Value.ownBlock] using e
      omega
end Go.Proofs.Ytepjehcmiofehaa
