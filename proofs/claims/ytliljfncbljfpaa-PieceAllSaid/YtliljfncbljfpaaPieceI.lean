/- piece.In: what Begin, Take, Whole and Bytes do; of nil ones too. -/
import Derived.Test.YtliljfncbljfpaaPieceA
namespace Go.Proofs.Ytliljfncbljfpaa
open Go.RowKit
set_option linter.unusedVariables false
set_option linter.unusedSimpArgs false

/-- which block a slice in the first cell of a block lies in -/
def rowBlk (w : World) (b : Nat) : Option Nat := (w.cell? ⟨b, 0, none⟩).bind Value.ownBlock
/-- os, tape, output as they were; no block is gone; but for those of D all are as they were -/
structure Touch (D : Nat → Prop) (w w' : World) : Prop where
  os : w'.os = w.os
  tape : w'.tape = w.tape
  output : w'.output = w.output
  size : w.heap.size ≤ w'.heap.size
  block : ∀ k, k < w.heap.size → ¬ D k → w'.heap[k]? = w.heap[k]?
theorem Touch.of_below {B : Nat} {w w' : World} (h : Below B w w') : Touch (B ≤ ·) w w' := ⟨h.os, h.tape, h.output, h.size, fun k _ hk => h.block k (by omega)⟩
theorem Touch.below {D : Nat → Prop} {w w' : World} (h : Touch D w w') {B : Nat} (hB : B ≤ w.heap.size) (hD : ∀ k, D k → B ≤ k) : Below B w w' := ⟨h.os, h.tape, h.output, h.size, fun k hk => h.block k (by omega) (fun hd => by have := hD k hd; omega)⟩
theorem Touch.cell {D : Nat → Prop} {w w' : World} (h : Touch D w w') {b o : Nat} {v : Value} (hv : w.cell? ⟨b, o, none⟩ = some v) (hD : ¬ D b) : w'.cell? ⟨b, o, none⟩ = some v :=
  (World.cell?_of_block (h.block b (World.block_lt_of_cell? w ⟨b, o, none⟩ hv) hD)).trans hv
theorem Touch.frozen {D : Nat → Prop} {w w' : World} (h : Touch D w w') {b o : Nat} {x : Bool} (hb : b < w.heap.size) (hv : w.frozen? ⟨b, o, none⟩ = x) (hD : ¬ D b) : w'.frozen? ⟨b, o, none⟩ = x :=
  (World.frozen?_of_block (h.block b hb hD)).trans hv
theorem Touch.own {D : Nat → Prop} {w w' : World} (h : Touch D w w') {base e size n : Nat} {v : Value} {xs : List Value} (ho : w.ownsRow base e size v n xs) (hD : ∀ g, v.ownBlock = some g → ¬ D g) : w'.ownsRow base e size v n xs := by
  refine ⟨ho.1, ?_⟩
  rcases ho.2 with h0 | ⟨g, cap, cur, hv, hg, hh, hr⟩
  · exact .inl h0
  · exact .inr ⟨g, cap, cur, hv, hg, by rw [h.block g (Array.getElem?_eq_some_iff.1 hh).1 (hD g (by rw [hv]; rfl))]; exact hh, hr⟩
theorem Touch.cells {D : Nat → Prop} {w w' : World} (h : Touch D w w') {B : Nat} {A : Option Addr} {m c size : Nat} {news : List Value} (hx : Cells w B A m c size news) (hD : ∀ a, A = some a → ¬ D a.block) : Cells w' B A m c size news :=
  ⟨hx.1, hx.2.1, fun j u hu => by obtain ⟨b, o, e, hb, hc⟩ := hx.2.2 j u hu; exact ⟨b, o, e, hb, h.cell hc (hD _ e)⟩⟩
theorem Touch.mono {D D' : Nat → Prop} {w w' : World} (h : Touch D w w') (hD : ∀ k, D k → D' k) : Touch D' w w' := ⟨h.os, h.tape, h.output, h.size, fun k hk hn => h.block k hk (fun hd => hn (hD k hd))⟩
theorem Touch.refl (D : Nat → Prop) (w : World) : Touch D w w := ⟨rfl, rfl, rfl, Nat.le_refl _, fun _ _ _ => rfl⟩
theorem Touch.drewN {D : Nat → Prop} {w w' : World} (h : Touch D w w') (n : Nat) : Touch D w (w'.drewN n) := ⟨h.os, h.tape, h.output, h.size, h.block⟩
/-- one after the other: of what the second touches, only what was there ahead of the first one counts -/
theorem Touch.trans {D D' : Nat → Prop} {a b c : World} (h : Touch D a b) (k : Touch D' b c) (hD : ∀ n, n < a.heap.size → D' n → D n) : Touch D a c :=
  ⟨k.os.trans h.os, k.tape.trans h.tape, k.output.trans h.output, Nat.le_trans h.size k.size, fun i hi hn => (k.block i (Nat.lt_of_lt_of_le hi h.size) (fun hd => hn (hD i hi hd))).trans (h.block i hi hn)⟩

/-- an In at block b, its row in a block of its own from L on -/
structure Pi (w : World) (b L : Nat) (row : List Nat) (size : Int) : Prop where
  row : ∃ v, w.cell? ⟨b, 0, none⟩ = some v ∧ w.ownsRow L 5 1 v row.length (flatU row) ∧ ∀ g, v.ownBlock = some g → g ≠ b
  size : w.cell? ⟨b, 1, none⟩ = some (.int .i64 size)
  free : ∀ j, w.frozen? ⟨b, j, none⟩ = false
  low : b < w.heap.size
  high : L ≤ b
theorem Pi.drewN {w : World} {b L : Nat} {row : List Nat} {s : Int} (h : Pi w b L row s) (n : Nat) : Pi (w.drewN n) b L row s := ⟨h.row, h.size, h.free, h.low, h.high⟩
theorem Pi.touch {w w' : World} {D : Nat → Prop} {b L : Nat} {row : List Nat} {s : Int} (h : Pi w b L row s) (ht : Touch D w w') (hb : ¬ D b) (hr : ∀ g, rowBlk w b = some g → ¬ D g) : Pi w' b L row s := by
  obtain ⟨v, hv, ho, hne⟩ := h.row
  exact ⟨⟨v, ht.cell hv hb, ht.own ho (fun g hg => hr g (by rw [rowBlk, hv]; exact hg)), hne⟩, ht.cell h.size hb, fun j => ht.frozen h.low (h.free j) hb, Nat.lt_of_lt_of_le h.low ht.size, h.high⟩
theorem rowBlk_touch {w w' : World} {D : Nat → Prop} {b : Nat} (ht : Touch D w w') (hl : b < w.heap.size) (hb : ¬ D b) : rowBlk w' b = rowBlk w b := by
  unfold rowBlk
  rw [World.cell?_of_block (a := ⟨b, 0, none⟩) (ht.block b hl hb)]

theorem piBegin (n : Int) (w : World) (h0 : 1 ≤ n) (h1 : n ≤ 524288) :
    Calls Try.prog 37 #[.int .i64 n] w fun e w' => ∃ b, e = .returned (.tuple #[.pointer (some ⟨b, 0, none⟩), .int .i64 0]) ∧ w.heap.size ≤ b ∧ Pi w' b w.heap.size [] n ∧ rowBlk w' b = none ∧ Below w.heap.size w w' := by
  go_enter Try.func37, Try.ntmps37
  go_wp2_with fail
  go_ret2
  have c0 : (w.alloc (.cells #[.slice none 0 0, .int .i64 n] 114)).cell? ⟨w.heap.size, 0, none⟩ = some (.slice none 0 0) := by ((repeat (first | (with_reducible assumption) | ((with_reducible refine c_set_same ?_); ((repeat (first | (with_reducible exact h_of (by assumption)) | (with_reducible assumption) | (with_reducible refine h_set ?_) | ((with_reducible refine h_alloc ?_ ?_); · (first | omega | (simp; done) | (simp; omega))) | ((with_reducible refine h_new ?_ ?_) <;> (first | omega | (simp; done) | (simp; omega))) | (with_reducible refine h_drew ?_) | (with_reducible refine h_drewN ?_) | ((with_reducible refine h_keep (by assumption) ?_ ?_); · (first | omega | (simp; done) | (simp; omega))))); done)) | ((with_reducible refine c_set_other ?_ ?_); · (first | omega | (simp; done) | (simp; omega))) | ((with_reducible refine c_alloc ?_ ?_); · (first | omega | (simp; done) | (simp; omega))) | ((with_reducible refine c_new ?_ ?_) <;> (first | omega | (simp; done) | (simp; omega))) | (with_reducible refine c_drew ?_) | (with_reducible refine c_drewN ?_) | ((with_reducible refine c_keep (by assumption) ?_ ?_); · (first | omega | (simp; done) | (simp; omega))))); done)
  exact ⟨_, rfl, Nat.le_refl _, ⟨⟨_, c0, World.ownsRow_nil _ _ _ _, fun g hg => by simp [Value.ownBlock] at hg⟩, by ((repeat (first | (with_reducible assumption) | ((with_reducible refine c_set_same ?_); ((repeat (first | (with_reducible exact h_of (by assumption)) | (with_reducible assumption) | (with_reducible refine h_set ?_) | ((with_reducible refine h_alloc ?_ ?_); · (first | omega | (simp; done) | (simp; omega))) | ((with_reducible refine h_new ?_ ?_) <;> (first | omega | (simp; done) | (simp; omega))) | (with_reducible refine h_drew ?_) | (with_reducible refine h_drewN ?_) | ((with_reducible refine h_keep (by assumption) ?_ ?_); · (first | omega | (simp; done) | (simp; omega))))); done)) | ((with_reducible refine c_set_other ?_ ?_); · (first | omega | (simp; done) | (simp; omega))) | ((with_reducible refine c_alloc ?_ ?_); · (first | omega | (simp; done) | (simp; omega))) | ((with_reducible refine c_new ?_ ?_) <;> (first | omega | (simp; done) | (simp; omega))) | (with_reducible refine c_drew ?_) | (with_reducible refine c_drewN ?_) | ((with_reducible refine c_keep (by assumption) ?_ ?_); · (first | omega | (simp; done) | (simp; omega))))); done), by intro j; ((repeat (first | (with_reducible assumption) | (with_reducible refine f_set ?_) | ((with_reducible refine f_alloc ?_ ?_); · (first | omega | (simp; done) | (simp; omega))) | ((with_reducible refine f_new ?_); (first | omega | (simp; done) | (simp; omega)); done) | (with_reducible refine f_drew ?_) | (with_reducible refine f_drewN ?_) | ((with_reducible refine f_keep (by assumption) ?_ ?_); · (first | omega | (simp; done) | (simp; omega))))); done), by simp, Nat.le_refl _⟩, by rw [rowBlk, c0]; rfl, by ((repeat (first | (with_reducible exact Below.refl _ _) | (with_reducible assumption) | ((with_reducible refine b_set ?_ ?_); · (first | omega | (simp; done) | (simp; omega))) | ((with_reducible refine b_alloc ?_ ?_); · (first | omega | (simp; done) | (simp; omega))) | (with_reducible refine Below.drew ?_) | (with_reducible refine b_drewN ?_) | ((with_reducible refine b_call (by assumption) ?_ ?_); · (first | omega | (simp; done) | (simp; omega))))); done)⟩
theorem piBeginNo (n : Int) (w : World) (h0 : n < 1 ∨ 524288 < n) :
    Calls Try.prog 37 #[.int .i64 n] w fun e w' => e = .returned (.tuple #[.pointer none, .int .i64 1]) ∧ w = w' := by
  by_cases h1 : n < 1
  · clear h0
    go_enter Try.func37, Try.ntmps37
    go_wp2_with fail
    go_ret2
    exact ⟨rfl, rfl⟩
  · have h2 : 524288 < n := by omega
    clear h0
    go_enter Try.func37, Try.ntmps37
    go_wp2_with fail
    go_ret2
    exact ⟨rfl, rfl⟩

theorem piTakeNil (n : Int) (v : Value) (w : World) : Calls Try.prog 39 #[.pointer none, .int .i64 n, v] w fun e w' => e = .returned (.int .i64 0) ∧ w = w' := by
  go_enter Try.func39, Try.ntmps39
  go_wp2_with fail
  go_ret
  exact ⟨rfl, rfl⟩
theorem piWholeNil (w : World) : Calls Try.prog 43 #[.pointer none] w fun e w' => e = .returned (.bool false) ∧ Below w.heap.size w w' := by
  go_enter Try.func43, Try.ntmps43
  go_wp2_with fail
  go_quiet (fail)
  go_wp2_with fail
  go_ret
  exact ⟨rfl, by ((repeat (first | (with_reducible exact Below.refl _ _) | (with_reducible assumption) | ((with_reducible refine b_set ?_ ?_); · (first | omega | (simp; done) | (simp; omega))) | ((with_reducible refine b_alloc ?_ ?_); · (first | omega | (simp; done) | (simp; omega))) | (with_reducible refine Below.drew ?_) | (with_reducible refine b_drewN ?_) | ((with_reducible refine b_call (by assumption) ?_ ?_); · (first | omega | (simp; done) | (simp; omega))))); done)⟩
theorem piBytesNil (w : World) : Calls Try.prog 42 #[.pointer none] w fun e w' => e = .returned (.slice none 0 0) ∧ w = w' := by
  go_enter Try.func42, Try.ntmps42
  go_wp2_with fail
  go_ret
  exact ⟨rfl, rfl⟩

theorem piWhole (b L : Nat) (row : List Nat) (s : Int) (w : World) (h : Pi w b L row s) :
    Calls Try.prog 43 #[.pointer (some ⟨b, 0, none⟩)] w fun e w' => e = .returned (.bool (decide ((row.length : Int) = s))) ∧ ∃ n, w' = w.drewN n := by
  obtain ⟨v, h0, hown, _⟩ := h.row
  obtain ⟨A, c, rfl, _, _, _⟩ := row_cells hown
  have h1 := h.size
  clear h hown
  go_enter Try.func43, Try.ntmps43
  go_wp2_with fail
  go_quiet (fail)
  go_wp2_with fail
  go_ret
  exact ⟨ret_bool rfl, ⟨_, rfl⟩⟩

theorem piBytes (b L : Nat) (row : List Nat) (s : Int) (w : World) (h : Pi w b L row s) (hl : row.length ≤ 1000000) :
    Calls Try.prog 42 #[.pointer (some ⟨b, 0, none⟩)] w fun e w' => ∃ v', e = .returned v' ∧ w'.ownsRow w.heap.size 5 1 v' row.length (flatU row) ∧ Below w.heap.size w w' := by
  obtain ⟨v, h0, hown, _⟩ := h.row
  obtain ⟨A, c, rfl, hc, hm, hx⟩ := row_cells hown
  have HX := Lib.hid hx
  clear h hown hx
  go_enter Try.func42, Try.ntmps42
  cases A with
  | none =>
    go_wp2_with fail
    refine (octClone0 _ _ _).mono ?_
    rintro e w1 ⟨rfl, rfl⟩
    go_wp2_with fail
    go_ret
    have h0 := (HX.out.2.1 rfl).1
    refine ⟨_, rfl, ?_, Below.refl _ _⟩
    obtain rfl : row = [] := List.eq_nil_of_length_eq_zero h0
    exact World.ownsRow_nil _ _ _ _
  | some ad =>
    go_wp2_with fail
    refine (octClone1 ad _ _ _ _ hl HX.out (flatU_one _)).mono ?_
    rintro e w1 ⟨v1, rfl, hown1, hb1⟩
    have HO := Lib.hid hown1
    clear hown1
    go_wp2_with fail
    go_ret
    exact ⟨_, rfl, HO.out, hb1⟩

end Go.Proofs.Ytliljfncbljfpaa
