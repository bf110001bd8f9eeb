/- The document's own In: what Begin, Take and Whole do; stands. -/
import Derived.Test.YtliljfncbljfpaaPieceR
namespace Go.Proofs.Ytliljfncbljfpaa
open Go.RowKit
set_option linter.unusedVariables false
set_option linter.unusedSimpArgs false

/-- the document's In at block b, its row in a block of its own from L on, never in the blocks of X -/
structure Ri (w : World) (b L : Nat) (row : List Nat) (size : Int) : Prop where
  slot : ∃ v, w.cell? ⟨b, 1, none⟩ = some v ∧ w.ownsRow L 5 1 v row.length (flatU row) ∧ ∀ g, v.ownBlock = some g → g ≠ b
  size : w.cell? ⟨b, 0, none⟩ = some (.int .i64 size)
  free : ∀ j, w.frozen? ⟨b, j, none⟩ = false
  low : b < w.heap.size
  high : L ≤ b
def rowBlk2 (w : World) (b : Nat) : Option Nat := (w.cell? ⟨b, 1, none⟩).bind Value.ownBlock
theorem Ri.touch {w w' : World} {D : Nat → Prop} {b L : Nat} {row : List Nat} {s : Int} (h : Ri w b L row s) (ht : Touch D w w') (hb : ¬ D b) (hr : ∀ g, rowBlk2 w b = some g → ¬ D g) : Ri w' b L row s := by
  obtain ⟨v, hv, ho, hne⟩ := h.slot
  exact ⟨⟨v, ht.cell hv hb, ht.own ho (fun g hg => hr g (by rw [rowBlk2, hv]; exact hg)), hne⟩, ht.cell h.size hb, fun j => ht.frozen h.low (h.free j) hb, Nat.lt_of_lt_of_le h.low ht.size, h.high⟩
theorem rowBlk2_touch {w w' : World} {D : Nat → Prop} {b : Nat} (ht : Touch D w w') (hl : b < w.heap.size) (hb : ¬ D b) : rowBlk2 w' b = rowBlk2 w b := by
  unfold rowBlk2
  rw [World.cell?_of_block (a := ⟨b, 1, none⟩) (ht.block b hl hb)]
theorem Ri.blk_lt {w : World} {b L : Nat} {row : List Nat} {s : Int} (h : Ri w b L row s) {g : Nat} (hg : rowBlk2 w b = some g) : L ≤ g ∧ g < w.heap.size := by
  obtain ⟨v, hv, ho, _⟩ := h.slot
  rw [rowBlk2, hv] at hg
  exact ho.lt g hg
theorem Pi.blk_lt {w : World} {b L : Nat} {row : List Nat} {s : Int} (h : Pi w b L row s) {g : Nat} (hg : rowBlk w b = some g) : L ≤ g ∧ g < w.heap.size := by
  obtain ⟨v, hv, ho, _⟩ := h.row
  rw [rowBlk, hv] at hg
  exact ho.lt g hg

theorem riBegin (n : Int) (w : World) (h0 : 1 ≤ n) (h1 : n ≤ 524288) :
    Calls Try.prog 38 #[.int .i64 n] w fun e w' => ∃ b, e = .returned (.tuple #[.pointer (some ⟨b, 0, none⟩), .int .i64 0]) ∧ w.heap.size ≤ b ∧ Ri w' b w.heap.size [] n ∧ rowBlk2 w' b = none ∧ Below w.heap.size w w' := by
  go_enter Try.func38, Try.ntmps38
  go_wp2_with fail
  go_ret2
  have c0 : (w.alloc (.cells #[.int .i64 n, .slice none 0 0] 79)).cell? ⟨w.heap.size, 1, none⟩ = some (.slice none 0 0) := by ((repeat (first | (with_reducible assumption) | ((with_reducible refine c_set_same ?_); ((repeat (first | (with_reducible exact h_of (by assumption)) | (with_reducible assumption) | (with_reducible refine h_set ?_) | ((with_reducible refine h_alloc ?_ ?_); · (first | omega | (simp; done) | (simp; omega))) | ((with_reducible refine h_new ?_ ?_) <;> (first | omega | (simp; done) | (simp; omega))) | (with_reducible refine h_drew ?_) | (with_reducible refine h_drewN ?_) | ((with_reducible refine h_keep (by assumption) ?_ ?_); · (first | omega | (simp; done) | (simp; omega))))); done)) | ((with_reducible refine c_set_other ?_ ?_); · (first | omega | (simp; done) | (simp; omega))) | ((with_reducible refine c_alloc ?_ ?_); · (first | omega | (simp; done) | (simp; omega))) | ((with_reducible refine c_new ?_ ?_) <;> (first | omega | (simp; done) | (simp; omega))) | (with_reducible refine c_drew ?_) | (with_reducible refine c_drewN ?_) | ((with_reducible refine c_keep (by assumption) ?_ ?_); · (first | omega | (simp; done) | (simp; omega))))); done)
  exact ⟨_, rfl, Nat.le_refl _, ⟨⟨_, c0, World.ownsRow_nil _ _ _ _, fun g hg => by simp [Value.ownBlock] at hg⟩, by ((repeat (first | (with_reducible assumption) | ((with_reducible refine c_set_same ?_); ((repeat (first | (with_reducible exact h_of (by assumption)) | (with_reducible assumption) | (with_reducible refine h_set ?_) | ((with_reducible refine h_alloc ?_ ?_); · (first | omega | (simp; done) | (simp; omega))) | ((with_reducible refine h_new ?_ ?_) <;> (first | omega | (simp; done) | (simp; omega))) | (with_reducible refine h_drew ?_) | (with_reducible refine h_drewN ?_) | ((with_reducible refine h_keep (by assumption) ?_ ?_); · (first | omega | (simp; done) | (simp; omega))))); done)) | ((with_reducible refine c_set_other ?_ ?_); · (first | omega | (simp; done) | (simp; omega))) | ((with_reducible refine c_alloc ?_ ?_); · (first | omega | (simp; done) | (simp; omega))) | ((with_reducible refine c_new ?_ ?_) <;> (first | omega | (simp; done) | (simp; omega))) | (with_reducible refine c_drew ?_) | (with_reducible refine c_drewN ?_) | ((with_reducible refine c_keep (by assumption) ?_ ?_); · (first | omega | (simp; done) | (simp; omega))))); done), by intro j; ((repeat (first | (with_reducible assumption) | (with_reducible refine f_set ?_) | ((with_reducible refine f_alloc ?_ ?_); · (first | omega | (simp; done) | (simp; omega))) | ((with_reducible refine f_new ?_); (first | omega | (simp; done) | (simp; omega)); done) | (with_reducible refine f_drew ?_) | (with_reducible refine f_drewN ?_) | ((with_reducible refine f_keep (by assumption) ?_ ?_); · (first | omega | (simp; done) | (simp; omega))))); done), by simp, Nat.le_refl _⟩, by rw [rowBlk2, c0]; rfl, by ((repeat (first | (with_reducible exact Below.refl _ _) | (with_reducible assumption) | ((with_reducible refine b_set ?_ ?_); · (first | omega | (simp; done) | (simp; omega))) | ((with_reducible refine b_alloc ?_ ?_); · (first | omega | (simp; done) | (simp; omega))) | (with_reducible refine Below.drew ?_) | (with_reducible refine b_drewN ?_) | ((with_reducible refine b_call (by assumption) ?_ ?_); · (first | omega | (simp; done) | (simp; omega))))); done)⟩
theorem riBeginNo (n : Int) (w : World) (h0 : n < 1 ∨ 524288 < n) :
    Calls Try.prog 38 #[.int .i64 n] w fun e w' => e = .returned (.tuple #[.pointer none, .int .i64 1]) ∧ w = w' := by
  by_cases h1 : n < 1
  · clear h0
    go_enter Try.func38, Try.ntmps38
    go_wp2_with fail
    go_ret2
    exact ⟨rfl, rfl⟩
  · have h2 : 524288 < n := by omega
    clear h0
    go_enter Try.func38, Try.ntmps38
    go_wp2_with fail
    go_ret2
    exact ⟨rfl, rfl⟩

theorem riWhole (b L : Nat) (row : List Nat) (s : Int) (w : World) (h : Ri w b L row s) :
    Calls Try.prog 44 #[.pointer (some ⟨b, 0, none⟩)] w fun e w' => e = .returned (.bool (decide ((row.length : Int) = s))) ∧ ∃ n, w' = w.drewN n := by
  obtain ⟨v, h0, hown, _⟩ := h.slot
  obtain ⟨A, c, rfl, _, _, _⟩ := row_cells hown
  have h1 := h.size
  clear h hown
  go_enter Try.func44, Try.ntmps44
  go_wp2_with fail
  go_quiet (fail)
  go_wp2_with fail
  go_ret
  exact ⟨ret_bool rfl, ⟨_, rfl⟩⟩

theorem own_mono {w : World} {base base' e size n : Nat} {v : Value} {xs : List Value} (h : w.ownsRow base e size v n xs) (hb : base' ≤ base) : w.ownsRow base' e size v n xs :=
  ⟨h.1, h.2.elim .inl (fun ⟨g, cap, cur, hv, hg, r⟩ => .inr ⟨g, cap, cur, hv, Nat.le_trans hb hg, r⟩)⟩

set_option maxHeartbeats 1000000 in
set_option maxRecDepth 10000 in
theorem riTakeNo (b L : Nat) (row : List Nat) (s off : Int) (A : Option Addr) (m c : Nat) (w : World) (h : Ri w b L row s) (hs : 0 ≤ s) (hs1 : s ≤ 1000000) (hl : row.length ≤ 1000000) (hm : m ≤ 1000000) (hno : off ≠ row.length ∨ s < (row.length : Int) + m) :
    Calls Try.prog 40 #[.pointer (some ⟨b, 0, none⟩), .int .i64 off, .slice A m c] w fun e w' => e = .returned (.int .i64 row.length) ∧ ∃ n, w' = w.drewN n := by
  obtain ⟨v, h0, hown, _⟩ := h.slot
  obtain ⟨A1, c1, rfl, _, _, _⟩ := row_cells hown
  have h1 := h.size
  clear h hown
  by_cases ho : off = row.length
  · subst ho
    have h2 : ¬ (m : Int) ≤ s - (row.length : Int) := by omega
    clear hno
    go_enter Try.func40, Try.ntmps40
    go_wp2_with fail
    go_quiet (fail)
    go_wp2_with fail
    go_ret
    exact ⟨rfl, ⟨_, rfl⟩⟩
  · have h2 : (off == (row.length : Int)) = false := by rw [beq_eq_false_iff_ne]; exact ho
    clear hno
    go_enter Try.func40, Try.ntmps40
    go_wp2_with fail
    go_quiet (fail)
    go_wp2_with fail
    go_ret
    exact ⟨rfl, ⟨_, rfl⟩⟩

set_option maxHeartbeats 1000000 in
set_option maxRecDepth 10000 in
theorem riTake (b L : Nat) (row p : List Nat) (s : Int) (B : Nat) (A : Option Addr) (c : Nat) (w : World) (h : Ri w b L row s) (hs : 0 ≤ s) (hs1 : s ≤ 1000000) (hl : row.length ≤ 1000000) (hm : p.length ≤ 1000000) (hB : B ≤ w.heap.size) (hx : Cells w B A p.length c 1 (flatU p)) (hok : (row.length : Int) + p.length ≤ s) :
    Calls Try.prog 40 #[.pointer (some ⟨b, 0, none⟩), .int .i64 row.length, .slice A p.length c] w fun e w' => e = .returned (.int .i64 (row.length + p.length : Nat)) ∧ Ri w' b L (row ++ p) s ∧ Touch (fun k => k = b) w w' ∧ (∀ g, rowBlk2 w' b = some g → w.heap.size ≤ g) := by
  obtain ⟨i0, hi, hz0, hz1, hz2⟩ := info_parts Try.infoByte
  obtain ⟨v, h0, hown, hne⟩ := h.slot
  have h1 := h.size
  have f := h.free
  have f1 := f 1
  have hlow := h.low
  have hhigh := h.high
  have h2 : (p.length : Int) ≤ s - (row.length : Int) := by omega
  obtain ⟨A1, c1, rfl, _, _, hx1⟩ := row_cells hown
  have HX1 := Lib.hid hx1
  have HX := Lib.hid hx
  clear h hown hx hx1 hok hne
  go_enter Try.func40, Try.ntmps40
  go_wp2_with fail
  go_quiet (fail)
  generalize hV : w.drewN nq = V
  have k0 : V.cell? ⟨b, 1, none⟩ = some (.slice A1 row.length c1) := by subst hV; exact h0
  have k1 : V.cell? ⟨b, 0, none⟩ = some (.int .i64 s) := by subst hV; exact h1
  have g0 : V.frozen? ⟨b, 1, none⟩ = false := by subst hV; exact f1
  have HV : Hid (w.drewN nq = V) := Lib.hid hV
  have hVs : w.heap.size ≤ V.heap.size := by subst hV; simp
  have hVB : Below w.heap.size w V := by subst hV; exact b_drewN (Below.refl _ _)
  have HY1 := Lib.hid (cells_keep HX1.out (hVB.alloc hVs (.cells #[] 5)) (Nat.le_refl _))
  have HZ1 := Lib.hid (cells_keep HX.out ((hVB.alloc hVs (.cells #[] 5)).mono hB) (Nat.le_refl _))
  clear hV
  go_wp2_with (first
    | (at_builtin; refine wpList_append_touch rfl (.tmp 30) (.tmp 34) 27 rfl V.heap.size 5 i0 (.int .u8 0) 1 1 Try.underlying27 hi hz0 hz1 hz2 rfl (by decide) (.slice (some ⟨V.heap.size, 0, none⟩) 0 0) 0 [] rfl (World.ownsRow_lit V #[] 0 (Nat.le_refl _) (by decide) rfl) w.heap.size A1 row.length c1 (flatU row) rfl HY1.out (flatU_one _) (by unfold maxLen; omega) (by omega) (by simp) ?_; intro v5 w5 hown5 ht5 hb5; have hT5 := ht5.below (B := V.heap.size) (by simp) (by intro k hk; simp [Value.ownBlock] at hk; omega); have hs5 := hT5.size; have HO5 := Lib.hid hown5; clear hown5 ht5 hb5; have c5 := bkeep hT5 (c_alloc (by omega) k0) (by omega); have d5 := bkeep hT5 (c_alloc (by omega) k1) (by omega); have g5 := bfree hT5 (f_alloc (by omega) g0) (by omega); have HZ5 := Lib.hid (cells_keep HZ1.out (hT5.mono (by omega)) (Nat.le_refl _)); simp at hs5)
    | (at_builtin; refine wpList_append_row rfl (.tmp 35) (.tmp 36) 27 rfl V.heap.size 5 i0 (.int .u8 0) 1 1 Try.underlying27 hi hz0 hz1 hz2 rfl (by decide) v5 (0 + row.length) ([] ++ flatU row) rfl HO5.out B A p.length c (flatU p) rfl HZ5.out (flatU_one _) (by unfold maxLen; omega) (by omega) (by omega) ?_; intro v6 w6 hown6 hb6; have c6 := bkeep hb6 c5 (by omega); have d6 := bkeep hb6 d5 (by omega); have g6 := bfree hb6 g5 (by omega); have hs6 := hb6.size; rw [Nat.zero_add, List.nil_append, ← flatU_app, ← List.length_append] at hown6; have HO6 := Lib.hid hown6; clear hown6; obtain ⟨A6, cp6, rfl, -, -, -⟩ := row_cells HO6.out))
  rw [List.length_append] at *
  go_wp2_with fail
  go_ret
  have hne6 : ∀ g, (Value.slice A6 (row.length + p.length) cp6).ownBlock = some g → g ≠ b := fun g hg => by have := (HO6.out.lt g hg).1; omega
  have hB6 : Below V.heap.size V w6 := (((Below.refl V.heap.size V).alloc (Nat.le_refl _) _).trans hT5).trans hb6
  refine ⟨ret_int (by omega), ⟨⟨_, c_set_same (h_of c6), own_set_ne (by rw [List.length_append]; exact own_mono HO6.out (by omega)) hne6, hne6⟩, c_set_other (Or.inr (by decide)) d6, fun j => f_set (bfree hB6 (by rw [← HV.out]; exact f j) (by omega)), by simp; omega, hhigh⟩, ?_, ?_⟩
  · refine Touch.set (Touch.trans (b := V) (by rw [← HV.out]; exact (Touch.refl _ w).drewN nq) (Touch.of_below hB6) (fun n hn hd => by omega)) (fun _ => rfl)
  · intro g hg
    rw [rowBlk2, c_set_same (h_of c6)] at hg
    have := (HO6.out.lt g hg).1
    omega

set_option maxHeartbeats 1000000 in
set_option maxRecDepth 10000 in
theorem lawStands (A : Option Addr) (c B gw cw base : Nat) (p : List Nat) (w : World) (hn : p.length ≤ 100000) (hx : Cells w B A p.length c 1 (flatU p)) (hw : w.ownsRow base 5 1 (.slice (some ⟨gw, 0, none⟩) (p.length + 1) cw) (p.length + 1) (flatU (p ++ [171]))) :
    Calls Try.prog 41 #[.slice (some ⟨gw, 0, none⟩) (p.length + 1) cw, .slice A p.length c] w fun e w' => e = .returned (.bool true) ∧ Touch (fun _ => False) w w' := by
  have hpre := own_prefix hw (k := p.length) (by omega)
  have e1 : (flatU (p ++ [171])).take p.length = flatU p := by rw [flatU_app, List.take_left' (flatU_length p)]
  rw [e1] at hpre
  obtain ⟨A0, cap0, hA0, hc0, hm0, hx1⟩ := row_cells hpre
  injection hA0 with hA1 hA2 hA3
  subst hA1 hA3
  have HX := Lib.hid hx
  have HX1 := Lib.hid hx1
  have hlast : w.cell? ⟨gw, p.length, none⟩ = some (.int .u8 171) := by
    have := hw.cells (g := gw) rfl p.length (.int .u8 171) (by simp [flatU])
    rw [add_none, Nat.zero_add] at this
    exact this
  have HLAST := Lib.hid hlast
  have q1 : (p.length : Int) ≤ (cw : Int) := by omega
  clear hx hx1 hw hpre e1 hlast
  go_enter Try.func41, Try.ntmps41
  go_wp2_with fail
  refine (lawSame (some ⟨gw, 0, none⟩) A cw c _ B p _ hn HX1.out HX.out).mono ?_
  rintro e w1 ⟨rfl, ht1⟩
  have HT1 := Lib.hid ht1
  have hlast := ht1.cell HLAST.out (fun h => h)
  clear ht1
  go_wp2_with fail
  go_ret
  exact ⟨rfl, HT1.out⟩

end Go.Proofs.Ytliljfncbljfpaa
