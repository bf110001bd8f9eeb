/- octet's Writer, with frames by touched blocks. What octet.NewReader and Reader's Good, Bad and Whole do. Numbers out of bytes: a function of the list. The document's own Reader: Num. octet's Reader: Num. -/
import Derived.IntWalk
import Derived.Test.YtepjehcmiofehaaGreatPq5
namespace Go.Proofs.YtepjehcmiofehaaGreat
open Go.RowKit
set_option linter.unusedVariables false
set_option linter.unusedSimpArgs false
/-- where a row lies behind work in a world: where it lay, or in new memory -/
def Near (w : World) (v v' : Value) : Prop := v'.ownBlock = v.ownBlock ∨ ∃ g, v'.ownBlock = some g ∧ w.heap.size ≤ g
theorem Near.refl (w : World) (v : Value) : Near w v v := .inl rfl
theorem Near.step {w w1 : World} {v v1 v2 : Value} (h : Near w v v1) (hs : w.heap.size ≤ w1.heap.size) (h2 : v2.ownBlock = v1.ownBlock ∨ v2.ownBlock = some w1.heap.size) : Near w v v2 := by
  rcases h2 with h2 | h2
  · rcases h with h | ⟨g, h, hg⟩
    · exact .inl (h2.trans h)
    · exact .inr ⟨g, h2.trans h, hg⟩
  · exact .inr ⟨_, h2, hs⟩
theorem Near.trans {w w1 : World} {v v1 v2 : Value} (h : Near w v v1) (hs : w.heap.size ≤ w1.heap.size) (h2 : Near w1 v1 v2) : Near w v v2 := by
  rcases h2 with h2 | ⟨g, h2, hg⟩
  · rcases h with h | ⟨g, h, hg⟩
    · exact .inl (h2.trans h)
    · exact .inr ⟨g, h2.trans h, hg⟩
  · exact .inr ⟨g, h2, by omega⟩
/-- what touches the row at its new place touches, of what was there, the row at its old place alone -/
theorem Near.old {w : World} {v v1 : Value} (h : Near w v v1) : ∀ n, n < w.heap.size → v1.ownBlock = some n → v.ownBlock = some n := by
  intro n hn hv
  rcases h with h | ⟨g, h, hg⟩
  · exact h ▸ hv
  · rw [h] at hv; injection hv; omega
set_option maxHeartbeats 1000000 in
set_option maxRecDepth 10000 in
theorem octAppendT (v : Value) (N : Nat) (xs : List Value) (n : Int) (base : Nat) (w : World) (hN : N ≤ 1000000) (hbase : base ≤ w.heap.size) (hown : w.ownsRow base 5 1 v N xs) :
    Calls Tryz.prog 71 #[v, .int .i64 n] w fun e w' => ∃ v', e = .returned v' ∧ w'.ownsRow base 5 1 v' (N + (enc (clamp n)).length) (xs ++ flatU (enc (clamp n))) ∧ Touch (fun k => v.ownBlock = some k) w w' ∧ Near w v v' := by
  obtain ⟨i0, hi, hz0, hz1, hz2⟩ := info_parts Tryz.infoByte
  have HO := Lib.hid hown
  clear hown
  go_enter Tryz.func71, Tryz.ntmps71
  have hcl : clamp n ≤ 4611686018427387904 := by unfold clamp; omega
  have hc0 : n < 0 → clamp n = 0 := by unfold clamp; omega
  have hc1 : 0 ≤ n → n ≤ 4611686018427387904 → (clamp n : Int) = n := by unfold clamp; omega
  have hc2 : ¬ n ≤ 4611686018427387904 → clamp n = 4611686018427387904 := by unfold clamp; omega
  generalize hr0 : clamp n = r0 at *
  go_wp2_with fail
  all_goals go_loopw [0, 1] (fun s i wr => ∃ (r : Nat) (done : List Nat), i = .int .i64 r ∧ r ≤ 4611686018427387904 ∧ enc r0 = done ++ enc r ∧ Hid (wr.ownsRow base 5 1 s (N + done.length) (xs ++ flatU done)) ∧ Hid (Touch (fun k => v.ownBlock = some k) w wr) ∧ Hid (Near w v s)) (fun _ i _ => (intOf i).toNat)
  all_goals first
    | (exact ⟨r0, [], by congr 1; omega, hcl, rfl, Lib.hid (by simpa [flatU] using HO.out), Lib.hid (Touch.refl _ _), Lib.hid (Near.refl _ _)⟩)
    | skip
  all_goals obtain ⟨r, done, rfl, hr, he, HW, HT, HNr⟩ := hrel
  all_goals have hBs := HT.out.size
  all_goals have hlen : (enc r0).length ≤ 10 := enc_len hcl
  all_goals rw [he, List.length_append] at hlen
  all_goals by_cases h128 : 128 ≤ r
  all_goals first
    | (have h128b : (128 : Int) ≤ (r : Int) := by omega
       have e2 : enc r = (r % 128 + 128) :: enc (r / 128) := by rw [enc, dif_pos h128]
       have hpos := enc_pos r
       go_wp2_with (at_builtin; go_must (refine wpList_append_touch rfl (.tmp 10) (.tmp 14) 70 rfl base 5 i0 (.int .u8 0) 1 1 Tryz.underlying70 hi hz0 hz1 hz2 rfl (by decide) _ (N + done.length) (xs ++ flatU done) rfl (World.ownsRow.alloc HW.out _) _ (some ⟨wr.heap.size, 0, none⟩) 1 1 [_] rfl (cells1 (Nat.lt_succ_self _) (c_new rfl rfl)) (by intro u hu; simp at hu; subst hu; rfl) (by unfold maxLen; omega) (by omega) (by (first | omega | (simp; done) | (simp; omega))) ?_); intro v5 w5 hown5 ht5 hl5)
       refine ⟨⟨r / 128, done ++ [r % 128 + 128], by congr 1, by omega, by rw [he, e2]; simp, Lib.hid (by have h6 := hown5; rw [or128] at h6; simpa [flatU, List.append_assoc, Nat.add_assoc] using h6), Lib.hid ((HT.out.alloc _).trans ht5 (HNr.out.old)), Lib.hid (HNr.out.step (by simp; omega) hl5)⟩, ?_⟩
       simp [intOf]; omega)
    | (have h128b : ¬ (128 : Int) ≤ (r : Int) := by omega
       have e2 : enc r = [r] := by rw [enc, dif_neg h128]
       have hpos := enc_pos r
       go_wp2_with (at_builtin; go_must (refine wpList_append_touch rfl (.tmp 18) (.tmp 21) 70 rfl base 5 i0 (.int .u8 0) 1 1 Tryz.underlying70 hi hz0 hz1 hz2 rfl (by decide) _ (N + done.length) (xs ++ flatU done) rfl (World.ownsRow.alloc HW.out _) _ (some ⟨wr.heap.size, 0, none⟩) 1 1 [_] rfl (cells1 (Nat.lt_succ_self _) (c_new rfl rfl)) (by intro u hu; simp at hu; subst hu; rfl) (by unfold maxLen; omega) (by omega) (by (first | omega | (simp; done) | (simp; omega))) ?_); intro v5 w5 hown5 ht5 hl5)
       go_ret
       refine ⟨v5, rfl, ?_, (HT.out.alloc _).trans ht5 (HNr.out.old), HNr.out.step (by simp; omega) hl5⟩
       have h6 := hown5
       (try rw [low256 h128] at h6)
       first
         | (simpa [flatU, List.append_assoc, Nat.add_assoc, he, e2] using h6)
         | (have hz : r0 = 0 := by omega
            rw [hz] at he
            simpa [flatU, List.append_assoc, Nat.add_assoc, he, e2] using h6))
/-- in which block a Writer's row lies -/
def wrow (w : World) (b : Nat) : Option Nat := (w.cell? ⟨b, 0, none⟩).bind Value.ownBlock
theorem wrow_of {w : World} {b : Nat} {s : Value} (h : w.cell? ⟨b, 0, none⟩ = some s) : wrow w b = s.ownBlock := by unfold wrow; rw [h]; rfl
/-- where a Writer's row lies behind work -/
def WNear (w : World) (b : Nat) (w' : World) : Prop := wrow w' b = wrow w b ∨ ∃ g, wrow w' b = some g ∧ w.heap.size ≤ g
theorem WNear.refl (w : World) (b : Nat) : WNear w b w := .inl rfl
theorem WNear.old {w w' : World} {b : Nat} (h : WNear w b w') : ∀ n, n < w.heap.size → wrow w' b = some n → wrow w b = some n := by
  intro n hn hv
  rcases h with h | ⟨g, h, hg⟩
  · exact h ▸ hv
  · rw [h] at hv; injection hv; omega
theorem WNear.trans {w w1 w2 : World} {b : Nat} (h : WNear w b w1) (hs : w.heap.size ≤ w1.heap.size) (h2 : WNear w1 b w2) : WNear w b w2 := by
  rcases h2 with h2 | ⟨g, h2, hg⟩
  · rcases h with h | ⟨g, h, hg⟩
    · exact .inl (h2.trans h)
    · exact .inr ⟨g, h2.trans h, hg⟩
  · exact .inr ⟨g, h2, by omega⟩
theorem WNear.step {w w1 w2 w3 : World} {b : Nat} {s v : Value} (h : WNear w b w1) (hs : w.heap.size ≤ w1.heap.size) (h1 : w1.cell? ⟨b, 0, none⟩ = some s) (hn : Near w1 s v) (h3 : w3.cell? ⟨b, 0, none⟩ = some v) : WNear w b w3 := by
  refine h.trans hs ?_
  unfold WNear
  rw [wrow_of h1, wrow_of h3]
  exact hn
/-- what a Writer may touch: itself and its row -/
abbrev WD (w : World) (b : Nat) : Nat → Prop := fun k => k = b ∨ wrow w b = some k
/-- a slice of integers that reads as a list, apart from a Writer -/
def NumsAt (w : World) (b : Nat) (A : Option Addr) (l : List Int) : Prop :=
  ∀ k (h : k < l.length), ∃ q o, A = some ⟨q, o, none⟩ ∧ ¬ WD w b q ∧ w.cell? ⟨q, o + k, none⟩ = some (.int .i64 l[k])
set_option maxHeartbeats 1000000 in
set_option maxRecDepth 10000 in
theorem wNumsT (b base : Nat) (A : Option Addr) (c : Nat) (l : List Int) (xs : List Nat) (w : World) (hl : l.length ≤ 1000) (hxs : xs.length ≤ 100000) (hw : Wr w b base xs) (hx : NumsAt w b A l) :
    Calls Tryz.prog 51 #[.pointer (some ⟨b, 0, none⟩), .slice A l.length c] w fun e w' => e = .returned (.tuple #[]) ∧ Wr w' b base (xs ++ encs l) ∧ Touch (WD w b) w w' ∧ WNear w b w' := by
  have HX := Lib.hid hx
  have HW0 := Lib.hid hw
  clear hx hw
  go_enter Tryz.func51, Tryz.ntmps51
  go_wp2_with fail
  go_loopw [10] (fun i wr => ∃ k : Nat, k ≤ l.length ∧ i = .int .i64 k ∧ Hid (Wr wr b base (xs ++ encs (l.take k))) ∧ Hid (Touch (WD w b) w wr) ∧ Hid (WNear w b wr)) (fun i _ => l.length - (intOf i).toNat)
  case atStart => exact ⟨0, by omega, rfl, Lib.hid (by simpa [encs] using HW0.out), Lib.hid (Touch.refl _ _), Lib.hid (WNear.refl _ _)⟩
  case round =>
    obtain ⟨k, hk, rfl, HW, HT, HN⟩ := hrel
    by_cases hlt : k < l.length
    · obtain ⟨b1, o, rfl, hb, h1⟩ := HX.out k hlt
      replace h1 := HT.out.cell h1 hb
      have hq : (encs (l.take k)).length ≤ 10000 := by have := encs_len (l.take k); rw [List.length_take] at this; omega
      obtain ⟨⟨s, hs, hown⟩, hfr, hlow, hhigh⟩ := HW.out
      have HO := Lib.hid hown
      have hsz := HT.out.size
      have hsb : ¬ s.ownBlock = some b := fun e => by have := (hown.lt b e).1; omega
      clear hown
      go_wp2_with fail
      refine (octAppendT s _ _ l[k] base _ (by rw [List.length_append]; omega) hhigh HO.out).mono ?_
      rintro e w3 ⟨v3, rfl, hown3, ht3, hn3⟩
      have hs3 := ht3.size
      rw [← flatU_app, List.append_assoc, ← encs_snoc hlt, ← List.length_append, List.append_assoc, ← encs_snoc hlt] at hown3
      obtain ⟨A3, cp3, rfl, _, _, _⟩ := row_cells hown3
      have c3 := ht3.cell hs hsb
      have f3 := ht3.frozen (by omega) hfr hsb
      have HT3 : Hid (Touch (WD w b) w (w3.setCell ⟨b, 0, none⟩ (.slice A3 (xs ++ encs (l.take (k + 1))).length cp3))) := Lib.hid ((HT.out.trans ht3 (fun n h1 h2 => Or.inr (HN.out.old n h1 ((wrow_of hs).trans h2)))).set (fun _ => Or.inl rfl))
      have HN3 : Hid (WNear w b (w3.setCell ⟨b, 0, none⟩ (.slice A3 (xs ++ encs (l.take (k + 1))).length cp3))) := Lib.hid (HN.out.step (w2 := w3) hsz hs hn3 (c_set_same (h_of c3)))
      have HW3 : Hid (Wr (w3.setCell ⟨b, 0, none⟩ (.slice A3 (xs ++ encs (l.take (k + 1))).length cp3)) b base (xs ++ encs (l.take (k + 1)))) := Lib.hid ⟨⟨_, c_set_same (h_of c3), row_set hown3 hlow _⟩, f_set f3, hlow, by simp; omega⟩
      rw [List.length_append] at HW3 HT3 HN3
      clear hown3 hn3
      go_wp2_with fail
      first
        | (go_roundw
           case rel => exact ⟨k + 1, by omega, by go_num, HW3, HT3, HN3⟩
           case measure => simp [intOf]; omega)
        | (refine ⟨⟨k + 1, by omega, by go_num, HW3, HT3, HN3⟩, ?_⟩
           simp [intOf]; omega)
    · have hke : k = l.length := by omega
      subst hke
      have hO := HW.out
      rw [List.take_length] at hO
      have HO := Lib.hid hO
      clear hO
      go_wp2_with fail
      refine bodyPost_end (v := .tuple #[]) (by simp [results, Tryz.results51, go_sem]) rfl ⟨rfl, HO.out, HT.out, HN.out⟩
end Go.Proofs.YtepjehcmiofehaaGreat
namespace Go.Proofs.YtepjehcmiofehaaGreat
open Go.RowKit
set_option linter.unusedVariables false
set_option linter.unusedSimpArgs false
/-- a Reader at block b: what is left, and whether it erred -/
structure Rd (w : World) (b : Nat) (rest : List Nat) (bad : Bool) : Prop where
  row : ∃ A c, w.cell? ⟨b, 0, none⟩ = some (.slice A rest.length c) ∧ rest.length ≤ c ∧ c ≤ maxLen ∧ Cells w b A rest.length c 1 (flatU rest)
  flag : w.cell? ⟨b, 1, none⟩ = some (.bool bad)
  free : ∀ j, w.frozen? ⟨b, j, none⟩ = false
  low : b < w.heap.size
theorem newReader1 (ad : Addr) (c : Nat) (rest : List Nat) (w : World) (hn : rest.length ≤ 1000000) (hx : Cells w w.heap.size (some ad) rest.length c 1 (flatU rest)) :
    Calls Tryz.prog 46 #[.slice (some ad) rest.length c] w fun e w' => ∃ b, e = .returned (.pointer (some ⟨b, 0, none⟩)) ∧ w.heap.size ≤ b ∧ Rd w' b rest false ∧ Below w.heap.size w w' := by
  have HX := Lib.hid hx
  clear hx
  go_enter Tryz.func46, Tryz.ntmps46
  go_wp2_with fail
  refine (octClone1 ad _ _ _ _ hn HX.out (flatU_one _)).mono ?_
  rintro e w1 ⟨v1, rfl, hown1, hb1⟩
  have hs1 := hb1.size
  obtain ⟨A1, c1, rfl, hc1, hm1, hx1⟩ := row_cells hown1
  have HC := Lib.hid hx1
  clear hx1 hown1
  go_wp2_with fail
  go_ret
  exact ⟨_, rfl, hs1, ⟨⟨_, _, by ((repeat (first | (with_reducible assumption) | ((with_reducible refine c_set_same ?_); ((repeat (first | (with_reducible exact h_of (by assumption)) | (with_reducible assumption) | (with_reducible refine h_set ?_) | ((with_reducible refine h_alloc ?_ ?_); · (first | omega | (simp; done) | (simp; omega))) | ((with_reducible refine h_new ?_ ?_) <;> (first | omega | (simp; done) | (simp; omega))) | (with_reducible refine h_drew ?_) | (with_reducible refine h_drewN ?_) | ((with_reducible refine h_keep (by assumption) ?_ ?_); · (first | omega | (simp; done) | (simp; omega))))); done)) | ((with_reducible refine c_set_other ?_ ?_); · (first | omega | (simp; done) | (simp; omega))) | ((with_reducible refine c_alloc ?_ ?_); · (first | omega | (simp; done) | (simp; omega))) | ((with_reducible refine c_new ?_ ?_) <;> (first | omega | (simp; done) | (simp; omega))) | (with_reducible refine c_drew ?_) | (with_reducible refine c_drewN ?_) | ((with_reducible refine c_keep (by assumption) ?_ ?_); · (first | omega | (simp; done) | (simp; omega))))); done), hc1, hm1, cells_keep HC.out ((Below.refl _ _).alloc (Nat.le_refl _) _) (Nat.le_refl _)⟩, by ((repeat (first | (with_reducible assumption) | ((with_reducible refine c_set_same ?_); ((repeat (first | (with_reducible exact h_of (by assumption)) | (with_reducible assumption) | (with_reducible refine h_set ?_) | ((with_reducible refine h_alloc ?_ ?_); · (first | omega | (simp; done) | (simp; omega))) | ((with_reducible refine h_new ?_ ?_) <;> (first | omega | (simp; done) | (simp; omega))) | (with_reducible refine h_drew ?_) | (with_reducible refine h_drewN ?_) | ((with_reducible refine h_keep (by assumption) ?_ ?_); · (first | omega | (simp; done) | (simp; omega))))); done)) | ((with_reducible refine c_set_other ?_ ?_); · (first | omega | (simp; done) | (simp; omega))) | ((with_reducible refine c_alloc ?_ ?_); · (first | omega | (simp; done) | (simp; omega))) | ((with_reducible refine c_new ?_ ?_) <;> (first | omega | (simp; done) | (simp; omega))) | (with_reducible refine c_drew ?_) | (with_reducible refine c_drewN ?_) | ((with_reducible refine c_keep (by assumption) ?_ ?_); · (first | omega | (simp; done) | (simp; omega))))); done), by intro j; ((repeat (first | (with_reducible assumption) | (with_reducible refine f_set ?_) | ((with_reducible refine f_alloc ?_ ?_); · (first | omega | (simp; done) | (simp; omega))) | ((with_reducible refine f_new ?_); (first | omega | (simp; done) | (simp; omega)); done) | (with_reducible refine f_drew ?_) | (with_reducible refine f_drewN ?_) | ((with_reducible refine f_keep (by assumption) ?_ ?_); · (first | omega | (simp; done) | (simp; omega))))); done), by simp⟩, by ((repeat (first | (with_reducible exact Below.refl _ _) | (with_reducible assumption) | ((with_reducible refine b_set ?_ ?_); · (first | omega | (simp; done) | (simp; omega))) | ((with_reducible refine b_alloc ?_ ?_); · (first | omega | (simp; done) | (simp; omega))) | (with_reducible refine Below.drew ?_) | (with_reducible refine b_drewN ?_) | ((with_reducible refine b_call (by assumption) ?_ ?_); · (first | omega | (simp; done) | (simp; omega))))); done)⟩
theorem newReader0 (n c : Nat) (w : World) :
    Calls Tryz.prog 46 #[.slice none n c] w fun e w' => ∃ b, e = .returned (.pointer (some ⟨b, 0, none⟩)) ∧ w.heap.size ≤ b ∧ Rd w' b [] false ∧ Below w.heap.size w w' := by
  go_enter Tryz.func46, Tryz.ntmps46
  go_wp2_with fail
  refine (octClone0 _ _ _).mono ?_
  rintro e w1 ⟨rfl, rfl⟩
  go_wp2_with fail
  go_ret
  exact ⟨_, rfl, Nat.le_refl _, ⟨⟨none, 0, by ((repeat (first | (with_reducible assumption) | ((with_reducible refine c_set_same ?_); ((repeat (first | (with_reducible exact h_of (by assumption)) | (with_reducible assumption) | (with_reducible refine h_set ?_) | ((with_reducible refine h_alloc ?_ ?_); · (first | omega | (simp; done) | (simp; omega))) | ((with_reducible refine h_new ?_ ?_) <;> (first | omega | (simp; done) | (simp; omega))) | (with_reducible refine h_drew ?_) | (with_reducible refine h_drewN ?_) | ((with_reducible refine h_keep (by assumption) ?_ ?_); · (first | omega | (simp; done) | (simp; omega))))); done)) | ((with_reducible refine c_set_other ?_ ?_); · (first | omega | (simp; done) | (simp; omega))) | ((with_reducible refine c_alloc ?_ ?_); · (first | omega | (simp; done) | (simp; omega))) | ((with_reducible refine c_new ?_ ?_) <;> (first | omega | (simp; done) | (simp; omega))) | (with_reducible refine c_drew ?_) | (with_reducible refine c_drewN ?_) | ((with_reducible refine c_keep (by assumption) ?_ ?_); · (first | omega | (simp; done) | (simp; omega))))); done), Nat.le_refl _, by unfold maxLen; omega, ⟨rfl, fun _ => ⟨rfl, rfl⟩, fun j u hu => by simp [flatU] at hu⟩⟩, by ((repeat (first | (with_reducible assumption) | ((with_reducible refine c_set_same ?_); ((repeat (first | (with_reducible exact h_of (by assumption)) | (with_reducible assumption) | (with_reducible refine h_set ?_) | ((with_reducible refine h_alloc ?_ ?_); · (first | omega | (simp; done) | (simp; omega))) | ((with_reducible refine h_new ?_ ?_) <;> (first | omega | (simp; done) | (simp; omega))) | (with_reducible refine h_drew ?_) | (with_reducible refine h_drewN ?_) | ((with_reducible refine h_keep (by assumption) ?_ ?_); · (first | omega | (simp; done) | (simp; omega))))); done)) | ((with_reducible refine c_set_other ?_ ?_); · (first | omega | (simp; done) | (simp; omega))) | ((with_reducible refine c_alloc ?_ ?_); · (first | omega | (simp; done) | (simp; omega))) | ((with_reducible refine c_new ?_ ?_) <;> (first | omega | (simp; done) | (simp; omega))) | (with_reducible refine c_drew ?_) | (with_reducible refine c_drewN ?_) | ((with_reducible refine c_keep (by assumption) ?_ ?_); · (first | omega | (simp; done) | (simp; omega))))); done), by intro j; ((repeat (first | (with_reducible assumption) | (with_reducible refine f_set ?_) | ((with_reducible refine f_alloc ?_ ?_); · (first | omega | (simp; done) | (simp; omega))) | ((with_reducible refine f_new ?_); (first | omega | (simp; done) | (simp; omega)); done) | (with_reducible refine f_drew ?_) | (with_reducible refine f_drewN ?_) | ((with_reducible refine f_keep (by assumption) ?_ ?_); · (first | omega | (simp; done) | (simp; omega))))); done), by simp⟩, by ((repeat (first | (with_reducible exact Below.refl _ _) | (with_reducible assumption) | ((with_reducible refine b_set ?_ ?_); · (first | omega | (simp; done) | (simp; omega))) | ((with_reducible refine b_alloc ?_ ?_); · (first | omega | (simp; done) | (simp; omega))) | (with_reducible refine Below.drew ?_) | (with_reducible refine b_drewN ?_) | ((with_reducible refine b_call (by assumption) ?_ ?_); · (first | omega | (simp; done) | (simp; omega))))); done)⟩
theorem rdGood (b : Nat) (rest : List Nat) (bad : Bool) (w : World) (hr : Rd w b rest bad) :
    Calls Tryz.prog 67 #[.pointer (some ⟨b, 0, none⟩)] w fun e w' => e = .returned (.bool (!bad)) ∧ w = w' := by
  have h1 := hr.flag
  cases bad
  all_goals go_enter Tryz.func67, Tryz.ntmps67
  all_goals go_wp2_with fail
  all_goals go_ret
  all_goals exact ⟨rfl, rfl⟩
theorem rdWhole (b : Nat) (rest : List Nat) (bad : Bool) (w : World) (hr : Rd w b rest bad) (hl : rest.length ≤ 1000000) :
    Calls Tryz.prog 49 #[.pointer (some ⟨b, 0, none⟩)] w fun e w' => e = .returned (.bool (!bad && rest.isEmpty)) ∧ w = w' := by
  obtain ⟨A, c, h0, _, _, _⟩ := hr.row
  have HR := Lib.hid hr
  clear hr
  go_enter Tryz.func49, Tryz.ntmps49
  go_wp2_with fail
  refine (rdGood b rest bad _ HR.out).mono ?_
  rintro e w1 ⟨rfl, rfl⟩
  cases bad
  · cases rest with
    | nil =>
      simp only [List.length_nil] at h0
      go_wp2_with fail
      go_ret
      exact ⟨rfl, rfl⟩
    | cons x r =>
      simp only [List.length_cons] at h0
      have hne : (((r.length + 1 : Nat) : Int) == 0) = false := by rw [beq_eq_false_iff_ne]; omega
      have hne2 : (((r.length : Int) + 1) == 0) = false := by rw [beq_eq_false_iff_ne]; omega
      go_wp2_with fail
      go_ret
      exact ⟨rfl, rfl⟩
  · go_wp2_with fail
    go_ret
    exact ⟨rfl, rfl⟩
end Go.Proofs.YtepjehcmiofehaaGreat
namespace Go.Proofs.YtepjehcmiofehaaGreat
set_option linter.unusedVariables false
set_option linter.unusedSimpArgs false
/-- one number, i bytes of it (acc) taken; none: it errs -/
def rd (i acc : Nat) : List Nat → Option (Nat × List Nat)
  | [] => none
  | b :: r => if 9 ≤ i then none else
    if 128 ≤ b then rd (i + 1) (acc + b % 128 * 128 ^ i) r
    else if (0 < i ∧ b = 0) ∨ 4611686018427387904 < acc + b * 128 ^ i then none else some (acc + b * 128 ^ i, r)
/-- what was laid reads back -/
theorem rd_enc : ∀ (n i acc : Nat) (r : List Nat), (0 < i → 0 < n) → acc + n * 128 ^ i ≤ 4611686018427387904 → rd i acc (enc n ++ r) = some (acc + n * 128 ^ i, r) := by
  intro n
  induction n using Nat.strongRecOn with
  | _ n ih =>
    intro i acc r h0 h1
    have hi : i < 9 ∨ n = 0 := by
      rcases Nat.lt_or_ge i 9 with h | h
      · exact .inl h
      · rcases Nat.eq_zero_or_pos n with h2 | h2
        · exact .inr h2
        · have h3 : 128 ^ 9 ≤ 128 ^ i := Nat.pow_le_pow_right (by decide) h
          have h4 : 1 * 128 ^ i ≤ n * 128 ^ i := Nat.mul_le_mul_right _ h2
          omega
    have hi9 : i < 9 := by
      rcases hi with h | h
      · exact h
      · subst h
        rcases Nat.eq_zero_or_pos i with h2 | h2
        · omega
        · exact absurd (h0 h2) (by omega)
    rw [enc]
    split
    · rename_i h128
      have e1 : (n % 128 + 128) % 128 = n % 128 := by omega
      have e2 : acc + n % 128 * 128 ^ i + n / 128 * 128 ^ (i + 1) = acc + n * 128 ^ i := by
        have : n / 128 * 128 ^ (i + 1) = (128 * (n / 128)) * 128 ^ i := by rw [Nat.pow_succ, Nat.mul_comm (128 ^ i) 128, ← Nat.mul_assoc, Nat.mul_comm (n / 128) 128]
        rw [this, Nat.add_assoc, ← Nat.add_mul, Nat.mod_add_div]
      have := ih (n / 128) (by omega) (i + 1) (acc + n % 128 * 128 ^ i) r (fun _ => by omega) (by rw [e2]; exact h1)
      rw [List.cons_append, rd, if_neg (by omega), if_pos (by omega), e1, this, e2]
    · rename_i h128
      rw [List.singleton_append, rd, if_neg (by omega), if_neg (by omega), if_neg]
      rintro (⟨h2, h3⟩ | h2)
      · have := h0 h2; omega
      · omega
end Go.Proofs.YtepjehcmiofehaaGreat
namespace Go.Proofs.YtepjehcmiofehaaGreat
open Go.RowKit
set_option linter.unusedVariables false
set_option linter.unusedSimpArgs false
theorem pow128 (k : Nat) : 128 ^ k = 2 ^ (7 * k) := by rw [show (128 : Nat) = 2 ^ 7 from rfl, ← Nat.pow_mul]
theorem cast_shift (x k : Nat) : (x : Int) % 128 * 2 ^ (7 * k) = ((x % 128 * 128 ^ k : Nat) : Int) := by
  rw [pow128]; push_cast; rfl
theorem small_shift {k x : Nat} (hk : k ≤ 8) : x % 128 * 128 ^ k < 9223372036854775808 := by
  have h1 : 128 ^ k ≤ 128 ^ 8 := Nat.pow_le_pow_right (by decide) hk
  have h2 : x % 128 ≤ 127 := by omega
  have h3 : x % 128 * 128 ^ k ≤ 127 * 128 ^ 8 := Nat.mul_le_mul h2 h1
  have h4 : 127 * 128 ^ 8 < 9223372036854775808 := by decide
  omega
/-- what Num ends in: a number and what is left behind it; or it errs -/
def NumPost (w' : World) (b : Nat) (e : Ending) : Option (Nat × List Nat) → Prop
  | none => e = .returned (.int .i64 0) ∧ Rd w' b [] true
  | some (n, r) => e = .returned (.int .i64 n) ∧ Rd w' b r false
theorem numBad {w' : World} {b : Nat} {e : Ending} {o : Option (Nat × List Nat)} (ho : o = none) (he : e = .returned (.int .i64 0)) (hr : Rd w' b [] true) : NumPost w' b e o := by subst ho; exact ⟨he, hr⟩
theorem numGood {w' : World} {b n : Nat} {e : Ending} {r : List Nat} {o : Option (Nat × List Nat)} (ho : o = some (n, r)) (he : e = .returned (.int .i64 n)) (hr : Rd w' b r false) : NumPost w' b e o := by subst ho; exact ⟨he, hr⟩
end Go.Proofs.YtepjehcmiofehaaGreat
namespace Go.Proofs.YtepjehcmiofehaaGreat
open Go.RowKit
set_option linter.unusedVariables false
set_option linter.unusedSimpArgs false
theorem wraps_i64_63 (n : Int) (h₀ : 0 ≤ n) (h₁ : n < 2 ^ 63) : IntKind.i64.wrap n = n := by
  have : (9223372036854775808 : Int) = 2 ^ 63 := by decide
  exact IntWalk.i64_in n (by omega)
theorem orI {k acc x : Nat} (hk : k ≤ 8) (hacc : acc < 128 ^ k) :
    bits BinOp.or IntKind.i64 (acc : Int) (IntKind.i64.wrap ((x : Int) % 128 * 2 ^ (7 * k))) = ((acc + x % 128 * 128 ^ k : Nat) : Int) := by
  have hy := small_shift (x := x) hk
  have hp : 128 ^ k ≤ 128 ^ 8 := Nat.pow_le_pow_right (by decide) hk
  have hp8 : 128 ^ 8 < 9223372036854775808 := by decide
  have h64 : (9223372036854775808 : Int) = 2 ^ 63 := by decide
  have h7 : ((2 : Int) ^ (7 * k)) = ((128 ^ k : Nat) : Int) := by rw [pow128]; push_cast; rfl
  have g1 : ((x % 128 * 128 ^ k : Nat) : Int) < 2 ^ 63 := by rw [← h64]; omega
  have g2 : (acc : Int) < 2 ^ 63 := by rw [← h64]; omega
  have g3 : (acc : Int) < 2 ^ (7 * k) := by rw [h7]; omega
  have g4 : ((x % 128 * 128 ^ k : Nat) : Int) % 2 ^ (7 * k) = 0 := by rw [h7, ← Int.natCast_emod, Nat.mul_mod_left]; rfl
  rw [cast_shift, wraps_i64_63 _ (by omega) g1, bits_join_low .i64 63 (by decide) wraps_i64_63 (7 * k) (acc : Int) _ (by omega) g3 g2 (by omega) g4 g1]
  push_cast; rfl
theorem andNot128_all : ∀ x : Fin 256, bits BinOp.andNot IntKind.u8 ((x.val : Nat) : Int) 128 = ((x.val % 128 : Nat) : Int) := by decide +kernel
theorem andNot128 {x : Nat} (h : x < 256) : bits BinOp.andNot IntKind.u8 (x : Int) 128 = (x : Int) % 128 := by
  have := andNot128_all ⟨x, h⟩
  simp only at this
  rw [this]; omega
theorem and128_all : ∀ x : Fin 256, bits BinOp.and IntKind.u8 ((x.val : Nat) : Int) 128 = if 128 ≤ x.val then 128 else 0 := by decide +kernel
theorem and128_yes {x : Nat} (h : x < 256) (h1 : 128 ≤ x) : bits BinOp.and IntKind.u8 (x : Int) 128 = 128 := by
  have := and128_all ⟨x, h⟩
  simp only at this
  rw [this, if_pos h1]
theorem and128_no {x : Nat} (h : x < 256) (h1 : ¬ 128 ≤ x) : bits BinOp.and IntKind.u8 (x : Int) 128 = 0 := by
  have := and128_all ⟨x, h⟩
  simp only at this
  rw [this, if_neg h1]
theorem cells_drop {w : World} {b o n c i B : Nat} {xs : List Nat} (h : Cells w B (some ⟨b, o, none⟩) n c 1 (flatU xs)) (hi : i ≤ n) (c' : Nat) : Cells w B (some ⟨b, o + i, none⟩) (n - i) c' 1 (flatU (xs.drop i)) := by
  have hl := h.1
  rw [flatU_length, Nat.mul_one] at hl
  refine ⟨by rw [flatU_length, List.length_drop]; omega, (fun e => by cases e), fun k u hu => ?_⟩
  obtain ⟨b', o', e, hb, hc⟩ := h.2.2 (i + k) u (by
    simp only [flatU, List.getElem?_map, List.getElem?_drop] at hu ⊢
    exact hu)
  injection e with e; injection e with e1 e2 e3; subst e1 e2
  exact ⟨b, o + i, rfl, hb, by rw [Nat.add_assoc]; exact hc⟩
theorem Rd.cut {w : World} {b ab ao c i : Nat} {rest : List Nat} (h : Rd w b rest false) (hs : w.cell? ⟨b, 0, none⟩ = some (.slice (some ⟨ab, ao, none⟩) rest.length c)) (hx : Cells w b (some ⟨ab, ao, none⟩) rest.length c 1 (flatU rest)) (hc : rest.length ≤ c) (hm : c ≤ maxLen) (hi : i ≤ rest.length) :
    Rd (w.setCell ⟨b, 0, none⟩ (.slice (some ⟨ab, ao + i, none⟩) (rest.length - i) (c - i))) b (rest.drop i) false := by
  refine ⟨⟨some ⟨ab, ao + i, none⟩, c - i, by rw [List.length_drop]; exact c_set_same (h_of hs), by rw [List.length_drop]; omega, by omega, ?_⟩, c_set_other (Or.inr (by decide)) h.flag, fun j => f_set (h.free j), by have := h.low; simpa [World.setCell] using this⟩
  rw [List.length_drop]
  have h2 := cells_drop hx hi (c - i)
  exact ⟨h2.1, h2.2.1, fun j u hu => by obtain ⟨q, o, e, hq, hc⟩ := h2.2.2 j u hu; exact ⟨q, o, e, hq, c_set_other (Or.inl (by omega)) hc⟩⟩
theorem Rd.cutAll {w : World} {b c : Nat} {ad : Addr} {rest : List Nat} {i : Nat} (h : Rd w b rest false) (hs : w.cell? ⟨b, 0, none⟩ = some (.slice (some ad) rest.length c)) (hi : rest.length ≤ i) :
    Rd (w.setCell ⟨b, 0, none⟩ (.slice (some ad) 0 0)) b (rest.drop i) false := by
  rw [List.drop_eq_nil_of_le hi]
  exact ⟨⟨some ad, 0, by simp only [List.length_nil]; exact c_set_same (h_of hs), Nat.le_refl _, by unfold maxLen; omega, rfl, (fun e => by cases e), fun j u hu => by simp [flatU] at hu⟩, c_set_other (Or.inr (by decide)) h.flag, fun j => f_set (h.free j), by have := h.low; simpa [World.setCell] using this⟩
end Go.Proofs.YtepjehcmiofehaaGreat
