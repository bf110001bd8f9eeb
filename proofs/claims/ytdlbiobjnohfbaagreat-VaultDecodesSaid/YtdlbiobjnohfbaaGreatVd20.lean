/- octet's Writer, with frames by touched blocks. -/
import Derived.Test.YtdlbiobjnohfbaaGreatVd19
namespace Go.Proofs.YtdlbiobjnohfbaaGreat
open Go.RowKit
set_option linter.unusedVariables false
set_option linter.unusedSimpArgs false
/-- where a row lies behind work in a world: where it lay, or in new memory -/
def Near (w : World) (v v' : Value) : Prop := v'.ownBlock = v.ownBlock ∨ ∃ g, v'.ownBlock = some g ∧ w.heap.size ≤ g
theorem Near.refl (w : World) (v : Value) : Near w v v := .inl rfl
theorem Near.step {w w1 : World} {v v1 v2 : Value} (h : Near w v v1) (hs : w.heap.size ≤ w1.heap.size) (h2 : v2.ownBlock = v1.ownBlock ∨ v2.ownBlock = some w1.heap.size) : Near w v v2 := by
  rcases h2 with h2 | h2
  · rcases h with h | ⟨g, h, hg⟩
    · exact .inl (h2.trans h)
    · exact .inr ⟨g, h2.trans h, hg⟩
  · exact .inr ⟨_, h2, hs⟩
theorem Near.trans {w w1 : World} {v v1 v2 : Value} (h : Near w v v1) (hs : w.heap.size ≤ w1.heap.size) (h2 : Near w1 v1 v2) : Near w v v2 := by
  rcases h2 with h2 | ⟨g, h2, hg⟩
  · rcases h with h | ⟨g, h, hg⟩
    · exact .inl (h2.trans h)
    · exact .inr ⟨g, h2.trans h, hg⟩
  · exact .inr ⟨g, h2, by omega⟩
/-- what touches the row at its new place touches, of what was there, the row at its old place alone -/
theorem Near.old {w : World} {v v1 : Value} (h : Near w v v1) : ∀ n, n < w.heap.size → v1.ownBlock = some n → v.ownBlock = some n := by
  intro n hn hv
  rcases h with h | ⟨g, h, hg⟩
  · exact h ▸ hv
  · rw [h] at hv; injection hv; omega
set_option maxHeartbeats 1000000 in
set_option maxRecDepth 10000 in
theorem octAppendT (v : Value) (N : Nat) (xs : List Value) (n : Int) (base : Nat) (w : World) (hN : N ≤ 1000000) (hbase : base ≤ w.heap.size) (hown : w.ownsRow base 5 1 v N xs) :
    Calls Tryz.prog 81 #[v, .int .i64 n] w fun e w' => ∃ v', e = .returned v' ∧ w'.ownsRow base 5 1 v' (N + (enc (clamp n)).length) (xs ++ flatU (enc (clamp n))) ∧ Touch (fun k => v.ownBlock = some k) w w' ∧ Near w v v' := by
  obtain ⟨i0, hi, hz0, hz1, hz2⟩ := info_parts Tryz.infoByte
  have HO := Lib.hid hown
  clear hown
  go_enter Tryz.func81, Tryz.ntmps81
  have hcl : clamp n ≤ 4611686018427387904 := by unfold clamp; omega
  have hc0 : n < 0 → clamp n = 0 := by unfold clamp; omega
  have hc1 : 0 ≤ n → n ≤ 4611686018427387904 → (clamp n : Int) = n := by unfold clamp; omega
  have hc2 : ¬ n ≤ 4611686018427387904 → clamp n = 4611686018427387904 := by unfold clamp; omega
  generalize hr0 : clamp n = r0 at *
  go_wp2_with fail
  all_goals go_loopw [0, 1] (fun s i wr => ∃ (r : Nat) (done : List Nat), i = .int .i64 r ∧ r ≤ 4611686018427387904 ∧ enc r0 = done ++ enc r ∧ Hid (wr.ownsRow base 5 1 s (N + done.length) (xs ++ flatU done)) ∧ Hid (Touch (fun k => v.ownBlock = some k) w wr) ∧ Hid (Near w v s)) (fun _ i _ => (intOf i).toNat)
  all_goals first
    | (exact ⟨r0, [], by congr 1; omega, hcl, rfl, Lib.hid (by simpa [flatU] using HO.out), Lib.hid (Touch.refl _ _), Lib.hid (Near.refl _ _)⟩)
    | skip
  all_goals obtain ⟨r, done, rfl, hr, he, HW, HT, HNr⟩ := hrel
  all_goals have hBs := HT.out.size
  all_goals have hlen : (enc r0).length ≤ 10 := enc_len hcl
  all_goals rw [he, List.length_append] at hlen
  all_goals by_cases h128 : 128 ≤ r
  all_goals first
    | (have h128b : (128 : Int) ≤ (r : Int) := by omega
       have e2 : enc r = (r % 128 + 128) :: enc (r / 128) := by rw [enc, dif_pos h128]
       have hpos := enc_pos r
       go_wp2_with (at_builtin; go_must (refine wpList_append_touch rfl (.tmp 10) (.tmp 14) 33 rfl base 5 i0 (.int .u8 0) 1 1 Tryz.underlying33 hi hz0 hz1 hz2 rfl (by decide) _ (N + done.length) (xs ++ flatU done) rfl (World.ownsRow.alloc HW.out _) _ (some ⟨wr.heap.size, 0, none⟩) 1 1 [_] rfl (cells1 (Nat.lt_succ_self _) (c_new rfl rfl)) (by intro u hu; simp at hu; subst hu; rfl) (by unfold maxLen; omega) (by omega) (by (first | omega | (simp; done) | (simp; omega))) ?_); intro v5 w5 hown5 ht5 hl5)
       refine ⟨⟨r / 128, done ++ [r % 128 + 128], by congr 1, by omega, by rw [he, e2]; simp, Lib.hid (by have h6 := hown5; rw [or128] at h6; simpa [flatU, List.append_assoc, Nat.add_assoc] using h6), Lib.hid ((HT.out.alloc _).trans ht5 (HNr.out.old)), Lib.hid (HNr.out.step (by simp; omega) hl5)⟩, ?_⟩
       simp [intOf]; omega)
    | (have h128b : ¬ (128 : Int) ≤ (r : Int) := by omega
       have e2 : enc r = [r] := by rw [enc, dif_neg h128]
       have hpos := enc_pos r
       go_wp2_with (at_builtin; go_must (refine wpList_append_touch rfl (.tmp 18) (.tmp 21) 33 rfl base 5 i0 (.int .u8 0) 1 1 Tryz.underlying33 hi hz0 hz1 hz2 rfl (by decide) _ (N + done.length) (xs ++ flatU done) rfl (World.ownsRow.alloc HW.out _) _ (some ⟨wr.heap.size, 0, none⟩) 1 1 [_] rfl (cells1 (Nat.lt_succ_self _) (c_new rfl rfl)) (by intro u hu; simp at hu; subst hu; rfl) (by unfold maxLen; omega) (by omega) (by (first | omega | (simp; done) | (simp; omega))) ?_); intro v5 w5 hown5 ht5 hl5)
       go_ret
       refine ⟨v5, rfl, ?_, (HT.out.alloc _).trans ht5 (HNr.out.old), HNr.out.step (by simp; omega) hl5⟩
       have h6 := hown5
       (try rw [low256 h128] at h6)
       first
         | (simpa [flatU, List.append_assoc, Nat.add_assoc, he, e2] using h6)
         | (have hz : r0 = 0 := by omega
            rw [hz] at he
            simpa [flatU, List.append_assoc, Nat.add_assoc, he, e2] using h6))
/-- in which block a Writer's row lies -/
def wrow (w : World) (b : Nat) : Option Nat := (w.cell? ⟨b, 0, none⟩).bind Value.ownBlock
theorem wrow_of {w : World} {b : Nat} {s : Value} (h : w.cell? ⟨b, 0, none⟩ = some s) : wrow w b = s.ownBlock := by unfold wrow; rw [h]; rfl
/-- where a Writer's row lies behind work -/
def WNear (w : World) (b : Nat) (w' : World) : Prop := wrow w' b = wrow w b ∨ ∃ g, wrow w' b = some g ∧ w.heap.size ≤ g
theorem WNear.refl (w : World) (b : Nat) : WNear w b w := .inl rfl
theorem WNear.old {w w' : World} {b : Nat} (h : WNear w b w') : ∀ n, n < w.heap.size → wrow w' b = some n → wrow w b = some n := by
  intro n hn hv
  rcases h with h | ⟨g, h, hg⟩
  · exact h ▸ hv
  · rw [h] at hv; injection hv; omega
theorem WNear.trans {w w1 w2 : World} {b : Nat} (h : WNear w b w1) (hs : w.heap.size ≤ w1.heap.size) (h2 : WNear w1 b w2) : WNear w b w2 := by
  rcases h2 with h2 | ⟨g, h2, hg⟩
  · rcases h with h | ⟨g, h, hg⟩
    · exact .inl (h2.trans h)
    · exact .inr ⟨g, h2.trans h, hg⟩
  · exact .inr ⟨g, h2, by omega⟩
theorem WNear.step {w w1 w2 w3 : World} {b : Nat} {s v : Value} (h : WNear w b w1) (hs : w.heap.size ≤ w1.heap.size) (h1 : w1.cell? ⟨b, 0, none⟩ = some s) (hn : Near w1 s v) (h3 : w3.cell? ⟨b, 0, none⟩ = some v) : WNear w b w3 := by
  refine h.trans hs ?_
  unfold WNear
  rw [wrow_of h1, wrow_of h3]
  exact hn
/-- what a Writer may touch: itself and its row -/
abbrev WD (w : World) (b : Nat) : Nat → Prop := fun k => k = b ∨ wrow w b = some k
/-- a slice of integers that reads as a list, apart from a Writer -/
def NumsAt (w : World) (b : Nat) (A : Option Addr) (l : List Int) : Prop :=
  ∀ k (h : k < l.length), ∃ q o, A = some ⟨q, o, none⟩ ∧ ¬ WD w b q ∧ w.cell? ⟨q, o + k, none⟩ = some (.int .i64 l[k])
set_option maxHeartbeats 1000000 in
set_option maxRecDepth 10000 in
theorem wNumsT (b base : Nat) (A : Option Addr) (c : Nat) (l : List Int) (xs : List Nat) (w : World) (hl : l.length ≤ 1000) (hxs : xs.length ≤ 100000) (hw : Wr w b base xs) (hx : NumsAt w b A l) :
    Calls Tryz.prog 36 #[.pointer (some ⟨b, 0, none⟩), .slice A l.length c] w fun e w' => e = .returned (.tuple #[]) ∧ Wr w' b base (xs ++ encs l) ∧ Touch (WD w b) w w' ∧ WNear w b w' := by
  have HX := Lib.hid hx
  have HW0 := Lib.hid hw
  clear hx hw
  go_enter Tryz.func36, Tryz.ntmps36
  go_wp2_with fail
  go_loopw [10] (fun i wr => ∃ k : Nat, k ≤ l.length ∧ i = .int .i64 k ∧ Hid (Wr wr b base (xs ++ encs (l.take k))) ∧ Hid (Touch (WD w b) w wr) ∧ Hid (WNear w b wr)) (fun i _ => l.length - (intOf i).toNat)
  case atStart => exact ⟨0, by omega, rfl, Lib.hid (by simpa [encs] using HW0.out), Lib.hid (Touch.refl _ _), Lib.hid (WNear.refl _ _)⟩
  case round =>
    obtain ⟨k, hk, rfl, HW, HT, HN⟩ := hrel
    by_cases hlt : k < l.length
    · obtain ⟨b1, o, rfl, hb, h1⟩ := HX.out k hlt
      replace h1 := HT.out.cell h1 hb
      have hq : (encs (l.take k)).length ≤ 10000 := by have := encs_len (l.take k); rw [List.length_take] at this; omega
      obtain ⟨⟨s, hs, hown⟩, hfr, hlow, hhigh⟩ := HW.out
      have HO := Lib.hid hown
      have hsz := HT.out.size
      have hsb : ¬ s.ownBlock = some b := fun e => by have := (hown.lt b e).1; omega
      clear hown
      go_wp2_with fail
      refine (octAppendT s _ _ l[k] base _ (by rw [List.length_append]; omega) hhigh HO.out).mono ?_
      rintro e w3 ⟨v3, rfl, hown3, ht3, hn3⟩
      have hs3 := ht3.size
      rw [← flatU_app, List.append_assoc, ← encs_snoc hlt, ← List.length_append, List.append_assoc, ← encs_snoc hlt] at hown3
      obtain ⟨A3, cp3, rfl, _, _, _⟩ := row_cells hown3
      have c3 := ht3.cell hs hsb
      have f3 := ht3.frozen (by omega) hfr hsb
      have HT3 : Hid (Touch (WD w b) w (w3.setCell ⟨b, 0, none⟩ (.slice A3 (xs ++ encs (l.take (k + 1))).length cp3))) := Lib.hid ((HT.out.trans ht3 (fun n h1 h2 => Or.inr (HN.out.old n h1 ((wrow_of hs).trans h2)))).set (fun _ => Or.inl rfl))
      have HN3 : Hid (WNear w b (w3.setCell ⟨b, 0, none⟩ (.slice A3 (xs ++ encs (l.take (k + 1))).length cp3))) := Lib.hid (HN.out.step (w2 := w3) hsz hs hn3 (c_set_same (h_of c3)))
      have HW3 : Hid (Wr (w3.setCell ⟨b, 0, none⟩ (.slice A3 (xs ++ encs (l.take (k + 1))).length cp3)) b base (xs ++ encs (l.take (k + 1)))) := Lib.hid ⟨⟨_, c_set_same (h_of c3), row_set hown3 hlow _⟩, f_set f3, hlow, by simp; omega⟩
      rw [List.length_append] at HW3 HT3 HN3
      clear hown3 hn3
      go_wp2_with fail
      first
        | (go_roundw
           case rel => exact ⟨k + 1, by omega, by go_num, HW3, HT3, HN3⟩
           case measure => simp [intOf]; omega)
        | (refine ⟨⟨k + 1, by omega, by go_num, HW3, HT3, HN3⟩, ?_⟩
           simp [intOf]; omega)
    · have hke : k = l.length := by omega
      subst hke
      have hO := HW.out
      rw [List.take_length] at hO
      have HO := Lib.hid hO
      clear hO
      go_wp2_with fail
      refine bodyPost_end (v := .tuple #[]) (by simp [results, Tryz.results36, go_sem]) rfl ⟨rfl, HO.out, HT.out, HN.out⟩
end Go.Proofs.YtdlbiobjnohfbaaGreat
