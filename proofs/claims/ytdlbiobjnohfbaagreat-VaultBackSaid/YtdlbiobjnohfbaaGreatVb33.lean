/- The document's vault: set. -/
import Derived.Test.YtdlbiobjnohfbaaGreatVb32
namespace Go.Proofs.YtdlbiobjnohfbaaGreat
open Go.RowKit Go.ChangeMaps Go.MapKept
set_option linter.unusedVariables false
set_option linter.unusedSimpArgs false
theorem flatH_take (l : Pm) (n : Nat) : flatH (l.take n) = (flatH l).take (n * 5) := by
 induction l generalizing n with
 | nil => simp [flatH]
 | cons a r ih =>
  cases n with
  | zero => simp [flatH]
  | succ n =>
   have e : (n + 1) * 5 = n * 5 + 5 := by omega
   rw [e]
   simp only [List.take_succ_cons, flatH, List.flatMap_cons, rowH, List.cons_append, List.nil_append] at ih ⊢
   rw [ih n]
theorem flatH_drop (l : Pm) (n : Nat) : flatH (l.drop n) = (flatH l).drop (n * 5) := by
 induction l generalizing n with
 | nil => simp [flatH]
 | cons a r ih =>
  cases n with
  | zero => simp [flatH]
  | succ n =>
   have e : (n + 1) * 5 = n * 5 + 5 := by omega
   rw [e]
   simp only [List.drop_succ_cons, flatH, List.flatMap_cons, rowH, List.cons_append, List.nil_append] at ih ⊢
   rw [ih n]
theorem flatH_one (l : Pm) : ∀ u ∈ flatH l, u.oneCell' = true := by
 intro u hu
 simp only [flatH, List.mem_flatMap] at hu
 obtain ⟨p, _, hu⟩ := hu
 simp only [rowH, List.mem_cons, List.not_mem_nil, or_false] at hu
 rcases hu with rfl | rfl | rfl | rfl | rfl <;> rfl
theorem cells_nilH {w : World} {B : Nat} : Cells w B none 0 0 5 (flatH []) := ⟨by simp [flatH], fun _ => ⟨rfl, rfl⟩, fun j u hu => by simp [flatH] at hu⟩
def afterS (k : By) (r : Pm) : Nat := if (spotS k r).2 = true then (spotS k r).1 + 1 else (spotS k r).1
theorem setEnd {w w6 : World} {d m : Nat} {u v6 q n : Value} {r : Pm} {k : By} {x : It4} (hd : Whl w d 65 #[u, q, n]) (hb : Below w.heap.size w w6) (ho : w6.ownsRow w.heap.size 85 5 v6 m (flatH (r.take (spotS k r).1) ++ flatH (midS k x) ++ flatH (r.drop (afterS k r))))
  (hm : m = (setS k x r).length) : Whl (w6.setCell ⟨d, 0, none⟩ v6) d 65 #[v6, q, n] ∧ (w6.setCell ⟨d, 0, none⟩ v6).ownsRow w.heap.size 85 5 v6 (setS k x r).length (flatH (setS k x r)) ∧ Touch (fun j => j = d) w (w6.setCell ⟨d, 0, none⟩ v6) ∧ (∀ g, v6.ownBlock = some g → w.heap.size ≤ g) := by
 have hf : flatH (r.take (spotS k r).1) ++ flatH (midS k x) ++ flatH (r.drop (afterS k r)) = flatH (setS k x r) := by
  rw [setS_spot k x r, flatH_app, flatH_app, List.append_assoc]
  rfl
 rw [hf, hm] at ho
 have hdl := hd.low
 exact ⟨(hd.below hb hdl).set 0 v6, own_set_ne ho (fun g hg => by have := (ho.lt g hg).1; show g ≠ d; omega), ((Touch.of_below hb).mono'' (fun k hk hd => by omega)).set (fun _ => rfl), fun g hg => (ho.lt g hg).1⟩
set_option maxHeartbeats 4000000 in
set_option maxRecDepth 10000 in
theorem refSetN0 (d : Nat) (q n : Value) (r : Pm) (s : ByteArray) (w W1 : World) (hW1 : W1 = w.alloc (.cells #[.int .i64 0, .int .i64 0, .int .i64 0, .int .i64 0] 36)) (hd : Whl W1 d 65 #[.slice none 0 0, q, n])
  (hrow : W1.ownsRow 0 85 5 (.slice none 0 0) r.length (flatH r)) (hlen : r.length ≤ 1000) (hdw : d < w.heap.size) (hr0 : r.length = 0) (hsi : spotS s.data.toList r = (0, false)) :
  Calls Tryz.prog 63 #[.pointer (some ⟨d, 0, none⟩), .string s, .agg #[.int .i64 0, .int .i64 0, .int .i64 0, .int .i64 0]] w fun e w' => ∃ u', e = .returned (.tuple #[]) ∧ Whl w' d 65 #[u', q, n] ∧ w'.ownsRow W1.heap.size 85 5 u' (setS s.data.toList (0, 0, 0, 0) r).length (flatH (setS s.data.toList (0, 0, 0, 0) r)) ∧ Touch (fun j => j = d) W1 w' ∧ (∀ g, u'.ownBlock = some g → W1.heap.size ≤ g) := by
 obtain ⟨i0, hi0, hz0, hz1, hz2⟩ := info_parts Tryz.infoHold
 have hs1 : W1.heap.size = w.heap.size + 1 := by rw [hW1]; simp
 have P1 : Whl W1 w.heap.size 36 #[.int .i64 0, .int .i64 0, .int .i64 0, .int .i64 0] := by rw [hW1]; exact Whl.new rfl
 have hcd := hd.cell 0
 simp only [List.getElem?_toArray, List.getElem?_cons_zero] at hcd
 have HD := Lib.hid hd
 have HP1 := Lib.hid P1
 have HROW := Lib.hid hrow
 have HL1 : Hid (RvL W1 d (.slice none 0 0) r) := Lib.hid ⟨hcd, hrow, by omega⟩
 have HCT : Hid (Cells W1 W1.heap.size none 0 0 5 (flatH (r.take 0))) := Lib.hid (by rw [List.take_zero]; exact cells_nilH)
 have HCR : Hid (Cells W1 W1.heap.size none 0 0 5 (flatH (r.drop (afterS s.data.toList r)))) := Lib.hid (by rw [show r = [] from List.eq_nil_of_length_eq_zero hr0]; rw [List.drop_nil]; exact cells_nilH)

 have hsl := spotS_le s.data.toList r
 have HLEN : Hid ((setS s.data.toList (0, 0, 0, 0) r).length = 0 + 0 + 0) := Lib.hid (by
  rw [setS_spot, List.length_append, List.length_append, List.length_take, List.length_drop]
  have hm : (midS s.data.toList (0, 0, 0, 0)).length = 0 := by
   unfold midS
   rw [if_pos (by rfl)]; rfl
  rw [hm]
  rw [hsi] at hsl ⊢
  simp only at hsl ⊢
  simp only [Bool.false_eq_true, if_false]
  omega)
 have HSI := Lib.hid hsi
 have HMID : Hid (flatH (midS s.data.toList (0, 0, 0, 0)) = []) := Lib.hid (by
  unfold midS
  rw [if_pos (by rfl)]; rfl)
 skip
 clear hd P1 hrow hsi hsl
 go_enter Tryz.func63, Tryz.ntmps63
 go_wp2_with (first
  | (go_at_call 69; rw [← hW1]; clear hW1; go_loud (refine (refSpot d _ r s _ HL1.out (by omega)).mono ?_; rintro e w2 ⟨he, hb2⟩; rw [HSI.out] at he; simp only at he; subst he; have hs2 := hb2.size; have c2 := bkeep hb2 hcd (by omega); have hbl : Below W1.heap.size W1 (w2.alloc (.cells #[] 85)) := hb2.alloc hs2 _; have HBL := Lib.hid hbl; have HLIT : Hid ((w2.alloc (.cells #[] 85)).ownsRow W1.heap.size 85 5 (.slice (some ⟨w2.heap.size, 0, none⟩) 0 0) 0 []) := Lib.hid (owns_lit0 rfl hs2); have HC2 := Lib.hid (cells_keep HCT.out hbl (Nat.le_refl _)); clear hb2 hbl))
  | (at_builtin; have hgg := HO3; clear hgg; go_must (refine wpList_append_row rfl (.tmp 48) (.tmp 49) 56 rfl W1.heap.size 85 i0 (.agg #[.string ⟨#[]⟩, .int .i64 0, .int .i64 0, .int .i64 0, .int .i64 0]) 5 48 Tryz.underlying56 hi0 hz0 hz1 hz2 rfl (by decide) v3 0 (flatH (r.take 0)) rfl (row_belowR HO3.out (Below.refl _ _)) W1.heap.size none 0 0 (flatH (r.drop (afterS s.data.toList r))) rfl (cells_keep HCR.out HB3.out (Nat.le_refl _)) (flatH_one _) (by unfold maxLen; omega) (by omega) (by first | omega | (simp; omega)) ?_); intro v7 w7 hown7 hb7; have HB7 : Hid (Below W1.heap.size W1 w7) := Lib.hid (HB3.out.trans hb7); have hs7 := HB7.out.size; obtain ⟨m7, hm7⟩ : ∃ m, m = 0 + 0 := ⟨_, rfl⟩; rw [← hm7] at hown7; have HM7 := Lib.hid hm7; clear hm7; obtain ⟨A7, k7, rfl, _, _, _⟩ := own_slice hown7; have c7 := bkeep HB7.out hcd (by omega); have f7 := fun o => (HD.out.below HB7.out (by omega)).free o; have HO7 := Lib.hid hown7; clear hown7 hb7)
  | (at_builtin; have hgg := HLIT; clear hgg; go_must (refine wpList_append_row rfl (.tmp 30) (.tmp 36) 56 rfl W1.heap.size 85 i0 (.agg #[.string ⟨#[]⟩, .int .i64 0, .int .i64 0, .int .i64 0, .int .i64 0]) 5 48 Tryz.underlying56 hi0 hz0 hz1 hz2 rfl (by decide) (.slice (some ⟨w2.heap.size, 0, none⟩) 0 0) 0 [] rfl HLIT.out W1.heap.size none 0 0 (flatH (r.take 0)) rfl HC2.out (flatH_one _) (by unfold maxLen; omega) (by omega) (by first | omega | (simp; omega)) ?_); intro v3 w3 hown3 hb3; have HB3 : Hid (Below W1.heap.size W1 w3) := Lib.hid (HBL.out.trans hb3); have hs3 := HB3.out.size; rw [Nat.zero_add, List.nil_append] at hown3; have c3 := bkeep HB3.out hcd (by omega); have P3 := HP1.out; have z0 : w3.cell? ⟨w.heap.size, 0, none⟩ = some (.int .i64 0) := bkeep HB3.out (HP1.out.cell 0) HP1.out.low; have z1 : w3.cell? ⟨w.heap.size, 1, none⟩ = some (.int .i64 0) := bkeep HB3.out (HP1.out.cell 1) HP1.out.low; have z2 : w3.cell? ⟨w.heap.size, 2, none⟩ = some (.int .i64 0) := bkeep HB3.out (HP1.out.cell 2) HP1.out.low; have z3 : w3.cell? ⟨w.heap.size, 3, none⟩ = some (.int .i64 0) := bkeep HB3.out (HP1.out.cell 3) HP1.out.low; clear P3; have HO3 := Lib.hid hown3; clear hown3 hb3)
  | fail)
 have ho := HO7.out
 have e7 : flatH (r.take (spotS s.data.toList r).1) ++ flatH (midS s.data.toList (0, 0, 0, 0)) ++ flatH (r.drop (afterS s.data.toList r)) = (flatH (r.take 0)) ++ flatH (r.drop (afterS s.data.toList r)) := by rw [HMID.out, HSI.out, List.append_nil]
 rw [← e7] at ho
 refine bodyPost_end (v := .tuple #[]) (by simp [results, Tryz.results63, go_sem]) rfl ⟨_, rfl, setEnd HD.out HB7.out ho (by have h1 := HLEN.out; have h2 := HM7.out; omega)⟩
set_option maxHeartbeats 4000000 in
set_option maxRecDepth 10000 in
theorem refSetN1 (d : Nat) (q n : Value) (r : Pm) (s : ByteArray) (x0 x1 x2 x3 : Int) (hx : x0 = 0 → x1 = 0 → x2 = 0 → ¬ x3 = 0) (w W1 : World) (hW1 : W1 = w.alloc (.cells #[.int .i64 x0, .int .i64 x1, .int .i64 x2, .int .i64 x3] 36)) (hd : Whl W1 d 65 #[.slice none 0 0, q, n])
  (hrow : W1.ownsRow 0 85 5 (.slice none 0 0) r.length (flatH r)) (hlen : r.length ≤ 1000) (hdw : d < w.heap.size) (hr0 : r.length = 0) (hsi : spotS s.data.toList r = (0, false)) :
  Calls Tryz.prog 63 #[.pointer (some ⟨d, 0, none⟩), .string s, .agg #[.int .i64 x0, .int .i64 x1, .int .i64 x2, .int .i64 x3]] w fun e w' => ∃ u', e = .returned (.tuple #[]) ∧ Whl w' d 65 #[u', q, n] ∧ w'.ownsRow W1.heap.size 85 5 u' (setS s.data.toList (x0, x1, x2, x3) r).length (flatH (setS s.data.toList (x0, x1, x2, x3) r)) ∧ Touch (fun j => j = d) W1 w' ∧ (∀ g, u'.ownBlock = some g → W1.heap.size ≤ g) := by
 obtain ⟨i0, hi0, hz0, hz1, hz2⟩ := info_parts Tryz.infoHold
 have hs1 : W1.heap.size = w.heap.size + 1 := by rw [hW1]; simp
 have P1 : Whl W1 w.heap.size 36 #[.int .i64 x0, .int .i64 x1, .int .i64 x2, .int .i64 x3] := by rw [hW1]; exact Whl.new rfl
 have hcd := hd.cell 0
 simp only [List.getElem?_toArray, List.getElem?_cons_zero] at hcd
 have HD := Lib.hid hd
 have HP1 := Lib.hid P1
 have HROW := Lib.hid hrow
 have HL1 : Hid (RvL W1 d (.slice none 0 0) r) := Lib.hid ⟨hcd, hrow, by omega⟩
 have HCT : Hid (Cells W1 W1.heap.size none 0 0 5 (flatH (r.take 0))) := Lib.hid (by rw [List.take_zero]; exact cells_nilH)
 have HCR : Hid (Cells W1 W1.heap.size none 0 0 5 (flatH (r.drop (afterS s.data.toList r)))) := Lib.hid (by rw [show r = [] from List.eq_nil_of_length_eq_zero hr0]; rw [List.drop_nil]; exact cells_nilH)

 have hsl := spotS_le s.data.toList r
 have HLEN : Hid ((setS s.data.toList (x0, x1, x2, x3) r).length = 0 + 1 + 0) := Lib.hid (by
  rw [setS_spot, List.length_append, List.length_append, List.length_take, List.length_drop]
  have hm : (midS s.data.toList (x0, x1, x2, x3)).length = 1 := by
   unfold midS
   rw [if_neg (fun h => by simp only [z4, Prod.mk.injEq] at h; exact hx h.1 h.2.1 h.2.2.1 h.2.2.2)]; rfl
  rw [hm]
  rw [hsi] at hsl ⊢
  simp only at hsl ⊢
  simp only [Bool.false_eq_true, if_false]
  omega)
 have HSI := Lib.hid hsi
 have HMID : Hid (flatH (midS s.data.toList (x0, x1, x2, x3)) = [.string s, .int .i64 x0, .int .i64 x1, .int .i64 x2, .int .i64 x3]) := Lib.hid (by
  unfold midS
  rw [if_neg (fun h => by simp only [z4, Prod.mk.injEq] at h; exact hx h.1 h.2.1 h.2.2.1 h.2.2.2)]; rfl)
 have hne : (x0 == 0 && x1 == 0 && x2 == 0 && x3 == 0) = false := by
  rw [Bool.eq_false_iff]
  intro hh
  simp only [Bool.and_eq_true, beq_iff_eq] at hh
  exact hx hh.1.1.1 hh.1.1.2 hh.1.2 hh.2
 clear hx
 clear hd P1 hrow hsi hsl
 go_enter Tryz.func63, Tryz.ntmps63
 go_wp2_with (first
  | (go_at_call 69; rw [← hW1]; clear hW1; go_loud (refine (refSpot d _ r s _ HL1.out (by omega)).mono ?_; rintro e w2 ⟨he, hb2⟩; rw [HSI.out] at he; simp only at he; subst he; have hs2 := hb2.size; have c2 := bkeep hb2 hcd (by omega); have hbl : Below W1.heap.size W1 (w2.alloc (.cells #[] 85)) := hb2.alloc hs2 _; have HBL := Lib.hid hbl; have HLIT : Hid ((w2.alloc (.cells #[] 85)).ownsRow W1.heap.size 85 5 (.slice (some ⟨w2.heap.size, 0, none⟩) 0 0) 0 []) := Lib.hid (owns_lit0 rfl hs2); have HC2 := Lib.hid (cells_keep HCT.out hbl (Nat.le_refl _)); clear hb2 hbl))
  | (at_builtin; have hgg := HO5; clear hgg; go_must (refine wpList_append_row rfl (.tmp 48) (.tmp 49) 56 rfl W1.heap.size 85 i0 (.agg #[.string ⟨#[]⟩, .int .i64 0, .int .i64 0, .int .i64 0, .int .i64 0]) 5 48 Tryz.underlying56 hi0 hz0 hz1 hz2 rfl (by decide) v5 (0 + 1) (flatH (r.take 0) ++ [.string s, .int .i64 x0, .int .i64 x1, .int .i64 x2, .int .i64 x3]) rfl HO5.out W1.heap.size none 0 0 (flatH (r.drop (afterS s.data.toList r))) rfl (cells_keep HCR.out HB5.out (Nat.le_refl _)) (flatH_one _) (by unfold maxLen; omega) (by omega) (by first | omega | (simp; omega)) ?_); intro v7 w7 hown7 hb7; have HB7 : Hid (Below W1.heap.size W1 w7) := Lib.hid (HB5.out.trans hb7); have hs7 := HB7.out.size; obtain ⟨m7, hm7⟩ : ∃ m, m = (0 + 1) + 0 := ⟨_, rfl⟩; rw [← hm7] at hown7; have HM7 := Lib.hid hm7; clear hm7; obtain ⟨A7, k7, rfl, _, _, _⟩ := own_slice hown7; have c7 := bkeep HB7.out hcd (by omega); have f7 := fun o => (HD.out.below HB7.out (by omega)).free o; have HO7 := Lib.hid hown7; clear hown7 hb7)
  | (at_builtin; have hgg := HO3; clear hgg; go_must (refine wpList_append_row rfl (.tmp 41) (.tmp 45) 56 rfl W1.heap.size 85 i0 (.agg #[.string ⟨#[]⟩, .int .i64 0, .int .i64 0, .int .i64 0, .int .i64 0]) 5 48 Tryz.underlying56 hi0 hz0 hz1 hz2 rfl (by decide) v3 0 (flatH (r.take 0)) rfl HT5.out (w3.heap.size + 1) (some ⟨w3.heap.size, 0, none⟩) 1 1 [.string s, .int .i64 x0, .int .i64 x1, .int .i64 x2, .int .i64 x3] rfl HC5.out (by intro u hu; simp at hu; rcases hu with rfl | rfl | rfl | rfl | rfl <;> rfl) (by unfold maxLen; omega) (by omega) (by first | omega | (simp; omega)) ?_); intro v5 w5 hown5 hb5; have HB5 : Hid (Below W1.heap.size W1 w5) := Lib.hid ((HB3.out.alloc hs3 _).trans hb5); have hs5 := HB5.out.size; have HO5 := Lib.hid hown5; clear hown5 hb5)
  | (at_builtin; have hgg := HLIT; clear hgg; go_must (refine wpList_append_row rfl (.tmp 30) (.tmp 36) 56 rfl W1.heap.size 85 i0 (.agg #[.string ⟨#[]⟩, .int .i64 0, .int .i64 0, .int .i64 0, .int .i64 0]) 5 48 Tryz.underlying56 hi0 hz0 hz1 hz2 rfl (by decide) (.slice (some ⟨w2.heap.size, 0, none⟩) 0 0) 0 [] rfl HLIT.out W1.heap.size none 0 0 (flatH (r.take 0)) rfl HC2.out (flatH_one _) (by unfold maxLen; omega) (by omega) (by first | omega | (simp; omega)) ?_); intro v3 w3 hown3 hb3; have HB3 : Hid (Below W1.heap.size W1 w3) := Lib.hid (HBL.out.trans hb3); have hs3 := HB3.out.size; rw [Nat.zero_add, List.nil_append] at hown3; have c3 := bkeep HB3.out hcd (by omega); have P3 := HP1.out; have z0 : w3.cell? ⟨w.heap.size, 0, none⟩ = some (.int .i64 x0) := bkeep HB3.out (HP1.out.cell 0) HP1.out.low; have z1 : w3.cell? ⟨w.heap.size, 1, none⟩ = some (.int .i64 x1) := bkeep HB3.out (HP1.out.cell 1) HP1.out.low; have z2 : w3.cell? ⟨w.heap.size, 2, none⟩ = some (.int .i64 x2) := bkeep HB3.out (HP1.out.cell 2) HP1.out.low; have z3 : w3.cell? ⟨w.heap.size, 3, none⟩ = some (.int .i64 x3) := bkeep HB3.out (HP1.out.cell 3) HP1.out.low; clear P3; have HT5 : Hid ((w3.alloc (.cells #[.string s, .int .i64 x0, .int .i64 x1, .int .i64 x2, .int .i64 x3] 85)).ownsRow W1.heap.size 85 5 v3 0 (flatH (r.take 0))) := Lib.hid (row_belowR hown3 ((Below.refl _ _).alloc (Nat.le_refl _) _)); have HC5 : Hid (Cells (w3.alloc (.cells #[.string s, .int .i64 x0, .int .i64 x1, .int .i64 x2, .int .i64 x3] 85)) (w3.heap.size + 1) (some ⟨w3.heap.size, 0, none⟩) 1 1 5 [.string s, .int .i64 x0, .int .i64 x1, .int .i64 x2, .int .i64 x3]) := Lib.hid ⟨rfl, (fun e => by cases e), fun k u hu => ⟨_, _, rfl, (by omega), by rw [Nat.zero_add, (Whl.new rfl).cell]; simpa using hu⟩⟩; have HO3 := Lib.hid hown3; clear hown3 hb3)
  | fail)
 have ho := HO7.out
 have e7 : flatH (r.take (spotS s.data.toList r).1) ++ flatH (midS s.data.toList (x0, x1, x2, x3)) ++ flatH (r.drop (afterS s.data.toList r)) = (flatH (r.take 0) ++ [.string s, .int .i64 x0, .int .i64 x1, .int .i64 x2, .int .i64 x3]) ++ flatH (r.drop (afterS s.data.toList r)) := by rw [HMID.out, HSI.out]
 rw [← e7] at ho
 refine bodyPost_end (v := .tuple #[]) (by simp [results, Tryz.results63, go_sem]) rfl ⟨_, rfl, setEnd HD.out HB7.out ho (by have h1 := HLEN.out; have h2 := HM7.out; omega)⟩
set_option maxHeartbeats 4000000 in
set_option maxRecDepth 10000 in
theorem refSetC0 (d gu i : Nat) (q n : Value) (r : Pm) (s : ByteArray) (w W1 : World) (hW1 : W1 = w.alloc (.cells #[.int .i64 0, .int .i64 0, .int .i64 0, .int .i64 0] 36)) (hd : Whl W1 d 65 #[.slice (some ⟨gu, 0, none⟩) i i, q, n])
  (hrow : W1.ownsRow 0 85 5 (.slice (some ⟨gu, 0, none⟩) i i) r.length (flatH r)) (hlen : r.length ≤ 1000) (hdw : d < w.heap.size) (hil : r.length = i) (hcm : i ≤ maxLen) (hsi : spotS s.data.toList r = (i, false)) :
  Calls Tryz.prog 63 #[.pointer (some ⟨d, 0, none⟩), .string s, .agg #[.int .i64 0, .int .i64 0, .int .i64 0, .int .i64 0]] w fun e w' => ∃ u', e = .returned (.tuple #[]) ∧ Whl w' d 65 #[u', q, n] ∧ w'.ownsRow W1.heap.size 85 5 u' (setS s.data.toList (0, 0, 0, 0) r).length (flatH (setS s.data.toList (0, 0, 0, 0) r)) ∧ Touch (fun j => j = d) W1 w' ∧ (∀ g, u'.ownBlock = some g → W1.heap.size ≤ g) := by
 obtain ⟨i0, hi0, hz0, hz1, hz2⟩ := info_parts Tryz.infoHold
 have hs1 : W1.heap.size = w.heap.size + 1 := by rw [hW1]; simp
 have P1 : Whl W1 w.heap.size 36 #[.int .i64 0, .int .i64 0, .int .i64 0, .int .i64 0] := by rw [hW1]; exact Whl.new rfl
 have hcd := hd.cell 0
 simp only [List.getElem?_toArray, List.getElem?_cons_zero] at hcd
 have HD := Lib.hid hd
 have HP1 := Lib.hid P1
 have HROW := Lib.hid hrow
 have HL1 : Hid (RvL W1 d (.slice (some ⟨gu, 0, none⟩) i i) r) := Lib.hid ⟨hcd, hrow, by omega⟩
 have HCT : Hid (Cells W1 W1.heap.size (some ⟨gu, 0, none⟩) i i 5 (flatH (r.take i))) := Lib.hid (by
  have hrow := hrow
  rw [hil] at hrow
  obtain ⟨A0, c0, e0, _, _, hC⟩ := row_cells hrow
  injection e0 with e1 e2 e3
  subst e1 e3
  rw [flatH_take]
  exact cells_take hC (Nat.le_refl _))
 have HCR : Hid (Cells W1 W1.heap.size (some ⟨gu, 0, none⟩) 0 0 5 (flatH (r.drop (afterS s.data.toList r)))) := Lib.hid (by
  have ea : afterS s.data.toList r = i := by unfold afterS; rw [hsi]; rfl
  rw [ea, List.drop_of_length_le (by omega)]
  exact cells_none)

 have hsl := spotS_le s.data.toList r
 have HLEN : Hid ((setS s.data.toList (0, 0, 0, 0) r).length = i + 0 + 0) := Lib.hid (by
  rw [setS_spot, List.length_append, List.length_append, List.length_take, List.length_drop]
  have hm : (midS s.data.toList (0, 0, 0, 0)).length = 0 := by
   unfold midS
   rw [if_pos (by rfl)]; rfl
  rw [hm]
  rw [hsi] at hsl ⊢
  simp only at hsl ⊢
  simp only [Bool.false_eq_true, if_false]
  omega)
 have HSI := Lib.hid hsi
 have HMID : Hid (flatH (midS s.data.toList (0, 0, 0, 0)) = []) := Lib.hid (by
  unfold midS
  rw [if_pos (by rfl)]; rfl)
 skip
 clear hd P1 hrow hsi hsl
 go_enter Tryz.func63, Tryz.ntmps63
 go_wp2_with (first
  | (go_at_call 69; rw [← hW1]; clear hW1; go_loud (refine (refSpot d _ r s _ HL1.out (by omega)).mono ?_; rintro e w2 ⟨he, hb2⟩; rw [HSI.out] at he; simp only at he; subst he; have hs2 := hb2.size; have c2 := bkeep hb2 hcd (by omega); have hbl : Below W1.heap.size W1 (w2.alloc (.cells #[] 85)) := hb2.alloc hs2 _; have HBL := Lib.hid hbl; have HLIT : Hid ((w2.alloc (.cells #[] 85)).ownsRow W1.heap.size 85 5 (.slice (some ⟨w2.heap.size, 0, none⟩) 0 0) 0 []) := Lib.hid (owns_lit0 rfl hs2); have HC2 := Lib.hid (cells_keep HCT.out hbl (Nat.le_refl _)); clear hb2 hbl))
  | (at_builtin; have hgg := HO3; clear hgg; go_must (refine wpList_append_row rfl (.tmp 48) (.tmp 49) 56 rfl W1.heap.size 85 i0 (.agg #[.string ⟨#[]⟩, .int .i64 0, .int .i64 0, .int .i64 0, .int .i64 0]) 5 48 Tryz.underlying56 hi0 hz0 hz1 hz2 rfl (by decide) v3 i (flatH (r.take i)) rfl (row_belowR HO3.out (Below.refl _ _)) W1.heap.size (some ⟨gu, 0, none⟩) 0 0 (flatH (r.drop (afterS s.data.toList r))) rfl (cells_keep HCR.out HB3.out (Nat.le_refl _)) (flatH_one _) (by unfold maxLen; omega) (by omega) (by first | omega | (simp; omega)) ?_); intro v7 w7 hown7 hb7; have HB7 : Hid (Below W1.heap.size W1 w7) := Lib.hid (HB3.out.trans hb7); have hs7 := HB7.out.size; obtain ⟨m7, hm7⟩ : ∃ m, m = i + 0 := ⟨_, rfl⟩; rw [← hm7] at hown7; have HM7 := Lib.hid hm7; clear hm7; obtain ⟨A7, k7, rfl, _, _, _⟩ := own_slice hown7; have c7 := bkeep HB7.out hcd (by omega); have f7 := fun o => (HD.out.below HB7.out (by omega)).free o; have HO7 := Lib.hid hown7; clear hown7 hb7)
  | (at_builtin; have hgg := HLIT; clear hgg; go_must (refine wpList_append_row rfl (.tmp 30) (.tmp 36) 56 rfl W1.heap.size 85 i0 (.agg #[.string ⟨#[]⟩, .int .i64 0, .int .i64 0, .int .i64 0, .int .i64 0]) 5 48 Tryz.underlying56 hi0 hz0 hz1 hz2 rfl (by decide) (.slice (some ⟨w2.heap.size, 0, none⟩) 0 0) 0 [] rfl HLIT.out W1.heap.size (some ⟨gu, 0, none⟩) i i (flatH (r.take i)) rfl HC2.out (flatH_one _) (by unfold maxLen; omega) (by omega) (by first | omega | (simp; omega)) ?_); intro v3 w3 hown3 hb3; have HB3 : Hid (Below W1.heap.size W1 w3) := Lib.hid (HBL.out.trans hb3); have hs3 := HB3.out.size; rw [Nat.zero_add, List.nil_append] at hown3; have c3 := bkeep HB3.out hcd (by omega); have P3 := HP1.out; have z0 : w3.cell? ⟨w.heap.size, 0, none⟩ = some (.int .i64 0) := bkeep HB3.out (HP1.out.cell 0) HP1.out.low; have z1 : w3.cell? ⟨w.heap.size, 1, none⟩ = some (.int .i64 0) := bkeep HB3.out (HP1.out.cell 1) HP1.out.low; have z2 : w3.cell? ⟨w.heap.size, 2, none⟩ = some (.int .i64 0) := bkeep HB3.out (HP1.out.cell 2) HP1.out.low; have z3 : w3.cell? ⟨w.heap.size, 3, none⟩ = some (.int .i64 0) := bkeep HB3.out (HP1.out.cell 3) HP1.out.low; clear P3; have HO3 := Lib.hid hown3; clear hown3 hb3)
  | fail)
 have ho := HO7.out
 have e7 : flatH (r.take (spotS s.data.toList r).1) ++ flatH (midS s.data.toList (0, 0, 0, 0)) ++ flatH (r.drop (afterS s.data.toList r)) = (flatH (r.take i)) ++ flatH (r.drop (afterS s.data.toList r)) := by rw [HMID.out, HSI.out, List.append_nil]
 rw [← e7] at ho
 refine bodyPost_end (v := .tuple #[]) (by simp [results, Tryz.results63, go_sem]) rfl ⟨_, rfl, setEnd HD.out HB7.out ho (by have h1 := HLEN.out; have h2 := HM7.out; omega)⟩
set_option maxHeartbeats 4000000 in
set_option maxRecDepth 10000 in
theorem refSetC1 (d gu i : Nat) (q n : Value) (r : Pm) (s : ByteArray) (x0 x1 x2 x3 : Int) (hx : x0 = 0 → x1 = 0 → x2 = 0 → ¬ x3 = 0) (w W1 : World) (hW1 : W1 = w.alloc (.cells #[.int .i64 x0, .int .i64 x1, .int .i64 x2, .int .i64 x3] 36)) (hd : Whl W1 d 65 #[.slice (some ⟨gu, 0, none⟩) i i, q, n])
  (hrow : W1.ownsRow 0 85 5 (.slice (some ⟨gu, 0, none⟩) i i) r.length (flatH r)) (hlen : r.length ≤ 1000) (hdw : d < w.heap.size) (hil : r.length = i) (hcm : i ≤ maxLen) (hsi : spotS s.data.toList r = (i, false)) :
  Calls Tryz.prog 63 #[.pointer (some ⟨d, 0, none⟩), .string s, .agg #[.int .i64 x0, .int .i64 x1, .int .i64 x2, .int .i64 x3]] w fun e w' => ∃ u', e = .returned (.tuple #[]) ∧ Whl w' d 65 #[u', q, n] ∧ w'.ownsRow W1.heap.size 85 5 u' (setS s.data.toList (x0, x1, x2, x3) r).length (flatH (setS s.data.toList (x0, x1, x2, x3) r)) ∧ Touch (fun j => j = d) W1 w' ∧ (∀ g, u'.ownBlock = some g → W1.heap.size ≤ g) := by
 obtain ⟨i0, hi0, hz0, hz1, hz2⟩ := info_parts Tryz.infoHold
 have hs1 : W1.heap.size = w.heap.size + 1 := by rw [hW1]; simp
 have P1 : Whl W1 w.heap.size 36 #[.int .i64 x0, .int .i64 x1, .int .i64 x2, .int .i64 x3] := by rw [hW1]; exact Whl.new rfl
 have hcd := hd.cell 0
 simp only [List.getElem?_toArray, List.getElem?_cons_zero] at hcd
 have HD := Lib.hid hd
 have HP1 := Lib.hid P1
 have HROW := Lib.hid hrow
 have HL1 : Hid (RvL W1 d (.slice (some ⟨gu, 0, none⟩) i i) r) := Lib.hid ⟨hcd, hrow, by omega⟩
 have HCT : Hid (Cells W1 W1.heap.size (some ⟨gu, 0, none⟩) i i 5 (flatH (r.take i))) := Lib.hid (by
  have hrow := hrow
  rw [hil] at hrow
  obtain ⟨A0, c0, e0, _, _, hC⟩ := row_cells hrow
  injection e0 with e1 e2 e3
  subst e1 e3
  rw [flatH_take]
  exact cells_take hC (Nat.le_refl _))
 have HCR : Hid (Cells W1 W1.heap.size (some ⟨gu, 0, none⟩) 0 0 5 (flatH (r.drop (afterS s.data.toList r)))) := Lib.hid (by
  have ea : afterS s.data.toList r = i := by unfold afterS; rw [hsi]; rfl
  rw [ea, List.drop_of_length_le (by omega)]
  exact cells_none)

 have hsl := spotS_le s.data.toList r
 have HLEN : Hid ((setS s.data.toList (x0, x1, x2, x3) r).length = i + 1 + 0) := Lib.hid (by
  rw [setS_spot, List.length_append, List.length_append, List.length_take, List.length_drop]
  have hm : (midS s.data.toList (x0, x1, x2, x3)).length = 1 := by
   unfold midS
   rw [if_neg (fun h => by simp only [z4, Prod.mk.injEq] at h; exact hx h.1 h.2.1 h.2.2.1 h.2.2.2)]; rfl
  rw [hm]
  rw [hsi] at hsl ⊢
  simp only at hsl ⊢
  simp only [Bool.false_eq_true, if_false]
  omega)
 have HSI := Lib.hid hsi
 have HMID : Hid (flatH (midS s.data.toList (x0, x1, x2, x3)) = [.string s, .int .i64 x0, .int .i64 x1, .int .i64 x2, .int .i64 x3]) := Lib.hid (by
  unfold midS
  rw [if_neg (fun h => by simp only [z4, Prod.mk.injEq] at h; exact hx h.1 h.2.1 h.2.2.1 h.2.2.2)]; rfl)
 have hne : (x0 == 0 && x1 == 0 && x2 == 0 && x3 == 0) = false := by
  rw [Bool.eq_false_iff]
  intro hh
  simp only [Bool.and_eq_true, beq_iff_eq] at hh
  exact hx hh.1.1.1 hh.1.1.2 hh.1.2 hh.2
 clear hx
 clear hd P1 hrow hsi hsl
 go_enter Tryz.func63, Tryz.ntmps63
 go_wp2_with (first
  | (go_at_call 69; rw [← hW1]; clear hW1; go_loud (refine (refSpot d _ r s _ HL1.out (by omega)).mono ?_; rintro e w2 ⟨he, hb2⟩; rw [HSI.out] at he; simp only at he; subst he; have hs2 := hb2.size; have c2 := bkeep hb2 hcd (by omega); have hbl : Below W1.heap.size W1 (w2.alloc (.cells #[] 85)) := hb2.alloc hs2 _; have HBL := Lib.hid hbl; have HLIT : Hid ((w2.alloc (.cells #[] 85)).ownsRow W1.heap.size 85 5 (.slice (some ⟨w2.heap.size, 0, none⟩) 0 0) 0 []) := Lib.hid (owns_lit0 rfl hs2); have HC2 := Lib.hid (cells_keep HCT.out hbl (Nat.le_refl _)); clear hb2 hbl))
  | (at_builtin; have hgg := HO5; clear hgg; go_must (refine wpList_append_row rfl (.tmp 48) (.tmp 49) 56 rfl W1.heap.size 85 i0 (.agg #[.string ⟨#[]⟩, .int .i64 0, .int .i64 0, .int .i64 0, .int .i64 0]) 5 48 Tryz.underlying56 hi0 hz0 hz1 hz2 rfl (by decide) v5 (i + 1) (flatH (r.take i) ++ [.string s, .int .i64 x0, .int .i64 x1, .int .i64 x2, .int .i64 x3]) rfl HO5.out W1.heap.size (some ⟨gu, 0, none⟩) 0 0 (flatH (r.drop (afterS s.data.toList r))) rfl (cells_keep HCR.out HB5.out (Nat.le_refl _)) (flatH_one _) (by unfold maxLen; omega) (by omega) (by first | omega | (simp; omega)) ?_); intro v7 w7 hown7 hb7; have HB7 : Hid (Below W1.heap.size W1 w7) := Lib.hid (HB5.out.trans hb7); have hs7 := HB7.out.size; obtain ⟨m7, hm7⟩ : ∃ m, m = (i + 1) + 0 := ⟨_, rfl⟩; rw [← hm7] at hown7; have HM7 := Lib.hid hm7; clear hm7; obtain ⟨A7, k7, rfl, _, _, _⟩ := own_slice hown7; have c7 := bkeep HB7.out hcd (by omega); have f7 := fun o => (HD.out.below HB7.out (by omega)).free o; have HO7 := Lib.hid hown7; clear hown7 hb7)
  | (at_builtin; have hgg := HO3; clear hgg; go_must (refine wpList_append_row rfl (.tmp 41) (.tmp 45) 56 rfl W1.heap.size 85 i0 (.agg #[.string ⟨#[]⟩, .int .i64 0, .int .i64 0, .int .i64 0, .int .i64 0]) 5 48 Tryz.underlying56 hi0 hz0 hz1 hz2 rfl (by decide) v3 i (flatH (r.take i)) rfl HT5.out (w3.heap.size + 1) (some ⟨w3.heap.size, 0, none⟩) 1 1 [.string s, .int .i64 x0, .int .i64 x1, .int .i64 x2, .int .i64 x3] rfl HC5.out (by intro u hu; simp at hu; rcases hu with rfl | rfl | rfl | rfl | rfl <;> rfl) (by unfold maxLen; omega) (by omega) (by first | omega | (simp; omega)) ?_); intro v5 w5 hown5 hb5; have HB5 : Hid (Below W1.heap.size W1 w5) := Lib.hid ((HB3.out.alloc hs3 _).trans hb5); have hs5 := HB5.out.size; have HO5 := Lib.hid hown5; clear hown5 hb5)
  | (at_builtin; have hgg := HLIT; clear hgg; go_must (refine wpList_append_row rfl (.tmp 30) (.tmp 36) 56 rfl W1.heap.size 85 i0 (.agg #[.string ⟨#[]⟩, .int .i64 0, .int .i64 0, .int .i64 0, .int .i64 0]) 5 48 Tryz.underlying56 hi0 hz0 hz1 hz2 rfl (by decide) (.slice (some ⟨w2.heap.size, 0, none⟩) 0 0) 0 [] rfl HLIT.out W1.heap.size (some ⟨gu, 0, none⟩) i i (flatH (r.take i)) rfl HC2.out (flatH_one _) (by unfold maxLen; omega) (by omega) (by first | omega | (simp; omega)) ?_); intro v3 w3 hown3 hb3; have HB3 : Hid (Below W1.heap.size W1 w3) := Lib.hid (HBL.out.trans hb3); have hs3 := HB3.out.size; rw [Nat.zero_add, List.nil_append] at hown3; have c3 := bkeep HB3.out hcd (by omega); have P3 := HP1.out; have z0 : w3.cell? ⟨w.heap.size, 0, none⟩ = some (.int .i64 x0) := bkeep HB3.out (HP1.out.cell 0) HP1.out.low; have z1 : w3.cell? ⟨w.heap.size, 1, none⟩ = some (.int .i64 x1) := bkeep HB3.out (HP1.out.cell 1) HP1.out.low; have z2 : w3.cell? ⟨w.heap.size, 2, none⟩ = some (.int .i64 x2) := bkeep HB3.out (HP1.out.cell 2) HP1.out.low; have z3 : w3.cell? ⟨w.heap.size, 3, none⟩ = some (.int .i64 x3) := bkeep HB3.out (HP1.out.cell 3) HP1.out.low; clear P3; have HT5 : Hid ((w3.alloc (.cells #[.string s, .int .i64 x0, .int .i64 x1, .int .i64 x2, .int .i64 x3] 85)).ownsRow W1.heap.size 85 5 v3 i (flatH (r.take i))) := Lib.hid (row_belowR hown3 ((Below.refl _ _).alloc (Nat.le_refl _) _)); have HC5 : Hid (Cells (w3.alloc (.cells #[.string s, .int .i64 x0, .int .i64 x1, .int .i64 x2, .int .i64 x3] 85)) (w3.heap.size + 1) (some ⟨w3.heap.size, 0, none⟩) 1 1 5 [.string s, .int .i64 x0, .int .i64 x1, .int .i64 x2, .int .i64 x3]) := Lib.hid ⟨rfl, (fun e => by cases e), fun k u hu => ⟨_, _, rfl, (by omega), by rw [Nat.zero_add, (Whl.new rfl).cell]; simpa using hu⟩⟩; have HO3 := Lib.hid hown3; clear hown3 hb3)
  | fail)
 have ho := HO7.out
 have e7 : flatH (r.take (spotS s.data.toList r).1) ++ flatH (midS s.data.toList (x0, x1, x2, x3)) ++ flatH (r.drop (afterS s.data.toList r)) = (flatH (r.take i) ++ [.string s, .int .i64 x0, .int .i64 x1, .int .i64 x2, .int .i64 x3]) ++ flatH (r.drop (afterS s.data.toList r)) := by rw [HMID.out, HSI.out]
 rw [← e7] at ho
 refine bodyPost_end (v := .tuple #[]) (by simp [results, Tryz.results63, go_sem]) rfl ⟨_, rfl, setEnd HD.out HB7.out ho (by have h1 := HLEN.out; have h2 := HM7.out; omega)⟩
set_option maxHeartbeats 4000000 in
set_option maxRecDepth 10000 in
theorem refSetD0 (d gu i c : Nat) (q n : Value) (r : Pm) (s : ByteArray) (w W1 : World) (hW1 : W1 = w.alloc (.cells #[.int .i64 0, .int .i64 0, .int .i64 0, .int .i64 0] 36)) (hd : Whl W1 d 65 #[.slice (some ⟨gu, 0, none⟩) r.length c, q, n])
  (hrow : W1.ownsRow 0 85 5 (.slice (some ⟨gu, 0, none⟩) r.length c) r.length (flatH r)) (hlen : r.length ≤ 1000) (hdw : d < w.heap.size) (hic : i < c) (hil : i ≤ r.length) (hlc : r.length ≤ c) (hcm : c ≤ maxLen) (hsi : spotS s.data.toList r = (i, false)) :
  Calls Tryz.prog 63 #[.pointer (some ⟨d, 0, none⟩), .string s, .agg #[.int .i64 0, .int .i64 0, .int .i64 0, .int .i64 0]] w fun e w' => ∃ u', e = .returned (.tuple #[]) ∧ Whl w' d 65 #[u', q, n] ∧ w'.ownsRow W1.heap.size 85 5 u' (setS s.data.toList (0, 0, 0, 0) r).length (flatH (setS s.data.toList (0, 0, 0, 0) r)) ∧ Touch (fun j => j = d) W1 w' ∧ (∀ g, u'.ownBlock = some g → W1.heap.size ≤ g) := by
 obtain ⟨i0, hi0, hz0, hz1, hz2⟩ := info_parts Tryz.infoHold
 have hs1 : W1.heap.size = w.heap.size + 1 := by rw [hW1]; simp
 have P1 : Whl W1 w.heap.size 36 #[.int .i64 0, .int .i64 0, .int .i64 0, .int .i64 0] := by rw [hW1]; exact Whl.new rfl
 have hcd := hd.cell 0
 simp only [List.getElem?_toArray, List.getElem?_cons_zero] at hcd
 have HD := Lib.hid hd
 have HP1 := Lib.hid P1
 have HROW := Lib.hid hrow
 have HL1 : Hid (RvL W1 d (.slice (some ⟨gu, 0, none⟩) r.length c) r) := Lib.hid ⟨hcd, hrow, by omega⟩
 have HCT : Hid (Cells W1 W1.heap.size (some ⟨gu, 0, none⟩) i c 5 (flatH (r.take i))) := Lib.hid (by
  obtain ⟨A0, c0, e0, _, _, hC⟩ := row_cells hrow
  injection e0 with e1 e2 e3
  subst e1 e3
  rw [flatH_take]
  exact cells_take hC (by omega))
 have HCR : Hid (Cells W1 W1.heap.size (some ⟨gu, i * 5, none⟩) (r.length - i) (c - i) 5 (flatH (r.drop (afterS s.data.toList r)))) := Lib.hid (by
  obtain ⟨A0, c0, e0, _, _, hC⟩ := row_cells hrow
  injection e0 with e1 e2 e3
  subst e1 e3
  rw [flatH_drop]
  have ea : afterS s.data.toList r = i := by unfold afterS; rw [hsi]; rfl
  rw [ea]
  exact cells_drop hC (by omega) _)

 have hsl := spotS_le s.data.toList r
 have HLEN : Hid ((setS s.data.toList (0, 0, 0, 0) r).length = i + 0 + (r.length - i)) := Lib.hid (by
  rw [setS_spot, List.length_append, List.length_append, List.length_take, List.length_drop]
  have hm : (midS s.data.toList (0, 0, 0, 0)).length = 0 := by
   unfold midS
   rw [if_pos (by rfl)]; rfl
  rw [hm]
  rw [hsi] at hsl ⊢
  simp only at hsl ⊢
  simp only [Bool.false_eq_true, if_false]
  omega)
 have HSI := Lib.hid hsi
 have HMID : Hid (flatH (midS s.data.toList (0, 0, 0, 0)) = []) := Lib.hid (by
  unfold midS
  rw [if_pos (by rfl)]; rfl)
 skip
 clear hd P1 hrow hsi hsl
 go_enter Tryz.func63, Tryz.ntmps63
 go_wp2_with (first
  | (go_at_call 69; rw [← hW1]; clear hW1; go_loud (refine (refSpot d _ r s _ HL1.out (by omega)).mono ?_; rintro e w2 ⟨he, hb2⟩; rw [HSI.out] at he; simp only at he; subst he; have hs2 := hb2.size; have c2 := bkeep hb2 hcd (by omega); have hbl : Below W1.heap.size W1 (w2.alloc (.cells #[] 85)) := hb2.alloc hs2 _; have HBL := Lib.hid hbl; have HLIT : Hid ((w2.alloc (.cells #[] 85)).ownsRow W1.heap.size 85 5 (.slice (some ⟨w2.heap.size, 0, none⟩) 0 0) 0 []) := Lib.hid (owns_lit0 rfl hs2); have HC2 := Lib.hid (cells_keep HCT.out hbl (Nat.le_refl _)); clear hb2 hbl))
  | (at_builtin; have hgg := HO3; clear hgg; go_must (refine wpList_append_row rfl (.tmp 48) (.tmp 49) 56 rfl W1.heap.size 85 i0 (.agg #[.string ⟨#[]⟩, .int .i64 0, .int .i64 0, .int .i64 0, .int .i64 0]) 5 48 Tryz.underlying56 hi0 hz0 hz1 hz2 rfl (by decide) v3 i (flatH (r.take i)) rfl (row_belowR HO3.out (Below.refl _ _)) W1.heap.size (some ⟨gu, i * 5, none⟩) (r.length - i) (c - i) (flatH (r.drop (afterS s.data.toList r))) rfl (cells_keep HCR.out HB3.out (Nat.le_refl _)) (flatH_one _) (by unfold maxLen; omega) (by omega) (by first | omega | (simp; omega)) ?_); intro v7 w7 hown7 hb7; have HB7 : Hid (Below W1.heap.size W1 w7) := Lib.hid (HB3.out.trans hb7); have hs7 := HB7.out.size; obtain ⟨m7, hm7⟩ : ∃ m, m = i + (r.length - i) := ⟨_, rfl⟩; rw [← hm7] at hown7; have HM7 := Lib.hid hm7; clear hm7; obtain ⟨A7, k7, rfl, _, _, _⟩ := own_slice hown7; have c7 := bkeep HB7.out hcd (by omega); have f7 := fun o => (HD.out.below HB7.out (by omega)).free o; have HO7 := Lib.hid hown7; clear hown7 hb7)
  | (at_builtin; have hgg := HLIT; clear hgg; go_must (refine wpList_append_row rfl (.tmp 30) (.tmp 36) 56 rfl W1.heap.size 85 i0 (.agg #[.string ⟨#[]⟩, .int .i64 0, .int .i64 0, .int .i64 0, .int .i64 0]) 5 48 Tryz.underlying56 hi0 hz0 hz1 hz2 rfl (by decide) (.slice (some ⟨w2.heap.size, 0, none⟩) 0 0) 0 [] rfl HLIT.out W1.heap.size (some ⟨gu, 0, none⟩) i c (flatH (r.take i)) rfl HC2.out (flatH_one _) (by unfold maxLen; omega) (by omega) (by first | omega | (simp; omega)) ?_); intro v3 w3 hown3 hb3; have HB3 : Hid (Below W1.heap.size W1 w3) := Lib.hid (HBL.out.trans hb3); have hs3 := HB3.out.size; rw [Nat.zero_add, List.nil_append] at hown3; have c3 := bkeep HB3.out hcd (by omega); have P3 := HP1.out; have z0 : w3.cell? ⟨w.heap.size, 0, none⟩ = some (.int .i64 0) := bkeep HB3.out (HP1.out.cell 0) HP1.out.low; have z1 : w3.cell? ⟨w.heap.size, 1, none⟩ = some (.int .i64 0) := bkeep HB3.out (HP1.out.cell 1) HP1.out.low; have z2 : w3.cell? ⟨w.heap.size, 2, none⟩ = some (.int .i64 0) := bkeep HB3.out (HP1.out.cell 2) HP1.out.low; have z3 : w3.cell? ⟨w.heap.size, 3, none⟩ = some (.int .i64 0) := bkeep HB3.out (HP1.out.cell 3) HP1.out.low; clear P3; have HO3 := Lib.hid hown3; clear hown3 hb3)
  | fail)
 have ho := HO7.out
 have e7 : flatH (r.take (spotS s.data.toList r).1) ++ flatH (midS s.data.toList (0, 0, 0, 0)) ++ flatH (r.drop (afterS s.data.toList r)) = (flatH (r.take i)) ++ flatH (r.drop (afterS s.data.toList r)) := by rw [HMID.out, HSI.out, List.append_nil]
 rw [← e7] at ho
 refine bodyPost_end (v := .tuple #[]) (by simp [results, Tryz.results63, go_sem]) rfl ⟨_, rfl, setEnd HD.out HB7.out ho (by have h1 := HLEN.out; have h2 := HM7.out; omega)⟩
set_option maxHeartbeats 4000000 in
set_option maxRecDepth 10000 in
theorem refSetD1 (d gu i c : Nat) (q n : Value) (r : Pm) (s : ByteArray) (x0 x1 x2 x3 : Int) (hx : x0 = 0 → x1 = 0 → x2 = 0 → ¬ x3 = 0) (w W1 : World) (hW1 : W1 = w.alloc (.cells #[.int .i64 x0, .int .i64 x1, .int .i64 x2, .int .i64 x3] 36)) (hd : Whl W1 d 65 #[.slice (some ⟨gu, 0, none⟩) r.length c, q, n])
  (hrow : W1.ownsRow 0 85 5 (.slice (some ⟨gu, 0, none⟩) r.length c) r.length (flatH r)) (hlen : r.length ≤ 1000) (hdw : d < w.heap.size) (hic : i < c) (hil : i ≤ r.length) (hlc : r.length ≤ c) (hcm : c ≤ maxLen) (hsi : spotS s.data.toList r = (i, false)) :
  Calls Tryz.prog 63 #[.pointer (some ⟨d, 0, none⟩), .string s, .agg #[.int .i64 x0, .int .i64 x1, .int .i64 x2, .int .i64 x3]] w fun e w' => ∃ u', e = .returned (.tuple #[]) ∧ Whl w' d 65 #[u', q, n] ∧ w'.ownsRow W1.heap.size 85 5 u' (setS s.data.toList (x0, x1, x2, x3) r).length (flatH (setS s.data.toList (x0, x1, x2, x3) r)) ∧ Touch (fun j => j = d) W1 w' ∧ (∀ g, u'.ownBlock = some g → W1.heap.size ≤ g) := by
 obtain ⟨i0, hi0, hz0, hz1, hz2⟩ := info_parts Tryz.infoHold
 have hs1 : W1.heap.size = w.heap.size + 1 := by rw [hW1]; simp
 have P1 : Whl W1 w.heap.size 36 #[.int .i64 x0, .int .i64 x1, .int .i64 x2, .int .i64 x3] := by rw [hW1]; exact Whl.new rfl
 have hcd := hd.cell 0
 simp only [List.getElem?_toArray, List.getElem?_cons_zero] at hcd
 have HD := Lib.hid hd
 have HP1 := Lib.hid P1
 have HROW := Lib.hid hrow
 have HL1 : Hid (RvL W1 d (.slice (some ⟨gu, 0, none⟩) r.length c) r) := Lib.hid ⟨hcd, hrow, by omega⟩
 have HCT : Hid (Cells W1 W1.heap.size (some ⟨gu, 0, none⟩) i c 5 (flatH (r.take i))) := Lib.hid (by
  obtain ⟨A0, c0, e0, _, _, hC⟩ := row_cells hrow
  injection e0 with e1 e2 e3
  subst e1 e3
  rw [flatH_take]
  exact cells_take hC (by omega))
 have HCR : Hid (Cells W1 W1.heap.size (some ⟨gu, i * 5, none⟩) (r.length - i) (c - i) 5 (flatH (r.drop (afterS s.data.toList r)))) := Lib.hid (by
  obtain ⟨A0, c0, e0, _, _, hC⟩ := row_cells hrow
  injection e0 with e1 e2 e3
  subst e1 e3
  rw [flatH_drop]
  have ea : afterS s.data.toList r = i := by unfold afterS; rw [hsi]; rfl
  rw [ea]
  exact cells_drop hC (by omega) _)

 have hsl := spotS_le s.data.toList r
 have HLEN : Hid ((setS s.data.toList (x0, x1, x2, x3) r).length = i + 1 + (r.length - i)) := Lib.hid (by
  rw [setS_spot, List.length_append, List.length_append, List.length_take, List.length_drop]
  have hm : (midS s.data.toList (x0, x1, x2, x3)).length = 1 := by
   unfold midS
   rw [if_neg (fun h => by simp only [z4, Prod.mk.injEq] at h; exact hx h.1 h.2.1 h.2.2.1 h.2.2.2)]; rfl
  rw [hm]
  rw [hsi] at hsl ⊢
  simp only at hsl ⊢
  simp only [Bool.false_eq_true, if_false]
  omega)
 have HSI := Lib.hid hsi
 have HMID : Hid (flatH (midS s.data.toList (x0, x1, x2, x3)) = [.string s, .int .i64 x0, .int .i64 x1, .int .i64 x2, .int .i64 x3]) := Lib.hid (by
  unfold midS
  rw [if_neg (fun h => by simp only [z4, Prod.mk.injEq] at h; exact hx h.1 h.2.1 h.2.2.1 h.2.2.2)]; rfl)
 have hne : (x0 == 0 && x1 == 0 && x2 == 0 && x3 == 0) = false := by
  rw [Bool.eq_false_iff]
  intro hh
  simp only [Bool.and_eq_true, beq_iff_eq] at hh
  exact hx hh.1.1.1 hh.1.1.2 hh.1.2 hh.2
 clear hx
 clear hd P1 hrow hsi hsl
 go_enter Tryz.func63, Tryz.ntmps63
 go_wp2_with (first
  | (go_at_call 69; rw [← hW1]; clear hW1; go_loud (refine (refSpot d _ r s _ HL1.out (by omega)).mono ?_; rintro e w2 ⟨he, hb2⟩; rw [HSI.out] at he; simp only at he; subst he; have hs2 := hb2.size; have c2 := bkeep hb2 hcd (by omega); have hbl : Below W1.heap.size W1 (w2.alloc (.cells #[] 85)) := hb2.alloc hs2 _; have HBL := Lib.hid hbl; have HLIT : Hid ((w2.alloc (.cells #[] 85)).ownsRow W1.heap.size 85 5 (.slice (some ⟨w2.heap.size, 0, none⟩) 0 0) 0 []) := Lib.hid (owns_lit0 rfl hs2); have HC2 := Lib.hid (cells_keep HCT.out hbl (Nat.le_refl _)); clear hb2 hbl))
  | (at_builtin; have hgg := HO5; clear hgg; go_must (refine wpList_append_row rfl (.tmp 48) (.tmp 49) 56 rfl W1.heap.size 85 i0 (.agg #[.string ⟨#[]⟩, .int .i64 0, .int .i64 0, .int .i64 0, .int .i64 0]) 5 48 Tryz.underlying56 hi0 hz0 hz1 hz2 rfl (by decide) v5 (i + 1) (flatH (r.take i) ++ [.string s, .int .i64 x0, .int .i64 x1, .int .i64 x2, .int .i64 x3]) rfl HO5.out W1.heap.size (some ⟨gu, i * 5, none⟩) (r.length - i) (c - i) (flatH (r.drop (afterS s.data.toList r))) rfl (cells_keep HCR.out HB5.out (Nat.le_refl _)) (flatH_one _) (by unfold maxLen; omega) (by omega) (by first | omega | (simp; omega)) ?_); intro v7 w7 hown7 hb7; have HB7 : Hid (Below W1.heap.size W1 w7) := Lib.hid (HB5.out.trans hb7); have hs7 := HB7.out.size; obtain ⟨m7, hm7⟩ : ∃ m, m = (i + 1) + (r.length - i) := ⟨_, rfl⟩; rw [← hm7] at hown7; have HM7 := Lib.hid hm7; clear hm7; obtain ⟨A7, k7, rfl, _, _, _⟩ := own_slice hown7; have c7 := bkeep HB7.out hcd (by omega); have f7 := fun o => (HD.out.below HB7.out (by omega)).free o; have HO7 := Lib.hid hown7; clear hown7 hb7)
  | (at_builtin; have hgg := HO3; clear hgg; go_must (refine wpList_append_row rfl (.tmp 41) (.tmp 45) 56 rfl W1.heap.size 85 i0 (.agg #[.string ⟨#[]⟩, .int .i64 0, .int .i64 0, .int .i64 0, .int .i64 0]) 5 48 Tryz.underlying56 hi0 hz0 hz1 hz2 rfl (by decide) v3 i (flatH (r.take i)) rfl HT5.out (w3.heap.size + 1) (some ⟨w3.heap.size, 0, none⟩) 1 1 [.string s, .int .i64 x0, .int .i64 x1, .int .i64 x2, .int .i64 x3] rfl HC5.out (by intro u hu; simp at hu; rcases hu with rfl | rfl | rfl | rfl | rfl <;> rfl) (by unfold maxLen; omega) (by omega) (by first | omega | (simp; omega)) ?_); intro v5 w5 hown5 hb5; have HB5 : Hid (Below W1.heap.size W1 w5) := Lib.hid ((HB3.out.alloc hs3 _).trans hb5); have hs5 := HB5.out.size; have HO5 := Lib.hid hown5; clear hown5 hb5)
  | (at_builtin; have hgg := HLIT; clear hgg; go_must (refine wpList_append_row rfl (.tmp 30) (.tmp 36) 56 rfl W1.heap.size 85 i0 (.agg #[.string ⟨#[]⟩, .int .i64 0, .int .i64 0, .int .i64 0, .int .i64 0]) 5 48 Tryz.underlying56 hi0 hz0 hz1 hz2 rfl (by decide) (.slice (some ⟨w2.heap.size, 0, none⟩) 0 0) 0 [] rfl HLIT.out W1.heap.size (some ⟨gu, 0, none⟩) i c (flatH (r.take i)) rfl HC2.out (flatH_one _) (by unfold maxLen; omega) (by omega) (by first | omega | (simp; omega)) ?_); intro v3 w3 hown3 hb3; have HB3 : Hid (Below W1.heap.size W1 w3) := Lib.hid (HBL.out.trans hb3); have hs3 := HB3.out.size; rw [Nat.zero_add, List.nil_append] at hown3; have c3 := bkeep HB3.out hcd (by omega); have P3 := HP1.out; have z0 : w3.cell? ⟨w.heap.size, 0, none⟩ = some (.int .i64 x0) := bkeep HB3.out (HP1.out.cell 0) HP1.out.low; have z1 : w3.cell? ⟨w.heap.size, 1, none⟩ = some (.int .i64 x1) := bkeep HB3.out (HP1.out.cell 1) HP1.out.low; have z2 : w3.cell? ⟨w.heap.size, 2, none⟩ = some (.int .i64 x2) := bkeep HB3.out (HP1.out.cell 2) HP1.out.low; have z3 : w3.cell? ⟨w.heap.size, 3, none⟩ = some (.int .i64 x3) := bkeep HB3.out (HP1.out.cell 3) HP1.out.low; clear P3; have HT5 : Hid ((w3.alloc (.cells #[.string s, .int .i64 x0, .int .i64 x1, .int .i64 x2, .int .i64 x3] 85)).ownsRow W1.heap.size 85 5 v3 i (flatH (r.take i))) := Lib.hid (row_belowR hown3 ((Below.refl _ _).alloc (Nat.le_refl _) _)); have HC5 : Hid (Cells (w3.alloc (.cells #[.string s, .int .i64 x0, .int .i64 x1, .int .i64 x2, .int .i64 x3] 85)) (w3.heap.size + 1) (some ⟨w3.heap.size, 0, none⟩) 1 1 5 [.string s, .int .i64 x0, .int .i64 x1, .int .i64 x2, .int .i64 x3]) := Lib.hid ⟨rfl, (fun e => by cases e), fun k u hu => ⟨_, _, rfl, (by omega), by rw [Nat.zero_add, (Whl.new rfl).cell]; simpa using hu⟩⟩; have HO3 := Lib.hid hown3; clear hown3 hb3)
  | fail)
 have ho := HO7.out
 have e7 : flatH (r.take (spotS s.data.toList r).1) ++ flatH (midS s.data.toList (x0, x1, x2, x3)) ++ flatH (r.drop (afterS s.data.toList r)) = (flatH (r.take i) ++ [.string s, .int .i64 x0, .int .i64 x1, .int .i64 x2, .int .i64 x3]) ++ flatH (r.drop (afterS s.data.toList r)) := by rw [HMID.out, HSI.out]
 rw [← e7] at ho
 refine bodyPost_end (v := .tuple #[]) (by simp [results, Tryz.results63, go_sem]) rfl ⟨_, rfl, setEnd HD.out HB7.out ho (by have h1 := HLEN.out; have h2 := HM7.out; omega)⟩
set_option maxHeartbeats 4000000 in
set_option maxRecDepth 10000 in
theorem refSetE0 (d gu i c : Nat) (q n : Value) (r : Pm) (s : ByteArray) (w W1 : World) (hW1 : W1 = w.alloc (.cells #[.int .i64 0, .int .i64 0, .int .i64 0, .int .i64 0] 36)) (hd : Whl W1 d 65 #[.slice (some ⟨gu, 0, none⟩) r.length c, q, n])
  (hrow : W1.ownsRow 0 85 5 (.slice (some ⟨gu, 0, none⟩) r.length c) r.length (flatH r)) (hlen : r.length ≤ 1000) (hdw : d < w.heap.size) (hic : i + 1 = c) (hil : r.length = c) (hcm : c ≤ maxLen) (hsi : spotS s.data.toList r = (i, true)) :
  Calls Tryz.prog 63 #[.pointer (some ⟨d, 0, none⟩), .string s, .agg #[.int .i64 0, .int .i64 0, .int .i64 0, .int .i64 0]] w fun e w' => ∃ u', e = .returned (.tuple #[]) ∧ Whl w' d 65 #[u', q, n] ∧ w'.ownsRow W1.heap.size 85 5 u' (setS s.data.toList (0, 0, 0, 0) r).length (flatH (setS s.data.toList (0, 0, 0, 0) r)) ∧ Touch (fun j => j = d) W1 w' ∧ (∀ g, u'.ownBlock = some g → W1.heap.size ≤ g) := by
 obtain ⟨i0, hi0, hz0, hz1, hz2⟩ := info_parts Tryz.infoHold
 have hs1 : W1.heap.size = w.heap.size + 1 := by rw [hW1]; simp
 have P1 : Whl W1 w.heap.size 36 #[.int .i64 0, .int .i64 0, .int .i64 0, .int .i64 0] := by rw [hW1]; exact Whl.new rfl
 have hcd := hd.cell 0
 simp only [List.getElem?_toArray, List.getElem?_cons_zero] at hcd
 have HD := Lib.hid hd
 have HP1 := Lib.hid P1
 have HROW := Lib.hid hrow
 have HL1 : Hid (RvL W1 d (.slice (some ⟨gu, 0, none⟩) r.length c) r) := Lib.hid ⟨hcd, hrow, by omega⟩
 have HCT : Hid (Cells W1 W1.heap.size (some ⟨gu, 0, none⟩) i c 5 (flatH (r.take i))) := Lib.hid (by
  obtain ⟨A0, c0, e0, _, _, hC⟩ := row_cells hrow
  injection e0 with e1 e2 e3
  subst e1 e3
  rw [flatH_take]
  exact cells_take hC (by omega))
 have HCR : Hid (Cells W1 W1.heap.size (some ⟨gu, 0, none⟩) 0 0 5 (flatH (r.drop (afterS s.data.toList r)))) := Lib.hid (by
  have ea : afterS s.data.toList r = (i + 1) := by unfold afterS; rw [hsi]; rfl
  rw [ea, List.drop_of_length_le (by omega)]
  exact cells_none)

 have hsl := spotS_le s.data.toList r
 have HLEN : Hid ((setS s.data.toList (0, 0, 0, 0) r).length = i + 0 + 0) := Lib.hid (by
  rw [setS_spot, List.length_append, List.length_append, List.length_take, List.length_drop]
  have hm : (midS s.data.toList (0, 0, 0, 0)).length = 0 := by
   unfold midS
   rw [if_pos (by rfl)]; rfl
  rw [hm]
  rw [hsi] at hsl ⊢
  simp only at hsl ⊢
  simp only [if_true]
  omega)
 have HSI := Lib.hid hsi
 have HMID : Hid (flatH (midS s.data.toList (0, 0, 0, 0)) = []) := Lib.hid (by
  unfold midS
  rw [if_pos (by rfl)]; rfl)
 skip
 clear hd P1 hrow hsi hsl
 go_enter Tryz.func63, Tryz.ntmps63
 go_wp2_with (first
  | (go_at_call 69; rw [← hW1]; clear hW1; go_loud (refine (refSpot d _ r s _ HL1.out (by omega)).mono ?_; rintro e w2 ⟨he, hb2⟩; rw [HSI.out] at he; simp only at he; subst he; have hs2 := hb2.size; have c2 := bkeep hb2 hcd (by omega); have hbl : Below W1.heap.size W1 (w2.alloc (.cells #[] 85)) := hb2.alloc hs2 _; have HBL := Lib.hid hbl; have HLIT : Hid ((w2.alloc (.cells #[] 85)).ownsRow W1.heap.size 85 5 (.slice (some ⟨w2.heap.size, 0, none⟩) 0 0) 0 []) := Lib.hid (owns_lit0 rfl hs2); have HC2 := Lib.hid (cells_keep HCT.out hbl (Nat.le_refl _)); clear hb2 hbl))
  | (at_builtin; have hgg := HO3; clear hgg; go_must (refine wpList_append_row rfl (.tmp 48) (.tmp 49) 56 rfl W1.heap.size 85 i0 (.agg #[.string ⟨#[]⟩, .int .i64 0, .int .i64 0, .int .i64 0, .int .i64 0]) 5 48 Tryz.underlying56 hi0 hz0 hz1 hz2 rfl (by decide) v3 i (flatH (r.take i)) rfl (row_belowR HO3.out (Below.refl _ _)) W1.heap.size (some ⟨gu, 0, none⟩) 0 0 (flatH (r.drop (afterS s.data.toList r))) rfl (cells_keep HCR.out HB3.out (Nat.le_refl _)) (flatH_one _) (by unfold maxLen; omega) (by omega) (by first | omega | (simp; omega)) ?_); intro v7 w7 hown7 hb7; have HB7 : Hid (Below W1.heap.size W1 w7) := Lib.hid (HB3.out.trans hb7); have hs7 := HB7.out.size; obtain ⟨m7, hm7⟩ : ∃ m, m = i + 0 := ⟨_, rfl⟩; rw [← hm7] at hown7; have HM7 := Lib.hid hm7; clear hm7; obtain ⟨A7, k7, rfl, _, _, _⟩ := own_slice hown7; have c7 := bkeep HB7.out hcd (by omega); have f7 := fun o => (HD.out.below HB7.out (by omega)).free o; have HO7 := Lib.hid hown7; clear hown7 hb7)
  | (at_builtin; have hgg := HLIT; clear hgg; go_must (refine wpList_append_row rfl (.tmp 30) (.tmp 36) 56 rfl W1.heap.size 85 i0 (.agg #[.string ⟨#[]⟩, .int .i64 0, .int .i64 0, .int .i64 0, .int .i64 0]) 5 48 Tryz.underlying56 hi0 hz0 hz1 hz2 rfl (by decide) (.slice (some ⟨w2.heap.size, 0, none⟩) 0 0) 0 [] rfl HLIT.out W1.heap.size (some ⟨gu, 0, none⟩) i c (flatH (r.take i)) rfl HC2.out (flatH_one _) (by unfold maxLen; omega) (by omega) (by first | omega | (simp; omega)) ?_); intro v3 w3 hown3 hb3; have HB3 : Hid (Below W1.heap.size W1 w3) := Lib.hid (HBL.out.trans hb3); have hs3 := HB3.out.size; rw [Nat.zero_add, List.nil_append] at hown3; have c3 := bkeep HB3.out hcd (by omega); have P3 := HP1.out; have z0 : w3.cell? ⟨w.heap.size, 0, none⟩ = some (.int .i64 0) := bkeep HB3.out (HP1.out.cell 0) HP1.out.low; have z1 : w3.cell? ⟨w.heap.size, 1, none⟩ = some (.int .i64 0) := bkeep HB3.out (HP1.out.cell 1) HP1.out.low; have z2 : w3.cell? ⟨w.heap.size, 2, none⟩ = some (.int .i64 0) := bkeep HB3.out (HP1.out.cell 2) HP1.out.low; have z3 : w3.cell? ⟨w.heap.size, 3, none⟩ = some (.int .i64 0) := bkeep HB3.out (HP1.out.cell 3) HP1.out.low; clear P3; have HO3 := Lib.hid hown3; clear hown3 hb3)
  | fail)
 have ho := HO7.out
 have e7 : flatH (r.take (spotS s.data.toList r).1) ++ flatH (midS s.data.toList (0, 0, 0, 0)) ++ flatH (r.drop (afterS s.data.toList r)) = (flatH (r.take i)) ++ flatH (r.drop (afterS s.data.toList r)) := by rw [HMID.out, HSI.out, List.append_nil]
 rw [← e7] at ho
 refine bodyPost_end (v := .tuple #[]) (by simp [results, Tryz.results63, go_sem]) rfl ⟨_, rfl, setEnd HD.out HB7.out ho (by have h1 := HLEN.out; have h2 := HM7.out; omega)⟩
set_option maxHeartbeats 4000000 in
set_option maxRecDepth 10000 in
theorem refSetE1 (d gu i c : Nat) (q n : Value) (r : Pm) (s : ByteArray) (x0 x1 x2 x3 : Int) (hx : x0 = 0 → x1 = 0 → x2 = 0 → ¬ x3 = 0) (w W1 : World) (hW1 : W1 = w.alloc (.cells #[.int .i64 x0, .int .i64 x1, .int .i64 x2, .int .i64 x3] 36)) (hd : Whl W1 d 65 #[.slice (some ⟨gu, 0, none⟩) r.length c, q, n])
  (hrow : W1.ownsRow 0 85 5 (.slice (some ⟨gu, 0, none⟩) r.length c) r.length (flatH r)) (hlen : r.length ≤ 1000) (hdw : d < w.heap.size) (hic : i + 1 = c) (hil : r.length = c) (hcm : c ≤ maxLen) (hsi : spotS s.data.toList r = (i, true)) :
  Calls Tryz.prog 63 #[.pointer (some ⟨d, 0, none⟩), .string s, .agg #[.int .i64 x0, .int .i64 x1, .int .i64 x2, .int .i64 x3]] w fun e w' => ∃ u', e = .returned (.tuple #[]) ∧ Whl w' d 65 #[u', q, n] ∧ w'.ownsRow W1.heap.size 85 5 u' (setS s.data.toList (x0, x1, x2, x3) r).length (flatH (setS s.data.toList (x0, x1, x2, x3) r)) ∧ Touch (fun j => j = d) W1 w' ∧ (∀ g, u'.ownBlock = some g → W1.heap.size ≤ g) := by
 obtain ⟨i0, hi0, hz0, hz1, hz2⟩ := info_parts Tryz.infoHold
 have hs1 : W1.heap.size = w.heap.size + 1 := by rw [hW1]; simp
 have P1 : Whl W1 w.heap.size 36 #[.int .i64 x0, .int .i64 x1, .int .i64 x2, .int .i64 x3] := by rw [hW1]; exact Whl.new rfl
 have hcd := hd.cell 0
 simp only [List.getElem?_toArray, List.getElem?_cons_zero] at hcd
 have HD := Lib.hid hd
 have HP1 := Lib.hid P1
 have HROW := Lib.hid hrow
 have HL1 : Hid (RvL W1 d (.slice (some ⟨gu, 0, none⟩) r.length c) r) := Lib.hid ⟨hcd, hrow, by omega⟩
 have HCT : Hid (Cells W1 W1.heap.size (some ⟨gu, 0, none⟩) i c 5 (flatH (r.take i))) := Lib.hid (by
  obtain ⟨A0, c0, e0, _, _, hC⟩ := row_cells hrow
  injection e0 with e1 e2 e3
  subst e1 e3
  rw [flatH_take]
  exact cells_take hC (by omega))
 have HCR : Hid (Cells W1 W1.heap.size (some ⟨gu, 0, none⟩) 0 0 5 (flatH (r.drop (afterS s.data.toList r)))) := Lib.hid (by
  have ea : afterS s.data.toList r = (i + 1) := by unfold afterS; rw [hsi]; rfl
  rw [ea, List.drop_of_length_le (by omega)]
  exact cells_none)

 have hsl := spotS_le s.data.toList r
 have HLEN : Hid ((setS s.data.toList (x0, x1, x2, x3) r).length = i + 1 + 0) := Lib.hid (by
  rw [setS_spot, List.length_append, List.length_append, List.length_take, List.length_drop]
  have hm : (midS s.data.toList (x0, x1, x2, x3)).length = 1 := by
   unfold midS
   rw [if_neg (fun h => by simp only [z4, Prod.mk.injEq] at h; exact hx h.1 h.2.1 h.2.2.1 h.2.2.2)]; rfl
  rw [hm]
  rw [hsi] at hsl ⊢
  simp only at hsl ⊢
  simp only [if_true]
  omega)
 have HSI := Lib.hid hsi
 have HMID : Hid (flatH (midS s.data.toList (x0, x1, x2, x3)) = [.string s, .int .i64 x0, .int .i64 x1, .int .i64 x2, .int .i64 x3]) := Lib.hid (by
  unfold midS
  rw [if_neg (fun h => by simp only [z4, Prod.mk.injEq] at h; exact hx h.1 h.2.1 h.2.2.1 h.2.2.2)]; rfl)
 have hne : (x0 == 0 && x1 == 0 && x2 == 0 && x3 == 0) = false := by
  rw [Bool.eq_false_iff]
  intro hh
  simp only [Bool.and_eq_true, beq_iff_eq] at hh
  exact hx hh.1.1.1 hh.1.1.2 hh.1.2 hh.2
 clear hx
 clear hd P1 hrow hsi hsl
 go_enter Tryz.func63, Tryz.ntmps63
 go_wp2_with (first
  | (go_at_call 69; rw [← hW1]; clear hW1; go_loud (refine (refSpot d _ r s _ HL1.out (by omega)).mono ?_; rintro e w2 ⟨he, hb2⟩; rw [HSI.out] at he; simp only at he; subst he; have hs2 := hb2.size; have c2 := bkeep hb2 hcd (by omega); have hbl : Below W1.heap.size W1 (w2.alloc (.cells #[] 85)) := hb2.alloc hs2 _; have HBL := Lib.hid hbl; have HLIT : Hid ((w2.alloc (.cells #[] 85)).ownsRow W1.heap.size 85 5 (.slice (some ⟨w2.heap.size, 0, none⟩) 0 0) 0 []) := Lib.hid (owns_lit0 rfl hs2); have HC2 := Lib.hid (cells_keep HCT.out hbl (Nat.le_refl _)); clear hb2 hbl))
  | (at_builtin; have hgg := HO5; clear hgg; go_must (refine wpList_append_row rfl (.tmp 48) (.tmp 49) 56 rfl W1.heap.size 85 i0 (.agg #[.string ⟨#[]⟩, .int .i64 0, .int .i64 0, .int .i64 0, .int .i64 0]) 5 48 Tryz.underlying56 hi0 hz0 hz1 hz2 rfl (by decide) v5 (i + 1) (flatH (r.take i) ++ [.string s, .int .i64 x0, .int .i64 x1, .int .i64 x2, .int .i64 x3]) rfl HO5.out W1.heap.size (some ⟨gu, 0, none⟩) 0 0 (flatH (r.drop (afterS s.data.toList r))) rfl (cells_keep HCR.out HB5.out (Nat.le_refl _)) (flatH_one _) (by unfold maxLen; omega) (by omega) (by first | omega | (simp; omega)) ?_); intro v7 w7 hown7 hb7; have HB7 : Hid (Below W1.heap.size W1 w7) := Lib.hid (HB5.out.trans hb7); have hs7 := HB7.out.size; obtain ⟨m7, hm7⟩ : ∃ m, m = (i + 1) + 0 := ⟨_, rfl⟩; rw [← hm7] at hown7; have HM7 := Lib.hid hm7; clear hm7; obtain ⟨A7, k7, rfl, _, _, _⟩ := own_slice hown7; have c7 := bkeep HB7.out hcd (by omega); have f7 := fun o => (HD.out.below HB7.out (by omega)).free o; have HO7 := Lib.hid hown7; clear hown7 hb7)
  | (at_builtin; have hgg := HO3; clear hgg; go_must (refine wpList_append_row rfl (.tmp 41) (.tmp 45) 56 rfl W1.heap.size 85 i0 (.agg #[.string ⟨#[]⟩, .int .i64 0, .int .i64 0, .int .i64 0, .int .i64 0]) 5 48 Tryz.underlying56 hi0 hz0 hz1 hz2 rfl (by decide) v3 i (flatH (r.take i)) rfl HT5.out (w3.heap.size + 1) (some ⟨w3.heap.size, 0, none⟩) 1 1 [.string s, .int .i64 x0, .int .i64 x1, .int .i64 x2, .int .i64 x3] rfl HC5.out (by intro u hu; simp at hu; rcases hu with rfl | rfl | rfl | rfl | rfl <;> rfl) (by unfold maxLen; omega) (by omega) (by first | omega | (simp; omega)) ?_); intro v5 w5 hown5 hb5; have HB5 : Hid (Below W1.heap.size W1 w5) := Lib.hid ((HB3.out.alloc hs3 _).trans hb5); have hs5 := HB5.out.size; have HO5 := Lib.hid hown5; clear hown5 hb5)
  | (at_builtin; have hgg := HLIT; clear hgg; go_must (refine wpList_append_row rfl (.tmp 30) (.tmp 36) 56 rfl W1.heap.size 85 i0 (.agg #[.string ⟨#[]⟩, .int .i64 0, .int .i64 0, .int .i64 0, .int .i64 0]) 5 48 Tryz.underlying56 hi0 hz0 hz1 hz2 rfl (by decide) (.slice (some ⟨w2.heap.size, 0, none⟩) 0 0) 0 [] rfl HLIT.out W1.heap.size (some ⟨gu, 0, none⟩) i c (flatH (r.take i)) rfl HC2.out (flatH_one _) (by unfold maxLen; omega) (by omega) (by first | omega | (simp; omega)) ?_); intro v3 w3 hown3 hb3; have HB3 : Hid (Below W1.heap.size W1 w3) := Lib.hid (HBL.out.trans hb3); have hs3 := HB3.out.size; rw [Nat.zero_add, List.nil_append] at hown3; have c3 := bkeep HB3.out hcd (by omega); have P3 := HP1.out; have z0 : w3.cell? ⟨w.heap.size, 0, none⟩ = some (.int .i64 x0) := bkeep HB3.out (HP1.out.cell 0) HP1.out.low; have z1 : w3.cell? ⟨w.heap.size, 1, none⟩ = some (.int .i64 x1) := bkeep HB3.out (HP1.out.cell 1) HP1.out.low; have z2 : w3.cell? ⟨w.heap.size, 2, none⟩ = some (.int .i64 x2) := bkeep HB3.out (HP1.out.cell 2) HP1.out.low; have z3 : w3.cell? ⟨w.heap.size, 3, none⟩ = some (.int .i64 x3) := bkeep HB3.out (HP1.out.cell 3) HP1.out.low; clear P3; have HT5 : Hid ((w3.alloc (.cells #[.string s, .int .i64 x0, .int .i64 x1, .int .i64 x2, .int .i64 x3] 85)).ownsRow W1.heap.size 85 5 v3 i (flatH (r.take i))) := Lib.hid (row_belowR hown3 ((Below.refl _ _).alloc (Nat.le_refl _) _)); have HC5 : Hid (Cells (w3.alloc (.cells #[.string s, .int .i64 x0, .int .i64 x1, .int .i64 x2, .int .i64 x3] 85)) (w3.heap.size + 1) (some ⟨w3.heap.size, 0, none⟩) 1 1 5 [.string s, .int .i64 x0, .int .i64 x1, .int .i64 x2, .int .i64 x3]) := Lib.hid ⟨rfl, (fun e => by cases e), fun k u hu => ⟨_, _, rfl, (by omega), by rw [Nat.zero_add, (Whl.new rfl).cell]; simpa using hu⟩⟩; have HO3 := Lib.hid hown3; clear hown3 hb3)
  | fail)
 have ho := HO7.out
 have e7 : flatH (r.take (spotS s.data.toList r).1) ++ flatH (midS s.data.toList (x0, x1, x2, x3)) ++ flatH (r.drop (afterS s.data.toList r)) = (flatH (r.take i) ++ [.string s, .int .i64 x0, .int .i64 x1, .int .i64 x2, .int .i64 x3]) ++ flatH (r.drop (afterS s.data.toList r)) := by rw [HMID.out, HSI.out]
 rw [← e7] at ho
 refine bodyPost_end (v := .tuple #[]) (by simp [results, Tryz.results63, go_sem]) rfl ⟨_, rfl, setEnd HD.out HB7.out ho (by have h1 := HLEN.out; have h2 := HM7.out; omega)⟩
set_option maxHeartbeats 4000000 in
set_option maxRecDepth 10000 in
theorem refSetG0 (d gu i c : Nat) (q n : Value) (r : Pm) (s : ByteArray) (w W1 : World) (hW1 : W1 = w.alloc (.cells #[.int .i64 0, .int .i64 0, .int .i64 0, .int .i64 0] 36)) (hd : Whl W1 d 65 #[.slice (some ⟨gu, 0, none⟩) r.length c, q, n])
  (hrow : W1.ownsRow 0 85 5 (.slice (some ⟨gu, 0, none⟩) r.length c) r.length (flatH r)) (hlen : r.length ≤ 1000) (hdw : d < w.heap.size) (hic : i + 1 < c) (hil : i < r.length) (hlc : r.length ≤ c) (hcm : c ≤ maxLen) (hsi : spotS s.data.toList r = (i, true)) :
  Calls Tryz.prog 63 #[.pointer (some ⟨d, 0, none⟩), .string s, .agg #[.int .i64 0, .int .i64 0, .int .i64 0, .int .i64 0]] w fun e w' => ∃ u', e = .returned (.tuple #[]) ∧ Whl w' d 65 #[u', q, n] ∧ w'.ownsRow W1.heap.size 85 5 u' (setS s.data.toList (0, 0, 0, 0) r).length (flatH (setS s.data.toList (0, 0, 0, 0) r)) ∧ Touch (fun j => j = d) W1 w' ∧ (∀ g, u'.ownBlock = some g → W1.heap.size ≤ g) := by
 obtain ⟨i0, hi0, hz0, hz1, hz2⟩ := info_parts Tryz.infoHold
 have hs1 : W1.heap.size = w.heap.size + 1 := by rw [hW1]; simp
 have P1 : Whl W1 w.heap.size 36 #[.int .i64 0, .int .i64 0, .int .i64 0, .int .i64 0] := by rw [hW1]; exact Whl.new rfl
 have hcd := hd.cell 0
 simp only [List.getElem?_toArray, List.getElem?_cons_zero] at hcd
 have HD := Lib.hid hd
 have HP1 := Lib.hid P1
 have HROW := Lib.hid hrow
 have HL1 : Hid (RvL W1 d (.slice (some ⟨gu, 0, none⟩) r.length c) r) := Lib.hid ⟨hcd, hrow, by omega⟩
 have HCT : Hid (Cells W1 W1.heap.size (some ⟨gu, 0, none⟩) i c 5 (flatH (r.take i))) := Lib.hid (by
  obtain ⟨A0, c0, e0, _, _, hC⟩ := row_cells hrow
  injection e0 with e1 e2 e3
  subst e1 e3
  rw [flatH_take]
  exact cells_take hC (by omega))
 have HCR : Hid (Cells W1 W1.heap.size (some ⟨gu, (i + 1) * 5, none⟩) (r.length - (i + 1)) (c - (i + 1)) 5 (flatH (r.drop (afterS s.data.toList r)))) := Lib.hid (by
  obtain ⟨A0, c0, e0, _, _, hC⟩ := row_cells hrow
  injection e0 with e1 e2 e3
  subst e1 e3
  rw [flatH_drop]
  have ea : afterS s.data.toList r = (i + 1) := by unfold afterS; rw [hsi]; rfl
  rw [ea]
  exact cells_drop hC (by omega) _)

 have hsl := spotS_le s.data.toList r
 have HLEN : Hid ((setS s.data.toList (0, 0, 0, 0) r).length = i + 0 + (r.length - (i + 1))) := Lib.hid (by
  rw [setS_spot, List.length_append, List.length_append, List.length_take, List.length_drop]
  have hm : (midS s.data.toList (0, 0, 0, 0)).length = 0 := by
   unfold midS
   rw [if_pos (by rfl)]; rfl
  rw [hm]
  rw [hsi] at hsl ⊢
  simp only at hsl ⊢
  simp only [if_true]
  omega)
 have HSI := Lib.hid hsi
 have HMID : Hid (flatH (midS s.data.toList (0, 0, 0, 0)) = []) := Lib.hid (by
  unfold midS
  rw [if_pos (by rfl)]; rfl)
 skip
 clear hd P1 hrow hsi hsl
 go_enter Tryz.func63, Tryz.ntmps63
 go_wp2_with (first
  | (go_at_call 69; rw [← hW1]; clear hW1; go_loud (refine (refSpot d _ r s _ HL1.out (by omega)).mono ?_; rintro e w2 ⟨he, hb2⟩; rw [HSI.out] at he; simp only at he; subst he; have hs2 := hb2.size; have c2 := bkeep hb2 hcd (by omega); have hbl : Below W1.heap.size W1 (w2.alloc (.cells #[] 85)) := hb2.alloc hs2 _; have HBL := Lib.hid hbl; have HLIT : Hid ((w2.alloc (.cells #[] 85)).ownsRow W1.heap.size 85 5 (.slice (some ⟨w2.heap.size, 0, none⟩) 0 0) 0 []) := Lib.hid (owns_lit0 rfl hs2); have HC2 := Lib.hid (cells_keep HCT.out hbl (Nat.le_refl _)); clear hb2 hbl))
  | (at_builtin; have hgg := HO3; clear hgg; go_must (refine wpList_append_row rfl (.tmp 48) (.tmp 49) 56 rfl W1.heap.size 85 i0 (.agg #[.string ⟨#[]⟩, .int .i64 0, .int .i64 0, .int .i64 0, .int .i64 0]) 5 48 Tryz.underlying56 hi0 hz0 hz1 hz2 rfl (by decide) v3 i (flatH (r.take i)) rfl (row_belowR HO3.out (Below.refl _ _)) W1.heap.size (some ⟨gu, (i + 1) * 5, none⟩) (r.length - (i + 1)) (c - (i + 1)) (flatH (r.drop (afterS s.data.toList r))) rfl (cells_keep HCR.out HB3.out (Nat.le_refl _)) (flatH_one _) (by unfold maxLen; omega) (by omega) (by first | omega | (simp; omega)) ?_); intro v7 w7 hown7 hb7; have HB7 : Hid (Below W1.heap.size W1 w7) := Lib.hid (HB3.out.trans hb7); have hs7 := HB7.out.size; obtain ⟨m7, hm7⟩ : ∃ m, m = i + (r.length - (i + 1)) := ⟨_, rfl⟩; rw [← hm7] at hown7; have HM7 := Lib.hid hm7; clear hm7; obtain ⟨A7, k7, rfl, _, _, _⟩ := own_slice hown7; have c7 := bkeep HB7.out hcd (by omega); have f7 := fun o => (HD.out.below HB7.out (by omega)).free o; have HO7 := Lib.hid hown7; clear hown7 hb7)
  | (at_builtin; have hgg := HLIT; clear hgg; go_must (refine wpList_append_row rfl (.tmp 30) (.tmp 36) 56 rfl W1.heap.size 85 i0 (.agg #[.string ⟨#[]⟩, .int .i64 0, .int .i64 0, .int .i64 0, .int .i64 0]) 5 48 Tryz.underlying56 hi0 hz0 hz1 hz2 rfl (by decide) (.slice (some ⟨w2.heap.size, 0, none⟩) 0 0) 0 [] rfl HLIT.out W1.heap.size (some ⟨gu, 0, none⟩) i c (flatH (r.take i)) rfl HC2.out (flatH_one _) (by unfold maxLen; omega) (by omega) (by first | omega | (simp; omega)) ?_); intro v3 w3 hown3 hb3; have HB3 : Hid (Below W1.heap.size W1 w3) := Lib.hid (HBL.out.trans hb3); have hs3 := HB3.out.size; rw [Nat.zero_add, List.nil_append] at hown3; have c3 := bkeep HB3.out hcd (by omega); have P3 := HP1.out; have z0 : w3.cell? ⟨w.heap.size, 0, none⟩ = some (.int .i64 0) := bkeep HB3.out (HP1.out.cell 0) HP1.out.low; have z1 : w3.cell? ⟨w.heap.size, 1, none⟩ = some (.int .i64 0) := bkeep HB3.out (HP1.out.cell 1) HP1.out.low; have z2 : w3.cell? ⟨w.heap.size, 2, none⟩ = some (.int .i64 0) := bkeep HB3.out (HP1.out.cell 2) HP1.out.low; have z3 : w3.cell? ⟨w.heap.size, 3, none⟩ = some (.int .i64 0) := bkeep HB3.out (HP1.out.cell 3) HP1.out.low; clear P3; have HO3 := Lib.hid hown3; clear hown3 hb3)
  | fail)
 have ho := HO7.out
 have e7 : flatH (r.take (spotS s.data.toList r).1) ++ flatH (midS s.data.toList (0, 0, 0, 0)) ++ flatH (r.drop (afterS s.data.toList r)) = (flatH (r.take i)) ++ flatH (r.drop (afterS s.data.toList r)) := by rw [HMID.out, HSI.out, List.append_nil]
 rw [← e7] at ho
 refine bodyPost_end (v := .tuple #[]) (by simp [results, Tryz.results63, go_sem]) rfl ⟨_, rfl, setEnd HD.out HB7.out ho (by have h1 := HLEN.out; have h2 := HM7.out; omega)⟩
set_option maxHeartbeats 4000000 in
set_option maxRecDepth 10000 in
theorem refSetG1 (d gu i c : Nat) (q n : Value) (r : Pm) (s : ByteArray) (x0 x1 x2 x3 : Int) (hx : x0 = 0 → x1 = 0 → x2 = 0 → ¬ x3 = 0) (w W1 : World) (hW1 : W1 = w.alloc (.cells #[.int .i64 x0, .int .i64 x1, .int .i64 x2, .int .i64 x3] 36)) (hd : Whl W1 d 65 #[.slice (some ⟨gu, 0, none⟩) r.length c, q, n])
  (hrow : W1.ownsRow 0 85 5 (.slice (some ⟨gu, 0, none⟩) r.length c) r.length (flatH r)) (hlen : r.length ≤ 1000) (hdw : d < w.heap.size) (hic : i + 1 < c) (hil : i < r.length) (hlc : r.length ≤ c) (hcm : c ≤ maxLen) (hsi : spotS s.data.toList r = (i, true)) :
  Calls Tryz.prog 63 #[.pointer (some ⟨d, 0, none⟩), .string s, .agg #[.int .i64 x0, .int .i64 x1, .int .i64 x2, .int .i64 x3]] w fun e w' => ∃ u', e = .returned (.tuple #[]) ∧ Whl w' d 65 #[u', q, n] ∧ w'.ownsRow W1.heap.size 85 5 u' (setS s.data.toList (x0, x1, x2, x3) r).length (flatH (setS s.data.toList (x0, x1, x2, x3) r)) ∧ Touch (fun j => j = d) W1 w' ∧ (∀ g, u'.ownBlock = some g → W1.heap.size ≤ g) := by
 obtain ⟨i0, hi0, hz0, hz1, hz2⟩ := info_parts Tryz.infoHold
 have hs1 : W1.heap.size = w.heap.size + 1 := by rw [hW1]; simp
 have P1 : Whl W1 w.heap.size 36 #[.int .i64 x0, .int .i64 x1, .int .i64 x2, .int .i64 x3] := by rw [hW1]; exact Whl.new rfl
 have hcd := hd.cell 0
 simp only [List.getElem?_toArray, List.getElem?_cons_zero] at hcd
 have HD := Lib.hid hd
 have HP1 := Lib.hid P1
 have HROW := Lib.hid hrow
 have HL1 : Hid (RvL W1 d (.slice (some ⟨gu, 0, none⟩) r.length c) r) := Lib.hid ⟨hcd, hrow, by omega⟩
 have HCT : Hid (Cells W1 W1.heap.size (some ⟨gu, 0, none⟩) i c 5 (flatH (r.take i))) := Lib.hid (by
  obtain ⟨A0, c0, e0, _, _, hC⟩ := row_cells hrow
  injection e0 with e1 e2 e3
  subst e1 e3
  rw [flatH_take]
  exact cells_take hC (by omega))
 have HCR : Hid (Cells W1 W1.heap.size (some ⟨gu, (i + 1) * 5, none⟩) (r.length - (i + 1)) (c - (i + 1)) 5 (flatH (r.drop (afterS s.data.toList r)))) := Lib.hid (by
  obtain ⟨A0, c0, e0, _, _, hC⟩ := row_cells hrow
  injection e0 with e1 e2 e3
  subst e1 e3
  rw [flatH_drop]
  have ea : afterS s.data.toList r = (i + 1) := by unfold afterS; rw [hsi]; rfl
  rw [ea]
  exact cells_drop hC (by omega) _)

 have hsl := spotS_le s.data.toList r
 have HLEN : Hid ((setS s.data.toList (x0, x1, x2, x3) r).length = i + 1 + (r.length - (i + 1))) := Lib.hid (by
  rw [setS_spot, List.length_append, List.length_append, List.length_take, List.length_drop]
  have hm : (midS s.data.toList (x0, x1, x2, x3)).length = 1 := by
   unfold midS
   rw [if_neg (fun h => by simp only [z4, Prod.mk.injEq] at h; exact hx h.1 h.2.1 h.2.2.1 h.2.2.2)]; rfl
  rw [hm]
  rw [hsi] at hsl ⊢
  simp only at hsl ⊢
  simp only [if_true]
  omega)
 have HSI := Lib.hid hsi
 have HMID : Hid (flatH (midS s.data.toList (x0, x1, x2, x3)) = [.string s, .int .i64 x0, .int .i64 x1, .int .i64 x2, .int .i64 x3]) := Lib.hid (by
  unfold midS
  rw [if_neg (fun h => by simp only [z4, Prod.mk.injEq] at h; exact hx h.1 h.2.1 h.2.2.1 h.2.2.2)]; rfl)
 have hne : (x0 == 0 && x1 == 0 && x2 == 0 && x3 == 0) = false := by
  rw [Bool.eq_false_iff]
  intro hh
  simp only [Bool.and_eq_true, beq_iff_eq] at hh
  exact hx hh.1.1.1 hh.1.1.2 hh.1.2 hh.2
 clear hx
 clear hd P1 hrow hsi hsl
 go_enter Tryz.func63, Tryz.ntmps63
 go_wp2_with (first
  | (go_at_call 69; rw [← hW1]; clear hW1; go_loud (refine (refSpot d _ r s _ HL1.out (by omega)).mono ?_; rintro e w2 ⟨he, hb2⟩; rw [HSI.out] at he; simp only at he; subst he; have hs2 := hb2.size; have c2 := bkeep hb2 hcd (by omega); have hbl : Below W1.heap.size W1 (w2.alloc (.cells #[] 85)) := hb2.alloc hs2 _; have HBL := Lib.hid hbl; have HLIT : Hid ((w2.alloc (.cells #[] 85)).ownsRow W1.heap.size 85 5 (.slice (some ⟨w2.heap.size, 0, none⟩) 0 0) 0 []) := Lib.hid (owns_lit0 rfl hs2); have HC2 := Lib.hid (cells_keep HCT.out hbl (Nat.le_refl _)); clear hb2 hbl))
  | (at_builtin; have hgg := HO5; clear hgg; go_must (refine wpList_append_row rfl (.tmp 48) (.tmp 49) 56 rfl W1.heap.size 85 i0 (.agg #[.string ⟨#[]⟩, .int .i64 0, .int .i64 0, .int .i64 0, .int .i64 0]) 5 48 Tryz.underlying56 hi0 hz0 hz1 hz2 rfl (by decide) v5 (i + 1) (flatH (r.take i) ++ [.string s, .int .i64 x0, .int .i64 x1, .int .i64 x2, .int .i64 x3]) rfl HO5.out W1.heap.size (some ⟨gu, (i + 1) * 5, none⟩) (r.length - (i + 1)) (c - (i + 1)) (flatH (r.drop (afterS s.data.toList r))) rfl (cells_keep HCR.out HB5.out (Nat.le_refl _)) (flatH_one _) (by unfold maxLen; omega) (by omega) (by first | omega | (simp; omega)) ?_); intro v7 w7 hown7 hb7; have HB7 : Hid (Below W1.heap.size W1 w7) := Lib.hid (HB5.out.trans hb7); have hs7 := HB7.out.size; obtain ⟨m7, hm7⟩ : ∃ m, m = (i + 1) + (r.length - (i + 1)) := ⟨_, rfl⟩; rw [← hm7] at hown7; have HM7 := Lib.hid hm7; clear hm7; obtain ⟨A7, k7, rfl, _, _, _⟩ := own_slice hown7; have c7 := bkeep HB7.out hcd (by omega); have f7 := fun o => (HD.out.below HB7.out (by omega)).free o; have HO7 := Lib.hid hown7; clear hown7 hb7)
  | (at_builtin; have hgg := HO3; clear hgg; go_must (refine wpList_append_row rfl (.tmp 41) (.tmp 45) 56 rfl W1.heap.size 85 i0 (.agg #[.string ⟨#[]⟩, .int .i64 0, .int .i64 0, .int .i64 0, .int .i64 0]) 5 48 Tryz.underlying56 hi0 hz0 hz1 hz2 rfl (by decide) v3 i (flatH (r.take i)) rfl HT5.out (w3.heap.size + 1) (some ⟨w3.heap.size, 0, none⟩) 1 1 [.string s, .int .i64 x0, .int .i64 x1, .int .i64 x2, .int .i64 x3] rfl HC5.out (by intro u hu; simp at hu; rcases hu with rfl | rfl | rfl | rfl | rfl <;> rfl) (by unfold maxLen; omega) (by omega) (by first | omega | (simp; omega)) ?_); intro v5 w5 hown5 hb5; have HB5 : Hid (Below W1.heap.size W1 w5) := Lib.hid ((HB3.out.alloc hs3 _).trans hb5); have hs5 := HB5.out.size; have HO5 := Lib.hid hown5; clear hown5 hb5)
  | (at_builtin; have hgg := HLIT; clear hgg; go_must (refine wpList_append_row rfl (.tmp 30) (.tmp 36) 56 rfl W1.heap.size 85 i0 (.agg #[.string ⟨#[]⟩, .int .i64 0, .int .i64 0, .int .i64 0, .int .i64 0]) 5 48 Tryz.underlying56 hi0 hz0 hz1 hz2 rfl (by decide) (.slice (some ⟨w2.heap.size, 0, none⟩) 0 0) 0 [] rfl HLIT.out W1.heap.size (some ⟨gu, 0, none⟩) i c (flatH (r.take i)) rfl HC2.out (flatH_one _) (by unfold maxLen; omega) (by omega) (by first | omega | (simp; omega)) ?_); intro v3 w3 hown3 hb3; have HB3 : Hid (Below W1.heap.size W1 w3) := Lib.hid (HBL.out.trans hb3); have hs3 := HB3.out.size; rw [Nat.zero_add, List.nil_append] at hown3; have c3 := bkeep HB3.out hcd (by omega); have P3 := HP1.out; have z0 : w3.cell? ⟨w.heap.size, 0, none⟩ = some (.int .i64 x0) := bkeep HB3.out (HP1.out.cell 0) HP1.out.low; have z1 : w3.cell? ⟨w.heap.size, 1, none⟩ = some (.int .i64 x1) := bkeep HB3.out (HP1.out.cell 1) HP1.out.low; have z2 : w3.cell? ⟨w.heap.size, 2, none⟩ = some (.int .i64 x2) := bkeep HB3.out (HP1.out.cell 2) HP1.out.low; have z3 : w3.cell? ⟨w.heap.size, 3, none⟩ = some (.int .i64 x3) := bkeep HB3.out (HP1.out.cell 3) HP1.out.low; clear P3; have HT5 : Hid ((w3.alloc (.cells #[.string s, .int .i64 x0, .int .i64 x1, .int .i64 x2, .int .i64 x3] 85)).ownsRow W1.heap.size 85 5 v3 i (flatH (r.take i))) := Lib.hid (row_belowR hown3 ((Below.refl _ _).alloc (Nat.le_refl _) _)); have HC5 : Hid (Cells (w3.alloc (.cells #[.string s, .int .i64 x0, .int .i64 x1, .int .i64 x2, .int .i64 x3] 85)) (w3.heap.size + 1) (some ⟨w3.heap.size, 0, none⟩) 1 1 5 [.string s, .int .i64 x0, .int .i64 x1, .int .i64 x2, .int .i64 x3]) := Lib.hid ⟨rfl, (fun e => by cases e), fun k u hu => ⟨_, _, rfl, (by omega), by rw [Nat.zero_add, (Whl.new rfl).cell]; simpa using hu⟩⟩; have HO3 := Lib.hid hown3; clear hown3 hb3)
  | fail)
 have ho := HO7.out
 have e7 : flatH (r.take (spotS s.data.toList r).1) ++ flatH (midS s.data.toList (x0, x1, x2, x3)) ++ flatH (r.drop (afterS s.data.toList r)) = (flatH (r.take i) ++ [.string s, .int .i64 x0, .int .i64 x1, .int .i64 x2, .int .i64 x3]) ++ flatH (r.drop (afterS s.data.toList r)) := by rw [HMID.out, HSI.out]
 rw [← e7] at ho
 refine bodyPost_end (v := .tuple #[]) (by simp [results, Tryz.results63, go_sem]) rfl ⟨_, rfl, setEnd HD.out HB7.out ho (by have h1 := HLEN.out; have h2 := HM7.out; omega)⟩
end Go.Proofs.YtdlbiobjnohfbaaGreat
