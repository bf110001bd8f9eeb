/- The document's vault: pays, Holds, New. -/
import Derived.Test.YtdlbiobjnohfbaaGreatVb35
namespace Go.Proofs.YtdlbiobjnohfbaaGreat
open Go.RowKit Go.ChangeMaps Go.MapKept
set_option linter.unusedVariables false
set_option linter.unusedSimpArgs false
set_option maxHeartbeats 4000000 in
set_option maxRecDepth 10000 in
theorem refPays0 (B d x : Nat) (u u2 : Value) (rr : Pm) (L : List Od) (last nx : Int) (s : ByteArray) (n : Int) (hn : 0 ≤ n ∧ n ≤ 1125899906842624) (w : World) (h : RvH w B d x u u2 rr L last nx) (hok : RowOk rr) :
  Calls Tryz.prog 50 #[.pointer (some ⟨d, 0, none⟩), .string s, .int .i64 0, .int .i64 n] w fun e w' => e = .returned (.tuple #[]) ∧ SetR B d x u2 (setS s.data.toList (gainI (hasP rr s.data.toList) 0 n) rr) L last nx w w' := by
 have HH := Lib.hid h
 have hbl := h.whl.low
 have hi := hok.is s.data.toList
 unfold isI at hi
 rw [isP_iff] at hi
 obtain ⟨r, hr⟩ : ∃ r, r = hasP rr s.data.toList := ⟨_, rfl⟩
 rw [← hr] at hi ⊢
 obtain ⟨r0, r1, r2, r3⟩ := r
 simp only at hi
 have HHAS : Hid (∀ w, RvH w B d x u u2 rr L last nx → Calls Tryz.prog 24 #[.pointer (some ⟨d, 0, none⟩), .string s] w fun e w' => e = .returned (.agg #[.int .i64 r0, .int .i64 r1, .int .i64 r2, .int .i64 r3]) ∧ Below w.heap.size w w') := Lib.hid (fun w h => refHas d u rr s hr.symm w h.rl hok.srt (by have := hok.len; omega))
 have hw1 : IntKind.i64.wrap (r0 + n) = r0 + n := by rw [IntKind.wrap_i64]; omega
 have HMIN : Hid (min 1152921504606846976 (r0 + n) = capI r0 n) := Lib.hid (by unfold capI; rw [Int.min_def]; split <;> split <;> omega)
 have HROK := Lib.hid hok
 unfold gainI
 simp only
 clear h hr hi hok
 go_enter Tryz.func50, Tryz.ntmps50
 go_wp2_with (first
  | (go_at_call 63; have hgg := HB3; clear hgg; go_loud (refine (refSet B d x u u2 rr L last nx s (min 1152921504606846976 (r0 + n)) r1 r2 r3 _ (HH.out.below (HB3.out.alloc HB3.out.size _)) HROK.out.len).mono ?_; rintro e w10 ⟨u', rfl, hq⟩; rw [HMIN.out] at hq; have HQ := Lib.hid (SetR.ahead (HB3.out.alloc HB3.out.size _) ⟨u', hq⟩); clear hq))
  | (go_at_call 24; go_loud (refine (HHAS.out _ HH.out).mono ?_; rintro e w3 ⟨rfl, hb3⟩; have HB3 := Lib.hid hb3; have hs3 := hb3.size; clear hb3))
  | fail)
 refine bodyPost_end (v := .tuple #[]) (by simp [results, Tryz.results50, go_sem]) rfl ⟨rfl, HQ.out⟩
set_option maxHeartbeats 4000000 in
set_option maxRecDepth 10000 in
theorem refPays1 (B d x : Nat) (u u2 : Value) (rr : Pm) (L : List Od) (last nx : Int) (s : ByteArray) (n : Int) (hn : 0 ≤ n ∧ n ≤ 1125899906842624) (w : World) (h : RvH w B d x u u2 rr L last nx) (hok : RowOk rr) :
  Calls Tryz.prog 50 #[.pointer (some ⟨d, 0, none⟩), .string s, .int .i64 1, .int .i64 n] w fun e w' => e = .returned (.tuple #[]) ∧ SetR B d x u2 (setS s.data.toList (gainI (hasP rr s.data.toList) 1 n) rr) L last nx w w' := by
 have HH := Lib.hid h
 have hbl := h.whl.low
 have hi := hok.is s.data.toList
 unfold isI at hi
 rw [isP_iff] at hi
 obtain ⟨r, hr⟩ : ∃ r, r = hasP rr s.data.toList := ⟨_, rfl⟩
 rw [← hr] at hi ⊢
 obtain ⟨r0, r1, r2, r3⟩ := r
 simp only at hi
 have HHAS : Hid (∀ w, RvH w B d x u u2 rr L last nx → Calls Tryz.prog 24 #[.pointer (some ⟨d, 0, none⟩), .string s] w fun e w' => e = .returned (.agg #[.int .i64 r0, .int .i64 r1, .int .i64 r2, .int .i64 r3]) ∧ Below w.heap.size w w') := Lib.hid (fun w h => refHas d u rr s hr.symm w h.rl hok.srt (by have := hok.len; omega))
 have hw1 : IntKind.i64.wrap (r1 + n) = r1 + n := by rw [IntKind.wrap_i64]; omega
 have HMIN : Hid (min 1152921504606846976 (r1 + n) = capI r1 n) := Lib.hid (by unfold capI; rw [Int.min_def]; split <;> split <;> omega)
 have HROK := Lib.hid hok
 unfold gainI
 simp only
 clear h hr hi hok
 go_enter Tryz.func50, Tryz.ntmps50
 go_wp2_with (first
  | (go_at_call 63; have hgg := HB3; clear hgg; go_loud (refine (refSet B d x u u2 rr L last nx s r0 (min 1152921504606846976 (r1 + n)) r2 r3 _ (HH.out.below (HB3.out.alloc HB3.out.size _)) HROK.out.len).mono ?_; rintro e w10 ⟨u', rfl, hq⟩; rw [HMIN.out] at hq; have HQ := Lib.hid (SetR.ahead (HB3.out.alloc HB3.out.size _) ⟨u', hq⟩); clear hq))
  | (go_at_call 24; go_loud (refine (HHAS.out _ HH.out).mono ?_; rintro e w3 ⟨rfl, hb3⟩; have HB3 := Lib.hid hb3; have hs3 := hb3.size; clear hb3))
  | fail)
 refine bodyPost_end (v := .tuple #[]) (by simp [results, Tryz.results50, go_sem]) rfl ⟨rfl, HQ.out⟩
set_option maxHeartbeats 4000000 in
set_option maxRecDepth 10000 in
theorem refPays2 (B d x : Nat) (u u2 : Value) (rr : Pm) (L : List Od) (last nx : Int) (s : ByteArray) (n : Int) (hn : 0 ≤ n ∧ n ≤ 1125899906842624) (w : World) (h : RvH w B d x u u2 rr L last nx) (hok : RowOk rr) :
  Calls Tryz.prog 50 #[.pointer (some ⟨d, 0, none⟩), .string s, .int .i64 2, .int .i64 n] w fun e w' => e = .returned (.tuple #[]) ∧ SetR B d x u2 (setS s.data.toList (gainI (hasP rr s.data.toList) 2 n) rr) L last nx w w' := by
 have HH := Lib.hid h
 have hbl := h.whl.low
 have hi := hok.is s.data.toList
 unfold isI at hi
 rw [isP_iff] at hi
 obtain ⟨r, hr⟩ : ∃ r, r = hasP rr s.data.toList := ⟨_, rfl⟩
 rw [← hr] at hi ⊢
 obtain ⟨r0, r1, r2, r3⟩ := r
 simp only at hi
 have HHAS : Hid (∀ w, RvH w B d x u u2 rr L last nx → Calls Tryz.prog 24 #[.pointer (some ⟨d, 0, none⟩), .string s] w fun e w' => e = .returned (.agg #[.int .i64 r0, .int .i64 r1, .int .i64 r2, .int .i64 r3]) ∧ Below w.heap.size w w') := Lib.hid (fun w h => refHas d u rr s hr.symm w h.rl hok.srt (by have := hok.len; omega))
 have hw1 : IntKind.i64.wrap (r2 + n) = r2 + n := by rw [IntKind.wrap_i64]; omega
 have HMIN : Hid (min 1152921504606846976 (r2 + n) = capI r2 n) := Lib.hid (by unfold capI; rw [Int.min_def]; split <;> split <;> omega)
 have HROK := Lib.hid hok
 unfold gainI
 simp only
 clear h hr hi hok
 go_enter Tryz.func50, Tryz.ntmps50
 go_wp2_with (first
  | (go_at_call 63; have hgg := HB3; clear hgg; go_loud (refine (refSet B d x u u2 rr L last nx s r0 r1 (min 1152921504606846976 (r2 + n)) r3 _ (HH.out.below (HB3.out.alloc HB3.out.size _)) HROK.out.len).mono ?_; rintro e w10 ⟨u', rfl, hq⟩; rw [HMIN.out] at hq; have HQ := Lib.hid (SetR.ahead (HB3.out.alloc HB3.out.size _) ⟨u', hq⟩); clear hq))
  | (go_at_call 24; go_loud (refine (HHAS.out _ HH.out).mono ?_; rintro e w3 ⟨rfl, hb3⟩; have HB3 := Lib.hid hb3; have hs3 := hb3.size; clear hb3))
  | fail)
 refine bodyPost_end (v := .tuple #[]) (by simp [results, Tryz.results50, go_sem]) rfl ⟨rfl, HQ.out⟩
set_option maxHeartbeats 4000000 in
set_option maxRecDepth 10000 in
theorem refPays3 (B d x : Nat) (u u2 : Value) (rr : Pm) (L : List Od) (last nx : Int) (s : ByteArray) (n : Int) (hn : 0 ≤ n ∧ n ≤ 1125899906842624) (w : World) (h : RvH w B d x u u2 rr L last nx) (hok : RowOk rr) :
  Calls Tryz.prog 50 #[.pointer (some ⟨d, 0, none⟩), .string s, .int .i64 3, .int .i64 n] w fun e w' => e = .returned (.tuple #[]) ∧ SetR B d x u2 (setS s.data.toList (gainI (hasP rr s.data.toList) 3 n) rr) L last nx w w' := by
 have HH := Lib.hid h
 have hbl := h.whl.low
 have hi := hok.is s.data.toList
 unfold isI at hi
 rw [isP_iff] at hi
 obtain ⟨r, hr⟩ : ∃ r, r = hasP rr s.data.toList := ⟨_, rfl⟩
 rw [← hr] at hi ⊢
 obtain ⟨r0, r1, r2, r3⟩ := r
 simp only at hi
 have HHAS : Hid (∀ w, RvH w B d x u u2 rr L last nx → Calls Tryz.prog 24 #[.pointer (some ⟨d, 0, none⟩), .string s] w fun e w' => e = .returned (.agg #[.int .i64 r0, .int .i64 r1, .int .i64 r2, .int .i64 r3]) ∧ Below w.heap.size w w') := Lib.hid (fun w h => refHas d u rr s hr.symm w h.rl hok.srt (by have := hok.len; omega))
 have hw1 : IntKind.i64.wrap (r3 + n) = r3 + n := by rw [IntKind.wrap_i64]; omega
 have HMIN : Hid (min 1152921504606846976 (r3 + n) = capI r3 n) := Lib.hid (by unfold capI; rw [Int.min_def]; split <;> split <;> omega)
 have HROK := Lib.hid hok
 unfold gainI
 simp only
 clear h hr hi hok
 go_enter Tryz.func50, Tryz.ntmps50
 go_wp2_with (first
  | (go_at_call 63; have hgg := HB3; clear hgg; go_loud (refine (refSet B d x u u2 rr L last nx s r0 r1 r2 (min 1152921504606846976 (r3 + n)) _ (HH.out.below (HB3.out.alloc HB3.out.size _)) HROK.out.len).mono ?_; rintro e w10 ⟨u', rfl, hq⟩; rw [HMIN.out] at hq; have HQ := Lib.hid (SetR.ahead (HB3.out.alloc HB3.out.size _) ⟨u', hq⟩); clear hq))
  | (go_at_call 24; go_loud (refine (HHAS.out _ HH.out).mono ?_; rintro e w3 ⟨rfl, hb3⟩; have HB3 := Lib.hid hb3; have hs3 := hb3.size; clear hb3))
  | fail)
 refine bodyPost_end (v := .tuple #[]) (by simp [results, Tryz.results50, go_sem]) rfl ⟨rfl, HQ.out⟩
theorem refPays (B d x : Nat) (u u2 : Value) (rr : Pm) (L : List Od) (last nx : Int) (s : ByteArray) (k : Nat) (hk : k ≤ 3) (n : Int) (hn : 0 ≤ n ∧ n ≤ 1125899906842624) (w : World) (h : RvH w B d x u u2 rr L last nx) (hok : RowOk rr) :
  Calls Tryz.prog 50 #[.pointer (some ⟨d, 0, none⟩), .string s, .int .i64 (k : Int), .int .i64 n] w fun e w' => e = .returned (.tuple #[]) ∧ SetR B d x u2 (setS s.data.toList (gainI (hasP rr s.data.toList) k n) rr) L last nx w w' := by
 rcases (show k = 0 ∨ k = 1 ∨ k = 2 ∨ k = 3 by omega) with rfl | rfl | rfl | rfl
 · exact refPays0 B d x u u2 rr L last nx s n hn w h hok
 · exact refPays1 B d x u u2 rr L last nx s n hn w h hok
 · exact refPays2 B d x u u2 rr L last nx s n hn w h hok
 · exact refPays3 B d x u u2 rr L last nx s n hn w h hok
set_option maxHeartbeats 2000000 in
set_option maxRecDepth 10000 in
theorem refHoldsB (o : Od) (w : World) (hb : o.buy = true) (hc : 0 ≤ o.ct ∧ o.ct ≤ 1048576) (hp : 0 ≤ o.pr ∧ o.pr ≤ 1024) :
  Calls Tryz.prog 48 #[odA o] w fun e w' => e = .returned (itV (heldP o)) ∧ Below w.heap.size w w' := by
 have hm : IntKind.i64.wrap (o.ct * o.pr) = o.ct * o.pr := by
  have h1 := prod_ok hc hp
  rw [IntKind.wrap_i64]; omega
 have hh : heldP o = (o.ct * o.pr, 0, 0, 0) := by unfold heldP; rw [if_pos hb]
 rw [hh]
 obtain ⟨id, who, buy, item, ct, pr⟩ := o
 subst hb
 unfold odA itV
 simp only at hm ⊢
 clear hh
 go_enter Tryz.func48, Tryz.ntmps48
 go_wp2_with fail
 refine bodyPost_ret (v := .agg #[.int .i64 (ct * pr), .int .i64 0, .int .i64 0, .int .i64 0]) (by simp [results, Tryz.results48, go_sem, ↓IntWalk.iteOmega, *]) rfl ⟨rfl, by exact tB⟩
set_option maxHeartbeats 2000000 in
set_option maxRecDepth 10000 in
theorem refHolds1 (id ct pr : Int) (who : ByteArray) (w : World) :
  Calls Tryz.prog 48 #[.agg #[.int .i64 id, .string who, .bool false, .int .i64 1, .int .i64 ct, .int .i64 pr]] w fun e w' => e = .returned (.agg #[.int .i64 0, .int .i64 ct, .int .i64 0, .int .i64 0]) ∧ Below w.heap.size w w' := by
 go_enter Tryz.func48, Tryz.ntmps48
 go_wp2_with fail
 refine bodyPost_ret (v := .agg #[.int .i64 0, .int .i64 ct, .int .i64 0, .int .i64 0]) (by simp [results, Tryz.results48, go_sem, ↓IntWalk.iteOmega, *]) rfl ⟨rfl, by exact tB⟩
set_option maxHeartbeats 2000000 in
set_option maxRecDepth 10000 in
theorem refHolds2 (id ct pr : Int) (who : ByteArray) (w : World) :
  Calls Tryz.prog 48 #[.agg #[.int .i64 id, .string who, .bool false, .int .i64 2, .int .i64 ct, .int .i64 pr]] w fun e w' => e = .returned (.agg #[.int .i64 0, .int .i64 0, .int .i64 ct, .int .i64 0]) ∧ Below w.heap.size w w' := by
 go_enter Tryz.func48, Tryz.ntmps48
 go_wp2_with fail
 refine bodyPost_ret (v := .agg #[.int .i64 0, .int .i64 0, .int .i64 ct, .int .i64 0]) (by simp [results, Tryz.results48, go_sem, ↓IntWalk.iteOmega, *]) rfl ⟨rfl, by exact tB⟩
set_option maxHeartbeats 2000000 in
set_option maxRecDepth 10000 in
theorem refHolds3 (id ct pr : Int) (who : ByteArray) (w : World) :
  Calls Tryz.prog 48 #[.agg #[.int .i64 id, .string who, .bool false, .int .i64 3, .int .i64 ct, .int .i64 pr]] w fun e w' => e = .returned (.agg #[.int .i64 0, .int .i64 0, .int .i64 0, .int .i64 ct]) ∧ Below w.heap.size w w' := by
 go_enter Tryz.func48, Tryz.ntmps48
 go_wp2_with fail
 refine bodyPost_ret (v := .agg #[.int .i64 0, .int .i64 0, .int .i64 0, .int .i64 ct]) (by simp [results, Tryz.results48, go_sem, ↓IntWalk.iteOmega, *]) rfl ⟨rfl, by exact tB⟩
theorem refHolds (o : Od) (w : World) (h : OkO o) : Calls Tryz.prog 48 #[odA o] w fun e w' => e = .returned (itV (heldP o)) ∧ Below w.heap.size w w' := by
 cases hb : o.buy with
 | true => exact refHoldsB o w hb (by have := h.ct; omega) (by have := h.pr; omega)
 | false =>
  obtain ⟨id, who, buy, item, ct, pr⟩ := o
  have hi := h.item
  simp only at hi hb
  subst hb
  rcases (show item = 1 ∨ item = 2 ∨ item = 3 by omega) with rfl | rfl | rfl
  · exact refHolds1 id ct pr who w
  · exact refHolds2 id ct pr who w
  · exact refHolds3 id ct pr who w
theorem refNew (w : World) : Calls Tryz.prog 16 #[] w fun e w' => e = .returned (.pointer (some ⟨w.heap.size + 1, 0, none⟩)) ∧ RvH w' w.heap.size (w.heap.size + 1) w.heap.size (.slice none 0 0) (.slice none 0 0) [] [] 0 1 ∧ Below w.heap.size w w' := by
 go_enter Tryz.func16, Tryz.ntmps16
 go_wp2_with fail
 go_ret
 refine ⟨rfl, ⟨Whl.new (by simp), World.ownsRow_nil _ _ _ _, (RfB.new (Nat.le_refl _)).below ((Below.refl _ _).alloc (Nat.le_refl _) _), by omega, by omega, (fun e => by cases e), (fun e => by cases e), (fun e => by cases e), (fun g hg => by cases hg)⟩, by exact tB⟩
end Go.Proofs.YtdlbiobjnohfbaaGreat
