/- vault: purse, gain. -/
import Derived.Test.YtdlbiobjnohfbaaGreatVb16
namespace Go.Proofs.YtdlbiobjnohfbaaGreat
open Go.RowKit Go.ChangeMaps Go.MapKept
set_option linter.unusedVariables false
set_option linter.unusedSimpArgs false
def capI (x n : Int) : Int := if x + n ≤ 1152921504606846976 then x + n else 1152921504606846976
def gainI (i : It4) (k : Nat) (n : Int) : It4 := match k with
 | 0 => (capI i.1 n, i.2.1, i.2.2.1, i.2.2.2)
 | 1 => (i.1, capI i.2.1 n, i.2.2.1, i.2.2.2)
 | 2 => (i.1, i.2.1, capI i.2.2.1 n, i.2.2.2)
 | _ => (i.1, i.2.1, i.2.2.1, capI i.2.2.2 n)
theorem capI_ok {x n : Int} (h : 0 ≤ x ∧ x ≤ 1152921504606846976) (hn : 0 ≤ n) : 0 ≤ capI x n ∧ capI x n ≤ 1152921504606846976 := by unfold capI; split <;> omega
theorem gainI_is {i : It4} (h : isI i = true) {k : Nat} (hk : k ≤ 3) {n : Int} (hn : 0 ≤ n) : isI (gainI i k n) = true := by
 unfold isI at h ⊢
 rw [isP_iff] at h ⊢
 obtain ⟨h0, h1, h2, h3⟩ := h
 rcases (show k = 0 ∨ k = 1 ∨ k = 2 ∨ k = 3 by omega) with rfl | rfl | rfl | rfl
 · exact ⟨capI_ok h0 hn, h1, h2, h3⟩
 · exact ⟨h0, capI_ok h1 hn, h2, h3⟩
 · exact ⟨h0, h1, capI_ok h2 hn, h3⟩
 · exact ⟨h0, h1, h2, capI_ok h3 hn⟩
def ownA (b : Nat) (s : ByteArray) : Value := .agg #[.pointer (some ⟨b, 0, none⟩), .string s]
set_option maxHeartbeats 2000000 in
set_option maxRecDepth 10000 in
theorem vtPurse (b : Nat) (s : ByteArray) (w : World) : Calls Tryz.prog 45 #[.pointer (some ⟨b, 0, none⟩), .string s] w fun e w' => e = .returned (ownA b s) ∧ Below w.heap.size w w' := by
 unfold ownA
 go_enter Tryz.func45, Tryz.ntmps45
 go_wp2_with fail
 refine bodyPost_ret (v := .agg #[.pointer (some ⟨b, 0, none⟩), .string s]) (by simp [results, Tryz.results45, go_sem, ↓IntWalk.iteOmega, *]) rfl ⟨rfl, by exact tB⟩
set_option maxHeartbeats 4000000 in
set_option maxRecDepth 10000 in
theorem vtGain0 (b : Nat) (p : Value) (v : Nat → Value) (S : Nat → List Od) (l : Pm) (last gone : Int) (s : ByteArray) (hk : KeyOk s.data.toList) (n : Int) (hn : 0 ≤ n ∧ n ≤ 1125899906842624) (w : World) (h : VtH w b p v S l last gone) :
  Calls Tryz.prog 46 #[ownA b s, .int .i64 0, .int .i64 n] w fun e w' => e = .returned (.tuple #[]) ∧ SetQ b p v S (setP l s.data.toList (gainI (hasP l s.data.toList) 0 n)) last gone w w' := by
 have HH := Lib.hid h
 have hbl := h.bk.whl.low
 have HL := Lib.hid h.lows
 have hi := h.ok.has s.data.toList
 have HG := Lib.hid (gainI_is hi (k := 0) (by omega) hn.1)
 unfold isI at hi
 rw [isP_iff] at hi
 obtain ⟨r, hr⟩ : ∃ r, r = hasP l s.data.toList := ⟨_, rfl⟩
 rw [← hr] at hi HG ⊢
 obtain ⟨r0, r1, r2, r3⟩ := r
 simp only at hi
 have HHAS : Hid (∀ w, VtH w b p v S l last gone → Calls Tryz.prog 23 #[.pointer (some ⟨b, 0, none⟩), .string s] w fun e w' => e = .returned (.agg #[.int .i64 r0, .int .i64 r1, .int .i64 r2, .int .i64 r3]) ∧ Below w.heap.size w w') := Lib.hid (fun w h => by
  have := vtHas b p l s w h.bk.whl.low h.cell h.pu
  rw [← hr] at this
  exact this)
 have HK := Lib.hid hk
 have B0 : Below w.heap.size w (w.alloc (.cells #[.pointer (some ⟨b, 0, none⟩), .string s] 101)) := (Below.refl _ _).alloc (Nat.le_refl _) _
 have HB0 := Lib.hid B0
 have P0 : Whl (w.alloc (.cells #[.pointer (some ⟨b, 0, none⟩), .string s] 101)) w.heap.size 101 #[.pointer (some ⟨b, 0, none⟩), .string s] := Whl.new rfl
 have HP0 := Lib.hid P0
 have hw1 : IntKind.i64.wrap (r0 + n) = r0 + n := by rw [IntKind.wrap_i64]; omega
 have hcap : capI r0 n = if r0 + n ≤ 1152921504606846976 then r0 + n else 1152921504606846976 := rfl
 have HC := Lib.hid hcap
 unfold gainI at HG ⊢
 simp only at HG ⊢
 clear h hk hr B0 P0 hi hcap
 unfold ownA
 by_cases hc : r0 + n ≤ 1152921504606846976
 ·
  rw [HC.out, if_pos hc] at HG ⊢
  go_enter Tryz.func46, Tryz.ntmps46
  go_wp2_with (first
   | (go_at_call 59; have hgg := HB3; clear hgg; go_loud (refine (vtSet b p v S l last gone s HK.out _ HG.out _ (HH.out.below (HB3.out.alloc HB3.out.size _))).mono ?_; rintro e w10 ⟨rfl, hq⟩; have HQ := Lib.hid (SetQ.ahead (HB3.out.alloc HB3.out.size _) HL.out hq); clear hq))
   | (go_at_call 23; go_loud (refine (HHAS.out _ (HH.out.below HB0.out)).mono ?_; rintro e w3 ⟨rfl, hb3⟩; have P3 := HP0.out.below hb3 HP0.out.low; have HB3 := Lib.hid (HB0.out.trans (hb3.mono HB0.out.size)); have hs3 : w.heap.size < w3.heap.size := P3.low; have x0 := P3.cell 0; have x1 := P3.cell 1; simp only [List.getElem?_toArray, List.getElem?_cons_succ, List.getElem?_cons_zero] at x0 x1; clear P3 hb3))
   | fail)
  refine bodyPost_end (v := .tuple #[]) (by simp [results, Tryz.results46, go_sem]) rfl ⟨rfl, HQ.out⟩
 ·
  rw [HC.out, if_neg hc] at HG ⊢
  go_enter Tryz.func46, Tryz.ntmps46
  go_wp2_with (first
   | (go_at_call 59; have hgg := HB3; clear hgg; go_loud (refine (vtSet b p v S l last gone s HK.out _ HG.out _ (HH.out.below (HB3.out.alloc HB3.out.size _))).mono ?_; rintro e w10 ⟨rfl, hq⟩; have HQ := Lib.hid (SetQ.ahead (HB3.out.alloc HB3.out.size _) HL.out hq); clear hq))
   | (go_at_call 23; go_loud (refine (HHAS.out _ (HH.out.below HB0.out)).mono ?_; rintro e w3 ⟨rfl, hb3⟩; have P3 := HP0.out.below hb3 HP0.out.low; have HB3 := Lib.hid (HB0.out.trans (hb3.mono HB0.out.size)); have hs3 : w.heap.size < w3.heap.size := P3.low; have x0 := P3.cell 0; have x1 := P3.cell 1; simp only [List.getElem?_toArray, List.getElem?_cons_succ, List.getElem?_cons_zero] at x0 x1; clear P3 hb3))
   | fail)
  refine bodyPost_end (v := .tuple #[]) (by simp [results, Tryz.results46, go_sem]) rfl ⟨rfl, HQ.out⟩
set_option maxHeartbeats 4000000 in
set_option maxRecDepth 10000 in
theorem vtGain1 (b : Nat) (p : Value) (v : Nat → Value) (S : Nat → List Od) (l : Pm) (last gone : Int) (s : ByteArray) (hk : KeyOk s.data.toList) (n : Int) (hn : 0 ≤ n ∧ n ≤ 1125899906842624) (w : World) (h : VtH w b p v S l last gone) :
  Calls Tryz.prog 46 #[ownA b s, .int .i64 1, .int .i64 n] w fun e w' => e = .returned (.tuple #[]) ∧ SetQ b p v S (setP l s.data.toList (gainI (hasP l s.data.toList) 1 n)) last gone w w' := by
 have HH := Lib.hid h
 have hbl := h.bk.whl.low
 have HL := Lib.hid h.lows
 have hi := h.ok.has s.data.toList
 have HG := Lib.hid (gainI_is hi (k := 1) (by omega) hn.1)
 unfold isI at hi
 rw [isP_iff] at hi
 obtain ⟨r, hr⟩ : ∃ r, r = hasP l s.data.toList := ⟨_, rfl⟩
 rw [← hr] at hi HG ⊢
 obtain ⟨r0, r1, r2, r3⟩ := r
 simp only at hi
 have HHAS : Hid (∀ w, VtH w b p v S l last gone → Calls Tryz.prog 23 #[.pointer (some ⟨b, 0, none⟩), .string s] w fun e w' => e = .returned (.agg #[.int .i64 r0, .int .i64 r1, .int .i64 r2, .int .i64 r3]) ∧ Below w.heap.size w w') := Lib.hid (fun w h => by
  have := vtHas b p l s w h.bk.whl.low h.cell h.pu
  rw [← hr] at this
  exact this)
 have HK := Lib.hid hk
 have B0 : Below w.heap.size w (w.alloc (.cells #[.pointer (some ⟨b, 0, none⟩), .string s] 101)) := (Below.refl _ _).alloc (Nat.le_refl _) _
 have HB0 := Lib.hid B0
 have P0 : Whl (w.alloc (.cells #[.pointer (some ⟨b, 0, none⟩), .string s] 101)) w.heap.size 101 #[.pointer (some ⟨b, 0, none⟩), .string s] := Whl.new rfl
 have HP0 := Lib.hid P0
 have hw1 : IntKind.i64.wrap (r1 + n) = r1 + n := by rw [IntKind.wrap_i64]; omega
 have hcap : capI r1 n = if r1 + n ≤ 1152921504606846976 then r1 + n else 1152921504606846976 := rfl
 have HC := Lib.hid hcap
 unfold gainI at HG ⊢
 simp only at HG ⊢
 clear h hk hr B0 P0 hi hcap
 unfold ownA
 by_cases hc : r1 + n ≤ 1152921504606846976
 ·
  rw [HC.out, if_pos hc] at HG ⊢
  go_enter Tryz.func46, Tryz.ntmps46
  go_wp2_with (first
   | (go_at_call 59; have hgg := HB3; clear hgg; go_loud (refine (vtSet b p v S l last gone s HK.out _ HG.out _ (HH.out.below (HB3.out.alloc HB3.out.size _))).mono ?_; rintro e w10 ⟨rfl, hq⟩; have HQ := Lib.hid (SetQ.ahead (HB3.out.alloc HB3.out.size _) HL.out hq); clear hq))
   | (go_at_call 23; go_loud (refine (HHAS.out _ (HH.out.below HB0.out)).mono ?_; rintro e w3 ⟨rfl, hb3⟩; have P3 := HP0.out.below hb3 HP0.out.low; have HB3 := Lib.hid (HB0.out.trans (hb3.mono HB0.out.size)); have hs3 : w.heap.size < w3.heap.size := P3.low; have x0 := P3.cell 0; have x1 := P3.cell 1; simp only [List.getElem?_toArray, List.getElem?_cons_succ, List.getElem?_cons_zero] at x0 x1; clear P3 hb3))
   | fail)
  refine bodyPost_end (v := .tuple #[]) (by simp [results, Tryz.results46, go_sem]) rfl ⟨rfl, HQ.out⟩
 ·
  rw [HC.out, if_neg hc] at HG ⊢
  go_enter Tryz.func46, Tryz.ntmps46
  go_wp2_with (first
   | (go_at_call 59; have hgg := HB3; clear hgg; go_loud (refine (vtSet b p v S l last gone s HK.out _ HG.out _ (HH.out.below (HB3.out.alloc HB3.out.size _))).mono ?_; rintro e w10 ⟨rfl, hq⟩; have HQ := Lib.hid (SetQ.ahead (HB3.out.alloc HB3.out.size _) HL.out hq); clear hq))
   | (go_at_call 23; go_loud (refine (HHAS.out _ (HH.out.below HB0.out)).mono ?_; rintro e w3 ⟨rfl, hb3⟩; have P3 := HP0.out.below hb3 HP0.out.low; have HB3 := Lib.hid (HB0.out.trans (hb3.mono HB0.out.size)); have hs3 : w.heap.size < w3.heap.size := P3.low; have x0 := P3.cell 0; have x1 := P3.cell 1; simp only [List.getElem?_toArray, List.getElem?_cons_succ, List.getElem?_cons_zero] at x0 x1; clear P3 hb3))
   | fail)
  refine bodyPost_end (v := .tuple #[]) (by simp [results, Tryz.results46, go_sem]) rfl ⟨rfl, HQ.out⟩
set_option maxHeartbeats 4000000 in
set_option maxRecDepth 10000 in
theorem vtGain2 (b : Nat) (p : Value) (v : Nat → Value) (S : Nat → List Od) (l : Pm) (last gone : Int) (s : ByteArray) (hk : KeyOk s.data.toList) (n : Int) (hn : 0 ≤ n ∧ n ≤ 1125899906842624) (w : World) (h : VtH w b p v S l last gone) :
  Calls Tryz.prog 46 #[ownA b s, .int .i64 2, .int .i64 n] w fun e w' => e = .returned (.tuple #[]) ∧ SetQ b p v S (setP l s.data.toList (gainI (hasP l s.data.toList) 2 n)) last gone w w' := by
 have HH := Lib.hid h
 have hbl := h.bk.whl.low
 have HL := Lib.hid h.lows
 have hi := h.ok.has s.data.toList
 have HG := Lib.hid (gainI_is hi (k := 2) (by omega) hn.1)
 unfold isI at hi
 rw [isP_iff] at hi
 obtain ⟨r, hr⟩ : ∃ r, r = hasP l s.data.toList := ⟨_, rfl⟩
 rw [← hr] at hi HG ⊢
 obtain ⟨r0, r1, r2, r3⟩ := r
 simp only at hi
 have HHAS : Hid (∀ w, VtH w b p v S l last gone → Calls Tryz.prog 23 #[.pointer (some ⟨b, 0, none⟩), .string s] w fun e w' => e = .returned (.agg #[.int .i64 r0, .int .i64 r1, .int .i64 r2, .int .i64 r3]) ∧ Below w.heap.size w w') := Lib.hid (fun w h => by
  have := vtHas b p l s w h.bk.whl.low h.cell h.pu
  rw [← hr] at this
  exact this)
 have HK := Lib.hid hk
 have B0 : Below w.heap.size w (w.alloc (.cells #[.pointer (some ⟨b, 0, none⟩), .string s] 101)) := (Below.refl _ _).alloc (Nat.le_refl _) _
 have HB0 := Lib.hid B0
 have P0 : Whl (w.alloc (.cells #[.pointer (some ⟨b, 0, none⟩), .string s] 101)) w.heap.size 101 #[.pointer (some ⟨b, 0, none⟩), .string s] := Whl.new rfl
 have HP0 := Lib.hid P0
 have hw1 : IntKind.i64.wrap (r2 + n) = r2 + n := by rw [IntKind.wrap_i64]; omega
 have hcap : capI r2 n = if r2 + n ≤ 1152921504606846976 then r2 + n else 1152921504606846976 := rfl
 have HC := Lib.hid hcap
 unfold gainI at HG ⊢
 simp only at HG ⊢
 clear h hk hr B0 P0 hi hcap
 unfold ownA
 by_cases hc : r2 + n ≤ 1152921504606846976
 ·
  rw [HC.out, if_pos hc] at HG ⊢
  go_enter Tryz.func46, Tryz.ntmps46
  go_wp2_with (first
   | (go_at_call 59; have hgg := HB3; clear hgg; go_loud (refine (vtSet b p v S l last gone s HK.out _ HG.out _ (HH.out.below (HB3.out.alloc HB3.out.size _))).mono ?_; rintro e w10 ⟨rfl, hq⟩; have HQ := Lib.hid (SetQ.ahead (HB3.out.alloc HB3.out.size _) HL.out hq); clear hq))
   | (go_at_call 23; go_loud (refine (HHAS.out _ (HH.out.below HB0.out)).mono ?_; rintro e w3 ⟨rfl, hb3⟩; have P3 := HP0.out.below hb3 HP0.out.low; have HB3 := Lib.hid (HB0.out.trans (hb3.mono HB0.out.size)); have hs3 : w.heap.size < w3.heap.size := P3.low; have x0 := P3.cell 0; have x1 := P3.cell 1; simp only [List.getElem?_toArray, List.getElem?_cons_succ, List.getElem?_cons_zero] at x0 x1; clear P3 hb3))
   | fail)
  refine bodyPost_end (v := .tuple #[]) (by simp [results, Tryz.results46, go_sem]) rfl ⟨rfl, HQ.out⟩
 ·
  rw [HC.out, if_neg hc] at HG ⊢
  go_enter Tryz.func46, Tryz.ntmps46
  go_wp2_with (first
   | (go_at_call 59; have hgg := HB3; clear hgg; go_loud (refine (vtSet b p v S l last gone s HK.out _ HG.out _ (HH.out.below (HB3.out.alloc HB3.out.size _))).mono ?_; rintro e w10 ⟨rfl, hq⟩; have HQ := Lib.hid (SetQ.ahead (HB3.out.alloc HB3.out.size _) HL.out hq); clear hq))
   | (go_at_call 23; go_loud (refine (HHAS.out _ (HH.out.below HB0.out)).mono ?_; rintro e w3 ⟨rfl, hb3⟩; have P3 := HP0.out.below hb3 HP0.out.low; have HB3 := Lib.hid (HB0.out.trans (hb3.mono HB0.out.size)); have hs3 : w.heap.size < w3.heap.size := P3.low; have x0 := P3.cell 0; have x1 := P3.cell 1; simp only [List.getElem?_toArray, List.getElem?_cons_succ, List.getElem?_cons_zero] at x0 x1; clear P3 hb3))
   | fail)
  refine bodyPost_end (v := .tuple #[]) (by simp [results, Tryz.results46, go_sem]) rfl ⟨rfl, HQ.out⟩
set_option maxHeartbeats 4000000 in
set_option maxRecDepth 10000 in
theorem vtGain3 (b : Nat) (p : Value) (v : Nat → Value) (S : Nat → List Od) (l : Pm) (last gone : Int) (s : ByteArray) (hk : KeyOk s.data.toList) (n : Int) (hn : 0 ≤ n ∧ n ≤ 1125899906842624) (w : World) (h : VtH w b p v S l last gone) :
  Calls Tryz.prog 46 #[ownA b s, .int .i64 3, .int .i64 n] w fun e w' => e = .returned (.tuple #[]) ∧ SetQ b p v S (setP l s.data.toList (gainI (hasP l s.data.toList) 3 n)) last gone w w' := by
 have HH := Lib.hid h
 have hbl := h.bk.whl.low
 have HL := Lib.hid h.lows
 have hi := h.ok.has s.data.toList
 have HG := Lib.hid (gainI_is hi (k := 3) (by omega) hn.1)
 unfold isI at hi
 rw [isP_iff] at hi
 obtain ⟨r, hr⟩ : ∃ r, r = hasP l s.data.toList := ⟨_, rfl⟩
 rw [← hr] at hi HG ⊢
 obtain ⟨r0, r1, r2, r3⟩ := r
 simp only at hi
 have HHAS : Hid (∀ w, VtH w b p v S l last gone → Calls Tryz.prog 23 #[.pointer (some ⟨b, 0, none⟩), .string s] w fun e w' => e = .returned (.agg #[.int .i64 r0, .int .i64 r1, .int .i64 r2, .int .i64 r3]) ∧ Below w.heap.size w w') := Lib.hid (fun w h => by
  have := vtHas b p l s w h.bk.whl.low h.cell h.pu
  rw [← hr] at this
  exact this)
 have HK := Lib.hid hk
 have B0 : Below w.heap.size w (w.alloc (.cells #[.pointer (some ⟨b, 0, none⟩), .string s] 101)) := (Below.refl _ _).alloc (Nat.le_refl _) _
 have HB0 := Lib.hid B0
 have P0 : Whl (w.alloc (.cells #[.pointer (some ⟨b, 0, none⟩), .string s] 101)) w.heap.size 101 #[.pointer (some ⟨b, 0, none⟩), .string s] := Whl.new rfl
 have HP0 := Lib.hid P0
 have hw1 : IntKind.i64.wrap (r3 + n) = r3 + n := by rw [IntKind.wrap_i64]; omega
 have hcap : capI r3 n = if r3 + n ≤ 1152921504606846976 then r3 + n else 1152921504606846976 := rfl
 have HC := Lib.hid hcap
 unfold gainI at HG ⊢
 simp only at HG ⊢
 clear h hk hr B0 P0 hi hcap
 unfold ownA
 by_cases hc : r3 + n ≤ 1152921504606846976
 ·
  rw [HC.out, if_pos hc] at HG ⊢
  go_enter Tryz.func46, Tryz.ntmps46
  go_wp2_with (first
   | (go_at_call 59; have hgg := HB3; clear hgg; go_loud (refine (vtSet b p v S l last gone s HK.out _ HG.out _ (HH.out.below (HB3.out.alloc HB3.out.size _))).mono ?_; rintro e w10 ⟨rfl, hq⟩; have HQ := Lib.hid (SetQ.ahead (HB3.out.alloc HB3.out.size _) HL.out hq); clear hq))
   | (go_at_call 23; go_loud (refine (HHAS.out _ (HH.out.below HB0.out)).mono ?_; rintro e w3 ⟨rfl, hb3⟩; have P3 := HP0.out.below hb3 HP0.out.low; have HB3 := Lib.hid (HB0.out.trans (hb3.mono HB0.out.size)); have hs3 : w.heap.size < w3.heap.size := P3.low; have x0 := P3.cell 0; have x1 := P3.cell 1; simp only [List.getElem?_toArray, List.getElem?_cons_succ, List.getElem?_cons_zero] at x0 x1; clear P3 hb3))
   | fail)
  refine bodyPost_end (v := .tuple #[]) (by simp [results, Tryz.results46, go_sem]) rfl ⟨rfl, HQ.out⟩
 ·
  rw [HC.out, if_neg hc] at HG ⊢
  go_enter Tryz.func46, Tryz.ntmps46
  go_wp2_with (first
   | (go_at_call 59; have hgg := HB3; clear hgg; go_loud (refine (vtSet b p v S l last gone s HK.out _ HG.out _ (HH.out.below (HB3.out.alloc HB3.out.size _))).mono ?_; rintro e w10 ⟨rfl, hq⟩; have HQ := Lib.hid (SetQ.ahead (HB3.out.alloc HB3.out.size _) HL.out hq); clear hq))
   | (go_at_call 23; go_loud (refine (HHAS.out _ (HH.out.below HB0.out)).mono ?_; rintro e w3 ⟨rfl, hb3⟩; have P3 := HP0.out.below hb3 HP0.out.low; have HB3 := Lib.hid (HB0.out.trans (hb3.mono HB0.out.size)); have hs3 : w.heap.size < w3.heap.size := P3.low; have x0 := P3.cell 0; have x1 := P3.cell 1; simp only [List.getElem?_toArray, List.getElem?_cons_succ, List.getElem?_cons_zero] at x0 x1; clear P3 hb3))
   | fail)
  refine bodyPost_end (v := .tuple #[]) (by simp [results, Tryz.results46, go_sem]) rfl ⟨rfl, HQ.out⟩
theorem vtGain (b : Nat) (p : Value) (v : Nat → Value) (S : Nat → List Od) (l : Pm) (last gone : Int) (s : ByteArray) (hk : KeyOk s.data.toList) (k : Nat) (hk3 : k ≤ 3) (n : Int) (hn : 0 ≤ n ∧ n ≤ 1125899906842624) (w : World) (h : VtH w b p v S l last gone) :
  Calls Tryz.prog 46 #[ownA b s, .int .i64 k, .int .i64 n] w fun e w' => e = .returned (.tuple #[]) ∧ SetQ b p v S (setP l s.data.toList (gainI (hasP l s.data.toList) k n)) last gone w w' := by
 rcases (show k = 0 ∨ k = 1 ∨ k = 2 ∨ k = 3 by omega) with rfl | rfl | rfl | rfl
 · exact vtGain0 b p v S l last gone s hk n hn w h
 · exact vtGain1 b p v S l last gone s hk n hn w h
 · exact vtGain2 b p v S l last gone s hk n hn w h
 · exact vtGain3 b p v S l last gone s hk n hn w h
end Go.Proofs.YtdlbiobjnohfbaaGreat
