/- The document's load: its Hit. -/
import Derived.Test.YtfakfnekcgkelaaLpG
import Derived.ProofKit
import Derived.Deep.RegionLaw
namespace Go.Proofs.Ytfakfnekcgkelaa
open Go.RowKit
set_option linter.unusedVariables false
set_option linter.unusedSimpArgs false

theorem isKeyS (s : ByteArray) (q : Bool) (hq : decide (1 ≤ s.data.toList.length ∧ s.data.toList.length ≤ 16) = q) (w : World) : Calls Try.prog 17 #[.string s] w fun e w' => e = .returned (.bool q) ∧ w' = w := by
  have := isKeyCall s.data.toList w
  rw [bytes_data, hq] at this
  exact this
theorem flatF_cons (c : Zk × Int) (F : Fc) : flatF (c :: F) = cellV c ++ flatF F := rfl
theorem flat1 (F : Fc) : ∀ u ∈ flatF F, u.oneCell' = true := by
  intro u hu
  obtain ⟨c, _, hc⟩ := List.mem_flatMap.1 hu
  simp only [cellV, List.mem_cons, List.not_mem_nil, or_false] at hc
  rcases hc with rfl | rfl | rfl <;> rfl
theorem wrapOne {n : Int} (h1 : 1 ≤ n) (h2 : n ≤ 1048576) : wrap64 (n + 1) = n + 1 := by unfold wrap64; omega
theorem wrapOneK {n : Int} (h1 : 1 ≤ n) (h2 : n ≤ 1048576) : IntKind.i64.wrap (n + 1) = n + 1 := by rw [IntKind.wrap_i64]; omega
set_option maxHeartbeats 2000000 in
set_option maxRecDepth 10000 in
/-- behind the loop: a new cell among those of a row -/
theorem refHit (b : Nat) (fr : Option Nat) (F : Fc) (z : Int) (s : ByteArray) (w : World) (h : RfS w b fr F) (hlen : F.length ≤ 100000) (hs : SortedA ltP F) (hpos : ∀ c ∈ F, 1 ≤ c.2 ∧ c.2 ≤ 1048576) :
    Calls Try.prog 8 #[.pointer (some ⟨b, 0, none⟩), .int .i64 z, .string s] w fun e w' => e = .returned (.tuple #[]) ∧ (∃ fr', RfS w' b fr' (hitF F z s.data.toList) ∧ (∀ g, fr' = some g → fr = some g ∨ w.heap.size ≤ g)) ∧ Touch (fun x => x = b ∨ fr = some x) w w' := by
  obtain ⟨k, hks⟩ : ∃ k, k = s.data.toList := ⟨_, rfl⟩
  rw [← hks]
  have hsame : (∃ fr', RfS w b fr' (F) ∧ (∀ g, fr' = some g → fr = some g ∨ w.heap.size ≤ g)) ∧ Touch (fun x => x = b ∨ fr = some x) w w := ⟨⟨fr, h, fun g hg => .inl hg⟩, Touch.refl _ _⟩
  by_cases hz : z < 1
  · rw [hitF_no (fun hh => by omega)]
    have HQ := Lib.hid (rfl : decide (1 ≤ s.data.toList.length ∧ s.data.toList.length ≤ 16) = _)
    have HS := Lib.hid hsame
    clear h hs hpos hsame
    go_enter Try.func8, Try.ntmps8
    go_wp2_with (first | (go_at_call 17; refine (isKeyS s _ HQ.out _).mono ?_; rintro e wy ⟨rfl, hwy⟩; have hwy := hwy.symm; subst hwy) | fail)
    refine bodyPost_ret (v := .tuple #[]) (by simp [results, Try.results8, go_sem]) rfl ⟨rfl, HS.out.1, HS.out.2⟩
  have HKS := Lib.hid hks
  by_cases hk : ¬ (1 ≤ s.data.toList.length ∧ s.data.toList.length ≤ 16)
  · rw [hitF_no (fun hh => hk (by rw [← hks]; exact hh.2))]
    have HQ := Lib.hid (decide_eq_false hk)
    clear hk
    have HS := Lib.hid hsame
    clear h hs hpos hsame
    go_enter Try.func8, Try.ntmps8
    go_wp2_with (first | (go_at_call 17; refine (isKeyS s _ HQ.out _).mono ?_; rintro e wy ⟨rfl, hwy⟩; have hwy := hwy.symm; subst hwy) | fail)
    refine bodyPost_ret (v := .tuple #[]) (by simp [results, Try.results8, go_sem]) rfl ⟨rfl, HS.out.1, HS.out.2⟩
  have hk := Decidable.not_not.1 hk
  have HQ := Lib.hid (decide_eq_true hk)
  have hk' := hk
  rw [← hks] at hk'
  clear hsame
  obtain ⟨i0, hi, hz0, hz1, hz2⟩ := info_parts Try.infoCell
  have hlow := h.low
  obtain ⟨v, h1, h2, h3, h4⟩ := h
  obtain ⟨A, cp, rfl, hq1, hq2, hq3⟩ := own_slice h3
  obtain ⟨P, hP⟩ : ∃ P, P = posP (z, k) F := ⟨_, rfl⟩
  have hPl : P ≤ F.length := by rw [hP]; exact pos_le _ _
  have hlt1 := strLt
  have heq1 := strEq
  have HFR := Lib.hid h2
  have HFB := Lib.hid h4
  have HL := Lib.hid h1
  have HR := Lib.hid h3
  have HP := Lib.hid hP
  have HPS := Lib.hid hpos
  have HS := Lib.hid hs
  have HK := Lib.hid hk'
  clear h1 h3 h2 h4 hpos hs hP hk' hks hlt1 heq1 hk
  go_enter Try.func8, Try.ntmps8
  go_wp2_with (first | (go_at_call 17; refine (isKeyS s _ HQ.out _).mono ?_; rintro e wy ⟨rfl, hwy⟩; have hwy := hwy.symm; subst hwy) | fail)
  go_loopw [6, 7, 8] (fun at_ many i wr => ∃ (j a n : Nat), j ≤ F.length ∧ i = .int .i64 j ∧ at_ = .int .i64 a ∧ a = min j P ∧ many = .int .i64 n ∧ n = cntZ (F.take j) z ∧ (∀ c ∈ F.take j, c.1 ≠ (z, k)) ∧ Below w.heap.size w wr) (fun _ _ i _ => F.length - (intOf i).toNat)
  case atStart => exact ⟨0, 0, 0, Nat.zero_le _, rfl, rfl, by simp, rfl, rfl, by simp, Below.refl _ _⟩
  case round =>
    obtain ⟨j, a, n, hj, rfl, rfl, ha, rfl, hn, hne, hB⟩ := hrel
    have hBs := hB.size
    have cb : wr.cell? ⟨b, 0, none⟩ = some (.slice A F.length cp) := bkeep hB (HL.out.cell 0) hlow
    have fb : wr.frozen? ⟨b, 0, none⟩ = false := bfree hB (HL.out.free 0) hlow
    by_cases hjl : j < F.length
    · have q1 : (j : Int) < (F.length : Int) := by omega
      obtain ⟨gq, cq, e1, _, hgq, _, _⟩ := own_form HR.out (by omega)
      simp only [Value.slice.injEq, true_and] at e1
      obtain ⟨rfl, rfl⟩ := e1
      have hrw := row_belowL HR.out hB
      obtain ⟨y0, y1, y2⟩ := flatF_at F j hjl
      have a0 := (hrw.cellAt (j * 3) (by omega)).trans y0
      have a1 := (hrw.cellAt (j * 3 + 1) (by omega)).trans y1
      have a2 := (hrw.cellAt (j * 3 + 2) (by omega)).trans y2
      have f2 := hrw.frozenAt (j * 3 + 2)
      have hp0 := HPS.out _ (List.getElem_mem hjl)
      have hsp := pos_spec (z, k) HS.out hjl
      rw [← HP.out] at hsp
      have hct := cnt_step F z j hjl
      rw [← hn] at hct
      have hnj : n ≤ j := by
        have := cnt_le (F.take j) z
        rw [List.length_take] at this
        omega
      have hget := List.getElem?_eq_getElem hjl
      have HA := Lib.hid ha
      clear ha hn
      obtain ⟨⟨⟨zz, kk⟩, nn⟩, hcc⟩ : ∃ c : Zk × Int, c = F[j] := ⟨_, rfl⟩
      rw [← hcc] at a0 a1 a2 hp0 hsp hct hget
      simp only at a0 a1 a2 hp0 hsp hct
      have hne' : (zz, kk) ≠ (z, k) → ∀ c ∈ F.take (j + 1), c.1 ≠ (z, k) := by
        intro h0 c hc
        rw [List.take_add_one, hget] at hc
        rcases List.mem_append.1 hc with hc | hc
        · exact hne c hc
        · simp at hc; rw [hc]; exact h0
      have hgl : gq < w.heap.size := (HR.out.lt gq rfl).2
      have hfrg : fr = some gq := HFR.out.symm
      have hbg : b ≠ gq := fun e => HFB.out (by rw [hfrg, e])
      have hBW : Below w.heap.size w (wr.alloc (.cells #[.int .i64 zz, encStr kk, .int .i64 nn] 51)) := hB.alloc hBs _
      obtain ⟨ss, hs1, hs2⟩ : ∃ ss : ByteArray, encStr kk = .string ss ∧ ss.data.toList = kk := ⟨⟨kk.toArray⟩, rfl, by simp⟩
      have hEq : (ss.toList == s.toList) = decide (kk = k) := by
        rw [Lib.toList_data, Lib.toList_data, hs2, ← HKS.out]
        by_cases e : kk = k
        · subst e; simp
        · simp [e]
      have hLt : Op.bytesLess ss.toList s.toList = decide (ltB kk k) := by
        rw [bytesLess_eq, Lib.toList_data, Lib.toList_data, hs2, ← HKS.out]; rfl
      rw [hs1] at a1 hBW
      have HS1 := Lib.hid hs1
      clear y0 y1 y2 hcc hs1 hs2
      by_cases hkey : (zz, kk) = (z, k)
      · injection hkey with e1 e2
        subst e1; subst e2
        rw [decide_eq_true rfl] at hEq
        have hEq' : (s.toList == s.toList) = true := by simp
        clear hLt
        by_cases hfull : nn < 1048576
        · have hW1 : wrap64 (nn + 1) = nn + 1 := wrapOne hp0.1 hp0.2
          have hW2 : IntKind.i64.wrap (nn + 1) = nn + 1 := wrapOneK hp0.1 hp0.2
          have hfin : ∀ W' : World, W' = ((wr.setCell ⟨gq, j * 3 + 2, none⟩ (.int .i64 (nn + 1))).alloc (.cells #[.int .i64 zz, .string ss, .int .i64 nn] 51)).drew → (∃ fr', RfS W' b fr' (hitF F zz kk) ∧ (∀ g, fr' = some g → fr = some g ∨ w.heap.size ≤ g)) ∧ Touch (fun x => x = b ∨ fr = some x) w W' := by
            rintro W' rfl
            have hT : Touch (fun x => x = b ∨ fr = some x) w (((wr.setCell ⟨gq, j * 3 + 2, none⟩ (.int .i64 (nn + 1))).alloc (.cells #[.int .i64 zz, .string ss, .int .i64 nn] 51)).drew) := by
              have h0 := Touch.of_below hB
              have h1 : Touch (fun x => x = b ∨ fr = some x) w wr := ⟨h0.os, h0.tape, h0.output, h0.size, fun x hx _ => h0.block x hx (by omega)⟩
              have h2 := (h1.set (a := ⟨gq, j * 3 + 2, none⟩) (v := .int .i64 (nn + 1)) (fun _ => .inr hfrg)).alloc (.cells #[.int .i64 zz, .string ss, .int .i64 nn] 51)
              exact ⟨h2.os, h2.tape, h2.output, h2.size, h2.block⟩
            refine ⟨⟨fr, ⟨_, ?_, HFR.out, ?_, HFB.out⟩, fun g hg => .inl hg⟩, hT⟩
            · have hx : Whl (wr.setCell ⟨gq, j * 3 + 2, none⟩ (.int .i64 (nn + 1))) b 30 #[.slice (some ⟨gq, 0, none⟩) F.length cp] := Eq.trans (Below.heap_setCell _ _ _ _ hbg) ((hB.block b hlow).trans HL.out)
              exact hx.alloc _
            · have := (hrw.stored (j * 3 + 2) (.int .i64 (nn + 1))).1.alloc (.cells #[.int .i64 zz, .string ss, .int .i64 nn] 51)
              rw [hitF_old HS.out (by omega) HK.out hget hp0.1, if_pos hfull, List.length_set, flatF_set F j (zz, kk) nn (nn + 1) hget]
              exact this
          have HF := Lib.hid hfin
          clear hfin hrw hBW hne hne' hsp hct hget hB hfrg HFR
          go_wp2_with fail
          go_region_with fail
          all_goals (
            go_wp2_with fail
            refine bodyPost_ret (v := .tuple #[]) (by simp [results, Try.results8, go_sem]) rfl ⟨rfl, (HF.out _ rfl).1, (HF.out _ rfl).2⟩)
        · have hfin : (∃ fr', RfS (wr.alloc (.cells #[.int .i64 zz, Value.string ss, .int .i64 nn] 51)) b fr' (hitF F zz kk) ∧ (∀ g, fr' = some g → fr = some g ∨ w.heap.size ≤ g)) ∧ Touch (fun x => x = b ∨ fr = some x) w (wr.alloc (.cells #[.int .i64 zz, Value.string ss, .int .i64 nn] 51)) := by
            rw [hitF_old HS.out (by omega) HK.out hget hp0.1, if_neg hfull]
            have h0 := Touch.of_below hBW
            exact ⟨⟨fr, ⟨_, (hBW.block b hlow).trans HL.out, HFR.out, row_belowL HR.out hBW, HFB.out⟩, fun g hg => .inl hg⟩, h0.os, h0.tape, h0.output, h0.size, fun x hx _ => h0.block x hx (by omega)⟩
          have HF := Lib.hid hfin
          clear hfin hrw hBW hne hne' hsp hct hget hB hfrg HFR
          go_wp2_with fail
          refine bodyPost_ret (v := .tuple #[]) (by simp [results, Try.results8, go_sem]) rfl ⟨rfl, HF.out.1, HF.out.2⟩
      · have HNE := Lib.hid (hne' hkey)
        have HBW := Lib.hid hBW
        have hnj1 : n + 1 ≤ 100001 := by omega
        by_cases e1 : zz = z
        · subst e1
          have hkk : ¬ kk = k := fun e => hkey (by rw [e])
          rw [decide_eq_false hkk] at hEq
          rw [if_pos rfl] at hct
          by_cases hl : ltB kk k
          · have hj1 : j < P := hsp.1 (.inr ⟨rfl, hl⟩)
            rw [decide_eq_true hl] at hLt
            have HCT := Lib.hid hct
            clear hrw hBW hne hne' hget hB hsp hct hfrg HFR
            go_wp2_with fail
            exact ⟨⟨j + 1, j + 1, n + 1, by omega, by go_num, by go_num, by have := HA.out; omega, by go_num, by have := HCT.out; omega, HNE.out, HBW.out⟩, by simp [intOf]; omega⟩
          · have hj1 : ¬ j < P := fun hh => by
              rcases hsp.2 hh with h | ⟨_, h⟩
              · simp at h
              · exact hl h
            rw [decide_eq_false hl] at hLt
            have HCT := Lib.hid hct
            clear hrw hBW hne hne' hget hB hsp hct hfrg HFR
            go_wp2_with fail
            exact ⟨⟨j + 1, a, n + 1, by omega, by go_num, rfl, by have := HA.out; omega, by go_num, by have := HCT.out; omega, HNE.out, HBW.out⟩, by simp [intOf]; omega⟩
        · rw [if_neg e1] at hct
          clear hEq hLt
          by_cases hl : zz < z
          · have hj1 : j < P := hsp.1 (.inl hl)
            have HCT := Lib.hid hct
            clear hrw hBW hne hne' hget hB hsp hct hfrg HFR
            go_wp2_with fail
            exact ⟨⟨j + 1, j + 1, n, by omega, by go_num, by go_num, by have := HA.out; omega, rfl, by have := HCT.out; omega, HNE.out, HBW.out⟩, by simp [intOf]; omega⟩
          · have hj1 : ¬ j < P := fun hh => by
              rcases hsp.2 hh with h | ⟨h, _⟩
              · exact hl h
              · exact e1 h
            have HCT := Lib.hid hct
            clear hrw hBW hne hne' hget hB hsp hct hfrg HFR
            go_wp2_with fail
            exact ⟨⟨j + 1, a, n, by omega, by go_num, rfl, by have := HA.out; omega, rfl, by have := HCT.out; omega, HNE.out, HBW.out⟩, by simp [intOf]; omega⟩
    · obtain rfl : j = F.length := by omega
      rw [List.take_length] at hn hne
      obtain rfl : P = a := by omega
      by_cases h64 : 64 ≤ n
      · have q2 : (64 : Int) ≤ (n : Int) := by omega
        have hfin : (∃ fr', RfS wr b fr' (hitF F z k) ∧ (∀ g, fr' = some g → fr = some g ∨ w.heap.size ≤ g)) ∧ Touch (fun x => x = b ∨ fr = some x) w wr := by
          rw [hitF_new HS.out (by omega) HK.out hne, if_pos (by omega)]
          have h0 := Touch.of_below hB
          exact ⟨⟨fr, ⟨_, (hB.block b hlow).trans HL.out, HFR.out, row_belowL HR.out hB, HFB.out⟩, fun g hg => .inl hg⟩, h0.os, h0.tape, h0.output, h0.size, fun x hx _ => h0.block x hx (by omega)⟩
        have HF := Lib.hid hfin
        clear hfin hne hB
        go_wp2_with fail
        refine bodyPost_ret (v := .tuple #[]) (by simp [results, Try.results8, go_sem]) rfl ⟨rfl, HF.out.1, HF.out.2⟩
      · have q2 : ¬ (64 : Int) ≤ (n : Int) := by omega
        have hnew := hitF_new HS.out (by omega) HK.out hne
        rw [if_neg (by omega), ← HP.out] at hnew
        have HNEW := Lib.hid hnew
        have HE0 := Lib.hid (World.ownsRow_lit (base := w.heap.size) (e := 51) (size := 3) wr #[] 0 hBs (by unfold maxLen; omega) rfl)
        have HB0 := Lib.hid (hB.alloc hBs (.cells #[] 51))
        have HR1 := Lib.hid (row_belowL HR.out HB0.out)
        have hz1s : (wr.alloc (.cells #[] 51)).heap.size = wr.heap.size + 1 := by simp
        clear hnew hne hB hn ha
        rcases HR.out.2 with ⟨e0, hF0⟩ | ⟨gq, cq, cur, e0, _, hgq, hpc, _, _, _⟩
        · simp only [Value.slice.injEq] at e0
          obtain ⟨rfl, _, rfl⟩ := e0
          have HF0 := Lib.hid hF0
          obtain rfl : P = 0 := by omega
          go_wp2_with (first
            | (at_builtin; (refine wpList_append_row rfl (.tmp 83) (.tmp 89) 28 rfl w.heap.size 51 i0 (.agg #[.int .i64 0, .string ⟨#[]⟩, .int .i64 0]) 3 32 Try.underlying28 hi hz0 hz1 hz2 rfl (by decide) _ 0 [] rfl HE0.out (wr.heap.size + 1) none 0 0 (flatF ((F.drop 0).take 0)) (by first | rfl | (simp; done)) ⟨by simp [flatF], fun _ => ⟨rfl, rfl⟩, fun j u hu => by simp [flatF] at hu⟩ (by intro u hu; exact flat1 _ u hu) (by unfold maxLen; omega) (by omega) (by first | omega | (simp; omega)) ?_); intro v1 x1 hown1 hb1; have hs1 := hb1.size; have HX1 : Hid (x1.ownsRow w.heap.size 51 3 v1 (0 + 0) ([] ++ flatF ((F.drop 0).take 0))) := Lib.hid hown1; have HY1 := Lib.hid (HB0.out.trans hb1); clear hown1 hb1; have HX2 := Lib.hid (row_belowL HX1.out ((Below.refl x1.heap.size x1).alloc (Nat.le_refl _) (.cells #[.int .i64 z, Value.string s, .int .i64 1] 51))); have HC2 : Hid (Cells (x1.alloc (.cells #[.int .i64 z, Value.string s, .int .i64 1] 51)) (x1.heap.size + 1) (some ⟨x1.heap.size, 0, none⟩) 1 1 3 [.int .i64 z, Value.string s, .int .i64 1]) := Lib.hid ⟨rfl, (fun e => by cases e), fun j u hu => ⟨_, _, rfl, by omega, by rw [Nat.zero_add, (Whl.new rfl).cell]; simpa using hu⟩⟩; have HY2 := Lib.hid (HY1.out.alloc (by have := HY1.out.size; omega) (.cells #[.int .i64 z, Value.string s, .int .i64 1] 51)); have hz2s : (x1.alloc (.cells #[.int .i64 z, Value.string s, .int .i64 1] 51)).heap.size = x1.heap.size + 1 := by simp)
            | (at_builtin; (refine wpList_append_row rfl (.tmp 90) (.tmp 94) 28 rfl w.heap.size 51 i0 (.agg #[.int .i64 0, .string ⟨#[]⟩, .int .i64 0]) 3 32 Try.underlying28 hi hz0 hz1 hz2 rfl (by decide) v1 (0 + 0) ([] ++ flatF ((F.drop 0).take 0)) rfl HX2.out (x1.heap.size + 1) (some ⟨x1.heap.size, 0, none⟩) 1 1 [.int .i64 z, Value.string s, .int .i64 1] (by first | rfl | (simp; done)) HC2.out (by intro u hu; simp at hu; rcases hu with rfl | rfl | rfl <;> rfl) (by unfold maxLen; omega) (by omega) (by first | omega | (simp; omega)) ?_); intro v2 x2 hown2 hb2; have hs2 := hb2.size; have HY3 := Lib.hid (HY2.out.trans hb2); have cb2 : x2.cell? ⟨b, 0, none⟩ = some (.slice none F.length 0) := bkeep HY3.out (HL.out.cell 0) hlow; have HX3 := Lib.hid hown2; have HR2 := Lib.hid (row_belowL HR.out HY3.out); clear hown2 hb2)
            | (at_builtin; (refine wpList_append_row rfl (.tmp 97) (.tmp 103) 28 rfl w.heap.size 51 i0 (.agg #[.int .i64 0, .string ⟨#[]⟩, .int .i64 0]) 3 32 Try.underlying28 hi hz0 hz1 hz2 rfl (by decide) v2 (0 + 0 + 1) ([] ++ flatF ((F.drop 0).take 0) ++ [.int .i64 z, Value.string s, .int .i64 1]) rfl HX3.out x2.heap.size none 0 0 (flatF ((F.drop 0).take 0)) (by first | rfl | (simp; done)) ⟨by simp [flatF], fun _ => ⟨rfl, rfl⟩, fun j u hu => by simp [flatF] at hu⟩ (by intro u hu; exact flat1 _ u hu) (by unfold maxLen; omega) (by omega) (by first | omega | (simp; omega)) ?_); intro v3 x3 hown3 hb3; have hs3 := hb3.size; obtain ⟨A3, k3, rfl, _, _, _⟩ := own_slice hown3; have HY4 := Lib.hid (HY3.out.trans hb3); have cb3 : x3.cell? ⟨b, 0, none⟩ = some (.slice none F.length 0) := bkeep HY4.out (HL.out.cell 0) hlow; have fb3 : x3.frozen? ⟨b, 0, none⟩ = false := bfree HY4.out (HL.out.free 0) hlow; have HX4 := Lib.hid hown3; clear hown3 hb3)
            | fail)
          have hrow : x3.ownsRow w.heap.size 51 3 (.slice A3 (0 + 0 + 1 + 0) k3) (0 + 0 + 1 + 0) (flatF (hitF F z k)) := by
            have := HX4.out
            rw [HNEW.out, flatF_app, flatF_cons]
            have hF : F = [] := List.eq_nil_of_length_eq_zero HF0.out
            rw [hF] at this ⊢
            have hse : encStr k = .string s := by rw [HKS.out, bytes_data]
            simpa [cellV, hse, flatF] using this
          have hst := RfS.stored hlow (HL.out.below HY4.out hlow) (by rw [HNEW.out, List.length_append, List.length_cons, List.length_take, List.length_drop]; have := HF0.out; omega) HY4.out hrow
          skip
          refine bodyPost_end (v := .tuple #[]) (by simp [results, Try.results8, go_sem]) rfl ⟨rfl, ?_, hst.2.mono (fun x hx => .inl hx)⟩
          obtain ⟨fr', hq1, hq2⟩ := hst.1
          exact ⟨fr', hq1, fun g hg => .inr (hq2 g hg)⟩
        · simp only [Value.slice.injEq, true_and] at e0
          obtain ⟨rfl, rfl⟩ := e0
          have z0 : (0 : Int) ≤ (P : Int) := by omega
          have z1 : (P : Int) ≤ (cp : Int) := by omega
          have z2 : (P : Int) ≤ (F.length : Int) := by omega
          by_cases hcp : cp = P
          · have HF0 := Lib.hid hPl
            have hFP : F.length = P := by omega
            obtain rfl : P = cp := hcp.symm
            go_wp2_with (first
              | (at_builtin; (refine wpList_append_row rfl (.tmp 83) (.tmp 89) 28 rfl w.heap.size 51 i0 (.agg #[.int .i64 0, .string ⟨#[]⟩, .int .i64 0]) 3 32 Try.underlying28 hi hz0 hz1 hz2 rfl (by decide) _ 0 [] rfl HE0.out (wr.heap.size + 1) (some ⟨gq, 0, none⟩) P P (flatF ((F.drop 0).take P)) (by first | rfl | (simp; done)) (by simpa using cells_part HR1.out (by omega) 0 P P (by omega)) (by intro u hu; exact flat1 _ u hu) (by unfold maxLen; omega) (by omega) (by first | omega | (simp; omega)) ?_); intro v1 x1 hown1 hb1; have hs1 := hb1.size; have HX1 : Hid (x1.ownsRow w.heap.size 51 3 v1 (0 + P) ([] ++ flatF ((F.drop 0).take P))) := Lib.hid hown1; have HY1 := Lib.hid (HB0.out.trans hb1); clear hown1 hb1; have HX2 := Lib.hid (row_belowL HX1.out ((Below.refl x1.heap.size x1).alloc (Nat.le_refl _) (.cells #[.int .i64 z, Value.string s, .int .i64 1] 51))); have HC2 : Hid (Cells (x1.alloc (.cells #[.int .i64 z, Value.string s, .int .i64 1] 51)) (x1.heap.size + 1) (some ⟨x1.heap.size, 0, none⟩) 1 1 3 [.int .i64 z, Value.string s, .int .i64 1]) := Lib.hid ⟨rfl, (fun e => by cases e), fun j u hu => ⟨_, _, rfl, by omega, by rw [Nat.zero_add, (Whl.new rfl).cell]; simpa using hu⟩⟩; have HY2 := Lib.hid (HY1.out.alloc (by have := HY1.out.size; omega) (.cells #[.int .i64 z, Value.string s, .int .i64 1] 51)); have hz2s : (x1.alloc (.cells #[.int .i64 z, Value.string s, .int .i64 1] 51)).heap.size = x1.heap.size + 1 := by simp)
              | (at_builtin; (refine wpList_append_row rfl (.tmp 90) (.tmp 94) 28 rfl w.heap.size 51 i0 (.agg #[.int .i64 0, .string ⟨#[]⟩, .int .i64 0]) 3 32 Try.underlying28 hi hz0 hz1 hz2 rfl (by decide) v1 (0 + P) ([] ++ flatF ((F.drop 0).take P)) rfl HX2.out (x1.heap.size + 1) (some ⟨x1.heap.size, 0, none⟩) 1 1 [.int .i64 z, Value.string s, .int .i64 1] (by first | rfl | (simp; done)) HC2.out (by intro u hu; simp at hu; rcases hu with rfl | rfl | rfl <;> rfl) (by unfold maxLen; omega) (by omega) (by first | omega | (simp; omega)) ?_); intro v2 x2 hown2 hb2; have hs2 := hb2.size; have HY3 := Lib.hid (HY2.out.trans hb2); have cb2 : x2.cell? ⟨b, 0, none⟩ = some (.slice (some ⟨gq, 0, none⟩) F.length P) := bkeep HY3.out (HL.out.cell 0) hlow; have HX3 := Lib.hid hown2; have HR2 := Lib.hid (row_belowL HR.out HY3.out); clear hown2 hb2)
              | (at_builtin; (refine wpList_append_row rfl (.tmp 97) (.tmp 103) 28 rfl w.heap.size 51 i0 (.agg #[.int .i64 0, .string ⟨#[]⟩, .int .i64 0]) 3 32 Try.underlying28 hi hz0 hz1 hz2 rfl (by decide) v2 (0 + P + 1) ([] ++ flatF ((F.drop 0).take P) ++ [.int .i64 z, Value.string s, .int .i64 1]) rfl HX3.out x2.heap.size (some ⟨gq, 0, none⟩) 0 0 (flatF ((F.drop P).take 0)) (by first | rfl | (simp; done)) ⟨by simp [flatF], (fun e => by cases e), fun j u hu => by simp [flatF] at hu⟩ (by intro u hu; exact flat1 _ u hu) (by unfold maxLen; omega) (by omega) (by first | omega | (simp; omega)) ?_); intro v3 x3 hown3 hb3; have hs3 := hb3.size; obtain ⟨A3, k3, rfl, _, _, _⟩ := own_slice hown3; have HY4 := Lib.hid (HY3.out.trans hb3); have cb3 : x3.cell? ⟨b, 0, none⟩ = some (.slice (some ⟨gq, 0, none⟩) F.length P) := bkeep HY4.out (HL.out.cell 0) hlow; have fb3 : x3.frozen? ⟨b, 0, none⟩ = false := bfree HY4.out (HL.out.free 0) hlow; have HX4 := Lib.hid hown3; clear hown3 hb3)
              | fail)
            have hrow : x3.ownsRow w.heap.size 51 3 (.slice A3 (0 + P + 1 + 0) k3) (0 + P + 1 + 0) (flatF (hitF F z k)) := by
              have := HX4.out
              rw [HNEW.out, flatF_app, flatF_cons]
              have hd : F.drop P = [] := List.drop_eq_nil_of_le (by omega)
              have hse : encStr k = .string s := by rw [HKS.out, bytes_data]
              rw [hd]
              simpa [cellV, hse, flatF] using this
            have hst := RfS.stored hlow (HL.out.below HY4.out hlow) (by rw [HNEW.out, List.length_append, List.length_cons, List.length_take, List.length_drop]; have := HF0.out; omega) HY4.out hrow
            simp only [Nat.zero_add, Nat.add_zero] at hst
            refine bodyPost_end (v := .tuple #[]) (by simp [results, Try.results8, go_sem]) rfl ⟨rfl, ?_, hst.2.mono (fun x hx => .inl hx)⟩
            obtain ⟨fr', hq1, hq2⟩ := hst.1
            exact ⟨fr', hq1, fun g hg => .inr (hq2 g hg)⟩
          · have HF0 := Lib.hid hPl
            go_wp2_with (first
              | (at_builtin; (refine wpList_append_row rfl (.tmp 83) (.tmp 89) 28 rfl w.heap.size 51 i0 (.agg #[.int .i64 0, .string ⟨#[]⟩, .int .i64 0]) 3 32 Try.underlying28 hi hz0 hz1 hz2 rfl (by decide) _ 0 [] rfl HE0.out (wr.heap.size + 1) (some ⟨gq, 0, none⟩) P cp (flatF ((F.drop 0).take P)) (by first | rfl | (simp; done)) (by simpa using cells_part HR1.out (by omega) 0 P cp (by omega)) (by intro u hu; exact flat1 _ u hu) (by unfold maxLen; omega) (by omega) (by first | omega | (simp; omega)) ?_); intro v1 x1 hown1 hb1; have hs1 := hb1.size; have HX1 : Hid (x1.ownsRow w.heap.size 51 3 v1 (0 + P) ([] ++ flatF ((F.drop 0).take P))) := Lib.hid hown1; have HY1 := Lib.hid (HB0.out.trans hb1); clear hown1 hb1; have HX2 := Lib.hid (row_belowL HX1.out ((Below.refl x1.heap.size x1).alloc (Nat.le_refl _) (.cells #[.int .i64 z, Value.string s, .int .i64 1] 51))); have HC2 : Hid (Cells (x1.alloc (.cells #[.int .i64 z, Value.string s, .int .i64 1] 51)) (x1.heap.size + 1) (some ⟨x1.heap.size, 0, none⟩) 1 1 3 [.int .i64 z, Value.string s, .int .i64 1]) := Lib.hid ⟨rfl, (fun e => by cases e), fun j u hu => ⟨_, _, rfl, by omega, by rw [Nat.zero_add, (Whl.new rfl).cell]; simpa using hu⟩⟩; have HY2 := Lib.hid (HY1.out.alloc (by have := HY1.out.size; omega) (.cells #[.int .i64 z, Value.string s, .int .i64 1] 51)); have hz2s : (x1.alloc (.cells #[.int .i64 z, Value.string s, .int .i64 1] 51)).heap.size = x1.heap.size + 1 := by simp)
              | (at_builtin; (refine wpList_append_row rfl (.tmp 90) (.tmp 94) 28 rfl w.heap.size 51 i0 (.agg #[.int .i64 0, .string ⟨#[]⟩, .int .i64 0]) 3 32 Try.underlying28 hi hz0 hz1 hz2 rfl (by decide) v1 (0 + P) ([] ++ flatF ((F.drop 0).take P)) rfl HX2.out (x1.heap.size + 1) (some ⟨x1.heap.size, 0, none⟩) 1 1 [.int .i64 z, Value.string s, .int .i64 1] (by first | rfl | (simp; done)) HC2.out (by intro u hu; simp at hu; rcases hu with rfl | rfl | rfl <;> rfl) (by unfold maxLen; omega) (by omega) (by first | omega | (simp; omega)) ?_); intro v2 x2 hown2 hb2; have hs2 := hb2.size; have HY3 := Lib.hid (HY2.out.trans hb2); have cb2 : x2.cell? ⟨b, 0, none⟩ = some (.slice (some ⟨gq, 0, none⟩) F.length cp) := bkeep HY3.out (HL.out.cell 0) hlow; have HX3 := Lib.hid hown2; have HR2 := Lib.hid (row_belowL HR.out HY3.out); clear hown2 hb2)
              | (at_builtin; (refine wpList_append_row rfl (.tmp 97) (.tmp 103) 28 rfl w.heap.size 51 i0 (.agg #[.int .i64 0, .string ⟨#[]⟩, .int .i64 0]) 3 32 Try.underlying28 hi hz0 hz1 hz2 rfl (by decide) v2 (0 + P + 1) ([] ++ flatF ((F.drop 0).take P) ++ [.int .i64 z, Value.string s, .int .i64 1]) rfl HX3.out x2.heap.size (some ⟨gq, P * 3, none⟩) (F.length - P) (cp - P) (flatF ((F.drop P).take (F.length - P))) (by first | rfl | (simp; done)) (cells_part HR2.out (Nat.le_refl _) P (F.length - P) (cp - P) (by omega)) (by intro u hu; exact flat1 _ u hu) (by unfold maxLen; omega) (by omega) (by first | omega | (simp; omega)) ?_); intro v3 x3 hown3 hb3; have hs3 := hb3.size; obtain ⟨A3, k3, rfl, _, _, _⟩ := own_slice hown3; have HY4 := Lib.hid (HY3.out.trans hb3); have cb3 : x3.cell? ⟨b, 0, none⟩ = some (.slice (some ⟨gq, 0, none⟩) F.length cp) := bkeep HY4.out (HL.out.cell 0) hlow; have fb3 : x3.frozen? ⟨b, 0, none⟩ = false := bfree HY4.out (HL.out.free 0) hlow; have HX4 := Lib.hid hown3; clear hown3 hb3)
              | fail)
            have hrow : x3.ownsRow w.heap.size 51 3 (.slice A3 (0 + P + 1 + (F.length - P)) k3) (0 + P + 1 + (F.length - P)) (flatF (hitF F z k)) := by
              have := HX4.out
              rw [HNEW.out, flatF_app, flatF_cons]
              rw [List.drop_zero, List.take_of_length_le (l := F.drop P) (by rw [List.length_drop]; omega)] at this
              have hse : encStr k = .string s := by rw [HKS.out, bytes_data]
              simpa [cellV, hse] using this
            have hst := RfS.stored hlow (HL.out.below HY4.out hlow) (by rw [HNEW.out, List.length_append, List.length_cons, List.length_take, List.length_drop]; have := HF0.out; omega) HY4.out hrow
            simp only [Nat.zero_add] at hst
            refine bodyPost_end (v := .tuple #[]) (by simp [results, Try.results8, go_sem]) rfl ⟨rfl, ?_, hst.2.mono (fun x hx => .inl hx)⟩
            obtain ⟨fr', hq1, hq2⟩ := hst.1
            exact ⟨fr', hq1, fun g hg => .inr (hq2 g hg)⟩
end Go.Proofs.Ytfakfnekcgkelaa
