/- The document's load in memory: Gone, Fade. -/
import Derived.Test.YtfakfnekcgkelaaLpA
namespace Go.Proofs.Ytfakfnekcgkelaa
open Go.RowKit Go.MapKept
set_option linter.unusedVariables false
set_option linter.unusedSimpArgs false

theorem Try.infoCell : (Try.prog.info? 51).map (fun i => (i.zero, i.size, i.bytes)) = some (some (.agg #[.int .i64 0, .string ⟨#[]⟩, .int .i64 0]), 3, 32) := by kernel_rfl
def cellV (c : Zk × Int) : List Value := [.int .i64 c.1.1, encStr c.1.2, .int .i64 c.2]
def flatF (F : Fc) : List Value := F.flatMap cellV
theorem flatF_app (a b : Fc) : flatF (a ++ b) = flatF a ++ flatF b := by simp [flatF]
theorem flatF_len : ∀ (l : Fc), (flatF l).length = l.length * 3
  | [] => rfl
  | a :: r => by
    have e : (flatF (a :: r)).length = 3 + (flatF r).length := by simp only [flatF, List.flatMap_cons, List.length_append]; rfl
    rw [e, flatF_len r, List.length_cons]; omega
theorem flatF_at : ∀ (l : Fc) (j : Nat) (h : j < l.length), (flatF l)[j * 3]? = some (.int .i64 l[j].1.1) ∧ (flatF l)[j * 3 + 1]? = some (encStr l[j].1.2) ∧ (flatF l)[j * 3 + 2]? = some (.int .i64 l[j].2)
  | [], j, h => by cases h
  | a :: r, 0, h => by simp [flatF, cellV]
  | a :: r, j + 1, h => by
    have := flatF_at r j (by simpa using h)
    have e : (j + 1) * 3 = j * 3 + 3 := by omega
    simp only [flatF, List.flatMap_cons, cellV, List.getElem_cons_succ] at this ⊢
    rw [e]
    exact this
/-- block b is the document's load with these cells; fr: the block of its row -/
def RfS (w : World) (b : Nat) (fr : Option Nat) (F : Fc) : Prop :=
  ∃ v, Whl w b 30 #[v] ∧ v.ownBlock = fr ∧ w.ownsRow 0 51 3 v F.length (flatF F) ∧ fr ≠ some b
theorem RfS.low {w : World} {b : Nat} {fr : Option Nat} {F : Fc} (h : RfS w b fr F) : b < w.heap.size := by
  obtain ⟨v, h1, _⟩ := h; exact h1.low
theorem RfS.lows {w : World} {b : Nat} {fr : Option Nat} {F : Fc} (h : RfS w b fr F) : ∀ g, fr = some g → g < w.heap.size := by
  obtain ⟨v, h1, h2, h3, _⟩ := h
  intro g hg
  exact (h3.lt g (h2.trans hg)).2
theorem RfS.keep {D : Nat → Prop} {w w' : World} {b : Nat} {fr : Option Nat} {F : Fc} (h : RfS w b fr F) (ht : Touch D w w') (hb : ¬ D b) (hf : ∀ g, fr = some g → ¬ D g) : RfS w' b fr F := by
  have hl := h.low
  obtain ⟨v, h1, h2, h3, h4⟩ := h
  exact ⟨v, (ht.block b hl hb).trans h1, h2, ht.own h3 (fun g hg => hf g (h2.symm.trans hg)), h4⟩
theorem own_of {w : World} {base e size n : Nat} {v : Value} {xs : List Value} (h : w.ownsRow base e size v n xs) : v.ownBlock = none ∨ ∃ g, v.ownBlock = some g ∧ base ≤ g := by
  rcases h.2 with ⟨rfl, _⟩ | ⟨g, _, _, rfl, hg, _⟩
  · exact .inl rfl
  · exact .inr ⟨g, rfl, hg⟩
/-- behind a store of a fresh row -/
theorem RfS.stored {w W : World} {b n : Nat} {v : Value} {F : Fc} (hb : b < w.heap.size) {u : Value} (h1 : Whl W b 30 #[u]) (hn : F.length = n) (hB : Below w.heap.size w W) (h : W.ownsRow w.heap.size 51 3 v n (flatF F)) :
    (∃ fr, RfS (W.setCell ⟨b, 0, none⟩ v) b fr F ∧ (∀ g, fr = some g → w.heap.size ≤ g)) ∧ Touch (fun x => x = b) w (W.setCell ⟨b, 0, none⟩ v) := by
  subst hn
  have hown : ∀ g, v.ownBlock = some g → w.heap.size ≤ g := fun g hg => by
    rcases own_of h with e | ⟨g', e, hg'⟩
    · rw [hg] at e; cases e
    · rw [hg] at e; injection e with e; omega
  refine ⟨⟨v.ownBlock, ⟨v, h1.set 0 v, rfl, ?_, fun e => by have := hown b e; omega⟩, hown⟩, ?_⟩
  · exact (own_set_ne (h.mono (Nat.zero_le _)) (fun g hg => by have := hown g hg; simp; omega))
  · exact ⟨hB.os, hB.tape, hB.output, by simpa [World.setCell] using hB.size, fun k hk hn => (Below.heap_setCell _ _ _ _ (by simp; exact hn)).trans (hB.block k hk)⟩
set_option maxHeartbeats 2000000 in
set_option maxRecDepth 10000 in
theorem refGone (b : Nat) (fr : Option Nat) (F : Fc) (z : Int) (w : World) (h : RfS w b fr F) (hlen : F.length ≤ 100000) :
    Calls Try.prog 12 #[.pointer (some ⟨b, 0, none⟩), .int .i64 z] w fun e w' => e = .returned (.tuple #[]) ∧ (∃ fr', RfS w' b fr' (goneF F z) ∧ (∀ g, fr' = some g → w.heap.size ≤ g)) ∧ Touch (fun x => x = b) w w' := by
  obtain ⟨i0, hi, hz0, hz1, hz2⟩ := info_parts Try.infoCell
  have hlow := h.low
  obtain ⟨v, h1, h2, h3, h4⟩ := h
  obtain ⟨A, cp, rfl, hq1, hq2, hq3⟩ := own_slice h3
  have HL := Lib.hid h1
  have HR := Lib.hid h3
  clear h1 h3 h2 h4
  go_enter Try.func12, Try.ntmps12
  go_wp2_with fail
  go_loopw [4, 5] (fun m i wr => ∃ (j n : Nat), j ≤ F.length ∧ i = .int .i64 j ∧ (goneF (F.take j) z).length = n ∧ n ≤ j ∧ wr.ownsRow w.heap.size 51 3 m n (flatF (goneF (F.take j) z)) ∧ Below w.heap.size w wr) (fun _ i _ => F.length - (intOf i).toNat)
  case atStart => exact ⟨0, 0, Nat.zero_le _, rfl, rfl, Nat.le_refl _, World.ownsRow_nil _ _ _ _, Below.refl _ _⟩
  case round =>
    obtain ⟨j, n, hj, rfl, hn, hnj, hown, hB⟩ := hrel
    have hBs := hB.size
    have cb : wr.cell? ⟨b, 0, none⟩ = some (.slice A F.length cp) := bkeep hB (HL.out.cell 0) hlow
    have fb : wr.frozen? ⟨b, 0, none⟩ = false := bfree hB (HL.out.free 0) hlow
    by_cases hjl : j < F.length
    · have q1 : (j : Int) < (F.length : Int) := by omega
      obtain ⟨gq, cq, e1, _, hgq, _, _⟩ := own_form HR.out (by omega)
      simp only [Value.slice.injEq, true_and] at e1
      obtain ⟨rfl, rfl⟩ := e1
      have hrw := row_belowL HR.out hB
      obtain ⟨y0, y1, y2⟩ := flatF_at F j hjl
      have a0 := (hrw.cellAt (j * 3) (by omega)).trans y0
      have a1 := (hrw.cellAt (j * 3 + 1) (by omega)).trans y1
      have a2 := (hrw.cellAt (j * 3 + 2) (by omega)).trans y2
      obtain ⟨⟨⟨zz, kk⟩, nn⟩, hcc⟩ : ∃ c : Zk × Int, c = F[j] := ⟨_, rfl⟩
      rw [← hcc] at a0 a1 a2
      simp only at a0 a1 a2
      have htk : F.take (j + 1) = F.take j ++ [((zz, kk), nn)] := by rw [List.take_add_one, List.getElem?_eq_getElem hjl, ← hcc]; rfl
      clear y0 y1 y2 hrw hcc
      by_cases hzz : zz = z
      · subst hzz
        have htg : goneF (F.take (j + 1)) zz = goneF (F.take j) zz := by rw [htk]; simp [goneF]
        have HTG := Lib.hid htg
        have HO := Lib.hid hown
        have HN := Lib.hid hn
        clear htk htg hown hn
        go_wp2_with fail
        exact ⟨⟨j + 1, n, by omega, by go_num, by rw [HTG.out]; exact HN.out, by omega, by rw [HTG.out]; exact HO.out, hB⟩, by simp [intOf]; omega⟩
      · have htg : goneF (F.take (j + 1)) z = goneF (F.take j) z ++ [((zz, kk), nn)] := by rw [htk]; simp [goneF, hzz]
        have HTG := Lib.hid htg
        have HN := Lib.hid hn
        have HT : Hid ((wr.alloc (.cells #[.int .i64 zz, encStr kk, .int .i64 nn] 51)).ownsRow w.heap.size 51 3 _ n (flatF (goneF (F.take j) z))) := Lib.hid (row_belowL hown ((Below.refl _ _).alloc (Nat.le_refl _) _))
        have HC : Hid (Cells (wr.alloc (.cells #[.int .i64 zz, encStr kk, .int .i64 nn] 51)) (wr.heap.size + 1) (some ⟨wr.heap.size, 0, none⟩) 1 1 3 [.int .i64 zz, encStr kk, .int .i64 nn]) := Lib.hid ⟨rfl, (fun e => by cases e), fun k u hu => ⟨_, _, rfl, by omega, by rw [Nat.zero_add, (Whl.new rfl).cell]; simpa using hu⟩⟩
        have HB := Lib.hid hB
        clear htk htg hown hn hB
        go_wp2_with (first
          | (at_builtin; go_must (refine wpList_append_row rfl (.tmp 25) (.tmp 33) 28 rfl w.heap.size 51 i0 (.agg #[.int .i64 0, .string ⟨#[]⟩, .int .i64 0]) 3 32 Try.underlying28 hi hz0 hz1 hz2 rfl (by decide) _ n (flatF (goneF (F.take j) z)) rfl HT.out (wr.heap.size + 1) (some ⟨wr.heap.size, 0, none⟩) 1 1 [.int .i64 zz, encStr kk, .int .i64 nn] rfl HC.out (by intro u hu; simp at hu; rcases hu with rfl | rfl | rfl <;> rfl) (by unfold maxLen; omega) (by omega) (by simp; omega) ?_); intro v6 w6 hown6 hb6; have HO6 := Lib.hid hown6; have HB6 := Lib.hid hb6; clear hown6 hb6)
          | fail)
        refine ⟨⟨j + 1, n + 1, by omega, by go_num, by rw [HTG.out, List.length_append, HN.out]; rfl, by omega, ?_, (HB.out.alloc hBs _).trans HB6.out⟩, by simp [intOf]; omega⟩
        rw [HTG.out, flatF_app]; exact HO6.out
    · obtain rfl : j = F.length := by omega
      rw [List.take_length] at hown hn
      obtain ⟨Am, cm, rfl, _, _, _⟩ := own_slice hown
      have hfin := RfS.stored hlow (HL.out.below hB hlow) hn hB hown
      have HF := Lib.hid hfin
      clear hfin hown hn
      go_wp2_with fail
      refine bodyPost_end (v := .tuple #[]) (by simp [results, Try.results12, go_sem]) rfl ⟨rfl, HF.out.1, HF.out.2⟩
theorem half_pos {a : Int} (h : 0 ≤ a) : a.tdiv 2 = a / 2 := Int.tdiv_eq_ediv_of_nonneg h
set_option maxHeartbeats 2000000 in
set_option maxRecDepth 10000 in
theorem refFade (b : Nat) (fr : Option Nat) (F : Fc) (w : World) (h : RfS w b fr F) (hlen : F.length ≤ 100000) (hpos : ∀ c ∈ F, 0 ≤ c.2 ∧ c.2 ≤ 1048576) :
    Calls Try.prog 10 #[.pointer (some ⟨b, 0, none⟩)] w fun e w' => e = .returned (.tuple #[]) ∧ (∃ fr', RfS w' b fr' (fadeF F) ∧ (∀ g, fr' = some g → w.heap.size ≤ g)) ∧ Touch (fun x => x = b) w w' := by
  obtain ⟨i0, hi, hz0, hz1, hz2⟩ := info_parts Try.infoCell
  have hlow := h.low
  obtain ⟨v, h1, h2, h3, h4⟩ := h
  obtain ⟨A, cp, rfl, hq1, hq2, hq3⟩ := own_slice h3
  have HL := Lib.hid h1
  have HR := Lib.hid h3
  have HP := Lib.hid hpos
  clear h1 h3 h2 h4 hpos
  go_enter Try.func10, Try.ntmps10
  go_wp2_with fail
  go_loopw [2, 3] (fun m i wr => ∃ (j n : Nat), j ≤ F.length ∧ i = .int .i64 j ∧ (fadeF (F.take j)).length = n ∧ n ≤ j ∧ wr.ownsRow w.heap.size 51 3 m n (flatF (fadeF (F.take j))) ∧ Below w.heap.size w wr) (fun _ i _ => F.length - (intOf i).toNat)
  case atStart => exact ⟨0, 0, Nat.zero_le _, rfl, rfl, Nat.le_refl _, World.ownsRow_nil _ _ _ _, Below.refl _ _⟩
  case round =>
    obtain ⟨j, n, hj, rfl, hn, hnj, hown, hB⟩ := hrel
    have hBs := hB.size
    have cb : wr.cell? ⟨b, 0, none⟩ = some (.slice A F.length cp) := bkeep hB (HL.out.cell 0) hlow
    have fb : wr.frozen? ⟨b, 0, none⟩ = false := bfree hB (HL.out.free 0) hlow
    by_cases hjl : j < F.length
    · have q1 : (j : Int) < (F.length : Int) := by omega
      obtain ⟨gq, cq, e1, _, hgq, _, _⟩ := own_form HR.out (by omega)
      simp only [Value.slice.injEq, true_and] at e1
      obtain ⟨rfl, rfl⟩ := e1
      have hrw := row_belowL HR.out hB
      obtain ⟨y0, y1, y2⟩ := flatF_at F j hjl
      have a0 := (hrw.cellAt (j * 3) (by omega)).trans y0
      have a1 := (hrw.cellAt (j * 3 + 1) (by omega)).trans y1
      have a2 := (hrw.cellAt (j * 3 + 2) (by omega)).trans y2
      have hp0 := HP.out _ (List.getElem_mem hjl)
      obtain ⟨⟨⟨zz, kk⟩, nn⟩, hcc⟩ : ∃ c : Zk × Int, c = F[j] := ⟨_, rfl⟩
      rw [← hcc] at a0 a1 a2 hp0
      simp only at a0 a1 a2 hp0
      have htk : F.take (j + 1) = F.take j ++ [((zz, kk), nn)] := by rw [List.take_add_one, List.getElem?_eq_getElem hjl, ← hcc]; rfl
      have hdiv : nn.tdiv 2 = nn / 2 := half_pos hp0.1
      clear y0 y1 y2 hrw hcc
      obtain ⟨W, hW⟩ : ∃ W, W = wr.alloc (.cells #[.int .i64 zz, encStr kk, .int .i64 (nn / 2)] 51) := ⟨_, rfl⟩
      have hzW : W.heap.size = wr.heap.size + 1 := by rw [hW]; simp
      have hrowW := row_belowL hown ((Below.refl wr.heap.size wr).alloc (Nat.le_refl _) (.cells #[.int .i64 zz, encStr kk, .int .i64 (nn / 2)] 51))
      rw [← hW] at hrowW
      have hBW : Below w.heap.size w W := by rw [hW]; exact hB.alloc hBs _
      by_cases hzz : 0 < nn / 2
      · have htg : fadeF (F.take (j + 1)) = fadeF (F.take j) ++ [((zz, kk), nn / 2)] := by rw [htk]; simp [fadeF, hzz]
        have HTG := Lib.hid htg
        have HN := Lib.hid hn
        have HT := Lib.hid (row_belowL hrowW ((Below.refl W.heap.size W).alloc (Nat.le_refl _) (.cells #[.int .i64 zz, encStr kk, .int .i64 (nn / 2)] 51)))
        have HC : Hid (Cells (W.alloc (.cells #[.int .i64 zz, encStr kk, .int .i64 (nn / 2)] 51)) (W.heap.size + 1) (some ⟨W.heap.size, 0, none⟩) 1 1 3 [.int .i64 zz, encStr kk, .int .i64 (nn / 2)]) := Lib.hid ⟨rfl, (fun e => by cases e), fun k u hu => ⟨_, _, rfl, by omega, by rw [Nat.zero_add, (Whl.new rfl).cell]; simpa using hu⟩⟩
        have HBW := Lib.hid hBW
        clear htk htg hown hn hB hBW hrowW
        subst hW
        clear hzW
        go_wp2_with (first
          | (at_builtin; go_must (refine wpList_append_row rfl (.tmp 28) (.tmp 30) 28 rfl w.heap.size 51 i0 (.agg #[.int .i64 0, .string ⟨#[]⟩, .int .i64 0]) 3 32 Try.underlying28 hi hz0 hz1 hz2 rfl (by decide) _ n (flatF (fadeF (F.take j))) rfl HT.out ((wr.alloc (.cells #[.int .i64 zz, encStr kk, .int .i64 (nn / 2)] 51)).heap.size + 1) (some ⟨(wr.alloc (.cells #[.int .i64 zz, encStr kk, .int .i64 (nn / 2)] 51)).heap.size, 0, none⟩) 1 1 [.int .i64 zz, encStr kk, .int .i64 (nn / 2)] (by simp; rfl) HC.out (by intro u hu; simp at hu; rcases hu with rfl | rfl | rfl <;> rfl) (by unfold maxLen; omega) (by omega) (by simp; omega) ?_); intro v6 w6 hown6 hb6; have HO6 := Lib.hid hown6; have HB6 := Lib.hid hb6; clear hown6 hb6)
          | fail)
        refine ⟨⟨j + 1, n + 1, by omega, by go_num, by rw [HTG.out, List.length_append, HN.out]; rfl, by omega, ?_, (HBW.out.alloc (by simp; omega) _).trans HB6.out⟩, by simp [intOf]; omega⟩
        rw [HTG.out, flatF_app]; exact HO6.out
      · have htg : fadeF (F.take (j + 1)) = fadeF (F.take j) := by rw [htk]; simp [fadeF, hzz]
        have HTG := Lib.hid htg
        have HO := Lib.hid hrowW
        have HN := Lib.hid hn
        have HBW := Lib.hid hBW
        clear htk htg hown hn hB hBW hrowW
        subst hW
        clear hzW
        go_wp2_with fail
        exact ⟨⟨j + 1, n, by omega, by go_num, by rw [HTG.out]; exact HN.out, by omega, by rw [HTG.out]; exact HO.out, HBW.out⟩, by simp [intOf]; omega⟩
    · obtain rfl : j = F.length := by omega
      rw [List.take_length] at hown hn
      obtain ⟨Am, cm, rfl, _, _, _⟩ := own_slice hown
      have hfin := RfS.stored hlow (HL.out.below hB hlow) hn hB hown
      have HF := Lib.hid hfin
      clear hfin hown hn
      go_wp2_with fail
      refine bodyPost_end (v := .tuple #[]) (by simp [results, Try.results10, go_sem]) rfl ⟨rfl, HF.out.1, HF.out.2⟩
end Go.Proofs.Ytfakfnekcgkelaa
