/- The document's load: its Table. -/
import Derived.Test.YtfakfnekcgkelaaLpI
import Derived.ProofKit
import Derived.Deep.RegionLaw
namespace Go.Proofs.Ytfakfnekcgkelaa
open Go.RowKit
set_option linter.unusedVariables false
set_option linter.unusedSimpArgs false

theorem wrapIn {n : Int} (h1 : -1 ≤ n) (h2 : n ≤ 1048576000000) : wrap64 n = n := by unfold wrap64; omega
theorem wrapInK {n : Int} (h1 : -1 ≤ n) (h2 : n ≤ 1048576000000) : IntKind.i64.wrap n = n := by rw [IntKind.wrap_i64]; omega
theorem wrapNat (m : Nat) (h : m + 1 ≤ 100000) : wrap64 (m : Int) = m := by unfold wrap64; omega
theorem wrapNatK (m : Nat) (h : m + 1 ≤ 100000) : IntKind.i64.wrap (m : Int) = m := by rw [IntKind.wrap_i64]; omega
theorem wrapNat1 (m : Nat) (h : m + 1 ≤ 100000) : wrap64 ((m : Int) + 1) = (m : Int) + 1 := by unfold wrap64; omega
theorem wrapSum {h0 nn : Int} {j : Nat} (h : 0 ≤ h0 ∧ h0 ≤ 1048576 * (j : Int)) (hn : 1 ≤ nn ∧ nn ≤ 1048576) (hj : j ≤ 100000) : wrap64 (h0 + nn) = h0 + nn := by unfold wrap64; omega
theorem wrapSumK {h0 nn : Int} {j : Nat} (h : 0 ≤ h0 ∧ h0 ≤ 1048576 * (j : Int)) (hn : 1 ≤ nn ∧ nn ≤ 1048576) (hj : j ≤ 100000) : IntKind.i64.wrap (h0 + nn) = h0 + nn := by rw [IntKind.wrap_i64]; omega
theorem capA {n : Nat} (h : n ≤ 100000) : n + 1 ≤ maxLen := by unfold maxLen; omega
theorem capB {n : Nat} (h : n ≤ 100000) : (n + 1) * 32 ≤ 140737488355328 := by omega
theorem idx1 (n : Nat) : n * 3 + 1 < (n + 1) * 3 := by omega
theorem measJ {j L : Nat} (h : j < L) : L - (intOf (.int .i64 ((j : Int) + 1))).toNat < L - (intOf (.int .i64 (j : Int))).toNat := by simp [intOf]; omega
theorem wrapPre {n m : Nat} (h : n = m + 1) (h5 : n ≤ 100000) : wrap64 ((n : Int) - 1) = m := by unfold wrap64; omega
theorem wrapPreK {n m : Nat} (h : n = m + 1) (h5 : n ≤ 100000) : IntKind.i64.wrap ((n : Int) - 1) = m := by rw [IntKind.wrap_i64]; omega
theorem wrapNxt {n m : Nat} (h : n = m + 1) (h5 : n ≤ 100000) : wrap64 ((m : Int) + 1) = (n : Int) := by unfold wrap64; omega
theorem ix0 {j L : Nat} (h : j < L) : j * 3 < L * 3 := by omega
theorem ix1 {j L : Nat} (h : j < L) : j * 3 + 1 < L * 3 := by omega
theorem ix2 {j L : Nat} (h : j < L) : j * 3 + 2 < L * 3 := by omega
theorem wrapTwo {a : Int} (h : 0 ≤ a ∧ a ≤ 104857600000) : wrap64 (2 * a) = 2 * a := by unfold wrap64; omega
theorem wrapTwoK {a : Int} (h : 0 ≤ a ∧ a ≤ 104857600000) : IntKind.i64.wrap (2 * a) = 2 * a := by rw [IntKind.wrap_i64]; omega
theorem wrapAdd {a b : Int} (h : 0 ≤ a ∧ a ≤ 104857600000) (k : 1 ≤ b ∧ b ≤ 1048576) : wrap64 (a + b) = a + b := by unfold wrap64; omega
theorem boundA {a : Int} {n : Nat} (h : 0 ≤ a ∧ a ≤ 0 + 1048576 * (n : Int)) (k : n ≤ 100000) : 0 ≤ a ∧ a ≤ 104857600000 := by omega
theorem own_heap {w w' : World} {base e size n : Nat} {v : Value} {xs : List Value} (h : w.ownsRow base e size v n xs) (e1 : w'.heap = w.heap) : w'.ownsRow base e size v n xs := ⟨h.1, by rw [e1]; exact h.2⟩
set_option maxRecDepth 100000 in
theorem indexRow (g n c m : Nat) (hm : m < n) (w : World) : (Instr.indexAt 36 (.slice (some ⟨g, 0, none⟩) n c) (.int .i64 (m : Int))).run Try.prog w = .ok (.pointer (some ⟨g, m * 3, none⟩)) w := by
  have hsz : (sizeOf (Try.prog.elem 36)).run Try.prog w = .ok 3 w := by kernel_rfl
  rw [run_indexAt_slice _ _ _ _ _ _ _ Try.underlying36, if_pos ⟨by omega, by omega⟩, hsz]
  simp [Result.andThen, Addr.add]
  omega
set_option maxHeartbeats 2000000 in
set_option maxRecDepth 10000 in
theorem refTable (b : Nat) (fr : Option Nat) (K : Ks) (w : World) (h : RfS w b fr (flatK K)) (hlen : (flatK K).length ≤ 100000) (hK : OKs K) :
    Calls Try.prog 15 #[.pointer (some ⟨b, 0, none⟩)] w fun e w' => ∃ v, e = .returned v ∧ w'.ownsRow w.heap.size 54 3 v K.length (flatR (tabK K)) ∧ Below w.heap.size w w' := by
  obtain ⟨F, hF⟩ : ∃ F, F = flatK K := ⟨_, rfl⟩
  rw [← hF] at h hlen
  obtain ⟨i0, hi, hz0, hz1, hz2⟩ := info_parts Try.infoRow2
  have hlow := h.low
  obtain ⟨v, h1, h2, h3, h4⟩ := h
  obtain ⟨A, cp, rfl, hq1, hq2, hq3⟩ := own_slice h3
  have HL := Lib.hid h1
  have HR := Lib.hid h3
  have HF := Lib.hid hF
  have HK := Lib.hid hK
  have HP : Hid (∀ c ∈ F, 1 ≤ c.2 ∧ c.2 ≤ 1048576) := Lib.hid (by rw [hF]; exact flat_pos hK)
  clear h1 h3 h2 h4 hF hK
  go_enter Try.func15, Try.ntmps15
  go_wp2_with fail
  go_loopw [3, 4] (fun out i wr => ∃ (j n : Nat) (S : List (Int × Int)) (vo : Value), out = vo ∧ j ≤ F.length ∧ i = .int .i64 j ∧ S = (F.take j).foldl step1 [] ∧ S.length = n ∧ n ≤ j ∧ (∀ p ∈ S, 0 ≤ p.2 ∧ p.2 ≤ 1048576 * (j : Int)) ∧ wr.ownsRow w.heap.size 54 3 vo n (flatR (S.map r1)) ∧ Below w.heap.size w wr) (fun _ i _ => F.length - (intOf i).toNat)
  case atStart => exact ⟨0, 0, [], _, rfl, Nat.zero_le _, rfl, rfl, rfl, Nat.le_refl _, by simp, World.ownsRow_nil _ _ _ _, Below.refl _ _⟩
  case round =>
    obtain ⟨j, n, S, vo, hvo, hj, rfl, hS, hn, hnj, hbd, hown, hB⟩ := hrel
    have hvo := hvo.symm
    subst hvo
    have hlenv : ∀ w, (Builtin.len_ #[36] 3 #[vo]).run Try.prog w = .ok (.int .i64 n) w := fun w => by
      obtain ⟨Ao, co, e, _, _, _⟩ := own_slice hown
      rw [e]
      exact run_len_slice (P := Try.prog) w _ _ _ _ _ Try.underlying36
    have hBs := hB.size
    have cb : wr.cell? ⟨b, 0, none⟩ = some (.slice A F.length cp) := bkeep hB (HL.out.cell 0) hlow
    by_cases hjl : j < F.length
    · have q1 : (j : Int) < (F.length : Int) := by omega
      obtain ⟨gq, cq, e1, _, hgq, _, _⟩ := own_form HR.out (by omega)
      simp only [Value.slice.injEq, true_and] at e1
      obtain ⟨rfl, rfl⟩ := e1
      have hrw := row_belowL HR.out hB
      obtain ⟨y0, y1, y2⟩ := flatF_at F j hjl
      have a0 := (hrw.cellAt (j * 3) (by omega)).trans y0
      have a2 := (hrw.cellAt (j * 3 + 2) (by omega)).trans y2
      have hp0 := HP.out _ (List.getElem_mem hjl)
      have hj32 : j * 3 + 2 < F.length * 3 := by omega
      have hn5 : n ≤ 100000 := by omega
      have htk : F.take (j + 1) = F.take j ++ [F[j]] := by rw [List.take_add_one, List.getElem?_eq_getElem hjl]; rfl
      have hst1 : (F.take (j + 1)).foldl step1 [] = step1 S F[j] := by rw [htk, List.foldl_append, ← hS]; rfl
      have hbd1 := step1_bound hbd (c := F[j]) ⟨by omega, hp0.2⟩ (by omega)
      rw [← hst1] at hbd1
      have HBD : Hid (∀ p ∈ (F.take (j + 1)).foldl step1 [], 0 ≤ p.2 ∧ p.2 ≤ 1048576 * ((j + 1 : Nat) : Int)) := Lib.hid (fun p hp => by have := hbd1 p hp; omega)
      obtain ⟨⟨⟨zz, kk⟩, nn⟩, hcc⟩ : ∃ c : Zk × Int, c = F[j] := ⟨_, rfl⟩
      rw [← hcc] at a0 a2 hp0 hst1 y2
      simp only at a0 a2 hp0 y2
      have HY2 := Lib.hid y2
      have HSL := Lib.hid hn
      have hwn : wrap64 nn = nn := wrapIn (by omega) (by omega)
      have hwnk : IntKind.i64.wrap nn = nn := wrapInK (by omega) (by omega)
      have HN3 : ∀ h : Int, Hid ((flatR (S.map r1 ++ [(zz, h, [])]))[n * 3 + 1]? = some (.int .i64 h)) := fun h => Lib.hid (by
        have := (flatR_at3 (S.map r1) [] (zz, h, [])).2.1
        rw [List.length_map, hn] at this
        exact this)
      have HT : Hid ((wr.alloc (.cells #[.int .i64 zz, .int .i64 0, .string ⟨#[]⟩] 54)).drew.ownsRow w.heap.size 54 3 vo n (flatR (S.map r1))) := Lib.hid (World.ownsRow.drew (World.ownsRow.alloc hown _))
      have HC : Hid (Cells (wr.alloc (.cells #[.int .i64 zz, .int .i64 0, .string ⟨#[]⟩] 54)).drew (wr.heap.size + 1) (some ⟨wr.heap.size, 0, none⟩) 1 1 3 [.int .i64 zz, .int .i64 0, .string ⟨#[]⟩]) := Lib.hid ⟨rfl, (fun e => by cases e), fun k u hu => ⟨_, _, rfl, by omega, by rw [Nat.zero_add]; have := (Whl.new (w := wr) (t := 54) (cs := #[.int .i64 zz, .int .i64 0, .string ⟨#[]⟩]) rfl).cell k; exact this.trans (by simpa using hu)⟩⟩
      have HB0 : Hid (Below w.heap.size w (wr.alloc (.cells #[.int .i64 zz, .int .i64 0, .string ⟨#[]⟩] 54)).drew) := Lib.hid (hB.alloc hBs _).drew
      rcases (List.eq_nil_or_concat S).imp id (fun h => by obtain ⟨a, b, e⟩ := h; rw [List.concat_eq_append] at e; exact (⟨a, b, e⟩ : ∃ S' p, S = S' ++ [p])) with rfl | ⟨S', ⟨z0, h0⟩, rfl⟩
      · have hstep : (F.take (j + 1)).foldl step1 [] = [] ++ [(zz, nn)] := by rw [hst1]; rfl
        have HSTEP := Lib.hid hstep
        obtain rfl : n = 0 := by simpa using hn.symm
        clear hst1 hstep hbd hbd1 htk y0 y1 y2 hcc hrw hown hB hS hn
        go_wp2_with fail
        refine wp_region_held_drew (S := (fun _ => True)) (by kernel_rfl) trivial (fun hHeld => ?_)
        refine wpAnyH_take (i := 0) (oi := ⟨some 21, _, _, _, _, _⟩) (v := ?v0a) rfl (by kernel_rfl) (by kernel_rfl) (by kernel_rfl) (fun _ _ _ h => h) (Or.inl ⟨by rfl, ?y0a⟩) (by assumption) ?r0a
        case y0a => (intro w hSw; (try dsimp only at hSw); (try go_split_ands); go_simp); (try with_reducible rfl)
        case r0a =>
        (try simp only [Act.put, List.setIfInBounds_toArray, List.set_cons_zero, List.set_cons_succ])
        refine wpAnyH_take (i := 1) (oi := ⟨some 22, _, _, _, _, _⟩) (v := .bool true) rfl (by kernel_rfl) (by kernel_rfl) (by kernel_rfl) (fun _ _ _ h => h) (Or.inl ⟨by rfl, ?y1a⟩) (by assumption) ?r1a
        case y1a => (intro w hSw; (try dsimp only at hSw); (try go_split_ands); go_simp)
        case r1a =>
        (try simp only [Act.put, List.setIfInBounds_toArray, List.set_cons_zero, List.set_cons_succ])
        refine wpAnyH_take (i := 2) (oi := ⟨some 23, _, _, _, _, _⟩) (v := ?v2a) rfl (by kernel_rfl) (by kernel_rfl) (by kernel_rfl) (fun _ _ _ h => h) (Or.inl ⟨by rfl, ?y2a⟩) (by assumption) ?r2a
        case y2a => (intro w hSw; (try dsimp only at hSw); (try go_split_ands); go_simp); (try with_reducible rfl)
        case r2a =>
        (try simp only [Act.put, List.setIfInBounds_toArray, List.set_cons_zero, List.set_cons_succ])
        refine wpAnyH_take (i := 3) (oi := ⟨some 24, _, _, _, _, _⟩) (v := undef) rfl (by kernel_rfl) (by kernel_rfl) (by kernel_rfl) (fun _ _ _ h => h) (Or.inr ⟨by rfl, rfl⟩) (by assumption) ?_
        (try simp only [Act.put, List.setIfInBounds_toArray, List.set_cons_zero, List.set_cons_succ])
        refine wpAnyH_take (i := 4) (oi := ⟨some 25, _, _, _, _, _⟩) (v := undef) rfl (by kernel_rfl) (by kernel_rfl) (by kernel_rfl) (fun _ _ _ h => h) (Or.inr ⟨by rfl, rfl⟩) (by assumption) ?_
        (try simp only [Act.put, List.setIfInBounds_toArray, List.set_cons_zero, List.set_cons_succ])
        refine wpAnyH_take (i := 5) (oi := ⟨some 26, _, _, _, _, _⟩) (v := undef) rfl (by kernel_rfl) (by kernel_rfl) (by kernel_rfl) (fun _ _ _ h => h) (Or.inr ⟨by rfl, rfl⟩) (by assumption) ?_
        (try simp only [Act.put, List.setIfInBounds_toArray, List.set_cons_zero, List.set_cons_succ])
        refine wpAnyH_take (i := 6) (oi := ⟨some 27, _, _, _, _, _⟩) (v := undef) rfl (by kernel_rfl) (by kernel_rfl) (by kernel_rfl) (fun _ _ _ h => h) (Or.inr ⟨by rfl, rfl⟩) (by assumption) ?_
        (try simp only [Act.put, List.setIfInBounds_toArray, List.set_cons_zero, List.set_cons_succ])
        refine wpAnyH_take (i := 7) (oi := ⟨some 28, _, _, _, _, _⟩) (v := undef) rfl (by kernel_rfl) (by kernel_rfl) (by kernel_rfl) (fun _ _ _ h => h) (Or.inr ⟨by rfl, rfl⟩) (by assumption) ?_
        (try simp only [Act.put, List.setIfInBounds_toArray, List.set_cons_zero, List.set_cons_succ])
        refine wpAnyH_take (i := 8) (oi := ⟨some 29, _, _, _, _, _⟩) (v := undef) rfl (by kernel_rfl) (by kernel_rfl) (by kernel_rfl) (fun _ _ _ h => h) (Or.inr ⟨by rfl, rfl⟩) (by assumption) ?_
        (try simp only [Act.put, List.setIfInBounds_toArray, List.set_cons_zero, List.set_cons_succ])
        refine wpAnyH_take (i := 9) (oi := ⟨some 30, _, _, _, _, _⟩) (v := undef) rfl (by kernel_rfl) (by kernel_rfl) (by kernel_rfl) (fun _ _ _ h => h) (Or.inr ⟨by rfl, rfl⟩) (by assumption) ?_
        (try simp only [Act.put, List.setIfInBounds_toArray, List.set_cons_zero, List.set_cons_succ])
        refine wpAnyH_take (i := 10) (oi := ⟨some 31, _, _, _, _, _⟩) (v := undef) rfl (by kernel_rfl) (by kernel_rfl) (by kernel_rfl) (fun _ _ _ h => h) (Or.inr ⟨by rfl, rfl⟩) (by assumption) ?_
        (try simp only [Act.put, List.setIfInBounds_toArray, List.set_cons_zero, List.set_cons_succ])
        refine wpAnyH_take (i := 11) (oi := ⟨some 32, _, _, _, _, _⟩) (v := undef) rfl (by kernel_rfl) (by kernel_rfl) (by kernel_rfl) (fun _ _ _ h => h) (Or.inr ⟨by rfl, rfl⟩) (by assumption) ?_
        (try simp only [Act.put, List.setIfInBounds_toArray, List.set_cons_zero, List.set_cons_succ])
        refine wpAnyH_take (i := 12) (oi := ⟨some 33, _, _, _, _, _⟩) (v := undef) rfl (by kernel_rfl) (by kernel_rfl) (by kernel_rfl) (fun _ _ _ h => h) (Or.inr ⟨by rfl, rfl⟩) (by assumption) ?_
        (try simp only [Act.put, List.setIfInBounds_toArray, List.set_cons_zero, List.set_cons_succ])
        refine wpAnyH_take (i := 13) (oi := ⟨some 34, _, _, _, _, _⟩) (v := undef) rfl (by kernel_rfl) (by kernel_rfl) (by kernel_rfl) (fun _ _ _ h => h) (Or.inr ⟨by rfl, rfl⟩) (by assumption) ?_
        (try simp only [Act.put, List.setIfInBounds_toArray, List.set_cons_zero, List.set_cons_succ])
        refine wpAnyH_take (i := 14) (oi := ⟨some 35, _, _, _, _, _⟩) (v := undef) rfl (by kernel_rfl) (by kernel_rfl) (by kernel_rfl) (fun _ _ _ h => h) (Or.inr ⟨by rfl, rfl⟩) (by assumption) ?_
        (try simp only [Act.put, List.setIfInBounds_toArray, List.set_cons_zero, List.set_cons_succ])
        refine wpAnyH_take (i := 15) (oi := ⟨some 36, _, _, _, _, _⟩) (v := undef) rfl (by kernel_rfl) (by kernel_rfl) (by kernel_rfl) (fun _ _ _ h => h) (Or.inr ⟨by rfl, rfl⟩) (by assumption) ?_
        (try simp only [Act.put, List.setIfInBounds_toArray, List.set_cons_zero, List.set_cons_succ])
        refine wpAnyH_take (i := 16) (oi := ⟨some 37, _, _, _, _, _⟩) (v := undef) rfl (by kernel_rfl) (by kernel_rfl) (by kernel_rfl) (fun _ _ _ h => h) (Or.inr ⟨by rfl, rfl⟩) (by assumption) ?_
        (try simp only [Act.put, List.setIfInBounds_toArray, List.set_cons_zero, List.set_cons_succ])
        refine wpAnyH_take (i := 17) (oi := ⟨some 38, _, _, _, _, _⟩) (v := ?v17a) rfl (by kernel_rfl) (by kernel_rfl) (by kernel_rfl) (fun _ _ _ h => h) (Or.inl ⟨by rfl, ?y17a⟩) (by assumption) ?r17a
        case y17a => (intro w hSw; (try dsimp only at hSw); (try go_split_ands); go_simp); (try with_reducible rfl)
        case r17a =>
        (try simp only [Act.put, List.setIfInBounds_toArray, List.set_cons_zero, List.set_cons_succ])
        refine wpAnyH_done (by kernel_rfl) ?_ _
        go_wp2_with (first | (at_builtin; go_loud (refine wpList_append_row rfl (.tmp 39) (.tmp 49) 36 rfl w.heap.size 54 i0 (.agg #[.int .i64 0, .int .i64 0, .string ⟨#[]⟩]) 3 32 Try.underlying36 hi hz0 hz1 hz2 rfl (by decide) _ 0 (flatR (([] : List (Int × Int)).map r1)) rfl HT.out (wr.heap.size + 1) (some ⟨wr.heap.size, 0, none⟩) 1 1 [.int .i64 zz, .int .i64 0, .string ⟨#[]⟩] (by first | rfl | (simp; done)) HC.out (by intro u hu; simp at hu; rcases hu with rfl | rfl | rfl <;> rfl) (capA hn5) (capB hn5) HB0.out.size ?_; intro v6 w6 hown6 hb6; obtain ⟨g6, c6, rfl, hg6, _, _, _⟩ := own_form hown6 (Nat.succ_pos _); have hs6 := hb6.size; have HB6 := Lib.hid (HB0.out.trans hb6); have cb6 : w6.cell? ⟨b, 0, none⟩ = some (.slice (some ⟨gq, 0, none⟩) F.length cp) := bkeep HB6.out (HL.out.cell 0) hlow; have hrw6 := row_belowL HR.out HB6.out; have d2 := (hrw6.cellAt (j * 3 + 2) hj32).trans HY2.out; have hown7 : w6.ownsRow w.heap.size 54 3 (.slice (some ⟨g6, 0, none⟩) (0 + 1) c6) (0 + 1) (flatR (([] : List (Int × Int)).map r1 ++ [(zz, 0, [])])) := (by first | (rw [flatR_app]; exact hown6) | exact hown6); have e1 := (hown7.cellAt (0 * 3 + 1) (idx1 _)).trans (HN3 0).out; have ef := hown7.frozenAt (0 * 3 + 1); have HO7 := Lib.hid hown7; clear hown6 hown7 hrw6)) | fail)
        go_region_with fail
        all_goals (
          go_wp2_with fail
          have hst := (HO7.out.stored (0 * 3 + 1) (.int .i64 nn)).1
          have hrow : (w6.setCell ⟨g6, 0 * 3 + 1, none⟩ (.int .i64 nn)).drew.ownsRow w.heap.size 54 3 (.slice (some ⟨g6, 0, none⟩) (0 + 1) c6) (0 + 1) (flatR (((F.take (j + 1)).foldl step1 []).map r1)) := by
            rw [HSTEP.out, List.map_append]
            have := flatR_set1 (([] : List (Int × Int)).map r1) [] zz 0 nn []
            rw [List.length_map, HSL.out] at this
            rw [this] at hst
            exact hst
          have hbel : Below w.heap.size w (w6.setCell ⟨g6, 0 * 3 + 1, none⟩ (.int .i64 nn)).drew := (HB6.out.setCell (p := ⟨g6, 0 * 3 + 1, none⟩) hg6 _).drew
          exact ⟨⟨j + 1, 0 + 1, _, _, rfl, hjl, by go_num, rfl, by rw [HSTEP.out, List.length_append, HSL.out]; rfl, Nat.succ_le_succ hnj, HBD.out, hrow, hbel⟩, measJ hjl⟩)
      · obtain ⟨m, hm⟩ : ∃ m, m = S'.length := ⟨_, rfl⟩
        have hnm : n = m + 1 := by rw [← hn, hm]; simp
        have HNM := Lib.hid hnm
        have q5 : (m : Int) < (n : Int) := by rw [hnm]; omega
        have hm3 : m * 3 + 1 < n * 3 := by omega
        have hm30 : m * 3 < n * 3 := by omega
        have hnp : 0 < n := by omega
        have q6 : (0 : Int) ≤ (m : Int) := by omega
        have q7 : ¬ (m : Int) < 0 := by omega
        obtain ⟨g, co, hvo, hgo, _, _, _⟩ := own_form hown hnp
        have hown' := hown
        rw [hvo] at hown'
        have hfl : (S' ++ [(z0, h0)]).map r1 = S'.map r1 ++ (z0, h0, []) :: [] := by simp [r1]
        have t3 := flatR_at3 (S'.map r1) [] (z0, h0, [])
        rw [List.length_map, ← hm] at t3
        have o0 : wr.cell? ⟨g, m * 3, none⟩ = some (.int .i64 z0) := (hown'.cellAt (m * 3) hm30).trans (by rw [hfl]; exact t3.1)
        have o1 : wr.cell? ⟨g, m * 3 + 1, none⟩ = some (.int .i64 h0) := (hown'.cellAt (m * 3 + 1) hm3).trans (by rw [hfl]; exact t3.2.1)
        have of := hown'.frozenAt (m * 3 + 1)
        have hixv : ∀ w, (Instr.indexAt 36 vo (.int .i64 (m : Int))).run Try.prog w = .ok (.pointer (some ⟨g, m * 3, none⟩)) w := fun w => by rw [hvo]; exact indexRow g n co m (by rw [HNM.out]; exact Nat.lt_succ_self m) w
        have hmb := hbd (z0, h0) (by simp)
        simp only at hmb
        have hwm : wrap64 ((n : Int) - 1) = m := wrapPre hnm hn5
        have hwmk : IntKind.i64.wrap ((n : Int) - 1) = m := wrapPreK hnm hn5
        have hwm1 : wrap64 ((m : Int) + 1) = (n : Int) := wrapNxt hnm hn5
        have hsum : wrap64 (h0 + nn) = h0 + nn := wrapSum hmb hp0 (Nat.le_trans hj hlen)
        have hsumk : IntKind.i64.wrap (h0 + nn) = h0 + nn := wrapSumK hmb hp0 (Nat.le_trans hj hlen)
        clear hmb
        by_cases hzz : z0 = zz
        · subst hzz
          have hfin : ∀ W' : World, W'.heap = (wr.setCell ⟨g, m * 3 + 1, none⟩ (.int .i64 (h0 + nn))).heap → W'.os = wr.os → W'.tape = wr.tape → W'.output = wr.output → W'.ownsRow w.heap.size 54 3 vo n (flatR (((F.take (j + 1)).foldl step1 []).map r1)) ∧ ((F.take (j + 1)).foldl step1 []).length = n ∧ Below w.heap.size w W' := by
            intro W' e1 e2 e3 e4
            have hst := (hown'.stored (m * 3 + 1) (.int .i64 (h0 + nn))).1
            have := flatR_set1 (S'.map r1) [] z0 h0 (h0 + nn) []
            rw [List.length_map, ← hm] at this
            rw [hfl, this] at hst
            rw [hst1, step1_same]
            refine ⟨?_, by rw [HNM.out]; simp [hm], ?_⟩
            · rw [hvo]
              refine own_heap ?_ e1
              simpa [r1] using hst
            · have hb := hB.setCell (p := ⟨g, m * 3 + 1, none⟩) hgo (.int .i64 (h0 + nn))
              exact ⟨e2.trans hb.os, e3.trans hb.tape, e4.trans hb.output, by rw [e1]; exact hb.size, fun k hk => by rw [e1]; exact hb.block k hk⟩
          have HF := Lib.hid hfin
          clear hfin hst1 hbd hbd1 htk y0 y1 y2 hcc hrw hown hown' hB hS hn hfl t3 HN3 hm hnm hixv hlenv HT HC
          subst hvo
          go_wp2_with fail
          refine wp_region_held_drew (S := (fun W => W.cell? ⟨b, 0, none⟩ = some (.slice (some ⟨gq, 0, none⟩) F.length cp) ∧ W.cell? ⟨g, m * 3, none⟩ = some (.int .i64 z0) ∧ W.cell? ⟨gq, j * 3, none⟩ = some (.int .i64 z0))) (by kernel_rfl) ⟨cb, o0, a0⟩ (fun hHeld => ?_)
          refine wpAnyH_take (i := 0) (oi := ⟨some 21, _, _, _, _, _⟩) (v := ?v0b) rfl (by kernel_rfl) (by kernel_rfl) (by kernel_rfl) (fun _ _ _ h => h) (Or.inl ⟨by rfl, ?y0b⟩) (by assumption) ?r0b
          case y0b => (intro w hSw; (try dsimp only at hSw); (try go_split_ands); go_simp); (try with_reducible rfl)
          case r0b =>
          (try simp only [Act.put, List.setIfInBounds_toArray, List.set_cons_zero, List.set_cons_succ])
          refine wpAnyH_take (i := 1) (oi := ⟨some 22, _, _, _, _, _⟩) (v := .bool false) rfl (by kernel_rfl) (by kernel_rfl) (by kernel_rfl) (fun _ _ _ h => h) (Or.inl ⟨by rfl, ?y1b⟩) (by assumption) ?r1b
          case y1b => (intro w hSw; (try dsimp only at hSw); (try go_split_ands); go_simp)
          case r1b =>
          (try simp only [Act.put, List.setIfInBounds_toArray, List.set_cons_zero, List.set_cons_succ])
          refine wpAnyH_take (i := 2) (oi := ⟨some 23, _, _, _, _, _⟩) (v := ?v2b) rfl (by kernel_rfl) (by kernel_rfl) (by kernel_rfl) (fun _ _ _ h => h) (Or.inl ⟨by rfl, ?y2b⟩) (by assumption) ?r2b
          case y2b => (intro w hSw; (try dsimp only at hSw); (try go_split_ands); go_simp); (try with_reducible rfl)
          case r2b =>
          (try simp only [Act.put, List.setIfInBounds_toArray, List.set_cons_zero, List.set_cons_succ])
          refine wpAnyH_take (i := 3) (oi := ⟨some 24, _, _, _, _, _⟩) (v := ?v3b) rfl (by kernel_rfl) (by kernel_rfl) (by kernel_rfl) (fun _ _ _ h => h) (Or.inl ⟨by rfl, ?y3b⟩) (by assumption) ?r3b
          case y3b => (intro w hSw; (try dsimp only at hSw); (try go_split_ands); go_simp); (try with_reducible rfl)
          case r3b =>
          (try simp only [Act.put, List.setIfInBounds_toArray, List.set_cons_zero, List.set_cons_succ])
          refine wpAnyH_take (i := 4) (oi := ⟨some 25, _, _, _, _, _⟩) (v := ?v4b) rfl (by kernel_rfl) (by kernel_rfl) (by kernel_rfl) (fun _ _ _ h => h) (Or.inl ⟨by rfl, ?y4b⟩) (by assumption) ?r4b
          case y4b => (intro w hSw; (try dsimp only at hSw); (try go_split_ands); go_simp); (try with_reducible rfl)
          case r4b =>
          (try simp only [Act.put, List.setIfInBounds_toArray, List.set_cons_zero, List.set_cons_succ])
          refine wpAnyH_take (i := 5) (oi := ⟨some 26, _, _, _, _, _⟩) (v := ?v5b) rfl (by kernel_rfl) (by kernel_rfl) (by kernel_rfl) (fun _ _ _ h => h) (Or.inl ⟨by rfl, ?y5b⟩) (by assumption) ?r5b
          case y5b => (intro w hSw; (try dsimp only at hSw); (try go_split_ands); go_simp); (try with_reducible rfl)
          case r5b =>
          (try simp only [Act.put, List.setIfInBounds_toArray, List.set_cons_zero, List.set_cons_succ])
          refine wpAnyH_take (i := 6) (oi := ⟨some 27, _, _, _, _, _⟩) (v := ?v6b) rfl (by kernel_rfl) (by kernel_rfl) (by kernel_rfl) (fun _ _ _ h => h) (Or.inl ⟨by rfl, ?y6b⟩) (by assumption) ?r6b
          case y6b => (intro w hSw; (try dsimp only at hSw); (try go_split_ands); go_simp); (try with_reducible rfl)
          case r6b =>
          (try simp only [Act.put, List.setIfInBounds_toArray, List.set_cons_zero, List.set_cons_succ])
          refine wpAnyH_take (i := 7) (oi := ⟨some 28, _, _, _, _, _⟩) (v := ?v7b) rfl (by kernel_rfl) (by kernel_rfl) (by kernel_rfl) (fun _ _ _ h => h) (Or.inl ⟨by rfl, ?y7b⟩) (by assumption) ?r7b
          case y7b => (intro w hSw; (try dsimp only at hSw); (try go_split_ands); go_simp); (try with_reducible rfl)
          case r7b =>
          (try simp only [Act.put, List.setIfInBounds_toArray, List.set_cons_zero, List.set_cons_succ])
          refine wpAnyH_take (i := 8) (oi := ⟨some 29, _, _, _, _, _⟩) (v := ?v8b) rfl (by kernel_rfl) (by kernel_rfl) (by kernel_rfl) (fun _ _ _ h => h) (Or.inl ⟨by rfl, ?y8b⟩) (by assumption) ?r8b
          case y8b => (intro w hSw; (try dsimp only at hSw); (try go_split_ands); go_simp); (try with_reducible rfl)
          case r8b =>
          (try simp only [Act.put, List.setIfInBounds_toArray, List.set_cons_zero, List.set_cons_succ])
          refine wpAnyH_take (i := 9) (oi := ⟨some 30, _, _, _, _, _⟩) (v := ?v9b) rfl (by kernel_rfl) (by kernel_rfl) (by kernel_rfl) (fun _ _ _ h => h) (Or.inl ⟨by rfl, ?y9b⟩) (by assumption) ?r9b
          case y9b => (intro w hSw; (try dsimp only at hSw); (try go_split_ands); go_simp); (try with_reducible rfl)
          case r9b =>
          (try simp only [Act.put, List.setIfInBounds_toArray, List.set_cons_zero, List.set_cons_succ])
          refine wpAnyH_take (i := 10) (oi := ⟨some 31, _, _, _, _, _⟩) (v := ?v10b) rfl (by kernel_rfl) (by kernel_rfl) (by kernel_rfl) (fun _ _ _ h => h) (Or.inl ⟨by rfl, ?y10b⟩) (by assumption) ?r10b
          case y10b => (intro w hSw; (try dsimp only at hSw); (try go_split_ands); go_simp); (try with_reducible rfl)
          case r10b =>
          (try simp only [Act.put, List.setIfInBounds_toArray, List.set_cons_zero, List.set_cons_succ])
          refine wpAnyH_take (i := 11) (oi := ⟨some 32, _, _, _, _, _⟩) (v := ?v11b) rfl (by kernel_rfl) (by kernel_rfl) (by kernel_rfl) (fun _ _ _ h => h) (Or.inl ⟨by rfl, ?y11b⟩) (by assumption) ?r11b
          case y11b => (intro w hSw; (try dsimp only at hSw); (try go_split_ands); go_simp); (try with_reducible rfl)
          case r11b =>
          (try simp only [Act.put, List.setIfInBounds_toArray, List.set_cons_zero, List.set_cons_succ])
          refine wpAnyH_take (i := 12) (oi := ⟨some 33, _, _, _, _, _⟩) (v := ?v12b) rfl (by kernel_rfl) (by kernel_rfl) (by kernel_rfl) (fun _ _ _ h => h) (Or.inl ⟨by rfl, ?y12b⟩) (by assumption) ?r12b
          case y12b => (intro w hSw; (try dsimp only at hSw); (try go_split_ands); go_simp); (try with_reducible rfl)
          case r12b =>
          (try simp only [Act.put, List.setIfInBounds_toArray, List.set_cons_zero, List.set_cons_succ])
          refine wpAnyH_take (i := 13) (oi := ⟨some 34, _, _, _, _, _⟩) (v := ?v13b) rfl (by kernel_rfl) (by kernel_rfl) (by kernel_rfl) (fun _ _ _ h => h) (Or.inl ⟨by rfl, ?y13b⟩) (by assumption) ?r13b
          case y13b => (intro w hSw; (try dsimp only at hSw); (try go_split_ands); go_simp); (try with_reducible rfl)
          case r13b =>
          (try simp only [Act.put, List.setIfInBounds_toArray, List.set_cons_zero, List.set_cons_succ])
          refine wpAnyH_take (i := 14) (oi := ⟨some 35, _, _, _, _, _⟩) (v := ?v14b) rfl (by kernel_rfl) (by kernel_rfl) (by kernel_rfl) (fun _ _ _ h => h) (Or.inl ⟨by rfl, ?y14b⟩) (by assumption) ?r14b
          case y14b => (intro w hSw; (try dsimp only at hSw); (try go_split_ands); go_simp); (try with_reducible rfl)
          case r14b =>
          (try simp only [Act.put, List.setIfInBounds_toArray, List.set_cons_zero, List.set_cons_succ])
          refine wpAnyH_take (i := 15) (oi := ⟨some 36, _, _, _, _, _⟩) (v := ?v15b) rfl (by kernel_rfl) (by kernel_rfl) (by kernel_rfl) (fun _ _ _ h => h) (Or.inl ⟨by rfl, ?y15b⟩) (by assumption) ?r15b
          case y15b => (intro w hSw; (try dsimp only at hSw); (try go_split_ands); go_simp); (try with_reducible rfl)
          case r15b =>
          (try simp only [Act.put, List.setIfInBounds_toArray, List.set_cons_zero, List.set_cons_succ])
          refine wpAnyH_take (i := 16) (oi := ⟨some 37, _, _, _, _, _⟩) (v := .bool false) rfl (by kernel_rfl) (by kernel_rfl) (by kernel_rfl) (fun _ _ _ h => h) (Or.inl ⟨by rfl, ?y16b⟩) (by assumption) ?r16b
          case y16b => (intro w hSw; (try dsimp only at hSw); (try go_split_ands); go_simp)
          case r16b =>
          (try simp only [Act.put, List.setIfInBounds_toArray, List.set_cons_zero, List.set_cons_succ])
          refine wpAnyH_take (i := 17) (oi := ⟨some 38, _, _, _, _, _⟩) (v := ?v17b) rfl (by kernel_rfl) (by kernel_rfl) (by kernel_rfl) (fun _ _ _ h => h) (Or.inl ⟨by rfl, ?y17b⟩) (by assumption) ?r17b
          case y17b => (intro w hSw; (try dsimp only at hSw); (try go_split_ands); go_simp); (try with_reducible rfl)
          case r17b =>
          (try simp only [Act.put, List.setIfInBounds_toArray, List.set_cons_zero, List.set_cons_succ])
          refine wpAnyH_done (by kernel_rfl) ?_ _
          go_wp2_with fail
          go_region_with fail
          all_goals (
            go_wp2_with fail
            refine ⟨⟨j + 1, n, _, _, rfl, hjl, by go_num, rfl, ?_, Nat.le_succ_of_le hnj, HBD.out, ?_, ?_⟩, measJ hjl⟩
            · exact (HF.out _ rfl rfl rfl rfl).2.1
            · exact (HF.out _ rfl rfl rfl rfl).1
            · exact (HF.out ((wr.setCell ⟨g, m * 3 + 1, none⟩ (.int .i64 (h0 + nn))).drew.drew) rfl rfl rfl rfl).2.2)
        · have hstep : (F.take (j + 1)).foldl step1 [] = (S' ++ [(z0, h0)]) ++ [(zz, nn)] := by
            rw [hst1]
            exact step1_new (fun l hl => by rw [List.getLast?_append] at hl; simp at hl; subst hl; exact hzz) kk nn
          have HSTEP := Lib.hid hstep
          clear hst1 hstep hbd hbd1 htk y0 y1 y2 hcc hrw hown hown' hB hS hn hvo hfl t3 hm hnm
          go_wp2_with fail
          refine wp_region_held_drew (S := (fun W => W.cell? ⟨b, 0, none⟩ = some (.slice (some ⟨gq, 0, none⟩) F.length cp) ∧ W.cell? ⟨g, m * 3, none⟩ = some (.int .i64 z0) ∧ W.cell? ⟨gq, j * 3, none⟩ = some (.int .i64 zz))) (by kernel_rfl) ⟨cb, o0, a0⟩ (fun hHeld => ?_)
          refine wpAnyH_take (i := 0) (oi := ⟨some 21, _, _, _, _, _⟩) (v := ?v0c) rfl (by kernel_rfl) (by kernel_rfl) (by kernel_rfl) (fun _ _ _ h => h) (Or.inl ⟨by rfl, ?y0c⟩) (by assumption) ?r0c
          case y0c => (intro w hSw; (try dsimp only at hSw); (try go_split_ands); go_simp); (try with_reducible rfl)
          case r0c =>
          (try simp only [Act.put, List.setIfInBounds_toArray, List.set_cons_zero, List.set_cons_succ])
          refine wpAnyH_take (i := 1) (oi := ⟨some 22, _, _, _, _, _⟩) (v := .bool false) rfl (by kernel_rfl) (by kernel_rfl) (by kernel_rfl) (fun _ _ _ h => h) (Or.inl ⟨by rfl, ?y1c⟩) (by assumption) ?r1c
          case y1c => (intro w hSw; (try dsimp only at hSw); (try go_split_ands); go_simp)
          case r1c =>
          (try simp only [Act.put, List.setIfInBounds_toArray, List.set_cons_zero, List.set_cons_succ])
          refine wpAnyH_take (i := 2) (oi := ⟨some 23, _, _, _, _, _⟩) (v := ?v2c) rfl (by kernel_rfl) (by kernel_rfl) (by kernel_rfl) (fun _ _ _ h => h) (Or.inl ⟨by rfl, ?y2c⟩) (by assumption) ?r2c
          case y2c => (intro w hSw; (try dsimp only at hSw); (try go_split_ands); go_simp); (try with_reducible rfl)
          case r2c =>
          (try simp only [Act.put, List.setIfInBounds_toArray, List.set_cons_zero, List.set_cons_succ])
          refine wpAnyH_take (i := 3) (oi := ⟨some 24, _, _, _, _, _⟩) (v := ?v3c) rfl (by kernel_rfl) (by kernel_rfl) (by kernel_rfl) (fun _ _ _ h => h) (Or.inl ⟨by rfl, ?y3c⟩) (by assumption) ?r3c
          case y3c => (intro w hSw; (try dsimp only at hSw); (try go_split_ands); go_simp); (try with_reducible rfl)
          case r3c =>
          (try simp only [Act.put, List.setIfInBounds_toArray, List.set_cons_zero, List.set_cons_succ])
          refine wpAnyH_take (i := 4) (oi := ⟨some 25, _, _, _, _, _⟩) (v := ?v4c) rfl (by kernel_rfl) (by kernel_rfl) (by kernel_rfl) (fun _ _ _ h => h) (Or.inl ⟨by rfl, ?y4c⟩) (by assumption) ?r4c
          case y4c => (intro w hSw; (try dsimp only at hSw); (try go_split_ands); go_simp); (try with_reducible rfl)
          case r4c =>
          (try simp only [Act.put, List.setIfInBounds_toArray, List.set_cons_zero, List.set_cons_succ])
          refine wpAnyH_take (i := 5) (oi := ⟨some 26, _, _, _, _, _⟩) (v := ?v5c) rfl (by kernel_rfl) (by kernel_rfl) (by kernel_rfl) (fun _ _ _ h => h) (Or.inl ⟨by rfl, ?y5c⟩) (by assumption) ?r5c
          case y5c => (intro w hSw; (try dsimp only at hSw); (try go_split_ands); go_simp); (try with_reducible rfl)
          case r5c =>
          (try simp only [Act.put, List.setIfInBounds_toArray, List.set_cons_zero, List.set_cons_succ])
          refine wpAnyH_take (i := 6) (oi := ⟨some 27, _, _, _, _, _⟩) (v := ?v6c) rfl (by kernel_rfl) (by kernel_rfl) (by kernel_rfl) (fun _ _ _ h => h) (Or.inl ⟨by rfl, ?y6c⟩) (by assumption) ?r6c
          case y6c => (intro w hSw; (try dsimp only at hSw); (try go_split_ands); go_simp); (try with_reducible rfl)
          case r6c =>
          (try simp only [Act.put, List.setIfInBounds_toArray, List.set_cons_zero, List.set_cons_succ])
          refine wpAnyH_take (i := 7) (oi := ⟨some 28, _, _, _, _, _⟩) (v := ?v7c) rfl (by kernel_rfl) (by kernel_rfl) (by kernel_rfl) (fun _ _ _ h => h) (Or.inl ⟨by rfl, ?y7c⟩) (by assumption) ?r7c
          case y7c => (intro w hSw; (try dsimp only at hSw); (try go_split_ands); go_simp); (try with_reducible rfl)
          case r7c =>
          (try simp only [Act.put, List.setIfInBounds_toArray, List.set_cons_zero, List.set_cons_succ])
          refine wpAnyH_take (i := 8) (oi := ⟨some 29, _, _, _, _, _⟩) (v := ?v8c) rfl (by kernel_rfl) (by kernel_rfl) (by kernel_rfl) (fun _ _ _ h => h) (Or.inl ⟨by rfl, ?y8c⟩) (by assumption) ?r8c
          case y8c => (intro w hSw; (try dsimp only at hSw); (try go_split_ands); go_simp); (try with_reducible rfl)
          case r8c =>
          (try simp only [Act.put, List.setIfInBounds_toArray, List.set_cons_zero, List.set_cons_succ])
          refine wpAnyH_take (i := 9) (oi := ⟨some 30, _, _, _, _, _⟩) (v := ?v9c) rfl (by kernel_rfl) (by kernel_rfl) (by kernel_rfl) (fun _ _ _ h => h) (Or.inl ⟨by rfl, ?y9c⟩) (by assumption) ?r9c
          case y9c => (intro w hSw; (try dsimp only at hSw); (try go_split_ands); go_simp); (try with_reducible rfl)
          case r9c =>
          (try simp only [Act.put, List.setIfInBounds_toArray, List.set_cons_zero, List.set_cons_succ])
          refine wpAnyH_take (i := 10) (oi := ⟨some 31, _, _, _, _, _⟩) (v := ?v10c) rfl (by kernel_rfl) (by kernel_rfl) (by kernel_rfl) (fun _ _ _ h => h) (Or.inl ⟨by rfl, ?y10c⟩) (by assumption) ?r10c
          case y10c => (intro w hSw; (try dsimp only at hSw); (try go_split_ands); go_simp); (try with_reducible rfl)
          case r10c =>
          (try simp only [Act.put, List.setIfInBounds_toArray, List.set_cons_zero, List.set_cons_succ])
          refine wpAnyH_take (i := 11) (oi := ⟨some 32, _, _, _, _, _⟩) (v := ?v11c) rfl (by kernel_rfl) (by kernel_rfl) (by kernel_rfl) (fun _ _ _ h => h) (Or.inl ⟨by rfl, ?y11c⟩) (by assumption) ?r11c
          case y11c => (intro w hSw; (try dsimp only at hSw); (try go_split_ands); go_simp); (try with_reducible rfl)
          case r11c =>
          (try simp only [Act.put, List.setIfInBounds_toArray, List.set_cons_zero, List.set_cons_succ])
          refine wpAnyH_take (i := 12) (oi := ⟨some 33, _, _, _, _, _⟩) (v := ?v12c) rfl (by kernel_rfl) (by kernel_rfl) (by kernel_rfl) (fun _ _ _ h => h) (Or.inl ⟨by rfl, ?y12c⟩) (by assumption) ?r12c
          case y12c => (intro w hSw; (try dsimp only at hSw); (try go_split_ands); go_simp); (try with_reducible rfl)
          case r12c =>
          (try simp only [Act.put, List.setIfInBounds_toArray, List.set_cons_zero, List.set_cons_succ])
          refine wpAnyH_take (i := 13) (oi := ⟨some 34, _, _, _, _, _⟩) (v := ?v13c) rfl (by kernel_rfl) (by kernel_rfl) (by kernel_rfl) (fun _ _ _ h => h) (Or.inl ⟨by rfl, ?y13c⟩) (by assumption) ?r13c
          case y13c => (intro w hSw; (try dsimp only at hSw); (try go_split_ands); go_simp); (try with_reducible rfl)
          case r13c =>
          (try simp only [Act.put, List.setIfInBounds_toArray, List.set_cons_zero, List.set_cons_succ])
          refine wpAnyH_take (i := 14) (oi := ⟨some 35, _, _, _, _, _⟩) (v := ?v14c) rfl (by kernel_rfl) (by kernel_rfl) (by kernel_rfl) (fun _ _ _ h => h) (Or.inl ⟨by rfl, ?y14c⟩) (by assumption) ?r14c
          case y14c => (intro w hSw; (try dsimp only at hSw); (try go_split_ands); go_simp); (try with_reducible rfl)
          case r14c =>
          (try simp only [Act.put, List.setIfInBounds_toArray, List.set_cons_zero, List.set_cons_succ])
          refine wpAnyH_take (i := 15) (oi := ⟨some 36, _, _, _, _, _⟩) (v := ?v15c) rfl (by kernel_rfl) (by kernel_rfl) (by kernel_rfl) (fun _ _ _ h => h) (Or.inl ⟨by rfl, ?y15c⟩) (by assumption) ?r15c
          case y15c => (intro w hSw; (try dsimp only at hSw); (try go_split_ands); go_simp); (try with_reducible rfl)
          case r15c =>
          (try simp only [Act.put, List.setIfInBounds_toArray, List.set_cons_zero, List.set_cons_succ])
          refine wpAnyH_take (i := 16) (oi := ⟨some 37, _, _, _, _, _⟩) (v := .bool true) rfl (by kernel_rfl) (by kernel_rfl) (by kernel_rfl) (fun _ _ _ h => h) (Or.inl ⟨by rfl, ?y16c⟩) (by assumption) ?r16c
          case y16c => (intro w hSw; (try dsimp only at hSw); (try go_split_ands); go_simp)
          case r16c =>
          (try simp only [Act.put, List.setIfInBounds_toArray, List.set_cons_zero, List.set_cons_succ])
          refine wpAnyH_take (i := 17) (oi := ⟨some 38, _, _, _, _, _⟩) (v := ?v17c) rfl (by kernel_rfl) (by kernel_rfl) (by kernel_rfl) (fun _ _ _ h => h) (Or.inl ⟨by rfl, ?y17c⟩) (by assumption) ?r17c
          case y17c => (intro w hSw; (try dsimp only at hSw); (try go_split_ands); go_simp); (try with_reducible rfl)
          case r17c =>
          (try simp only [Act.put, List.setIfInBounds_toArray, List.set_cons_zero, List.set_cons_succ])
          refine wpAnyH_done (by kernel_rfl) ?_ _
          clear hHeld hixv o0 o1 of q5 q6 q7 hsum hsumk hm3 hm30 hnp hwm hwmk hgo hlenv
          go_wp2_with (first | (at_builtin; go_loud (refine wpList_append_row rfl (.tmp 39) (.tmp 49) 36 rfl w.heap.size 54 i0 (.agg #[.int .i64 0, .int .i64 0, .string ⟨#[]⟩]) 3 32 Try.underlying36 hi hz0 hz1 hz2 rfl (by decide) _ n (flatR ((S' ++ [(z0, h0)]).map r1)) rfl HT.out (wr.heap.size + 1) (some ⟨wr.heap.size, 0, none⟩) 1 1 [.int .i64 zz, .int .i64 0, .string ⟨#[]⟩] (by first | rfl | (simp; done)) HC.out (by intro u hu; simp at hu; rcases hu with rfl | rfl | rfl <;> rfl) (capA hn5) (capB hn5) HB0.out.size ?_; intro v6 w6 hown6 hb6; obtain ⟨g6, c6, rfl, hg6, _, _, _⟩ := own_form hown6 (Nat.succ_pos _); have hs6 := hb6.size; have HB6 := Lib.hid (HB0.out.trans hb6); have cb6 : w6.cell? ⟨b, 0, none⟩ = some (.slice (some ⟨gq, 0, none⟩) F.length cp) := bkeep HB6.out (HL.out.cell 0) hlow; have hrw6 := row_belowL HR.out HB6.out; have d2 := (hrw6.cellAt (j * 3 + 2) hj32).trans HY2.out; have hown7 : w6.ownsRow w.heap.size 54 3 (.slice (some ⟨g6, 0, none⟩) (n + 1) c6) (n + 1) (flatR ((S' ++ [(z0, h0)]).map r1 ++ [(zz, 0, [])])) := (by first | (rw [flatR_app]; exact hown6) | exact hown6); have e1 := (hown7.cellAt (n * 3 + 1) (idx1 _)).trans (HN3 0).out; have ef := hown7.frozenAt (n * 3 + 1); have HO7 := Lib.hid hown7; clear hown6 hown7 hrw6)) | fail)
          go_region_with fail
          all_goals (
            go_wp2_with fail
            have hst := (HO7.out.stored (n * 3 + 1) (.int .i64 nn)).1
            have hrow : (w6.setCell ⟨g6, n * 3 + 1, none⟩ (.int .i64 nn)).drew.ownsRow w.heap.size 54 3 (.slice (some ⟨g6, 0, none⟩) (n + 1) c6) (n + 1) (flatR (((F.take (j + 1)).foldl step1 []).map r1)) := by
              rw [HSTEP.out, List.map_append]
              have := flatR_set1 ((S' ++ [(z0, h0)]).map r1) [] zz 0 nn []
              rw [List.length_map, HSL.out] at this
              rw [this] at hst
              exact hst
            have hbel : Below w.heap.size w (w6.setCell ⟨g6, n * 3 + 1, none⟩ (.int .i64 nn)).drew := (HB6.out.setCell (p := ⟨g6, n * 3 + 1, none⟩) hg6 _).drew
            exact ⟨⟨j + 1, n + 1, _, _, rfl, hjl, by go_num, rfl, by rw [HSTEP.out, List.length_append, HSL.out]; rfl, Nat.succ_le_succ hnj, HBD.out, hrow, hbel⟩, measJ hjl⟩)
    · obtain rfl : F.length = j := by omega
      rw [List.take_length] at hS
      have hSK : S = K.map fun p => (p.1, sumM p.2) := by rw [hS, HF.out]; exact fold1_all HK.out
      have hnK : n = K.length := by rw [← hn, hSK, List.length_map]
      have hrows : S.map r1 = mixR K 0 := by rw [hSK, mixR_0]
      rw [hrows] at hown
      have HOWN := Lib.hid hown
      have HB := Lib.hid hB
      have HNK := Lib.hid hnK
      have hn5 : n ≤ 100000 := Nat.le_trans hnj hlen
      clear hown hB hS hn hbd hSK hrows hnK
      go_wp2_with fail
      go_loopw [6] (fun k wq => ∃ kk : Nat, kk ≤ n ∧ k = .int .i64 kk ∧ wq.ownsRow w.heap.size 54 3 vo n (flatR (mixR K kk)) ∧ Below w.heap.size w wq) (fun k _ => n - (intOf k).toNat)
      case atStart => exact ⟨0, Nat.zero_le _, rfl, HOWN.out, HB.out⟩
      case round =>
        obtain ⟨kk, hkk, rfl, hownq, hBq⟩ := hrel
        by_cases hkl : kk < n
        · have hkK : kk < K.length := by rw [← HNK.out]; exact hkl
          obtain ⟨g, co, hvo, hgo, _, _, _⟩ := own_form hownq (Nat.lt_of_le_of_lt (Nat.zero_le _) hkl)
          obtain ⟨⟨z, m⟩, hzm⟩ : ∃ p, p = K[kk] := ⟨_, rfl⟩
          have hmix := mixR_mid hkK
          have hnxt := midR_mix hkK
          rw [← hzm] at hmix hnxt
          simp only at hmix hnxt
          rw [hmix] at hownq
          have hmem : (z, m) ∈ K := by rw [hzm]; exact List.getElem_mem hkK
          have hmp := sum_pos HK.out hmem
          have hf2 := fold2_flat K HK.out.sorted hmem hmp.1
          rw [← HF.out] at hf2
          simp only at hmp
          obtain ⟨Sm, hSm⟩ : ∃ Sm, Sm = sumM m := ⟨_, rfl⟩
          rw [← hSm] at hownq hmp hf2 hnxt
          have q1 : (kk : Int) < (n : Int) := by omega
          have HSM := Lib.hid hSm
          clear hSm
          have HMP := Lib.hid hmp
          have HF2 := Lib.hid hf2
          have HNXT := Lib.hid hnxt
          have HOQ := Lib.hid hownq
          have HBQ := Lib.hid hBq
          have hkt := takeK_len (Nat.le_of_lt hkK)
          have HKT := Lib.hid hkt
          subst hvo
          clear hmix hnxt hownq hBq hmem hmp hf2 hzm hkt hlenv HOWN HB
          go_wp2_with fail
          go_loopw [7, 8] (fun nn i wi => ∃ (j : Nat) (s : Int × By), j ≤ F.length ∧ i = .int .i64 j ∧ nn = .int .i64 s.1 ∧ s = (F.take j).foldl (step2 z Sm) (0, []) ∧ wi.ownsRow w.heap.size 54 3 (.slice (some ⟨g, 0, none⟩) n co) n (flatR (midR K kk z Sm s.2)) ∧ Below w.heap.size w wi) (fun _ i _ => F.length - (intOf i).toNat)
          case atStart => exact ⟨0, (0, []), Nat.zero_le _, rfl, rfl, rfl, HOQ.out, HBQ.out⟩
          case round =>
            obtain ⟨j, ⟨s1, s2⟩, hj, rfl, rfl, hs, howni, hBi⟩ := hrel
            have cb : World.cell? _ ⟨b, 0, none⟩ = some (.slice A F.length cp) := bkeep hBi (HL.out.cell 0) hlow
            by_cases hjl : j < F.length
            · have q2 : (j : Int) < (F.length : Int) := by omega
              obtain ⟨gq, cq, e1, _, hgq, _, _⟩ := own_form HR.out (Nat.lt_of_le_of_lt (Nat.zero_le _) hjl)
              simp only [Value.slice.injEq, true_and] at e1
              obtain ⟨rfl, rfl⟩ := e1
              have hrw := row_belowL HR.out hBi
              obtain ⟨y0, y1, y2⟩ := flatF_at F j hjl
              have a0 := (hrw.cellAt (j * 3) (ix0 hjl)).trans y0
              have a1 := (hrw.cellAt (j * 3 + 1) (ix1 hjl)).trans y1
              have a2 := (hrw.cellAt (j * 3 + 2) (ix2 hjl)).trans y2
              have hp0 := HP.out _ (List.getElem_mem hjl)
              have htk : F.take (j + 1) = F.take j ++ [F[j]] := by rw [List.take_add_one, List.getElem?_eq_getElem hjl]; rfl
              have hst2 : (F.take (j + 1)).foldl (step2 z Sm) (0, []) = step2 z Sm (s1, s2) F[j] := by rw [htk, List.foldl_append, ← hs]; rfl
              have hb2 := step2_bound z Sm (F.take j) (0, []) (fun c hc => by have := HP.out c (List.mem_of_mem_take hc); omega) (Int.le_refl 0)
              rw [← hs] at hb2
              have hs1 : 0 ≤ s1 ∧ s1 ≤ 104857600000 := boundA hb2 (Nat.le_trans (List.length_take_le _ _) (Nat.le_trans hj hlen))
              obtain ⟨⟨⟨zz, ky⟩, nv⟩, hcc⟩ : ∃ c : Zk × Int, c = F[j] := ⟨_, rfl⟩
              rw [← hcc] at a0 a1 a2 hp0 hst2
              simp only at a0 a1 a2 hp0
              have t3 := flatR_at3 ((tabK K).take kk) ((K.drop (kk + 1)).map fun p => (p.1, sumM p.2, [])) (z, Sm, s2)
              rw [HKT.out] at t3
              have o0 : World.cell? _ ⟨g, kk * 3, none⟩ = some (.int .i64 z) := (howni.cellAt (kk * 3) (ix0 hkl)).trans t3.1
              have o1 : World.cell? _ ⟨g, kk * 3 + 1, none⟩ = some (.int .i64 Sm) := (howni.cellAt (kk * 3 + 1) (ix1 hkl)).trans t3.2.1
              have o2 : World.cell? _ ⟨g, kk * 3 + 2, none⟩ = some (encStr s2) := (howni.cellAt (kk * 3 + 2) (ix2 hkl)).trans t3.2.2
              have fo := howni.frozenAt (kk * 3 + 2)
              have hset : (flatR (midR K kk z Sm s2)).set (kk * 3 + 2) (encStr ky) = flatR (midR K kk z Sm ky) := by
                have := flatR_set2 ((tabK K).take kk) ((K.drop (kk + 1)).map fun p => (p.1, sumM p.2, [])) z Sm s2 ky
                rw [HKT.out] at this
                exact this
              have hst' := (howni.stored (kk * 3 + 2) (encStr ky)).1
              rw [hset] at hst'
              have HO2 := Lib.hid (World.ownsRow.drew hst')
              have HB2 := Lib.hid (hBi.setCell (p := ⟨g, kk * 3 + 2, none⟩) hgo (encStr ky)).drew
              have HO := Lib.hid (World.ownsRow.drew howni)
              have HBd := Lib.hid hBi.drew
              have hw2 := wrapTwo hs1
              have hw2k := wrapTwoK hs1
              have hwa := wrapAdd hs1 hp0
              have HWA := Lib.hid hwa
              clear y0 y1 y2 hrw t3 hset hst' hb2 htk hcc howni hBi hs
              by_cases hzz : zz = z
              · obtain rfl : z = zz := hzz.symm
                by_cases h2 : Sm ≤ 2 * s1
                · have hS2 : (s1, s2) = (F.take (j + 1)).foldl (step2 z Sm) (0, []) := by rw [hst2]; exact (if_pos (.inr h2)).symm
                  have HS2 := Lib.hid hS2
                  clear hS2 hst2 hs1 hp0
                  go_wp2_with fail
                  refine wp_region_held_drew (S := (fun W => W.cell? ⟨b, 0, none⟩ = some (.slice (some ⟨gq, 0, none⟩) F.length cp) ∧ W.cell? ⟨gq, j * 3, none⟩ = some (.int .i64 z) ∧ W.cell? ⟨g, kk * 3, none⟩ = some (.int .i64 z) ∧ W.cell? ⟨g, kk * 3 + 1, none⟩ = some (.int .i64 Sm))) (by kernel_rfl) ⟨cb, a0, o0, o1⟩ (fun hHeld => ?_)
                  refine wpAnyH_take (i := 0) (oi := ⟨some 86, _, _, _, _, _⟩) (v := ?v0e) rfl (by kernel_rfl) (by kernel_rfl) (by kernel_rfl) (fun _ _ _ h => h) (Or.inl ⟨by rfl, ?y0e⟩) (by assumption) ?r0e
                  case y0e => (intro w hSw; (try dsimp only at hSw); (try go_split_ands); go_simp); (try with_reducible rfl)
                  case r0e =>
                  (try simp only [Act.put, List.setIfInBounds_toArray, List.set_cons_zero, List.set_cons_succ])
                  refine wpAnyH_take (i := 1) (oi := ⟨some 87, _, _, _, _, _⟩) (v := ?v1e) rfl (by kernel_rfl) (by kernel_rfl) (by kernel_rfl) (fun _ _ _ h => h) (Or.inl ⟨by rfl, ?y1e⟩) (by assumption) ?r1e
                  case y1e => (intro w hSw; (try dsimp only at hSw); (try go_split_ands); go_simp); (try with_reducible rfl)
                  case r1e =>
                  (try simp only [Act.put, List.setIfInBounds_toArray, List.set_cons_zero, List.set_cons_succ])
                  refine wpAnyH_take (i := 2) (oi := ⟨some 88, _, _, _, _, _⟩) (v := ?v2e) rfl (by kernel_rfl) (by kernel_rfl) (by kernel_rfl) (fun _ _ _ h => h) (Or.inl ⟨by rfl, ?y2e⟩) (by assumption) ?r2e
                  case y2e => (intro w hSw; (try dsimp only at hSw); (try go_split_ands); go_simp); (try with_reducible rfl)
                  case r2e =>
                  (try simp only [Act.put, List.setIfInBounds_toArray, List.set_cons_zero, List.set_cons_succ])
                  refine wpAnyH_take (i := 3) (oi := ⟨some 89, _, _, _, _, _⟩) (v := ?v3e) rfl (by kernel_rfl) (by kernel_rfl) (by kernel_rfl) (fun _ _ _ h => h) (Or.inl ⟨by rfl, ?y3e⟩) (by assumption) ?r3e
                  case y3e => (intro w hSw; (try dsimp only at hSw); (try go_split_ands); go_simp); (try with_reducible rfl)
                  case r3e =>
                  (try simp only [Act.put, List.setIfInBounds_toArray, List.set_cons_zero, List.set_cons_succ])
                  refine wpAnyH_take (i := 4) (oi := ⟨some 90, _, _, _, _, _⟩) (v := ?v4e) rfl (by kernel_rfl) (by kernel_rfl) (by kernel_rfl) (fun _ _ _ h => h) (Or.inl ⟨by rfl, ?y4e⟩) (by assumption) ?r4e
                  case y4e => (intro w hSw; (try dsimp only at hSw); (try go_split_ands); go_simp); (try with_reducible rfl)
                  case r4e =>
                  (try simp only [Act.put, List.setIfInBounds_toArray, List.set_cons_zero, List.set_cons_succ])
                  refine wpAnyH_take (i := 5) (oi := ⟨some 91, _, _, _, _, _⟩) (v := ?v5e) rfl (by kernel_rfl) (by kernel_rfl) (by kernel_rfl) (fun _ _ _ h => h) (Or.inl ⟨by rfl, ?y5e⟩) (by assumption) ?r5e
                  case y5e => (intro w hSw; (try dsimp only at hSw); (try go_split_ands); go_simp); (try with_reducible rfl)
                  case r5e =>
                  (try simp only [Act.put, List.setIfInBounds_toArray, List.set_cons_zero, List.set_cons_succ])
                  refine wpAnyH_take (i := 6) (oi := ⟨some 92, _, _, _, _, _⟩) (v := ?v6e) rfl (by kernel_rfl) (by kernel_rfl) (by kernel_rfl) (fun _ _ _ h => h) (Or.inl ⟨by rfl, ?y6e⟩) (by assumption) ?r6e
                  case y6e => (intro w hSw; (try dsimp only at hSw); (try go_split_ands); go_simp); (try with_reducible rfl)
                  case r6e =>
                  (try simp only [Act.put, List.setIfInBounds_toArray, List.set_cons_zero, List.set_cons_succ])
                  refine wpAnyH_take (i := 7) (oi := ⟨some 93, _, _, _, _, _⟩) (v := ?v7e) rfl (by kernel_rfl) (by kernel_rfl) (by kernel_rfl) (fun _ _ _ h => h) (Or.inl ⟨by rfl, ?y7e⟩) (by assumption) ?r7e
                  case y7e => (intro w hSw; (try dsimp only at hSw); (try go_split_ands); go_simp); (try with_reducible rfl)
                  case r7e =>
                  (try simp only [Act.put, List.setIfInBounds_toArray, List.set_cons_zero, List.set_cons_succ])
                  refine wpAnyH_take (i := 8) (oi := ⟨some 94, _, _, _, _, _⟩) (v := ?v8e) rfl (by kernel_rfl) (by kernel_rfl) (by kernel_rfl) (fun _ _ _ h => h) (Or.inl ⟨by rfl, ?y8e⟩) (by assumption) ?r8e
                  case y8e => (intro w hSw; (try dsimp only at hSw); (try go_split_ands); go_simp); (try with_reducible rfl)
                  case r8e =>
                  (try simp only [Act.put, List.setIfInBounds_toArray, List.set_cons_zero, List.set_cons_succ])
                  refine wpAnyH_take (i := 9) (oi := ⟨some 95, _, _, _, _, _⟩) (v := ?v9e) rfl (by kernel_rfl) (by kernel_rfl) (by kernel_rfl) (fun _ _ _ h => h) (Or.inl ⟨by rfl, ?y9e⟩) (by assumption) ?r9e
                  case y9e => (intro w hSw; (try dsimp only at hSw); (try go_split_ands); go_simp); (try with_reducible rfl)
                  case r9e =>
                  (try simp only [Act.put, List.setIfInBounds_toArray, List.set_cons_zero, List.set_cons_succ])
                  refine wpAnyH_take (i := 10) (oi := ⟨some 96, _, _, _, _, _⟩) (v := ?v10e) rfl (by kernel_rfl) (by kernel_rfl) (by kernel_rfl) (fun _ _ _ h => h) (Or.inl ⟨by rfl, ?y10e⟩) (by assumption) ?r10e
                  case y10e => (intro w hSw; (try dsimp only at hSw); (try go_split_ands); go_simp); (try with_reducible rfl)
                  case r10e =>
                  (try simp only [Act.put, List.setIfInBounds_toArray, List.set_cons_zero, List.set_cons_succ])
                  refine wpAnyH_take (i := 11) (oi := ⟨some 97, _, _, _, _, _⟩) (v := ?v11e) rfl (by kernel_rfl) (by kernel_rfl) (by kernel_rfl) (fun _ _ _ h => h) (Or.inl ⟨by rfl, ?y11e⟩) (by assumption) ?r11e
                  case y11e => (intro w hSw; (try dsimp only at hSw); (try go_split_ands); go_simp); (try with_reducible rfl)
                  case r11e =>
                  (try simp only [Act.put, List.setIfInBounds_toArray, List.set_cons_zero, List.set_cons_succ])
                  refine wpAnyH_take (i := 12) (oi := ⟨some 98, _, _, _, _, _⟩) (v := ?v12e) rfl (by kernel_rfl) (by kernel_rfl) (by kernel_rfl) (fun _ _ _ h => h) (Or.inl ⟨by rfl, ?y12e⟩) (by assumption) ?r12e
                  case y12e => (intro w hSw; (try dsimp only at hSw); (try go_split_ands); go_simp); (try with_reducible rfl)
                  case r12e =>
                  (try simp only [Act.put, List.setIfInBounds_toArray, List.set_cons_zero, List.set_cons_succ])
                  refine wpAnyH_take (i := 13) (oi := ⟨some 99, _, _, _, _, _⟩) (v := .bool false) rfl (by kernel_rfl) (by kernel_rfl) (by kernel_rfl) (fun _ _ _ h => h) (Or.inl ⟨by rfl, ?y13e⟩) (by assumption) ?r13e
                  case y13e => (intro w hSw; (try dsimp only at hSw); (try go_split_ands); go_simp)
                  case r13e =>
                  (try simp only [Act.put, List.setIfInBounds_toArray, List.set_cons_zero, List.set_cons_succ])
                  refine wpAnyH_take (i := 14) (oi := ⟨some 100, _, _, _, _, _⟩) (v := ?v14e) rfl (by kernel_rfl) (by kernel_rfl) (by kernel_rfl) (fun _ _ _ h => h) (Or.inl ⟨by rfl, ?y14e⟩) (by assumption) ?r14e
                  case y14e => (intro w hSw; (try dsimp only at hSw); (try go_split_ands); go_simp); (try with_reducible rfl)
                  case r14e =>
                  (try simp only [Act.put, List.setIfInBounds_toArray, List.set_cons_zero, List.set_cons_succ])
                  refine wpAnyH_take (i := 15) (oi := ⟨some 101, _, _, _, _, _⟩) (v := ?v15e) rfl (by kernel_rfl) (by kernel_rfl) (by kernel_rfl) (fun _ _ _ h => h) (Or.inl ⟨by rfl, ?y15e⟩) (by assumption) ?r15e
                  case y15e => (intro w hSw; (try dsimp only at hSw); (try go_split_ands); go_simp); (try with_reducible rfl)
                  case r15e =>
                  (try simp only [Act.put, List.setIfInBounds_toArray, List.set_cons_zero, List.set_cons_succ])
                  refine wpAnyH_take (i := 16) (oi := ⟨some 102, _, _, _, _, _⟩) (v := ?v16e) rfl (by kernel_rfl) (by kernel_rfl) (by kernel_rfl) (fun _ _ _ h => h) (Or.inl ⟨by rfl, ?y16e⟩) (by assumption) ?r16e
                  case y16e => (intro w hSw; (try dsimp only at hSw); (try go_split_ands); go_simp); (try with_reducible rfl)
                  case r16e =>
                  (try simp only [Act.put, List.setIfInBounds_toArray, List.set_cons_zero, List.set_cons_succ])
                  refine wpAnyH_take (i := 17) (oi := ⟨some 103, _, _, _, _, _⟩) (v := ?v17e) rfl (by kernel_rfl) (by kernel_rfl) (by kernel_rfl) (fun _ _ _ h => h) (Or.inl ⟨by rfl, ?y17e⟩) (by assumption) ?r17e
                  case y17e => (intro w hSw; (try dsimp only at hSw); (try go_split_ands); go_simp); (try with_reducible rfl)
                  case r17e =>
                  (try simp only [Act.put, List.setIfInBounds_toArray, List.set_cons_zero, List.set_cons_succ])
                  refine wpAnyH_take (i := 18) (oi := ⟨some 104, _, _, _, _, _⟩) (v := ?v18e) rfl (by kernel_rfl) (by kernel_rfl) (by kernel_rfl) (fun _ _ _ h => h) (Or.inl ⟨by rfl, ?y18e⟩) (by assumption) ?r18e
                  case y18e => (intro w hSw; (try dsimp only at hSw); (try go_split_ands); go_simp); (try with_reducible rfl)
                  case r18e =>
                  (try simp only [Act.put, List.setIfInBounds_toArray, List.set_cons_zero, List.set_cons_succ])
                  refine wpAnyH_take (i := 19) (oi := ⟨some 105, _, _, _, _, _⟩) (v := ?v19e) rfl (by kernel_rfl) (by kernel_rfl) (by kernel_rfl) (fun _ _ _ h => h) (Or.inl ⟨by rfl, ?y19e⟩) (by assumption) ?r19e
                  case y19e => (intro w hSw; (try dsimp only at hSw); (try go_split_ands); go_simp); (try with_reducible rfl)
                  case r19e =>
                  (try simp only [Act.put, List.setIfInBounds_toArray, List.set_cons_zero, List.set_cons_succ])
                  refine wpAnyH_take (i := 20) (oi := ⟨some 106, _, _, _, _, _⟩) (v := ?v20e) rfl (by kernel_rfl) (by kernel_rfl) (by kernel_rfl) (fun _ _ _ h => h) (Or.inl ⟨by rfl, ?y20e⟩) (by assumption) ?r20e
                  case y20e => (intro w hSw; (try dsimp only at hSw); (try go_split_ands); go_simp); (try with_reducible rfl)
                  case r20e =>
                  (try simp only [Act.put, List.setIfInBounds_toArray, List.set_cons_zero, List.set_cons_succ])
                  refine wpAnyH_take (i := 21) (oi := ⟨some 107, _, _, _, _, _⟩) (v := ?v21e) rfl (by kernel_rfl) (by kernel_rfl) (by kernel_rfl) (fun _ _ _ h => h) (Or.inl ⟨by rfl, ?y21e⟩) (by assumption) ?r21e
                  case y21e => (intro w hSw; (try dsimp only at hSw); (try go_split_ands); go_simp); (try with_reducible rfl)
                  case r21e =>
                  (try simp only [Act.put, List.setIfInBounds_toArray, List.set_cons_zero, List.set_cons_succ])
                  refine wpAnyH_take (i := 22) (oi := ⟨some 108, _, _, _, _, _⟩) (v := .bool true) rfl (by kernel_rfl) (by kernel_rfl) (by kernel_rfl) (fun _ _ _ h => h) (Or.inl ⟨by rfl, ?y22e⟩) (by assumption) ?r22e
                  case y22e => (intro w hSw; (try dsimp only at hSw); (try go_split_ands); go_simp)
                  case r22e =>
                  (try simp only [Act.put, List.setIfInBounds_toArray, List.set_cons_zero, List.set_cons_succ])
                  refine wpAnyH_take (i := 23) (oi := ⟨some 109, _, _, _, _, _⟩) (v := .bool true) rfl (by kernel_rfl) (by kernel_rfl) (by kernel_rfl) (fun _ _ _ h => h) (Or.inl ⟨by rfl, ?y23e⟩) (by assumption) ?r23e
                  case y23e => (intro w hSw; (try dsimp only at hSw); (try go_split_ands); go_simp)
                  case r23e =>
                  (try simp only [Act.put, List.setIfInBounds_toArray, List.set_cons_zero, List.set_cons_succ])
                  refine wpAnyH_done (by kernel_rfl) ?_ _
                  go_wp2_with fail
                  exact ⟨⟨j + 1, (s1, s2), hjl, by go_num, rfl, HS2.out, HO.out, HBd.out⟩, measJ hjl⟩
                · have hS2 : (s1 + nv, ky) = (F.take (j + 1)).foldl (step2 z Sm) (0, []) := by rw [hst2]; exact (if_neg (fun hh => by rcases hh with hh | hh; exact hh rfl; exact h2 hh)).symm
                  have HS2 := Lib.hid hS2
                  clear hS2 hst2 hs1 hp0
                  go_wp2_with fail
                  refine wp_region_held_drew (S := (fun W => W.cell? ⟨b, 0, none⟩ = some (.slice (some ⟨gq, 0, none⟩) F.length cp) ∧ W.cell? ⟨gq, j * 3, none⟩ = some (.int .i64 z) ∧ W.cell? ⟨g, kk * 3, none⟩ = some (.int .i64 z) ∧ W.cell? ⟨g, kk * 3 + 1, none⟩ = some (.int .i64 Sm))) (by kernel_rfl) ⟨cb, a0, o0, o1⟩ (fun hHeld => ?_)
                  refine wpAnyH_take (i := 0) (oi := ⟨some 86, _, _, _, _, _⟩) (v := ?v0f) rfl (by kernel_rfl) (by kernel_rfl) (by kernel_rfl) (fun _ _ _ h => h) (Or.inl ⟨by rfl, ?y0f⟩) (by assumption) ?r0f
                  case y0f => (intro w hSw; (try dsimp only at hSw); (try go_split_ands); go_simp); (try with_reducible rfl)
                  case r0f =>
                  (try simp only [Act.put, List.setIfInBounds_toArray, List.set_cons_zero, List.set_cons_succ])
                  refine wpAnyH_take (i := 1) (oi := ⟨some 87, _, _, _, _, _⟩) (v := ?v1f) rfl (by kernel_rfl) (by kernel_rfl) (by kernel_rfl) (fun _ _ _ h => h) (Or.inl ⟨by rfl, ?y1f⟩) (by assumption) ?r1f
                  case y1f => (intro w hSw; (try dsimp only at hSw); (try go_split_ands); go_simp); (try with_reducible rfl)
                  case r1f =>
                  (try simp only [Act.put, List.setIfInBounds_toArray, List.set_cons_zero, List.set_cons_succ])
                  refine wpAnyH_take (i := 2) (oi := ⟨some 88, _, _, _, _, _⟩) (v := ?v2f) rfl (by kernel_rfl) (by kernel_rfl) (by kernel_rfl) (fun _ _ _ h => h) (Or.inl ⟨by rfl, ?y2f⟩) (by assumption) ?r2f
                  case y2f => (intro w hSw; (try dsimp only at hSw); (try go_split_ands); go_simp); (try with_reducible rfl)
                  case r2f =>
                  (try simp only [Act.put, List.setIfInBounds_toArray, List.set_cons_zero, List.set_cons_succ])
                  refine wpAnyH_take (i := 3) (oi := ⟨some 89, _, _, _, _, _⟩) (v := ?v3f) rfl (by kernel_rfl) (by kernel_rfl) (by kernel_rfl) (fun _ _ _ h => h) (Or.inl ⟨by rfl, ?y3f⟩) (by assumption) ?r3f
                  case y3f => (intro w hSw; (try dsimp only at hSw); (try go_split_ands); go_simp); (try with_reducible rfl)
                  case r3f =>
                  (try simp only [Act.put, List.setIfInBounds_toArray, List.set_cons_zero, List.set_cons_succ])
                  refine wpAnyH_take (i := 4) (oi := ⟨some 90, _, _, _, _, _⟩) (v := ?v4f) rfl (by kernel_rfl) (by kernel_rfl) (by kernel_rfl) (fun _ _ _ h => h) (Or.inl ⟨by rfl, ?y4f⟩) (by assumption) ?r4f
                  case y4f => (intro w hSw; (try dsimp only at hSw); (try go_split_ands); go_simp); (try with_reducible rfl)
                  case r4f =>
                  (try simp only [Act.put, List.setIfInBounds_toArray, List.set_cons_zero, List.set_cons_succ])
                  refine wpAnyH_take (i := 5) (oi := ⟨some 91, _, _, _, _, _⟩) (v := ?v5f) rfl (by kernel_rfl) (by kernel_rfl) (by kernel_rfl) (fun _ _ _ h => h) (Or.inl ⟨by rfl, ?y5f⟩) (by assumption) ?r5f
                  case y5f => (intro w hSw; (try dsimp only at hSw); (try go_split_ands); go_simp); (try with_reducible rfl)
                  case r5f =>
                  (try simp only [Act.put, List.setIfInBounds_toArray, List.set_cons_zero, List.set_cons_succ])
                  refine wpAnyH_take (i := 6) (oi := ⟨some 92, _, _, _, _, _⟩) (v := ?v6f) rfl (by kernel_rfl) (by kernel_rfl) (by kernel_rfl) (fun _ _ _ h => h) (Or.inl ⟨by rfl, ?y6f⟩) (by assumption) ?r6f
                  case y6f => (intro w hSw; (try dsimp only at hSw); (try go_split_ands); go_simp); (try with_reducible rfl)
                  case r6f =>
                  (try simp only [Act.put, List.setIfInBounds_toArray, List.set_cons_zero, List.set_cons_succ])
                  refine wpAnyH_take (i := 7) (oi := ⟨some 93, _, _, _, _, _⟩) (v := ?v7f) rfl (by kernel_rfl) (by kernel_rfl) (by kernel_rfl) (fun _ _ _ h => h) (Or.inl ⟨by rfl, ?y7f⟩) (by assumption) ?r7f
                  case y7f => (intro w hSw; (try dsimp only at hSw); (try go_split_ands); go_simp); (try with_reducible rfl)
                  case r7f =>
                  (try simp only [Act.put, List.setIfInBounds_toArray, List.set_cons_zero, List.set_cons_succ])
                  refine wpAnyH_take (i := 8) (oi := ⟨some 94, _, _, _, _, _⟩) (v := ?v8f) rfl (by kernel_rfl) (by kernel_rfl) (by kernel_rfl) (fun _ _ _ h => h) (Or.inl ⟨by rfl, ?y8f⟩) (by assumption) ?r8f
                  case y8f => (intro w hSw; (try dsimp only at hSw); (try go_split_ands); go_simp); (try with_reducible rfl)
                  case r8f =>
                  (try simp only [Act.put, List.setIfInBounds_toArray, List.set_cons_zero, List.set_cons_succ])
                  refine wpAnyH_take (i := 9) (oi := ⟨some 95, _, _, _, _, _⟩) (v := ?v9f) rfl (by kernel_rfl) (by kernel_rfl) (by kernel_rfl) (fun _ _ _ h => h) (Or.inl ⟨by rfl, ?y9f⟩) (by assumption) ?r9f
                  case y9f => (intro w hSw; (try dsimp only at hSw); (try go_split_ands); go_simp); (try with_reducible rfl)
                  case r9f =>
                  (try simp only [Act.put, List.setIfInBounds_toArray, List.set_cons_zero, List.set_cons_succ])
                  refine wpAnyH_take (i := 10) (oi := ⟨some 96, _, _, _, _, _⟩) (v := ?v10f) rfl (by kernel_rfl) (by kernel_rfl) (by kernel_rfl) (fun _ _ _ h => h) (Or.inl ⟨by rfl, ?y10f⟩) (by assumption) ?r10f
                  case y10f => (intro w hSw; (try dsimp only at hSw); (try go_split_ands); go_simp); (try with_reducible rfl)
                  case r10f =>
                  (try simp only [Act.put, List.setIfInBounds_toArray, List.set_cons_zero, List.set_cons_succ])
                  refine wpAnyH_take (i := 11) (oi := ⟨some 97, _, _, _, _, _⟩) (v := ?v11f) rfl (by kernel_rfl) (by kernel_rfl) (by kernel_rfl) (fun _ _ _ h => h) (Or.inl ⟨by rfl, ?y11f⟩) (by assumption) ?r11f
                  case y11f => (intro w hSw; (try dsimp only at hSw); (try go_split_ands); go_simp); (try with_reducible rfl)
                  case r11f =>
                  (try simp only [Act.put, List.setIfInBounds_toArray, List.set_cons_zero, List.set_cons_succ])
                  refine wpAnyH_take (i := 12) (oi := ⟨some 98, _, _, _, _, _⟩) (v := ?v12f) rfl (by kernel_rfl) (by kernel_rfl) (by kernel_rfl) (fun _ _ _ h => h) (Or.inl ⟨by rfl, ?y12f⟩) (by assumption) ?r12f
                  case y12f => (intro w hSw; (try dsimp only at hSw); (try go_split_ands); go_simp); (try with_reducible rfl)
                  case r12f =>
                  (try simp only [Act.put, List.setIfInBounds_toArray, List.set_cons_zero, List.set_cons_succ])
                  refine wpAnyH_take (i := 13) (oi := ⟨some 99, _, _, _, _, _⟩) (v := .bool false) rfl (by kernel_rfl) (by kernel_rfl) (by kernel_rfl) (fun _ _ _ h => h) (Or.inl ⟨by rfl, ?y13f⟩) (by assumption) ?r13f
                  case y13f => (intro w hSw; (try dsimp only at hSw); (try go_split_ands); go_simp)
                  case r13f =>
                  (try simp only [Act.put, List.setIfInBounds_toArray, List.set_cons_zero, List.set_cons_succ])
                  refine wpAnyH_take (i := 14) (oi := ⟨some 100, _, _, _, _, _⟩) (v := ?v14f) rfl (by kernel_rfl) (by kernel_rfl) (by kernel_rfl) (fun _ _ _ h => h) (Or.inl ⟨by rfl, ?y14f⟩) (by assumption) ?r14f
                  case y14f => (intro w hSw; (try dsimp only at hSw); (try go_split_ands); go_simp); (try with_reducible rfl)
                  case r14f =>
                  (try simp only [Act.put, List.setIfInBounds_toArray, List.set_cons_zero, List.set_cons_succ])
                  refine wpAnyH_take (i := 15) (oi := ⟨some 101, _, _, _, _, _⟩) (v := ?v15f) rfl (by kernel_rfl) (by kernel_rfl) (by kernel_rfl) (fun _ _ _ h => h) (Or.inl ⟨by rfl, ?y15f⟩) (by assumption) ?r15f
                  case y15f => (intro w hSw; (try dsimp only at hSw); (try go_split_ands); go_simp); (try with_reducible rfl)
                  case r15f =>
                  (try simp only [Act.put, List.setIfInBounds_toArray, List.set_cons_zero, List.set_cons_succ])
                  refine wpAnyH_take (i := 16) (oi := ⟨some 102, _, _, _, _, _⟩) (v := ?v16f) rfl (by kernel_rfl) (by kernel_rfl) (by kernel_rfl) (fun _ _ _ h => h) (Or.inl ⟨by rfl, ?y16f⟩) (by assumption) ?r16f
                  case y16f => (intro w hSw; (try dsimp only at hSw); (try go_split_ands); go_simp); (try with_reducible rfl)
                  case r16f =>
                  (try simp only [Act.put, List.setIfInBounds_toArray, List.set_cons_zero, List.set_cons_succ])
                  refine wpAnyH_take (i := 17) (oi := ⟨some 103, _, _, _, _, _⟩) (v := ?v17f) rfl (by kernel_rfl) (by kernel_rfl) (by kernel_rfl) (fun _ _ _ h => h) (Or.inl ⟨by rfl, ?y17f⟩) (by assumption) ?r17f
                  case y17f => (intro w hSw; (try dsimp only at hSw); (try go_split_ands); go_simp); (try with_reducible rfl)
                  case r17f =>
                  (try simp only [Act.put, List.setIfInBounds_toArray, List.set_cons_zero, List.set_cons_succ])
                  refine wpAnyH_take (i := 18) (oi := ⟨some 104, _, _, _, _, _⟩) (v := ?v18f) rfl (by kernel_rfl) (by kernel_rfl) (by kernel_rfl) (fun _ _ _ h => h) (Or.inl ⟨by rfl, ?y18f⟩) (by assumption) ?r18f
                  case y18f => (intro w hSw; (try dsimp only at hSw); (try go_split_ands); go_simp); (try with_reducible rfl)
                  case r18f =>
                  (try simp only [Act.put, List.setIfInBounds_toArray, List.set_cons_zero, List.set_cons_succ])
                  refine wpAnyH_take (i := 19) (oi := ⟨some 105, _, _, _, _, _⟩) (v := ?v19f) rfl (by kernel_rfl) (by kernel_rfl) (by kernel_rfl) (fun _ _ _ h => h) (Or.inl ⟨by rfl, ?y19f⟩) (by assumption) ?r19f
                  case y19f => (intro w hSw; (try dsimp only at hSw); (try go_split_ands); go_simp); (try with_reducible rfl)
                  case r19f =>
                  (try simp only [Act.put, List.setIfInBounds_toArray, List.set_cons_zero, List.set_cons_succ])
                  refine wpAnyH_take (i := 20) (oi := ⟨some 106, _, _, _, _, _⟩) (v := ?v20f) rfl (by kernel_rfl) (by kernel_rfl) (by kernel_rfl) (fun _ _ _ h => h) (Or.inl ⟨by rfl, ?y20f⟩) (by assumption) ?r20f
                  case y20f => (intro w hSw; (try dsimp only at hSw); (try go_split_ands); go_simp); (try with_reducible rfl)
                  case r20f =>
                  (try simp only [Act.put, List.setIfInBounds_toArray, List.set_cons_zero, List.set_cons_succ])
                  refine wpAnyH_take (i := 21) (oi := ⟨some 107, _, _, _, _, _⟩) (v := ?v21f) rfl (by kernel_rfl) (by kernel_rfl) (by kernel_rfl) (fun _ _ _ h => h) (Or.inl ⟨by rfl, ?y21f⟩) (by assumption) ?r21f
                  case y21f => (intro w hSw; (try dsimp only at hSw); (try go_split_ands); go_simp); (try with_reducible rfl)
                  case r21f =>
                  (try simp only [Act.put, List.setIfInBounds_toArray, List.set_cons_zero, List.set_cons_succ])
                  refine wpAnyH_take (i := 22) (oi := ⟨some 108, _, _, _, _, _⟩) (v := .bool false) rfl (by kernel_rfl) (by kernel_rfl) (by kernel_rfl) (fun _ _ _ h => h) (Or.inl ⟨by rfl, ?y22f⟩) (by assumption) ?r22f
                  case y22f => (intro w hSw; (try dsimp only at hSw); (try go_split_ands); go_simp)
                  case r22f =>
                  (try simp only [Act.put, List.setIfInBounds_toArray, List.set_cons_zero, List.set_cons_succ])
                  refine wpAnyH_take (i := 23) (oi := ⟨some 109, _, _, _, _, _⟩) (v := .bool false) rfl (by kernel_rfl) (by kernel_rfl) (by kernel_rfl) (fun _ _ _ h => h) (Or.inl ⟨by rfl, ?y23f⟩) (by assumption) ?r23f
                  case y23f => (intro w hSw; (try dsimp only at hSw); (try go_split_ands); go_simp)
                  case r23f =>
                  (try simp only [Act.put, List.setIfInBounds_toArray, List.set_cons_zero, List.set_cons_succ])
                  refine wpAnyH_done (by kernel_rfl) ?_ _
                  go_wp2_with fail
                  exact ⟨⟨j + 1, (s1 + nv, ky), hjl, by go_num, congrArg (Value.int .i64) HWA.out, HS2.out, HO2.out, HB2.out⟩, measJ hjl⟩
              · have hS2 : (s1, s2) = (F.take (j + 1)).foldl (step2 z Sm) (0, []) := by rw [hst2]; exact (if_pos (.inl hzz)).symm
                have HS2 := Lib.hid hS2
                clear hS2 hst2 hs1 hp0
                go_wp2_with fail
                refine wp_region_held_drew (S := (fun W => W.cell? ⟨b, 0, none⟩ = some (.slice (some ⟨gq, 0, none⟩) F.length cp) ∧ W.cell? ⟨gq, j * 3, none⟩ = some (.int .i64 zz) ∧ W.cell? ⟨g, kk * 3, none⟩ = some (.int .i64 z) ∧ W.cell? ⟨g, kk * 3 + 1, none⟩ = some (.int .i64 Sm))) (by kernel_rfl) ⟨cb, a0, o0, o1⟩ (fun hHeld => ?_)
                refine wpAnyH_take (i := 0) (oi := ⟨some 86, _, _, _, _, _⟩) (v := ?v0d) rfl (by kernel_rfl) (by kernel_rfl) (by kernel_rfl) (fun _ _ _ h => h) (Or.inl ⟨by rfl, ?y0d⟩) (by assumption) ?r0d
                case y0d => (intro w hSw; (try dsimp only at hSw); (try go_split_ands); go_simp); (try with_reducible rfl)
                case r0d =>
                (try simp only [Act.put, List.setIfInBounds_toArray, List.set_cons_zero, List.set_cons_succ])
                refine wpAnyH_take (i := 1) (oi := ⟨some 87, _, _, _, _, _⟩) (v := ?v1d) rfl (by kernel_rfl) (by kernel_rfl) (by kernel_rfl) (fun _ _ _ h => h) (Or.inl ⟨by rfl, ?y1d⟩) (by assumption) ?r1d
                case y1d => (intro w hSw; (try dsimp only at hSw); (try go_split_ands); go_simp); (try with_reducible rfl)
                case r1d =>
                (try simp only [Act.put, List.setIfInBounds_toArray, List.set_cons_zero, List.set_cons_succ])
                refine wpAnyH_take (i := 2) (oi := ⟨some 88, _, _, _, _, _⟩) (v := ?v2d) rfl (by kernel_rfl) (by kernel_rfl) (by kernel_rfl) (fun _ _ _ h => h) (Or.inl ⟨by rfl, ?y2d⟩) (by assumption) ?r2d
                case y2d => (intro w hSw; (try dsimp only at hSw); (try go_split_ands); go_simp); (try with_reducible rfl)
                case r2d =>
                (try simp only [Act.put, List.setIfInBounds_toArray, List.set_cons_zero, List.set_cons_succ])
                refine wpAnyH_take (i := 3) (oi := ⟨some 89, _, _, _, _, _⟩) (v := ?v3d) rfl (by kernel_rfl) (by kernel_rfl) (by kernel_rfl) (fun _ _ _ h => h) (Or.inl ⟨by rfl, ?y3d⟩) (by assumption) ?r3d
                case y3d => (intro w hSw; (try dsimp only at hSw); (try go_split_ands); go_simp); (try with_reducible rfl)
                case r3d =>
                (try simp only [Act.put, List.setIfInBounds_toArray, List.set_cons_zero, List.set_cons_succ])
                refine wpAnyH_take (i := 4) (oi := ⟨some 90, _, _, _, _, _⟩) (v := ?v4d) rfl (by kernel_rfl) (by kernel_rfl) (by kernel_rfl) (fun _ _ _ h => h) (Or.inl ⟨by rfl, ?y4d⟩) (by assumption) ?r4d
                case y4d => (intro w hSw; (try dsimp only at hSw); (try go_split_ands); go_simp); (try with_reducible rfl)
                case r4d =>
                (try simp only [Act.put, List.setIfInBounds_toArray, List.set_cons_zero, List.set_cons_succ])
                refine wpAnyH_take (i := 5) (oi := ⟨some 91, _, _, _, _, _⟩) (v := ?v5d) rfl (by kernel_rfl) (by kernel_rfl) (by kernel_rfl) (fun _ _ _ h => h) (Or.inl ⟨by rfl, ?y5d⟩) (by assumption) ?r5d
                case y5d => (intro w hSw; (try dsimp only at hSw); (try go_split_ands); go_simp); (try with_reducible rfl)
                case r5d =>
                (try simp only [Act.put, List.setIfInBounds_toArray, List.set_cons_zero, List.set_cons_succ])
                refine wpAnyH_take (i := 6) (oi := ⟨some 92, _, _, _, _, _⟩) (v := ?v6d) rfl (by kernel_rfl) (by kernel_rfl) (by kernel_rfl) (fun _ _ _ h => h) (Or.inl ⟨by rfl, ?y6d⟩) (by assumption) ?r6d
                case y6d => (intro w hSw; (try dsimp only at hSw); (try go_split_ands); go_simp); (try with_reducible rfl)
                case r6d =>
                (try simp only [Act.put, List.setIfInBounds_toArray, List.set_cons_zero, List.set_cons_succ])
                refine wpAnyH_take (i := 7) (oi := ⟨some 93, _, _, _, _, _⟩) (v := .int .i64 zz) rfl (by kernel_rfl) (by kernel_rfl) (by kernel_rfl) (fun _ _ _ h => h) (Or.inl ⟨by rfl, ?y7d⟩) (by assumption) ?r7d
                case y7d => (intro w hSw; (try dsimp only at hSw); (try go_split_ands); go_simp)
                case r7d =>
                (try simp only [Act.put, List.setIfInBounds_toArray, List.set_cons_zero, List.set_cons_succ])
                refine wpAnyH_take (i := 8) (oi := ⟨some 94, _, _, _, _, _⟩) (v := ?v8d) rfl (by kernel_rfl) (by kernel_rfl) (by kernel_rfl) (fun _ _ _ h => h) (Or.inl ⟨by rfl, ?y8d⟩) (by assumption) ?r8d
                case y8d => (intro w hSw; (try dsimp only at hSw); (try go_split_ands); go_simp); (try with_reducible rfl)
                case r8d =>
                (try simp only [Act.put, List.setIfInBounds_toArray, List.set_cons_zero, List.set_cons_succ])
                refine wpAnyH_take (i := 9) (oi := ⟨some 95, _, _, _, _, _⟩) (v := ?v9d) rfl (by kernel_rfl) (by kernel_rfl) (by kernel_rfl) (fun _ _ _ h => h) (Or.inl ⟨by rfl, ?y9d⟩) (by assumption) ?r9d
                case y9d => (intro w hSw; (try dsimp only at hSw); (try go_split_ands); go_simp); (try with_reducible rfl)
                case r9d =>
                (try simp only [Act.put, List.setIfInBounds_toArray, List.set_cons_zero, List.set_cons_succ])
                refine wpAnyH_take (i := 10) (oi := ⟨some 96, _, _, _, _, _⟩) (v := ?v10d) rfl (by kernel_rfl) (by kernel_rfl) (by kernel_rfl) (fun _ _ _ h => h) (Or.inl ⟨by rfl, ?y10d⟩) (by assumption) ?r10d
                case y10d => (intro w hSw; (try dsimp only at hSw); (try go_split_ands); go_simp); (try with_reducible rfl)
                case r10d =>
                (try simp only [Act.put, List.setIfInBounds_toArray, List.set_cons_zero, List.set_cons_succ])
                refine wpAnyH_take (i := 11) (oi := ⟨some 97, _, _, _, _, _⟩) (v := ?v11d) rfl (by kernel_rfl) (by kernel_rfl) (by kernel_rfl) (fun _ _ _ h => h) (Or.inl ⟨by rfl, ?y11d⟩) (by assumption) ?r11d
                case y11d => (intro w hSw; (try dsimp only at hSw); (try go_split_ands); go_simp); (try with_reducible rfl)
                case r11d =>
                (try simp only [Act.put, List.setIfInBounds_toArray, List.set_cons_zero, List.set_cons_succ])
                refine wpAnyH_take (i := 12) (oi := ⟨some 98, _, _, _, _, _⟩) (v := .int .i64 z) rfl (by kernel_rfl) (by kernel_rfl) (by kernel_rfl) (fun _ _ _ h => h) (Or.inl ⟨by rfl, ?y12d⟩) (by assumption) ?r12d
                case y12d => (intro w hSw; (try dsimp only at hSw); (try go_split_ands); go_simp)
                case r12d =>
                (try simp only [Act.put, List.setIfInBounds_toArray, List.set_cons_zero, List.set_cons_succ])
                refine wpAnyH_take (i := 13) (oi := ⟨some 99, _, _, _, _, _⟩) (v := .bool true) rfl (by kernel_rfl) (by kernel_rfl) (by kernel_rfl) (fun _ _ _ h => h) (Or.inl ⟨by rfl, ?y13d⟩) (by assumption) ?r13d
                case y13d => (intro w hSw; (try dsimp only at hSw); (try go_split_ands); go_simp)
                case r13d =>
                (try simp only [Act.put, List.setIfInBounds_toArray, List.set_cons_zero, List.set_cons_succ])
                refine wpAnyH_take (i := 14) (oi := ⟨some 100, _, _, _, _, _⟩) (v := .bool true) rfl (by kernel_rfl) (by kernel_rfl) (by kernel_rfl) (fun _ _ _ h => h) (Or.inl ⟨by rfl, ?y14d⟩) (by assumption) ?r14d
                case y14d => (intro w hSw; (try dsimp only at hSw); (try go_split_ands); go_simp)
                case r14d =>
                (try simp only [Act.put, List.setIfInBounds_toArray, List.set_cons_zero, List.set_cons_succ])
                refine wpAnyH_take (i := 15) (oi := ⟨some 101, _, _, _, _, _⟩) (v := undef) rfl (by kernel_rfl) (by kernel_rfl) (by kernel_rfl) (fun _ _ _ h => h) (Or.inr ⟨by rfl, rfl⟩) (by assumption) ?_
                (try simp only [Act.put, List.setIfInBounds_toArray, List.set_cons_zero, List.set_cons_succ])
                refine wpAnyH_take (i := 16) (oi := ⟨some 102, _, _, _, _, _⟩) (v := undef) rfl (by kernel_rfl) (by kernel_rfl) (by kernel_rfl) (fun _ _ _ h => h) (Or.inr ⟨by rfl, rfl⟩) (by assumption) ?_
                (try simp only [Act.put, List.setIfInBounds_toArray, List.set_cons_zero, List.set_cons_succ])
                refine wpAnyH_take (i := 17) (oi := ⟨some 103, _, _, _, _, _⟩) (v := undef) rfl (by kernel_rfl) (by kernel_rfl) (by kernel_rfl) (fun _ _ _ h => h) (Or.inr ⟨by rfl, rfl⟩) (by assumption) ?_
                (try simp only [Act.put, List.setIfInBounds_toArray, List.set_cons_zero, List.set_cons_succ])
                refine wpAnyH_take (i := 18) (oi := ⟨some 104, _, _, _, _, _⟩) (v := undef) rfl (by kernel_rfl) (by kernel_rfl) (by kernel_rfl) (fun _ _ _ h => h) (Or.inr ⟨by rfl, rfl⟩) (by assumption) ?_
                (try simp only [Act.put, List.setIfInBounds_toArray, List.set_cons_zero, List.set_cons_succ])
                refine wpAnyH_take (i := 19) (oi := ⟨some 105, _, _, _, _, _⟩) (v := undef) rfl (by kernel_rfl) (by kernel_rfl) (by kernel_rfl) (fun _ _ _ h => h) (Or.inr ⟨by rfl, rfl⟩) (by assumption) ?_
                (try simp only [Act.put, List.setIfInBounds_toArray, List.set_cons_zero, List.set_cons_succ])
                refine wpAnyH_take (i := 20) (oi := ⟨some 106, _, _, _, _, _⟩) (v := undef) rfl (by kernel_rfl) (by kernel_rfl) (by kernel_rfl) (fun _ _ _ h => h) (Or.inr ⟨by rfl, rfl⟩) (by assumption) ?_
                (try simp only [Act.put, List.setIfInBounds_toArray, List.set_cons_zero, List.set_cons_succ])
                refine wpAnyH_take (i := 21) (oi := ⟨some 107, _, _, _, _, _⟩) (v := undef) rfl (by kernel_rfl) (by kernel_rfl) (by kernel_rfl) (fun _ _ _ h => h) (Or.inr ⟨by rfl, rfl⟩) (by assumption) ?_
                (try simp only [Act.put, List.setIfInBounds_toArray, List.set_cons_zero, List.set_cons_succ])
                refine wpAnyH_take (i := 22) (oi := ⟨some 108, _, _, _, _, _⟩) (v := undef) rfl (by kernel_rfl) (by kernel_rfl) (by kernel_rfl) (fun _ _ _ h => h) (Or.inr ⟨by rfl, rfl⟩) (by assumption) ?_
                (try simp only [Act.put, List.setIfInBounds_toArray, List.set_cons_zero, List.set_cons_succ])
                refine wpAnyH_take (i := 23) (oi := ⟨some 109, _, _, _, _, _⟩) (v := .bool true) rfl (by kernel_rfl) (by kernel_rfl) (by kernel_rfl) (fun _ _ _ h => h) (Or.inl ⟨by rfl, ?y23d⟩) (by assumption) ?r23d
                case y23d => (intro w hSw; (try dsimp only at hSw); (try go_split_ands); go_simp)
                case r23d =>
                (try simp only [Act.put, List.setIfInBounds_toArray, List.set_cons_zero, List.set_cons_succ])
                refine wpAnyH_done (by kernel_rfl) ?_ _
                go_wp2_with fail
                exact ⟨⟨j + 1, (s1, s2), hjl, by go_num, rfl, HS2.out, HO.out, HBd.out⟩, measJ hjl⟩
            · obtain rfl : F.length = j := by omega
              rw [List.take_length] at hs
              have hmid : s2 = midM Sm 0 m := by rw [← HF2.out, ← hs]
              rw [hmid, HNXT.out] at howni
              have HO := Lib.hid howni
              have HBd := Lib.hid hBi
              clear howni hBi hs hmid
              go_wp2_with fail
              exact ⟨⟨kk + 1, hkl, by go_num, HO.out, HBd.out⟩, measJ hkl⟩
        · obtain rfl : n = kk := by omega
          rw [HNK.out, mixR_end] at hownq
          go_wp2_with fail
          go_ret
          exact ⟨_, rfl, hownq, hBq⟩
end Go.Proofs.Ytfakfnekcgkelaa
