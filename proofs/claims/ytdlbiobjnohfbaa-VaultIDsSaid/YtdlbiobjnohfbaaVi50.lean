/- VaultIDs: the walk. -/
import Derived.Test.YtdlbiobjnohfbaaLayK
import Derived.ProofKit
import Derived.Test.YtdlbiobjnohfbaaProg
import Derived.WalkKit
import Derived.WalkSpells
import Derived.WalkLawsBesides
import Derived.Deep.QuietTactic
import Derived.BigQuiet
import Derived.RegionTactic
import Derived.BigRegion
import Derived.Outline
import Derived.LoopTactic
import Derived.Lib.Hide
import Derived.Deep.RegionHeld3
import Derived.Laws.AppendOwnNone
import Derived.Deep.AppendLies
import Derived.Maps.AppendAt
import Derived.Laws.Rows
import Derived.Laws.OwnMore
import Derived.Deep.RegionLaw
import Derived.Deep.Onto
import Derived.Maps.Own
import Derived.Maps.RangeRun
import Derived.Carry
import Derived.Maps.Range
import Derived.Deep.DeepMust
import Derived.WideShapes
import Derived.Sort.KeysCollected
import Derived.StringKeys
import Derived.Shelf.SlIter.Nil
import Derived.Shelf.SlIter.Sorted
import Derived.Shelf.SortM.Plain
import Derived.Shelf.SortM.SortNone
import Derived.Deep.Cut
import Derived.StillTailTactics
import Derived.Deep.Light
import Derived.Test.YtdlbiobjnohfbaaLay
import Derived.Shelf.SlSortCmp.NoneTotal
import GoSem.Op.String
import Derived.Lib.Strings
import Derived.OpenShut
import Derived.ShutString
import Derived.Deep.SlicePairs
import Derived.Laws.IdiomArrays
import Derived.Deep.CutBlock
import Derived.Deep.DeepCutAuto
import Derived.Test.YtdlbiobjnohfbaaVi0
import Derived.Test.YtdlbiobjnohfbaaVi1
import Derived.Test.YtdlbiobjnohfbaaVi2
import Derived.Test.YtdlbiobjnohfbaaVi3
import Derived.Test.YtdlbiobjnohfbaaVi4
import Derived.Test.YtdlbiobjnohfbaaVi5
import Derived.Test.YtdlbiobjnohfbaaVi6
import Derived.Test.YtdlbiobjnohfbaaVi7
import Derived.Test.YtdlbiobjnohfbaaVi8
import Derived.Test.YtdlbiobjnohfbaaVi9
import Derived.Test.YtdlbiobjnohfbaaVi10
import Derived.Test.YtdlbiobjnohfbaaVi11
import Derived.Test.YtdlbiobjnohfbaaVi12
import Derived.Test.YtdlbiobjnohfbaaVi13
import Derived.Test.YtdlbiobjnohfbaaVi14
import Derived.Test.YtdlbiobjnohfbaaVi15
import Derived.Test.YtdlbiobjnohfbaaVi16
import Derived.Test.YtdlbiobjnohfbaaVi17
import Derived.Test.YtdlbiobjnohfbaaVi18
import Derived.Test.YtdlbiobjnohfbaaVi19
import Derived.Test.YtdlbiobjnohfbaaVi20
import Derived.Test.YtdlbiobjnohfbaaVi21
import Derived.Test.YtdlbiobjnohfbaaVi22
import Derived.Test.YtdlbiobjnohfbaaVi23
import Derived.Test.YtdlbiobjnohfbaaVi24
import Derived.Test.YtdlbiobjnohfbaaVi25
import Derived.Test.YtdlbiobjnohfbaaVi26
import Derived.Test.YtdlbiobjnohfbaaVi27
import Derived.Test.YtdlbiobjnohfbaaVi28
import Derived.Test.YtdlbiobjnohfbaaVi29
import Derived.Test.YtdlbiobjnohfbaaVi30
import Derived.Test.YtdlbiobjnohfbaaVi31
import Derived.Test.YtdlbiobjnohfbaaVi32
import Derived.Test.YtdlbiobjnohfbaaVi33
import Derived.Test.YtdlbiobjnohfbaaVi34
import Derived.Test.YtdlbiobjnohfbaaVi35
import Derived.Test.YtdlbiobjnohfbaaVi36
import Derived.Test.YtdlbiobjnohfbaaVi37
import Derived.Test.YtdlbiobjnohfbaaVi38
import Derived.Test.YtdlbiobjnohfbaaVi39
import Derived.Test.YtdlbiobjnohfbaaVi40
import Derived.Test.YtdlbiobjnohfbaaVi41
import Derived.Test.YtdlbiobjnohfbaaVi42
import Derived.Test.YtdlbiobjnohfbaaVi43
import Derived.Test.YtdlbiobjnohfbaaVi44
import Derived.Test.YtdlbiobjnohfbaaVi45
import Derived.Test.YtdlbiobjnohfbaaVi46
import Derived.Test.YtdlbiobjnohfbaaVi47
import Derived.Test.YtdlbiobjnohfbaaVi48
import Derived.Test.YtdlbiobjnohfbaaVi49
namespace Go.Proofs.Ytdlbiobjnohfbaa
open Go.RowKit Go.ChangeMaps Go.MapKept
set_option linter.unusedVariables false
set_option linter.unusedSimpArgs false
theorem rowsP_two {l : Pm} (hn : (l.map (·.1)).Nodup) {j k : Nat} {p q : Hd} (hj : (rowsP l)[j]? = some p) (hk : (rowsP l)[k]? = some q) (h : j < k) : Op.bytesLess p.1 q.1 = true := by
  obtain ⟨h1, e1⟩ := List.getElem?_eq_some_iff.1 hj
  obtain ⟨h2, e2⟩ := List.getElem?_eq_some_iff.1 hk
  have := List.pairwise_iff_getElem.1 (rowsP_sorted hn) j k h1 h2 h
  rw [e1, e2] at this
  exact this
theorem rowsP_mem {l : Pm} (hl : PmOk l) {k : Nat} {q : Hd} (hk : (rowsP l)[k]? = some q) : hasP l q.1 = q.2 ∧ q.2 ≠ z4 := by
  have hm : q ∈ rowsP l := List.mem_of_getElem? hk
  have hm2 := (rowsP_perm hl.1).mem_iff.1 hm
  exact ⟨has_mem hl.1 hm2, (hl.2 q hm2).1⟩
set_option maxHeartbeats 10000000 in
set_option maxRecDepth 10000 in
theorem walkVaultIDs (A : Option Addr) (c : Nat) (xs : List Va) (w : World) (hx : Cells w w.heap.size A xs.length c 13 (xs.flatMap vaV)) :
    Calls Try.prog 5 #[.slice A xs.length c] w fun e w' => e = .returned (.bool true) ∧ Below w.heap.size w w' := by
  have HX := Lib.hid hx
  clear hx
  go_enter Try.func5, Try.ntmps5
  go_wp2_with fail
  refine (vtHeavy A c xs _ HX.out).mono ?_
  rintro e w1 ⟨hv, rfl, hb1⟩
  cases hv with
  | true =>
    go_wp2_with fail
    go_ret
    exact ⟨rfl, hb1⟩
  | false =>
  go_wp2_with (first
    | (go_at_call 7; refine (stNew w _ hb1).mono ?_; rintro e w2 ⟨rfl, hst2, _⟩; have HST2 := Lib.hid hst2; clear hst2)
    | fail)
  obtain ⟨b, hb⟩ : ∃ b, b = w1.heap.size := ⟨_, rfl⟩
  rw [← hb] at HST2 ⊢
  clear hb hb1
  go_loopw [4, 5, 6, 7, 8, 9, 10, 11] (fun nx iv v6 v7 v8 v9 v10 v11 wr => ∃ (i : Nat) (l : Pm) (L : List Od) (gone : Int) (N : List By), i ≤ min xs.length 100 ∧ iv = .int .i64 i ∧ nx = .int .i64 (gone + 1) ∧ St w wr b l L gone (fun _ => False) ∧ Nms N l L ∧ N.length ≤ i) (fun _ iv _ _ _ _ _ _ _ => min xs.length 100 - (intOf iv).toNat)
  case atStart => exact ⟨0, [], [], 0, [], Nat.zero_le _, rfl, rfl, HST2.out, Nms.nil, by simp⟩
  case round =>
    clear HST2
    obtain ⟨i, l, L, gone, N, hil, rfl, rfl, hst, hnm, hnl⟩ := hrel
    have hg := hst.num
    have hBw := hst.bel
    have hsw := hBw.size
    have HST := Lib.hid hst
    have HNM := Lib.hid hnm
    by_cases hlt : i < min xs.length 100
    · have q3 : (i : Int) < (xs.length : Int) := by omega
      have q4 : (i : Int) < 100 := by omega
      obtain ⟨qb, qo, rfl, hqb, hcell⟩ := va_cell HX.out (show i < xs.length by omega)
      obtain ⟨a, ha⟩ : ∃ a, a = xs[i] := ⟨_, rfl⟩
      rw [← ha] at hcell
      have HD := Lib.hid hcell
      have hqw : qb < wr.heap.size := by omega
      have c0 := bkeep hBw (hcell 0 _ (by decide) rfl) hqb
      have c1 := bkeep hBw (hcell 1 _ (by decide) rfl) hqb
      have c2 := bkeep hBw (hcell 2 _ (by decide) rfl) hqb
      have c3 := bkeep hBw (hcell 3 _ (by decide) rfl) hqb
      have c4 := bkeep hBw (hcell 4 _ (by decide) rfl) hqb
      have c5 := bkeep hBw (hcell 5 _ (by decide) rfl) hqb
      have c6 := bkeep hBw (hcell 6 _ (by decide) rfl) hqb
      have c7 := bkeep hBw (hcell 7 _ (by decide) rfl) hqb
      have c8 := bkeep hBw (hcell 8 _ (by decide) rfl) hqb
      have c9 := bkeep hBw (hcell 9 _ (by decide) rfl) hqb
      have c10 := bkeep hBw (hcell 10 _ (by decide) rfl) hqb
      have c11 := bkeep hBw (hcell 11 _ (by decide) rfl) hqb
      have c12 := bkeep hBw (hcell 12 _ (by decide) rfl) hqb
      simp only [Nat.add_zero] at c0
      clear hst hnm hcell ha hBw
      go_upto_block 2 with fail
      go_cut [4, 31] (fun nx kd wq => ∃ (l5 : Pm) (L5 : List Od) (g5 : Int) (N5 : List By), nx = .int .i64 (g5 + 1) ∧ St w wq b l5 L5 g5 (fun _ => False) ∧ Nms N5 l5 L5 ∧ N5.length ≤ i + 1)
      case first =>
        by_cases k1 : a.kind = 1
        · go_wp2_with fail
          refine wp_region_held_drew (S := (fun W => W.cell? ⟨qb, qo + i * 13 + 2, none⟩ = some (.string a.who) ∧ W.cell? ⟨qb, qo + i * 13 + 3, none⟩ = some (.int .i64 a.i.1) ∧ W.cell? ⟨qb, qo + i * 13 + 4, none⟩ = some (.int .i64 a.i.2.1) ∧ W.cell? ⟨qb, qo + i * 13 + 5, none⟩ = some (.int .i64 a.i.2.2.1) ∧ W.cell? ⟨qb, qo + i * 13 + 6, none⟩ = some (.int .i64 a.i.2.2.2))) (by kernel_rfl) ⟨c2, c3, c4, c5, c6⟩ (fun hHeld => ?_)
          refine wpAnyH_take (i := 0) (oi := ⟨some 34, _, _, _, _, _⟩) (v := ?v0p) rfl (by kernel_rfl) (by kernel_rfl) (by kernel_rfl) (fun _ _ _ h => h) (Or.inl ⟨by rfl, ?y0p⟩) (by assumption) ?r0p
          case y0p => (intro w hSw; (try dsimp only at hSw); (try go_split_ands); go_simp); (try with_reducible rfl)
          case r0p =>
          (try simp only [Act.put, List.setIfInBounds_toArray, List.set_cons_zero, List.set_cons_succ])
          refine wpAnyH_take (i := 1) (oi := ⟨some 35, _, _, _, _, _⟩) (v := ?v1p) rfl (by kernel_rfl) (by kernel_rfl) (by kernel_rfl) (fun _ _ _ h => h) (Or.inl ⟨by rfl, ?y1p⟩) (by assumption) ?r1p
          case y1p => (intro w hSw; (try dsimp only at hSw); (try go_split_ands); go_simp); (try with_reducible rfl)
          case r1p =>
          (try simp only [Act.put, List.setIfInBounds_toArray, List.set_cons_zero, List.set_cons_succ])
          refine wpAnyH_take (i := 2) (oi := ⟨some 36, _, _, _, _, _⟩) (v := ?v2p) rfl (by kernel_rfl) (by kernel_rfl) (by kernel_rfl) (fun _ _ _ h => h) (Or.inl ⟨by rfl, ?y2p⟩) (by assumption) ?r2p
          case y2p => (intro w hSw; (try dsimp only at hSw); (try go_split_ands); go_simp); (try with_reducible rfl)
          case r2p =>
          (try simp only [Act.put, List.setIfInBounds_toArray, List.set_cons_zero, List.set_cons_succ])
          refine wpAnyH_take (i := 3) (oi := ⟨some 37, _, _, _, _, _⟩) (v := ?v3p) rfl (by kernel_rfl) (by kernel_rfl) (by kernel_rfl) (fun _ _ _ h => h) (Or.inl ⟨by rfl, ?y3p⟩) (by assumption) ?r3p
          case y3p => (intro w hSw; (try dsimp only at hSw); (try go_split_ands); go_simp); (try with_reducible rfl)
          case r3p =>
          (try simp only [Act.put, List.setIfInBounds_toArray, List.set_cons_zero, List.set_cons_succ])
          refine wpAnyH_take (i := 4) (oi := ⟨some 38, _, _, _, _, _⟩) (v := ?v4p) rfl (by kernel_rfl) (by kernel_rfl) (by kernel_rfl) (fun _ _ _ h => h) (Or.inl ⟨by rfl, ?y4p⟩) (by assumption) ?r4p
          case y4p => (intro w hSw; (try dsimp only at hSw); (try go_split_ands); go_simp); (try with_reducible rfl)
          case r4p =>
          (try simp only [Act.put, List.setIfInBounds_toArray, List.set_cons_zero, List.set_cons_succ])
          refine wpAnyH_take (i := 5) (oi := ⟨some 39, _, _, _, _, _⟩) (v := ?v5p) rfl (by kernel_rfl) (by kernel_rfl) (by kernel_rfl) (fun _ _ _ h => h) (Or.inl ⟨by rfl, ?y5p⟩) (by assumption) ?r5p
          case y5p => (intro w hSw; (try dsimp only at hSw); (try go_split_ands); go_simp); (try with_reducible rfl)
          case r5p =>
          (try simp only [Act.put, List.setIfInBounds_toArray, List.set_cons_zero, List.set_cons_succ])
          refine wpAnyH_take (i := 6) (oi := ⟨some 40, _, _, _, _, _⟩) (v := ?v6p) rfl (by kernel_rfl) (by kernel_rfl) (by kernel_rfl) (fun _ _ _ h => h) (Or.inl ⟨by rfl, ?y6p⟩) (by assumption) ?r6p
          case y6p => (intro w hSw; (try dsimp only at hSw); (try go_split_ands); go_simp); (try with_reducible rfl)
          case r6p =>
          (try simp only [Act.put, List.setIfInBounds_toArray, List.set_cons_zero, List.set_cons_succ])
          refine wpAnyH_take (i := 7) (oi := ⟨some 41, _, _, _, _, _⟩) (v := ?v7p) rfl (by kernel_rfl) (by kernel_rfl) (by kernel_rfl) (fun _ _ _ h => h) (Or.inl ⟨by rfl, ?y7p⟩) (by assumption) ?r7p
          case y7p => (intro w hSw; (try dsimp only at hSw); (try go_split_ands); go_simp); (try with_reducible rfl)
          case r7p =>
          (try simp only [Act.put, List.setIfInBounds_toArray, List.set_cons_zero, List.set_cons_succ])
          refine wpAnyH_take (i := 8) (oi := ⟨some 42, _, _, _, _, _⟩) (v := ?v8p) rfl (by kernel_rfl) (by kernel_rfl) (by kernel_rfl) (fun _ _ _ h => h) (Or.inl ⟨by rfl, ?y8p⟩) (by assumption) ?r8p
          case y8p => (intro w hSw; (try dsimp only at hSw); (try go_split_ands); go_simp); (try with_reducible rfl)
          case r8p =>
          (try simp only [Act.put, List.setIfInBounds_toArray, List.set_cons_zero, List.set_cons_succ])
          refine wpAnyH_take (i := 9) (oi := ⟨some 43, _, _, _, _, _⟩) (v := ?v9p) rfl (by kernel_rfl) (by kernel_rfl) (by kernel_rfl) (fun _ _ _ h => h) (Or.inl ⟨by rfl, ?y9p⟩) (by assumption) ?r9p
          case y9p => (intro w hSw; (try dsimp only at hSw); (try go_split_ands); go_simp); (try with_reducible rfl)
          case r9p =>
          (try simp only [Act.put, List.setIfInBounds_toArray, List.set_cons_zero, List.set_cons_succ])
          refine wpAnyH_take (i := 10) (oi := ⟨some 44, _, _, _, _, _⟩) (v := ?v10p) rfl (by kernel_rfl) (by kernel_rfl) (by kernel_rfl) (fun _ _ _ h => h) (Or.inl ⟨by rfl, ?y10p⟩) (by assumption) ?r10p
          case y10p => (intro w hSw; (try dsimp only at hSw); (try go_split_ands); go_simp); (try with_reducible rfl)
          case r10p =>
          (try simp only [Act.put, List.setIfInBounds_toArray, List.set_cons_zero, List.set_cons_succ])
          refine wpAnyH_ready (rs := [11]) (by kernel_rfl) (by simp) ?_
          refine AllReadyH.cons (o := ⟨some 45, _, _, _, _, _⟩) rfl (fun K hK => ?_) AllReadyH.nil
          go_simp
          refine (stPut w b l L gone a.who a.i (fun _ => False) _ (HST.out.below ((Below.refl _ _).drew))).mono ?_
          rintro e w5 ⟨cc, l5, rfl, ⟨hst5, _⟩, hr⟩
          go_wp2_with fail
          refine hK.out _ _ ⟨bkeep hst5.bel (HD.out 2 _ (by decide) rfl) hqb, bkeep hst5.bel (HD.out 3 _ (by decide) rfl) hqb, bkeep hst5.bel (HD.out 4 _ (by decide) rfl) hqb, bkeep hst5.bel (HD.out 5 _ (by decide) rfl) hqb, bkeep hst5.bel (HD.out 6 _ (by decide) rfl) hqb⟩ (fun hHeld => ?_)
          clear hK K
          (try simp only [Act.put, List.setIfInBounds_toArray, List.set_cons_zero, List.set_cons_succ])
          refine wpAnyH_done (by kernel_rfl) ?_ _
          go_wp2_with fail
          go_meet
          case rel => exact ⟨l5, L, gone, _, rfl, hst5, hr.nms HNM.out, by rw [List.length_cons]; omega⟩
        · by_cases k3 : a.kind = 3
          · go_wp2_with fail
            refine (stOrder w b l L gone a.o (fun _ => False) _ HST.out).mono ?_
            rintro e w5 ⟨nn, cc, l5, L5, g5, rfl, ⟨hst5, _⟩, hr⟩
            have hnm5 := hr.nms HNM.out
            have hg2 : IntKind.i64.wrap (gone + 1 + 1) = gone + 1 + 1 := by rw [IntKind.wrap_i64]; omega
            rcases hr with ⟨hcc, rfl, rfl, rfl, rfl⟩ | ⟨rfl, rfl, rfl, _⟩
            · go_wp2_with fail
              go_meet
              case rel => exact ⟨l5, L5, g5, _, rfl, hst5, hnm5, by rw [List.length_cons]; omega⟩
            · go_wp2_with fail
              go_meet
              case rel => exact ⟨l5, L5, gone + 1, _, by go_num, hst5, hnm5, by rw [List.length_cons]; omega⟩
          · by_cases k4 : a.kind = 4
            · go_wp2_with fail
              refine wp_region_held_drew (S := (fun W => W.cell? ⟨qb, qo + i * 13 + 1, none⟩ = some (.int .i64 a.n) ∧ W.cell? ⟨qb, qo + i * 13 + 2, none⟩ = some (.string a.who))) (by kernel_rfl) ⟨c1, c2⟩ (fun hHeld => ?_)
              refine wpAnyH_take (i := 0) (oi := ⟨some 79, _, _, _, _, _⟩) (v := ?v0c) rfl (by kernel_rfl) (by kernel_rfl) (by kernel_rfl) (fun _ _ _ h => h) (Or.inl ⟨by rfl, ?y0c⟩) (by assumption) ?r0c
              case y0c => (intro w hSw; (try dsimp only at hSw); (try go_split_ands); go_simp); (try with_reducible rfl)
              case r0c =>
              (try simp only [Act.put, List.setIfInBounds_toArray, List.set_cons_zero, List.set_cons_succ])
              refine wpAnyH_take (i := 1) (oi := ⟨some 80, _, _, _, _, _⟩) (v := ?v1c) rfl (by kernel_rfl) (by kernel_rfl) (by kernel_rfl) (fun _ _ _ h => h) (Or.inl ⟨by rfl, ?y1c⟩) (by assumption) ?r1c
              case y1c => (intro w hSw; (try dsimp only at hSw); (try go_split_ands); go_simp); (try with_reducible rfl)
              case r1c =>
              (try simp only [Act.put, List.setIfInBounds_toArray, List.set_cons_zero, List.set_cons_succ])
              refine wpAnyH_take (i := 2) (oi := ⟨some 81, _, _, _, _, _⟩) (v := ?v2c) rfl (by kernel_rfl) (by kernel_rfl) (by kernel_rfl) (fun _ _ _ h => h) (Or.inl ⟨by rfl, ?y2c⟩) (by assumption) ?r2c
              case y2c => (intro w hSw; (try dsimp only at hSw); (try go_split_ands); go_simp); (try with_reducible rfl)
              case r2c =>
              (try simp only [Act.put, List.setIfInBounds_toArray, List.set_cons_zero, List.set_cons_succ])
              refine wpAnyH_take (i := 3) (oi := ⟨some 82, _, _, _, _, _⟩) (v := ?v3c) rfl (by kernel_rfl) (by kernel_rfl) (by kernel_rfl) (fun _ _ _ h => h) (Or.inl ⟨by rfl, ?y3c⟩) (by assumption) ?r3c
              case y3c => (intro w hSw; (try dsimp only at hSw); (try go_split_ands); go_simp); (try with_reducible rfl)
              case r3c =>
              (try simp only [Act.put, List.setIfInBounds_toArray, List.set_cons_zero, List.set_cons_succ])
              refine wpAnyH_take (i := 4) (oi := ⟨some 83, _, _, _, _, _⟩) (v := ?v4c) rfl (by kernel_rfl) (by kernel_rfl) (by kernel_rfl) (fun _ _ _ h => h) (Or.inl ⟨by rfl, ?y4c⟩) (by assumption) ?r4c
              case y4c => (intro w hSw; (try dsimp only at hSw); (try go_split_ands); go_simp); (try with_reducible rfl)
              case r4c =>
              (try simp only [Act.put, List.setIfInBounds_toArray, List.set_cons_zero, List.set_cons_succ])
              refine wpAnyH_take (i := 5) (oi := ⟨some 84, _, _, _, _, _⟩) (v := ?v5c) rfl (by kernel_rfl) (by kernel_rfl) (by kernel_rfl) (fun _ _ _ h => h) (Or.inl ⟨by rfl, ?y5c⟩) (by assumption) ?r5c
              case y5c => (intro w hSw; (try dsimp only at hSw); (try go_split_ands); go_simp); (try with_reducible rfl)
              case r5c =>
              (try simp only [Act.put, List.setIfInBounds_toArray, List.set_cons_zero, List.set_cons_succ])
              refine wpAnyH_take (i := 6) (oi := ⟨some 85, _, _, _, _, _⟩) (v := ?v6c) rfl (by kernel_rfl) (by kernel_rfl) (by kernel_rfl) (fun _ _ _ h => h) (Or.inl ⟨by rfl, ?y6c⟩) (by assumption) ?r6c
              case y6c => (intro w hSw; (try dsimp only at hSw); (try go_split_ands); go_simp); (try with_reducible rfl)
              case r6c =>
              (try simp only [Act.put, List.setIfInBounds_toArray, List.set_cons_zero, List.set_cons_succ])
              refine wpAnyH_take (i := 7) (oi := ⟨some 86, _, _, _, _, _⟩) (v := ?v7c) rfl (by kernel_rfl) (by kernel_rfl) (by kernel_rfl) (fun _ _ _ h => h) (Or.inl ⟨by rfl, ?y7c⟩) (by assumption) ?r7c
              case y7c => (intro w hSw; (try dsimp only at hSw); (try go_split_ands); go_simp); (try with_reducible rfl)
              case r7c =>
              (try simp only [Act.put, List.setIfInBounds_toArray, List.set_cons_zero, List.set_cons_succ])
              refine wpAnyH_take (i := 8) (oi := ⟨some 87, _, _, _, _, _⟩) (v := ?v8c) rfl (by kernel_rfl) (by kernel_rfl) (by kernel_rfl) (fun _ _ _ h => h) (Or.inl ⟨by rfl, ?y8c⟩) (by assumption) ?r8c
              case y8c => (intro w hSw; (try dsimp only at hSw); (try go_split_ands); go_simp); (try with_reducible rfl)
              case r8c =>
              (try simp only [Act.put, List.setIfInBounds_toArray, List.set_cons_zero, List.set_cons_succ])
              refine wpAnyH_take (i := 9) (oi := ⟨some 88, _, _, _, _, _⟩) (v := ?v9c) rfl (by kernel_rfl) (by kernel_rfl) (by kernel_rfl) (fun _ _ _ h => h) (Or.inl ⟨by rfl, ?y9c⟩) (by assumption) ?r9c
              case y9c => (intro w hSw; (try dsimp only at hSw); (try go_split_ands); go_simp); (try with_reducible rfl)
              case r9c =>
              (try simp only [Act.put, List.setIfInBounds_toArray, List.set_cons_zero, List.set_cons_succ])
              refine wpAnyH_take (i := 10) (oi := ⟨some 89, _, _, _, _, _⟩) (v := ?v10c) rfl (by kernel_rfl) (by kernel_rfl) (by kernel_rfl) (fun _ _ _ h => h) (Or.inl ⟨by rfl, ?y10c⟩) (by assumption) ?r10c
              case y10c => (intro w hSw; (try dsimp only at hSw); (try go_split_ands); go_simp); (try with_reducible rfl)
              case r10c =>
              (try simp only [Act.put, List.setIfInBounds_toArray, List.set_cons_zero, List.set_cons_succ])
              refine wpAnyH_ready (rs := [11]) (by kernel_rfl) (by simp) ?_
              refine AllReadyH.cons (o := ⟨some 90, _, _, _, _, _⟩) rfl (fun K hK => ?_) AllReadyH.nil
              go_simp
              refine (stCancel w b l L gone a.who a.n (fun _ => False) _ (HST.out.below ((Below.refl _ _).drew))).mono ?_
              rintro e w5 ⟨cc, l5, L5, rfl, ⟨hst5, _⟩, hr⟩
              go_wp2_with fail
              refine hK.out _ _ ⟨bkeep hst5.bel (HD.out 1 _ (by decide) rfl) hqb, bkeep hst5.bel (HD.out 2 _ (by decide) rfl) hqb⟩ (fun hHeld => ?_)
              clear hK K
              (try simp only [Act.put, List.setIfInBounds_toArray, List.set_cons_zero, List.set_cons_succ])
              refine wpAnyH_done (by kernel_rfl) ?_ _
              go_wp2_with fail
              go_meet
              case rel => exact ⟨l5, L5, gone, _, rfl, hst5, hr.nms HNM.out, by rw [List.length_cons]; omega⟩
            · go_wp2_with fail
              go_meet
              case rel => exact ⟨l, L, gone, N, rfl, HST.out, HNM.out, by omega⟩
      case rest =>
        obtain ⟨l5, L5, g5, N5, rfl, hst5, hnm5, hnl5⟩ := hcut
        have HNL5 := Lib.hid hnl5
        have HNM5 := Lib.hid hnm5
        have HST5 := Lib.hid hst5
        have hg5 := hst5.num
        clear hnm5 hst5 hnl5 HNM HST HD hg hnl c0 c1 c2 c3 c4 c5 c6 c7 c8 c9 c10 c11 c12
        clear hqw
        have hl5 : l5.length ≤ 1000 := by have := HNM5.out.len HST5.out.ok.1.1; have := HNL5.out; omega
        go_wp2_with (first
          | (go_at_call 15; have hgg := HST5; clear hgg; go_loud (refine (stList w b l5 L5 g5 (fun _ => False) _ HST5.out (by have := HNM5.out.len HST5.out.ok.1.1; have := HNL5.out; omega)).mono ?_; rintro e w6 ⟨A1, c1, v2, rfl, hrow6, hb6⟩; have HROW := Lib.hid hrow6; have HST6 := Lib.hid (HST5.out.below hb6); have hs6 := hb6.size; clear hrow6 hb6))
          | fail)
        go_loopw [11] (fun kv wq => ∃ k : Nat, k ≤ l5.length ∧ kv = .int .i64 k ∧ Below w6.heap.size w6 wq) (fun kv _ => l5.length - (intOf kv).toNat)
        case atStart => exact ⟨0, Nat.zero_le _, rfl, Below.refl _ _⟩
        case round =>
          obtain ⟨k, hkl, rfl, hBq⟩ := hrel
          have HBQ := Lib.hid hBq
          have hsq := hBq.size
          have HSTQ := Lib.hid (HST6.out.below hBq)
          by_cases hk : k < l5.length
          · have p3 : (k : Int) < (l5.length : Int) := by omega
            cases A1 with
            | none => have := HROW.out.2; rcases this with ⟨_, h0⟩ | ⟨g0, _, _, e, _⟩; (exact absurd h0 (by omega)); injection e with e; cases e
            | some ad =>
            obtain ⟨gq, cq, e1, hq5, hq6, _, _⟩ := own_form HROW.out (by omega)
            simp only [Value.slice.injEq, Option.some.injEq, true_and] at e1
            obtain ⟨rfl, rfl⟩ := e1
            obtain ⟨r, hr, r0, r1, r2, r3, r4⟩ := rowsP_get hk
            have hrow := row_belowV HROW.out hBq
            have hgq := Nat.lt_of_lt_of_le hq6 hsq
            have y0 := (hrow.cellAt (k * 5) (by omega)).trans r0
            have y1 := (hrow.cellAt (k * 5 + 1) (by omega)).trans r1
            have y2 := (hrow.cellAt (k * 5 + 2) (by omega)).trans r2
            have y3 := (hrow.cellAt (k * 5 + 3) (by omega)).trans r3
            have y4 := (hrow.cellAt (k * 5 + 4) (by omega)).trans r4
            obtain ⟨hhas, hnz⟩ := rowsP_mem HST6.out.ok.1 hr
            obtain ⟨ky, a0, a1, a2, a3⟩ := r
            simp only at y0 y1 y2 y3 y4 hhas hnz
            obtain ⟨s, hs⟩ : ∃ s : ByteArray, s = ⟨ky.toArray⟩ := ⟨_, rfl⟩
            have hsk : s.data.toList = ky := by rw [hs]
            have hes : encB ky = .string s := by rw [hs]; rfl
            rw [hes] at y0
            have HI : Hid (hasP l5 s.data.toList = (a0, a1, a2, a3)) := Lib.hid (by rw [hsk]; exact hhas)
            have hnz4 : a0 = 0 → a1 = 0 → a2 = 0 → ¬ a3 = 0 := fun h0 h1 h2 h3 => hnz (by rw [h0, h1, h2, h3]; rfl)
            clear r0 r1 r2 r3 r4 hhas hnz hes hs
            by_cases hk0 : k = 0
            · have HK0 : Hid (¬ (0 : Int) < (k : Int)) := Lib.hid (by omega)
              clear hk0
              clear hsk hr hrow hBq
              go_wp2_with fail
              refine wp_region_held_drew (S := (fun W => W.cell? ⟨gq, k * 5, none⟩ = some (.string s) ∧ W.cell? ⟨gq, k * 5 + 1, none⟩ = some (.int .i64 a0) ∧ W.cell? ⟨gq, k * 5 + 2, none⟩ = some (.int .i64 a1) ∧ W.cell? ⟨gq, k * 5 + 3, none⟩ = some (.int .i64 a2) ∧ W.cell? ⟨gq, k * 5 + 4, none⟩ = some (.int .i64 a3))) (by kernel_rfl) ⟨y0, y1, y2, y3, y4⟩ (fun hHeld => ?_)
              refine wpAnyH_take (i := 0) (oi := ⟨some 106, _, _, _, _, _⟩) (v := ?v0pa) rfl (by kernel_rfl) (by kernel_rfl) (by kernel_rfl) (fun _ _ _ h => h) (Or.inl ⟨by rfl, ?y0pa⟩) (by assumption) ?r0pa
              case y0pa => (intro w hSw; (try dsimp only at hSw); (try go_split_ands); go_simp); (try with_reducible rfl)
              case r0pa =>
              (try simp only [Act.put, List.setIfInBounds_toArray, List.set_cons_zero, List.set_cons_succ])
              refine wpAnyH_take (i := 1) (oi := ⟨some 107, _, _, _, _, _⟩) (v := ?v1pa) rfl (by kernel_rfl) (by kernel_rfl) (by kernel_rfl) (fun _ _ _ h => h) (Or.inl ⟨by rfl, ?y1pa⟩) (by assumption) ?r1pa
              case y1pa => (intro w hSw; (try dsimp only at hSw); (try go_split_ands); go_simp); (try with_reducible rfl)
              case r1pa =>
              (try simp only [Act.put, List.setIfInBounds_toArray, List.set_cons_zero, List.set_cons_succ])
              refine wpAnyH_take (i := 2) (oi := ⟨some 108, _, _, _, _, _⟩) (v := ?v2pa) rfl (by kernel_rfl) (by kernel_rfl) (by kernel_rfl) (fun _ _ _ h => h) (Or.inl ⟨by rfl, ?y2pa⟩) (by assumption) ?r2pa
              case y2pa => (intro w hSw; (try dsimp only at hSw); (try go_split_ands); go_simp); (try with_reducible rfl)
              case r2pa =>
              (try simp only [Act.put, List.setIfInBounds_toArray, List.set_cons_zero, List.set_cons_succ])
              refine wpAnyH_take (i := 3) (oi := ⟨some 109, _, _, _, _, _⟩) (v := ?v3pa) rfl (by kernel_rfl) (by kernel_rfl) (by kernel_rfl) (fun _ _ _ h => h) (Or.inl ⟨by rfl, ?y3pa⟩) (by assumption) ?r3pa
              case y3pa => (intro w hSw; (try dsimp only at hSw); (try go_split_ands); go_simp); (try with_reducible rfl)
              case r3pa =>
              (try simp only [Act.put, List.setIfInBounds_toArray, List.set_cons_zero, List.set_cons_succ])
              refine wpAnyH_take (i := 4) (oi := ⟨some 110, _, _, _, _, _⟩) (v := ?v4pa) rfl (by kernel_rfl) (by kernel_rfl) (by kernel_rfl) (fun _ _ _ h => h) (Or.inl ⟨by rfl, ?y4pa⟩) (by assumption) ?r4pa
              case y4pa => (intro w hSw; (try dsimp only at hSw); (try go_split_ands); go_simp); (try with_reducible rfl)
              case r4pa =>
              (try simp only [Act.put, List.setIfInBounds_toArray, List.set_cons_zero, List.set_cons_succ])
              refine wpAnyH_take (i := 5) (oi := ⟨some 111, _, _, _, _, _⟩) (v := ?v5pa) rfl (by kernel_rfl) (by kernel_rfl) (by kernel_rfl) (fun _ _ _ h => h) (Or.inl ⟨by rfl, ?y5pa⟩) (by assumption) ?r5pa
              case y5pa => (intro w hSw; (try dsimp only at hSw); (try go_split_ands); go_simp); (try with_reducible rfl)
              case r5pa =>
              (try simp only [Act.put, List.setIfInBounds_toArray, List.set_cons_zero, List.set_cons_succ])
              refine wpAnyH_take (i := 6) (oi := ⟨some 112, _, _, _, _, _⟩) (v := .bool false) rfl (by kernel_rfl) (by kernel_rfl) (by kernel_rfl) (fun _ _ _ h => h) (Or.inl ⟨by rfl, ?y6pa⟩) (by assumption) ?r6pa
              case y6pa => (intro w hSw; (try dsimp only at hSw); (try go_split_ands); (first | (go_simp; done) | (go_simp; exact hnz4) | (go_simp; have hK := HK0.out; omega) | (go_simp; simp [hbl]) | (go_simp; simp)))
              case r6pa =>
              (try simp only [Act.put, List.setIfInBounds_toArray, List.set_cons_zero, List.set_cons_succ])
              refine wpAnyH_take (i := 7) (oi := ⟨some 113, _, _, _, _, _⟩) (v := .bool false) rfl (by kernel_rfl) (by kernel_rfl) (by kernel_rfl) (fun _ _ _ h => h) (Or.inl ⟨by rfl, ?y7pa⟩) (by assumption) ?r7pa
              case y7pa => (intro w hSw; (try dsimp only at hSw); (try go_split_ands); (first | (go_simp; done) | (go_simp; exact hnz4) | (go_simp; have hK := HK0.out; omega) | (go_simp; simp [hbl]) | (go_simp; simp)))
              case r7pa =>
              (try simp only [Act.put, List.setIfInBounds_toArray, List.set_cons_zero, List.set_cons_succ])
              refine wpAnyH_take (i := 8) (oi := ⟨some 114, _, _, _, _, _⟩) (v := ?v8pa) rfl (by kernel_rfl) (by kernel_rfl) (by kernel_rfl) (fun _ _ _ h => h) (Or.inl ⟨by rfl, ?y8pa⟩) (by assumption) ?r8pa
              case y8pa => (intro w hSw; (try dsimp only at hSw); (try go_split_ands); go_simp); (try with_reducible rfl)
              case r8pa =>
              (try simp only [Act.put, List.setIfInBounds_toArray, List.set_cons_zero, List.set_cons_succ])
              refine wpAnyH_take (i := 9) (oi := ⟨some 115, _, _, _, _, _⟩) (v := .bool false) rfl (by kernel_rfl) (by kernel_rfl) (by kernel_rfl) (fun _ _ _ h => h) (Or.inl ⟨by rfl, ?y9pa⟩) (by assumption) ?r9pa
              case y9pa => (intro w hSw; (try dsimp only at hSw); (try go_split_ands); (first | (go_simp; done) | (go_simp; exact hnz4) | (go_simp; have hK := HK0.out; omega) | (go_simp; simp [hbl]) | (go_simp; simp)))
              case r9pa =>
              (try simp only [Act.put, List.setIfInBounds_toArray, List.set_cons_zero, List.set_cons_succ])
              refine wpAnyH_take (i := 10) (oi := ⟨some 116, _, _, _, _, _⟩) (v := .bool false) rfl (by kernel_rfl) (by kernel_rfl) (by kernel_rfl) (fun _ _ _ h => h) (Or.inl ⟨by rfl, ?y10pa⟩) (by assumption) ?r10pa
              case y10pa => (intro w hSw; (try dsimp only at hSw); (try go_split_ands); (first | (go_simp; done) | (go_simp; exact hnz4) | (go_simp; have hK := HK0.out; omega) | (go_simp; simp [hbl]) | (go_simp; simp)))
              case r10pa =>
              (try simp only [Act.put, List.setIfInBounds_toArray, List.set_cons_zero, List.set_cons_succ])
              refine wpAnyH_take (i := 11) (oi := ⟨some 117, _, _, _, _, _⟩) (v := undef) rfl (by kernel_rfl) (by kernel_rfl) (by kernel_rfl) (fun _ _ _ h => h) (Or.inr ⟨by rfl, rfl⟩) (by assumption) ?_
              (try simp only [Act.put, List.setIfInBounds_toArray, List.set_cons_zero, List.set_cons_succ])
              refine wpAnyH_take (i := 12) (oi := ⟨some 118, _, _, _, _, _⟩) (v := undef) rfl (by kernel_rfl) (by kernel_rfl) (by kernel_rfl) (fun _ _ _ h => h) (Or.inr ⟨by rfl, rfl⟩) (by assumption) ?_
              (try simp only [Act.put, List.setIfInBounds_toArray, List.set_cons_zero, List.set_cons_succ])
              refine wpAnyH_take (i := 13) (oi := ⟨some 119, _, _, _, _, _⟩) (v := undef) rfl (by kernel_rfl) (by kernel_rfl) (by kernel_rfl) (fun _ _ _ h => h) (Or.inr ⟨by rfl, rfl⟩) (by assumption) ?_
              (try simp only [Act.put, List.setIfInBounds_toArray, List.set_cons_zero, List.set_cons_succ])
              refine wpAnyH_take (i := 14) (oi := ⟨some 120, _, _, _, _, _⟩) (v := undef) rfl (by kernel_rfl) (by kernel_rfl) (by kernel_rfl) (fun _ _ _ h => h) (Or.inr ⟨by rfl, rfl⟩) (by assumption) ?_
              (try simp only [Act.put, List.setIfInBounds_toArray, List.set_cons_zero, List.set_cons_succ])
              refine wpAnyH_take (i := 15) (oi := ⟨some 121, _, _, _, _, _⟩) (v := undef) rfl (by kernel_rfl) (by kernel_rfl) (by kernel_rfl) (fun _ _ _ h => h) (Or.inr ⟨by rfl, rfl⟩) (by assumption) ?_
              (try simp only [Act.put, List.setIfInBounds_toArray, List.set_cons_zero, List.set_cons_succ])
              refine wpAnyH_take (i := 16) (oi := ⟨some 122, _, _, _, _, _⟩) (v := undef) rfl (by kernel_rfl) (by kernel_rfl) (by kernel_rfl) (fun _ _ _ h => h) (Or.inr ⟨by rfl, rfl⟩) (by assumption) ?_
              (try simp only [Act.put, List.setIfInBounds_toArray, List.set_cons_zero, List.set_cons_succ])
              refine wpAnyH_take (i := 17) (oi := ⟨some 123, _, _, _, _, _⟩) (v := undef) rfl (by kernel_rfl) (by kernel_rfl) (by kernel_rfl) (fun _ _ _ h => h) (Or.inr ⟨by rfl, rfl⟩) (by assumption) ?_
              (try simp only [Act.put, List.setIfInBounds_toArray, List.set_cons_zero, List.set_cons_succ])
              refine wpAnyH_take (i := 18) (oi := ⟨some 124, _, _, _, _, _⟩) (v := undef) rfl (by kernel_rfl) (by kernel_rfl) (by kernel_rfl) (fun _ _ _ h => h) (Or.inr ⟨by rfl, rfl⟩) (by assumption) ?_
              (try simp only [Act.put, List.setIfInBounds_toArray, List.set_cons_zero, List.set_cons_succ])
              refine wpAnyH_take (i := 19) (oi := ⟨some 125, _, _, _, _, _⟩) (v := undef) rfl (by kernel_rfl) (by kernel_rfl) (by kernel_rfl) (fun _ _ _ h => h) (Or.inr ⟨by rfl, rfl⟩) (by assumption) ?_
              (try simp only [Act.put, List.setIfInBounds_toArray, List.set_cons_zero, List.set_cons_succ])
              refine wpAnyH_take (i := 20) (oi := ⟨some 126, _, _, _, _, _⟩) (v := undef) rfl (by kernel_rfl) (by kernel_rfl) (by kernel_rfl) (fun _ _ _ h => h) (Or.inr ⟨by rfl, rfl⟩) (by assumption) ?_
              (try simp only [Act.put, List.setIfInBounds_toArray, List.set_cons_zero, List.set_cons_succ])
              refine wpAnyH_take (i := 21) (oi := ⟨some 127, _, _, _, _, _⟩) (v := undef) rfl (by kernel_rfl) (by kernel_rfl) (by kernel_rfl) (fun _ _ _ h => h) (Or.inr ⟨by rfl, rfl⟩) (by assumption) ?_
              (try simp only [Act.put, List.setIfInBounds_toArray, List.set_cons_zero, List.set_cons_succ])
              refine wpAnyH_take (i := 22) (oi := ⟨some 128, _, _, _, _, _⟩) (v := undef) rfl (by kernel_rfl) (by kernel_rfl) (by kernel_rfl) (fun _ _ _ h => h) (Or.inr ⟨by rfl, rfl⟩) (by assumption) ?_
              (try simp only [Act.put, List.setIfInBounds_toArray, List.set_cons_zero, List.set_cons_succ])
              refine wpAnyH_take (i := 23) (oi := ⟨some 129, _, _, _, _, _⟩) (v := .bool false) rfl (by kernel_rfl) (by kernel_rfl) (by kernel_rfl) (fun _ _ _ h => h) (Or.inl ⟨by rfl, ?y23pa⟩) (by assumption) ?r23pa
              case y23pa => (intro w hSw; (try dsimp only at hSw); (try go_split_ands); (first | (go_simp; done) | (go_simp; exact hnz4) | (go_simp; have hK := HK0.out; omega) | (go_simp; simp [hbl]) | (go_simp; simp)))
              case r23pa =>
              (try simp only [Act.put, List.setIfInBounds_toArray, List.set_cons_zero, List.set_cons_succ])
              refine wpAnyH_take (i := 24) (oi := ⟨some 130, _, _, _, _, _⟩) (v := .bool false) rfl (by kernel_rfl) (by kernel_rfl) (by kernel_rfl) (fun _ _ _ h => h) (Or.inl ⟨by rfl, ?y24pa⟩) (by assumption) ?r24pa
              case y24pa => (intro w hSw; (try dsimp only at hSw); (try go_split_ands); (first | (go_simp; done) | (go_simp; exact hnz4) | (go_simp; have hK := HK0.out; omega) | (go_simp; simp [hbl]) | (go_simp; simp)))
              case r24pa =>
              (try simp only [Act.put, List.setIfInBounds_toArray, List.set_cons_zero, List.set_cons_succ])
              refine wpAnyH_take (i := 25) (oi := ⟨some 131, _, _, _, _, _⟩) (v := .bool false) rfl (by kernel_rfl) (by kernel_rfl) (by kernel_rfl) (fun _ _ _ h => h) (Or.inl ⟨by rfl, ?y25pa⟩) (by assumption) ?r25pa
              case y25pa => (intro w hSw; (try dsimp only at hSw); (try go_split_ands); (first | (go_simp; done) | (go_simp; exact hnz4) | (go_simp; have hK := HK0.out; omega) | (go_simp; simp [hbl]) | (go_simp; simp)))
              case r25pa =>
              (try simp only [Act.put, List.setIfInBounds_toArray, List.set_cons_zero, List.set_cons_succ])
              refine wpAnyH_take (i := 26) (oi := ⟨some 132, _, _, _, _, _⟩) (v := ?v26pa) rfl (by kernel_rfl) (by kernel_rfl) (by kernel_rfl) (fun _ _ _ h => h) (Or.inl ⟨by rfl, ?y26pa⟩) (by assumption) ?r26pa
              case y26pa => (intro w hSw; (try dsimp only at hSw); (try go_split_ands); go_simp); (try with_reducible rfl)
              case r26pa =>
              (try simp only [Act.put, List.setIfInBounds_toArray, List.set_cons_zero, List.set_cons_succ])
              refine wpAnyH_take (i := 27) (oi := ⟨some 133, _, _, _, _, _⟩) (v := ?v27pa) rfl (by kernel_rfl) (by kernel_rfl) (by kernel_rfl) (fun _ _ _ h => h) (Or.inl ⟨by rfl, ?y27pa⟩) (by assumption) ?r27pa
              case y27pa => (intro w hSw; (try dsimp only at hSw); (try go_split_ands); go_simp); (try with_reducible rfl)
              case r27pa =>
              (try simp only [Act.put, List.setIfInBounds_toArray, List.set_cons_zero, List.set_cons_succ])
              refine wpAnyH_take (i := 28) (oi := ⟨some 134, _, _, _, _, _⟩) (v := ?v28pa) rfl (by kernel_rfl) (by kernel_rfl) (by kernel_rfl) (fun _ _ _ h => h) (Or.inl ⟨by rfl, ?y28pa⟩) (by assumption) ?r28pa
              case y28pa => (intro w hSw; (try dsimp only at hSw); (try go_split_ands); go_simp); (try with_reducible rfl)
              case r28pa =>
              (try simp only [Act.put, List.setIfInBounds_toArray, List.set_cons_zero, List.set_cons_succ])
              refine wpAnyH_take (i := 29) (oi := ⟨some 135, _, _, _, _, _⟩) (v := ?v29pa) rfl (by kernel_rfl) (by kernel_rfl) (by kernel_rfl) (fun _ _ _ h => h) (Or.inl ⟨by rfl, ?y29pa⟩) (by assumption) ?r29pa
              case y29pa => (intro w hSw; (try dsimp only at hSw); (try go_split_ands); go_simp); (try with_reducible rfl)
              case r29pa =>
              (try simp only [Act.put, List.setIfInBounds_toArray, List.set_cons_zero, List.set_cons_succ])
              refine wpAnyH_take (i := 30) (oi := ⟨some 136, _, _, _, _, _⟩) (v := ?v30pa) rfl (by kernel_rfl) (by kernel_rfl) (by kernel_rfl) (fun _ _ _ h => h) (Or.inl ⟨by rfl, ?y30pa⟩) (by assumption) ?r30pa
              case y30pa => (intro w hSw; (try dsimp only at hSw); (try go_split_ands); go_simp); (try with_reducible rfl)
              case r30pa =>
              (try simp only [Act.put, List.setIfInBounds_toArray, List.set_cons_zero, List.set_cons_succ])
              refine wpAnyH_take (i := 31) (oi := ⟨some 137, _, _, _, _, _⟩) (v := ?v31pa) rfl (by kernel_rfl) (by kernel_rfl) (by kernel_rfl) (fun _ _ _ h => h) (Or.inl ⟨by rfl, ?y31pa⟩) (by assumption) ?r31pa
              case y31pa => (intro w hSw; (try dsimp only at hSw); (try go_split_ands); go_simp); (try with_reducible rfl)
              case r31pa =>
              (try simp only [Act.put, List.setIfInBounds_toArray, List.set_cons_zero, List.set_cons_succ])
              refine wpAnyH_take (i := 33) (oi := ⟨some 139, _, _, _, _, _⟩) (v := ?v33pa) rfl (by kernel_rfl) (by kernel_rfl) (by kernel_rfl) (fun _ _ _ h => h) (Or.inl ⟨by rfl, ?y33pa⟩) (by assumption) ?r33pa
              case y33pa => (intro w hSw; (try dsimp only at hSw); (try go_split_ands); go_simp); (try with_reducible rfl)
              case r33pa =>
              (try simp only [Act.put, List.setIfInBounds_toArray, List.set_cons_zero, List.set_cons_succ])
              refine wpAnyH_take (i := 34) (oi := ⟨some 140, _, _, _, _, _⟩) (v := ?v34pa) rfl (by kernel_rfl) (by kernel_rfl) (by kernel_rfl) (fun _ _ _ h => h) (Or.inl ⟨by rfl, ?y34pa⟩) (by assumption) ?r34pa
              case y34pa => (intro w hSw; (try dsimp only at hSw); (try go_split_ands); go_simp); (try with_reducible rfl)
              case r34pa =>
              (try simp only [Act.put, List.setIfInBounds_toArray, List.set_cons_zero, List.set_cons_succ])
              refine wpAnyH_take (i := 35) (oi := ⟨some 141, _, _, _, _, _⟩) (v := ?v35pa) rfl (by kernel_rfl) (by kernel_rfl) (by kernel_rfl) (fun _ _ _ h => h) (Or.inl ⟨by rfl, ?y35pa⟩) (by assumption) ?r35pa
              case y35pa => (intro w hSw; (try dsimp only at hSw); (try go_split_ands); go_simp); (try with_reducible rfl)
              case r35pa =>
              (try simp only [Act.put, List.setIfInBounds_toArray, List.set_cons_zero, List.set_cons_succ])
              refine wpAnyH_take (i := 36) (oi := ⟨some 142, _, _, _, _, _⟩) (v := ?v36pa) rfl (by kernel_rfl) (by kernel_rfl) (by kernel_rfl) (fun _ _ _ h => h) (Or.inl ⟨by rfl, ?y36pa⟩) (by assumption) ?r36pa
              case y36pa => (intro w hSw; (try dsimp only at hSw); (try go_split_ands); go_simp); (try with_reducible rfl)
              case r36pa =>
              (try simp only [Act.put, List.setIfInBounds_toArray, List.set_cons_zero, List.set_cons_succ])
              refine wpAnyH_take (i := 37) (oi := ⟨some 143, _, _, _, _, _⟩) (v := ?v37pa) rfl (by kernel_rfl) (by kernel_rfl) (by kernel_rfl) (fun _ _ _ h => h) (Or.inl ⟨by rfl, ?y37pa⟩) (by assumption) ?r37pa
              case y37pa => (intro w hSw; (try dsimp only at hSw); (try go_split_ands); go_simp); (try with_reducible rfl)
              case r37pa =>
              (try simp only [Act.put, List.setIfInBounds_toArray, List.set_cons_zero, List.set_cons_succ])
              refine wpAnyH_ready (rs := [32]) (by kernel_rfl) (by simp) ?_
              refine AllReadyH.cons (o := ⟨some 138, _, _, _, _, _⟩) rfl (fun K hK => ?_) AllReadyH.nil
              go_simp
              refine (stHas w b l5 L5 g5 s HI.out (fun _ => False) _ (HSTQ.out.below ((Below.refl _ _).drew))).mono ?_
              rintro e w7 ⟨rfl, hb7⟩
              go_wp2_with fail
              have hh7 := ((Below.refl _ _).drew).trans hb7
              refine hK.out _ _ ⟨bkeep hh7 y0 hgq, bkeep hh7 y1 hgq, bkeep hh7 y2 hgq, bkeep hh7 y3 hgq, bkeep hh7 y4 hgq⟩ (fun hHeld => ?_)
              clear hK K
              (try simp only [Act.put, List.setIfInBounds_toArray, List.set_cons_zero, List.set_cons_succ])
              refine wpAnyH_take (i := 38) (oi := ⟨some 144, _, _, _, _, _⟩) (v := .bool false) rfl (by kernel_rfl) (by kernel_rfl) (by kernel_rfl) (fun _ _ _ h => h) (Or.inl ⟨by rfl, ?y38pa⟩) (by assumption) ?r38pa
              case y38pa => (intro w hSw; (try dsimp only at hSw); (try go_split_ands); (first | (go_simp; done) | (go_simp; exact hnz4) | (go_simp; have hK := HK0.out; omega) | (go_simp; simp [hbl]) | (go_simp; simp)))
              case r38pa =>
              (try simp only [Act.put, List.setIfInBounds_toArray, List.set_cons_zero, List.set_cons_succ])
              refine wpAnyH_take (i := 39) (oi := ⟨some 145, _, _, _, _, _⟩) (v := .bool false) rfl (by kernel_rfl) (by kernel_rfl) (by kernel_rfl) (fun _ _ _ h => h) (Or.inl ⟨by rfl, ?y39pa⟩) (by assumption) ?r39pa
              case y39pa => (intro w hSw; (try dsimp only at hSw); (try go_split_ands); (first | (go_simp; done) | (go_simp; exact hnz4) | (go_simp; have hK := HK0.out; omega) | (go_simp; simp [hbl]) | (go_simp; simp)))
              case r39pa =>
              (try simp only [Act.put, List.setIfInBounds_toArray, List.set_cons_zero, List.set_cons_succ])
              refine wpAnyH_done (by kernel_rfl) ?_ _
              go_wp2_with fail
              exact ⟨⟨k + 1, hk, by go_num, HBQ.out.trans (hh7.mono hsq)⟩, by simp [intOf]; omega⟩
            · have HK0 : Hid ((0 : Int) < (k : Int)) := Lib.hid (by omega)
              have p0 : (0 : Int) < (k : Int) := by omega
              obtain ⟨j, hj⟩ : ∃ j, k = j + 1 := ⟨k - 1, by omega⟩
              have hsub : IntKind.i64.wrap ((k : Int) - 1) = (j : Int) := by rw [IntKind.wrap_i64]; omega
              obtain ⟨r', hr', z0, _, _, _, _⟩ := rowsP_get (show j < l5.length by omega)
              have hbl := rowsP_two HST6.out.ok.1.1 hr' hr (by omega)
              have z0 := (hrow.cellAt (j * 5) (by omega)).trans z0
              obtain ⟨ky', b4⟩ := r'
              simp only at z0 hbl
              obtain ⟨s1, hs1⟩ : ∃ s : ByteArray, s = ⟨ky'.toArray⟩ := ⟨_, rfl⟩
              have hsk1 : s1.data.toList = ky' := by rw [hs1]
              have hes1 : encB ky' = .string s1 := by rw [hs1]; rfl
              rw [hes1] at z0
              have hbl : Op.bytesLess s1.toList s.toList = true := by rw [Lib.toList_data, Lib.toList_data, hsk, hsk1]; exact hbl
              have p4 : (j : Int) < (l5.length : Int) := by omega
              clear hsk hr hrow hBq hk0 hs1 hsk1 hes1 hj hr'
              go_wp2_with fail
              refine wp_region_held_drew (S := (fun W => W.cell? ⟨gq, k * 5, none⟩ = some (.string s) ∧ W.cell? ⟨gq, k * 5 + 1, none⟩ = some (.int .i64 a0) ∧ W.cell? ⟨gq, k * 5 + 2, none⟩ = some (.int .i64 a1) ∧ W.cell? ⟨gq, k * 5 + 3, none⟩ = some (.int .i64 a2) ∧ W.cell? ⟨gq, k * 5 + 4, none⟩ = some (.int .i64 a3) ∧ W.cell? ⟨gq, j * 5, none⟩ = some (.string s1))) (by kernel_rfl) ⟨y0, y1, y2, y3, y4, z0⟩ (fun hHeld => ?_)
              refine wpAnyH_take (i := 0) (oi := ⟨some 106, _, _, _, _, _⟩) (v := ?v0pb) rfl (by kernel_rfl) (by kernel_rfl) (by kernel_rfl) (fun _ _ _ h => h) (Or.inl ⟨by rfl, ?y0pb⟩) (by assumption) ?r0pb
              case y0pb => (intro w hSw; (try dsimp only at hSw); (try go_split_ands); go_simp); (try with_reducible rfl)
              case r0pb =>
              (try simp only [Act.put, List.setIfInBounds_toArray, List.set_cons_zero, List.set_cons_succ])
              refine wpAnyH_take (i := 1) (oi := ⟨some 107, _, _, _, _, _⟩) (v := ?v1pb) rfl (by kernel_rfl) (by kernel_rfl) (by kernel_rfl) (fun _ _ _ h => h) (Or.inl ⟨by rfl, ?y1pb⟩) (by assumption) ?r1pb
              case y1pb => (intro w hSw; (try dsimp only at hSw); (try go_split_ands); go_simp); (try with_reducible rfl)
              case r1pb =>
              (try simp only [Act.put, List.setIfInBounds_toArray, List.set_cons_zero, List.set_cons_succ])
              refine wpAnyH_take (i := 2) (oi := ⟨some 108, _, _, _, _, _⟩) (v := ?v2pb) rfl (by kernel_rfl) (by kernel_rfl) (by kernel_rfl) (fun _ _ _ h => h) (Or.inl ⟨by rfl, ?y2pb⟩) (by assumption) ?r2pb
              case y2pb => (intro w hSw; (try dsimp only at hSw); (try go_split_ands); go_simp); (try with_reducible rfl)
              case r2pb =>
              (try simp only [Act.put, List.setIfInBounds_toArray, List.set_cons_zero, List.set_cons_succ])
              refine wpAnyH_take (i := 3) (oi := ⟨some 109, _, _, _, _, _⟩) (v := ?v3pb) rfl (by kernel_rfl) (by kernel_rfl) (by kernel_rfl) (fun _ _ _ h => h) (Or.inl ⟨by rfl, ?y3pb⟩) (by assumption) ?r3pb
              case y3pb => (intro w hSw; (try dsimp only at hSw); (try go_split_ands); go_simp); (try with_reducible rfl)
              case r3pb =>
              (try simp only [Act.put, List.setIfInBounds_toArray, List.set_cons_zero, List.set_cons_succ])
              refine wpAnyH_take (i := 4) (oi := ⟨some 110, _, _, _, _, _⟩) (v := ?v4pb) rfl (by kernel_rfl) (by kernel_rfl) (by kernel_rfl) (fun _ _ _ h => h) (Or.inl ⟨by rfl, ?y4pb⟩) (by assumption) ?r4pb
              case y4pb => (intro w hSw; (try dsimp only at hSw); (try go_split_ands); go_simp); (try with_reducible rfl)
              case r4pb =>
              (try simp only [Act.put, List.setIfInBounds_toArray, List.set_cons_zero, List.set_cons_succ])
              refine wpAnyH_take (i := 5) (oi := ⟨some 111, _, _, _, _, _⟩) (v := ?v5pb) rfl (by kernel_rfl) (by kernel_rfl) (by kernel_rfl) (fun _ _ _ h => h) (Or.inl ⟨by rfl, ?y5pb⟩) (by assumption) ?r5pb
              case y5pb => (intro w hSw; (try dsimp only at hSw); (try go_split_ands); go_simp); (try with_reducible rfl)
              case r5pb =>
              (try simp only [Act.put, List.setIfInBounds_toArray, List.set_cons_zero, List.set_cons_succ])
              refine wpAnyH_take (i := 6) (oi := ⟨some 112, _, _, _, _, _⟩) (v := .bool false) rfl (by kernel_rfl) (by kernel_rfl) (by kernel_rfl) (fun _ _ _ h => h) (Or.inl ⟨by rfl, ?y6pb⟩) (by assumption) ?r6pb
              case y6pb => (intro w hSw; (try dsimp only at hSw); (try go_split_ands); (first | (go_simp; done) | (go_simp; exact hnz4) | (go_simp; have hK := HK0.out; omega) | (go_simp; simp [hbl]) | (go_simp; simp)))
              case r6pb =>
              (try simp only [Act.put, List.setIfInBounds_toArray, List.set_cons_zero, List.set_cons_succ])
              refine wpAnyH_take (i := 7) (oi := ⟨some 113, _, _, _, _, _⟩) (v := .bool false) rfl (by kernel_rfl) (by kernel_rfl) (by kernel_rfl) (fun _ _ _ h => h) (Or.inl ⟨by rfl, ?y7pb⟩) (by assumption) ?r7pb
              case y7pb => (intro w hSw; (try dsimp only at hSw); (try go_split_ands); (first | (go_simp; done) | (go_simp; exact hnz4) | (go_simp; have hK := HK0.out; omega) | (go_simp; simp [hbl]) | (go_simp; simp)))
              case r7pb =>
              (try simp only [Act.put, List.setIfInBounds_toArray, List.set_cons_zero, List.set_cons_succ])
              refine wpAnyH_take (i := 8) (oi := ⟨some 114, _, _, _, _, _⟩) (v := ?v8pb) rfl (by kernel_rfl) (by kernel_rfl) (by kernel_rfl) (fun _ _ _ h => h) (Or.inl ⟨by rfl, ?y8pb⟩) (by assumption) ?r8pb
              case y8pb => (intro w hSw; (try dsimp only at hSw); (try go_split_ands); go_simp); (try with_reducible rfl)
              case r8pb =>
              (try simp only [Act.put, List.setIfInBounds_toArray, List.set_cons_zero, List.set_cons_succ])
              refine wpAnyH_take (i := 9) (oi := ⟨some 115, _, _, _, _, _⟩) (v := .bool true) rfl (by kernel_rfl) (by kernel_rfl) (by kernel_rfl) (fun _ _ _ h => h) (Or.inl ⟨by rfl, ?y9pb⟩) (by assumption) ?r9pb
              case y9pb => (intro w hSw; (try dsimp only at hSw); (try go_split_ands); (first | (go_simp; done) | (go_simp; exact hnz4) | (go_simp; have hK := HK0.out; omega) | (go_simp; simp [hbl]) | (go_simp; simp)))
              case r9pb =>
              (try simp only [Act.put, List.setIfInBounds_toArray, List.set_cons_zero, List.set_cons_succ])
              refine wpAnyH_take (i := 10) (oi := ⟨some 116, _, _, _, _, _⟩) (v := .bool true) rfl (by kernel_rfl) (by kernel_rfl) (by kernel_rfl) (fun _ _ _ h => h) (Or.inl ⟨by rfl, ?y10pb⟩) (by assumption) ?r10pb
              case y10pb => (intro w hSw; (try dsimp only at hSw); (try go_split_ands); (first | (go_simp; done) | (go_simp; exact hnz4) | (go_simp; have hK := HK0.out; omega) | (go_simp; simp [hbl]) | (go_simp; simp)))
              case r10pb =>
              (try simp only [Act.put, List.setIfInBounds_toArray, List.set_cons_zero, List.set_cons_succ])
              refine wpAnyH_take (i := 11) (oi := ⟨some 117, _, _, _, _, _⟩) (v := ?v11pb) rfl (by kernel_rfl) (by kernel_rfl) (by kernel_rfl) (fun _ _ _ h => h) (Or.inl ⟨by rfl, ?y11pb⟩) (by assumption) ?r11pb
              case y11pb => (intro w hSw; (try dsimp only at hSw); (try go_split_ands); go_simp); (try with_reducible rfl)
              case r11pb =>
              (try simp only [Act.put, List.setIfInBounds_toArray, List.set_cons_zero, List.set_cons_succ])
              refine wpAnyH_take (i := 12) (oi := ⟨some 118, _, _, _, _, _⟩) (v := ?v12pb) rfl (by kernel_rfl) (by kernel_rfl) (by kernel_rfl) (fun _ _ _ h => h) (Or.inl ⟨by rfl, ?y12pb⟩) (by assumption) ?r12pb
              case y12pb => (intro w hSw; (try dsimp only at hSw); (try go_split_ands); go_simp); (try with_reducible rfl)
              case r12pb =>
              (try simp only [Act.put, List.setIfInBounds_toArray, List.set_cons_zero, List.set_cons_succ])
              refine wpAnyH_take (i := 13) (oi := ⟨some 119, _, _, _, _, _⟩) (v := ?v13pb) rfl (by kernel_rfl) (by kernel_rfl) (by kernel_rfl) (fun _ _ _ h => h) (Or.inl ⟨by rfl, ?y13pb⟩) (by assumption) ?r13pb
              case y13pb => (intro w hSw; (try dsimp only at hSw); (try go_split_ands); go_simp); (try with_reducible rfl)
              case r13pb =>
              (try simp only [Act.put, List.setIfInBounds_toArray, List.set_cons_zero, List.set_cons_succ])
              refine wpAnyH_take (i := 14) (oi := ⟨some 120, _, _, _, _, _⟩) (v := ?v14pb) rfl (by kernel_rfl) (by kernel_rfl) (by kernel_rfl) (fun _ _ _ h => h) (Or.inl ⟨by rfl, ?y14pb⟩) (by assumption) ?r14pb
              case y14pb => (intro w hSw; (try dsimp only at hSw); (try go_split_ands); go_simp); (try with_reducible rfl)
              case r14pb =>
              (try simp only [Act.put, List.setIfInBounds_toArray, List.set_cons_zero, List.set_cons_succ])
              refine wpAnyH_take (i := 15) (oi := ⟨some 121, _, _, _, _, _⟩) (v := ?v15pb) rfl (by kernel_rfl) (by kernel_rfl) (by kernel_rfl) (fun _ _ _ h => h) (Or.inl ⟨by rfl, ?y15pb⟩) (by assumption) ?r15pb
              case y15pb => (intro w hSw; (try dsimp only at hSw); (try go_split_ands); go_simp); (try with_reducible rfl)
              case r15pb =>
              (try simp only [Act.put, List.setIfInBounds_toArray, List.set_cons_zero, List.set_cons_succ])
              refine wpAnyH_take (i := 16) (oi := ⟨some 122, _, _, _, _, _⟩) (v := ?v16pb) rfl (by kernel_rfl) (by kernel_rfl) (by kernel_rfl) (fun _ _ _ h => h) (Or.inl ⟨by rfl, ?y16pb⟩) (by assumption) ?r16pb
              case y16pb => (intro w hSw; (try dsimp only at hSw); (try go_split_ands); go_simp); (try with_reducible rfl)
              case r16pb =>
              (try simp only [Act.put, List.setIfInBounds_toArray, List.set_cons_zero, List.set_cons_succ])
              refine wpAnyH_take (i := 17) (oi := ⟨some 123, _, _, _, _, _⟩) (v := ?v17pb) rfl (by kernel_rfl) (by kernel_rfl) (by kernel_rfl) (fun _ _ _ h => h) (Or.inl ⟨by rfl, ?y17pb⟩) (by assumption) ?r17pb
              case y17pb => (intro w hSw; (try dsimp only at hSw); (try go_split_ands); go_simp); (try with_reducible rfl)
              case r17pb =>
              (try simp only [Act.put, List.setIfInBounds_toArray, List.set_cons_zero, List.set_cons_succ])
              refine wpAnyH_take (i := 18) (oi := ⟨some 124, _, _, _, _, _⟩) (v := ?v18pb) rfl (by kernel_rfl) (by kernel_rfl) (by kernel_rfl) (fun _ _ _ h => h) (Or.inl ⟨by rfl, ?y18pb⟩) (by assumption) ?r18pb
              case y18pb => (intro w hSw; (try dsimp only at hSw); (try go_split_ands); go_simp); (try with_reducible rfl)
              case r18pb =>
              (try simp only [Act.put, List.setIfInBounds_toArray, List.set_cons_zero, List.set_cons_succ])
              refine wpAnyH_take (i := 19) (oi := ⟨some 125, _, _, _, _, _⟩) (v := ?v19pb) rfl (by kernel_rfl) (by kernel_rfl) (by kernel_rfl) (fun _ _ _ h => h) (Or.inl ⟨by rfl, ?y19pb⟩) (by assumption) ?r19pb
              case y19pb => (intro w hSw; (try dsimp only at hSw); (try go_split_ands); go_simp); (try with_reducible rfl)
              case r19pb =>
              (try simp only [Act.put, List.setIfInBounds_toArray, List.set_cons_zero, List.set_cons_succ])
              refine wpAnyH_take (i := 20) (oi := ⟨some 126, _, _, _, _, _⟩) (v := ?v20pb) rfl (by kernel_rfl) (by kernel_rfl) (by kernel_rfl) (fun _ _ _ h => h) (Or.inl ⟨by rfl, ?y20pb⟩) (by assumption) ?r20pb
              case y20pb => (intro w hSw; (try dsimp only at hSw); (try go_split_ands); go_simp); (try with_reducible rfl)
              case r20pb =>
              (try simp only [Act.put, List.setIfInBounds_toArray, List.set_cons_zero, List.set_cons_succ])
              refine wpAnyH_take (i := 21) (oi := ⟨some 127, _, _, _, _, _⟩) (v := ?v21pb) rfl (by kernel_rfl) (by kernel_rfl) (by kernel_rfl) (fun _ _ _ h => h) (Or.inl ⟨by rfl, ?y21pb⟩) (by assumption) ?r21pb
              case y21pb => (intro w hSw; (try dsimp only at hSw); (try go_split_ands); go_simp); (try with_reducible rfl)
              case r21pb =>
              (try simp only [Act.put, List.setIfInBounds_toArray, List.set_cons_zero, List.set_cons_succ])
              refine wpAnyH_take (i := 22) (oi := ⟨some 128, _, _, _, _, _⟩) (v := .bool false) rfl (by kernel_rfl) (by kernel_rfl) (by kernel_rfl) (fun _ _ _ h => h) (Or.inl ⟨by rfl, ?y22pb⟩) (by assumption) ?r22pb
              case y22pb => (intro w hSw; (try dsimp only at hSw); (try go_split_ands); (first | (go_simp; done) | (go_simp; exact hnz4) | (go_simp; have hK := HK0.out; omega) | (go_simp; simp [hbl]) | (go_simp; simp)))
              case r22pb =>
              (try simp only [Act.put, List.setIfInBounds_toArray, List.set_cons_zero, List.set_cons_succ])
              refine wpAnyH_take (i := 23) (oi := ⟨some 129, _, _, _, _, _⟩) (v := .bool false) rfl (by kernel_rfl) (by kernel_rfl) (by kernel_rfl) (fun _ _ _ h => h) (Or.inl ⟨by rfl, ?y23pb⟩) (by assumption) ?r23pb
              case y23pb => (intro w hSw; (try dsimp only at hSw); (try go_split_ands); (first | (go_simp; done) | (go_simp; exact hnz4) | (go_simp; have hK := HK0.out; omega) | (go_simp; simp [hbl]) | (go_simp; simp)))
              case r23pb =>
              (try simp only [Act.put, List.setIfInBounds_toArray, List.set_cons_zero, List.set_cons_succ])
              refine wpAnyH_take (i := 24) (oi := ⟨some 130, _, _, _, _, _⟩) (v := .bool false) rfl (by kernel_rfl) (by kernel_rfl) (by kernel_rfl) (fun _ _ _ h => h) (Or.inl ⟨by rfl, ?y24pb⟩) (by assumption) ?r24pb
              case y24pb => (intro w hSw; (try dsimp only at hSw); (try go_split_ands); (first | (go_simp; done) | (go_simp; exact hnz4) | (go_simp; have hK := HK0.out; omega) | (go_simp; simp [hbl]) | (go_simp; simp)))
              case r24pb =>
              (try simp only [Act.put, List.setIfInBounds_toArray, List.set_cons_zero, List.set_cons_succ])
              refine wpAnyH_take (i := 25) (oi := ⟨some 131, _, _, _, _, _⟩) (v := .bool false) rfl (by kernel_rfl) (by kernel_rfl) (by kernel_rfl) (fun _ _ _ h => h) (Or.inl ⟨by rfl, ?y25pb⟩) (by assumption) ?r25pb
              case y25pb => (intro w hSw; (try dsimp only at hSw); (try go_split_ands); (first | (go_simp; done) | (go_simp; exact hnz4) | (go_simp; have hK := HK0.out; omega) | (go_simp; simp [hbl]) | (go_simp; simp)))
              case r25pb =>
              (try simp only [Act.put, List.setIfInBounds_toArray, List.set_cons_zero, List.set_cons_succ])
              refine wpAnyH_take (i := 26) (oi := ⟨some 132, _, _, _, _, _⟩) (v := ?v26pb) rfl (by kernel_rfl) (by kernel_rfl) (by kernel_rfl) (fun _ _ _ h => h) (Or.inl ⟨by rfl, ?y26pb⟩) (by assumption) ?r26pb
              case y26pb => (intro w hSw; (try dsimp only at hSw); (try go_split_ands); go_simp); (try with_reducible rfl)
              case r26pb =>
              (try simp only [Act.put, List.setIfInBounds_toArray, List.set_cons_zero, List.set_cons_succ])
              refine wpAnyH_take (i := 27) (oi := ⟨some 133, _, _, _, _, _⟩) (v := ?v27pb) rfl (by kernel_rfl) (by kernel_rfl) (by kernel_rfl) (fun _ _ _ h => h) (Or.inl ⟨by rfl, ?y27pb⟩) (by assumption) ?r27pb
              case y27pb => (intro w hSw; (try dsimp only at hSw); (try go_split_ands); go_simp); (try with_reducible rfl)
              case r27pb =>
              (try simp only [Act.put, List.setIfInBounds_toArray, List.set_cons_zero, List.set_cons_succ])
              refine wpAnyH_take (i := 28) (oi := ⟨some 134, _, _, _, _, _⟩) (v := ?v28pb) rfl (by kernel_rfl) (by kernel_rfl) (by kernel_rfl) (fun _ _ _ h => h) (Or.inl ⟨by rfl, ?y28pb⟩) (by assumption) ?r28pb
              case y28pb => (intro w hSw; (try dsimp only at hSw); (try go_split_ands); go_simp); (try with_reducible rfl)
              case r28pb =>
              (try simp only [Act.put, List.setIfInBounds_toArray, List.set_cons_zero, List.set_cons_succ])
              refine wpAnyH_take (i := 29) (oi := ⟨some 135, _, _, _, _, _⟩) (v := ?v29pb) rfl (by kernel_rfl) (by kernel_rfl) (by kernel_rfl) (fun _ _ _ h => h) (Or.inl ⟨by rfl, ?y29pb⟩) (by assumption) ?r29pb
              case y29pb => (intro w hSw; (try dsimp only at hSw); (try go_split_ands); go_simp); (try with_reducible rfl)
              case r29pb =>
              (try simp only [Act.put, List.setIfInBounds_toArray, List.set_cons_zero, List.set_cons_succ])
              refine wpAnyH_take (i := 30) (oi := ⟨some 136, _, _, _, _, _⟩) (v := ?v30pb) rfl (by kernel_rfl) (by kernel_rfl) (by kernel_rfl) (fun _ _ _ h => h) (Or.inl ⟨by rfl, ?y30pb⟩) (by assumption) ?r30pb
              case y30pb => (intro w hSw; (try dsimp only at hSw); (try go_split_ands); go_simp); (try with_reducible rfl)
              case r30pb =>
              (try simp only [Act.put, List.setIfInBounds_toArray, List.set_cons_zero, List.set_cons_succ])
              refine wpAnyH_take (i := 31) (oi := ⟨some 137, _, _, _, _, _⟩) (v := ?v31pb) rfl (by kernel_rfl) (by kernel_rfl) (by kernel_rfl) (fun _ _ _ h => h) (Or.inl ⟨by rfl, ?y31pb⟩) (by assumption) ?r31pb
              case y31pb => (intro w hSw; (try dsimp only at hSw); (try go_split_ands); go_simp); (try with_reducible rfl)
              case r31pb =>
              (try simp only [Act.put, List.setIfInBounds_toArray, List.set_cons_zero, List.set_cons_succ])
              refine wpAnyH_take (i := 33) (oi := ⟨some 139, _, _, _, _, _⟩) (v := ?v33pb) rfl (by kernel_rfl) (by kernel_rfl) (by kernel_rfl) (fun _ _ _ h => h) (Or.inl ⟨by rfl, ?y33pb⟩) (by assumption) ?r33pb
              case y33pb => (intro w hSw; (try dsimp only at hSw); (try go_split_ands); go_simp); (try with_reducible rfl)
              case r33pb =>
              (try simp only [Act.put, List.setIfInBounds_toArray, List.set_cons_zero, List.set_cons_succ])
              refine wpAnyH_take (i := 34) (oi := ⟨some 140, _, _, _, _, _⟩) (v := ?v34pb) rfl (by kernel_rfl) (by kernel_rfl) (by kernel_rfl) (fun _ _ _ h => h) (Or.inl ⟨by rfl, ?y34pb⟩) (by assumption) ?r34pb
              case y34pb => (intro w hSw; (try dsimp only at hSw); (try go_split_ands); go_simp); (try with_reducible rfl)
              case r34pb =>
              (try simp only [Act.put, List.setIfInBounds_toArray, List.set_cons_zero, List.set_cons_succ])
              refine wpAnyH_take (i := 35) (oi := ⟨some 141, _, _, _, _, _⟩) (v := ?v35pb) rfl (by kernel_rfl) (by kernel_rfl) (by kernel_rfl) (fun _ _ _ h => h) (Or.inl ⟨by rfl, ?y35pb⟩) (by assumption) ?r35pb
              case y35pb => (intro w hSw; (try dsimp only at hSw); (try go_split_ands); go_simp); (try with_reducible rfl)
              case r35pb =>
              (try simp only [Act.put, List.setIfInBounds_toArray, List.set_cons_zero, List.set_cons_succ])
              refine wpAnyH_take (i := 36) (oi := ⟨some 142, _, _, _, _, _⟩) (v := ?v36pb) rfl (by kernel_rfl) (by kernel_rfl) (by kernel_rfl) (fun _ _ _ h => h) (Or.inl ⟨by rfl, ?y36pb⟩) (by assumption) ?r36pb
              case y36pb => (intro w hSw; (try dsimp only at hSw); (try go_split_ands); go_simp); (try with_reducible rfl)
              case r36pb =>
              (try simp only [Act.put, List.setIfInBounds_toArray, List.set_cons_zero, List.set_cons_succ])
              refine wpAnyH_take (i := 37) (oi := ⟨some 143, _, _, _, _, _⟩) (v := ?v37pb) rfl (by kernel_rfl) (by kernel_rfl) (by kernel_rfl) (fun _ _ _ h => h) (Or.inl ⟨by rfl, ?y37pb⟩) (by assumption) ?r37pb
              case y37pb => (intro w hSw; (try dsimp only at hSw); (try go_split_ands); go_simp); (try with_reducible rfl)
              case r37pb =>
              (try simp only [Act.put, List.setIfInBounds_toArray, List.set_cons_zero, List.set_cons_succ])
              refine wpAnyH_ready (rs := [32]) (by kernel_rfl) (by simp) ?_
              refine AllReadyH.cons (o := ⟨some 138, _, _, _, _, _⟩) rfl (fun K hK => ?_) AllReadyH.nil
              go_simp
              refine (stHas w b l5 L5 g5 s HI.out (fun _ => False) _ (HSTQ.out.below ((Below.refl _ _).drew))).mono ?_
              rintro e w7 ⟨rfl, hb7⟩
              go_wp2_with fail
              have hh7 := ((Below.refl _ _).drew).trans hb7
              refine hK.out _ _ ⟨bkeep hh7 y0 hgq, bkeep hh7 y1 hgq, bkeep hh7 y2 hgq, bkeep hh7 y3 hgq, bkeep hh7 y4 hgq, bkeep hh7 z0 hgq⟩ (fun hHeld => ?_)
              clear hK K
              (try simp only [Act.put, List.setIfInBounds_toArray, List.set_cons_zero, List.set_cons_succ])
              refine wpAnyH_take (i := 38) (oi := ⟨some 144, _, _, _, _, _⟩) (v := .bool false) rfl (by kernel_rfl) (by kernel_rfl) (by kernel_rfl) (fun _ _ _ h => h) (Or.inl ⟨by rfl, ?y38pb⟩) (by assumption) ?r38pb
              case y38pb => (intro w hSw; (try dsimp only at hSw); (try go_split_ands); (first | (go_simp; done) | (go_simp; exact hnz4) | (go_simp; have hK := HK0.out; omega) | (go_simp; simp [hbl]) | (go_simp; simp)))
              case r38pb =>
              (try simp only [Act.put, List.setIfInBounds_toArray, List.set_cons_zero, List.set_cons_succ])
              refine wpAnyH_take (i := 39) (oi := ⟨some 145, _, _, _, _, _⟩) (v := .bool false) rfl (by kernel_rfl) (by kernel_rfl) (by kernel_rfl) (fun _ _ _ h => h) (Or.inl ⟨by rfl, ?y39pb⟩) (by assumption) ?r39pb
              case y39pb => (intro w hSw; (try dsimp only at hSw); (try go_split_ands); (first | (go_simp; done) | (go_simp; exact hnz4) | (go_simp; have hK := HK0.out; omega) | (go_simp; simp [hbl]) | (go_simp; simp)))
              case r39pb =>
              (try simp only [Act.put, List.setIfInBounds_toArray, List.set_cons_zero, List.set_cons_succ])
              refine wpAnyH_done (by kernel_rfl) ?_ _
              go_wp2_with fail
              exact ⟨⟨k + 1, hk, by go_num, HBQ.out.trans (hh7.mono hsq)⟩, by simp [intOf]; omega⟩
          · obtain rfl : k = l5.length := by omega
            go_wp2_with fail
            exact ⟨⟨i + 1, l5, L5, g5, N5, by omega, by go_num, by go_num, HSTQ.out, HNM5.out, HNL5.out⟩, by simp [intOf]; omega⟩
    · obtain rfl : min xs.length 100 = i := by omega
      by_cases q3 : ((min xs.length 100 : Nat) : Int) < (xs.length : Int)
      · have q4 : ¬ ((min xs.length 100 : Nat) : Int) < 100 := by omega
        go_wp2_with (first
          | (go_at_call 8; refine (vtKnown _).mono ?_; rintro e w9 ⟨rfl, hb9⟩)
          | fail)
        go_ret
        exact ⟨rfl, HST.out.bel.trans (hb9.mono hsw)⟩
      · go_wp2_with (first
          | (go_at_call 8; refine (vtKnown _).mono ?_; rintro e w9 ⟨rfl, hb9⟩)
          | fail)
        go_ret
        exact ⟨rfl, HST.out.bel.trans (hb9.mono hsw)⟩
end Go.Proofs.Ytdlbiobjnohfbaa
