/- the document's plan: merges. -/
import Derived.Test.YtepjehcmiofehaaGreatPmG
namespace Go.Proofs.YtepjehcmiofehaaGreat
open Go.RowKit
set_option linter.unusedVariables false
set_option linter.unusedSimpArgs false

set_option maxHeartbeats 16000000 in
set_option maxRecDepth 10000 in
theorem rsMerges (B x gn cn : Nat) (c : Rc) (ov tv : Value) (nm : List Bool) (ps : List Pz) (cs : List Ch) (mv cold : Int) (w : World) (h : RsH w B x c (.slice (some ⟨gn, 0, none⟩) c.m.zs.length cn) ov tv nm ps cs mv) (hhit : HitsOk ps) (hcl : cs.length ≤ 900) :
    Calls Tryz.prog 23 #[.pointer (some ⟨x, 0, none⟩), .int .i64 cold] w fun e w' => e = .returned (.tuple #[]) ∧ ∃ ov' nm', RsH w' B x c (.slice (some ⟨gn, 0, none⟩) c.m.zs.length cn) ov' tv nm' (mergeF cold ps cs).ps (mergeF cold ps cs).cs mv ∧ Below B w w' := by
  have HR := Lib.hid h
  obtain ⟨hl1, hl16, hps, -⟩ := h.len
  obtain ⟨gz, oz, hA, hgB⟩ := h.form
  have HA := Lib.hid hA
  have HHI := Lib.hid hhit
  clear h hA hhit
  go_enter Tryz.func23, Tryz.ntmps23
  go_wp2_with fail
  go_loopw [4] (fun iv wr => ∃ (j : Nat) (ovj : Value) (nmj : List Bool) (st : MS), j + 1 ≤ c.m.zs.length ∧ iv = .int .i64 j ∧ st = (List.range j).foldl (mergeStep cold) ⟨ps, cs⟩ ∧ RsH wr B x c (.slice (some ⟨gn, 0, none⟩) c.m.zs.length cn) ovj tv nmj st.ps st.cs mv ∧ Below B w wr ∧ st.cs.length ≤ cs.length + j) (fun iv _ => c.m.zs.length - (intOf iv).toNat)
  case atStart => exact ⟨0, ov, nm, ⟨ps, cs⟩, by omega, rfl, rfl, HR.out, Below.refl _ _, by simp⟩
  case round =>
    obtain ⟨j, ovj, nmj, st, hjl, rfl, hst, hS, hBj, hck⟩ := hrel
    have HST := Lib.hid hst
    have HS := Lib.hid hS
    have HBJ := Lib.hid hBj
    have hbw := hS.bw
    have k2 := hS.k2 HA.out
    have hxw2 := hS.blk.low
    have hcast : IntKind.i64.wrap ((j : Int) + 1) = (j : Int) + 1 := by rw [IntKind.wrap_i64]; omega
    clear hst hBj
    by_cases hlt : j + 1 < c.m.zs.length
    case neg =>
      have q3 : ¬ ((j : Int) + 1 < (c.m.zs.length : Int)) := by omega
      have hj : ps.length - 1 = j := by omega
      have hst2 : st = mergeF cold ps cs := by unfold mergeF; rw [hj]; exact HST.out
      have HST2 := Lib.hid hst2
      clear hst2 hj hS
      go_wp2_with fail
      exact bodyPost_end (v := .tuple #[]) (by simp [results, Tryz.results23, go_sem]) rfl ⟨rfl, ⟨ovj, nmj, by rw [← HST2.out]; exact HS.out⟩, HBJ.out⟩
    have q3 : (j : Int) + 1 < (c.m.zs.length : Int) := by omega
    have q4 : (j : Int) < (c.m.zs.length : Int) := by omega
    have hc0 : 0 ≤ (j : Int) + 1 := by omega
    have hsame : SameZ st.ps ps := by rw [HST.out]; exact mergeFold_same cold _ _
    have hj1 : j < c.m.zs.length := by omega
    have hj2 : j + 1 < c.m.zs.length := hlt
    have hs1 : j < st.ps.length := by rw [hsame.1]; omega
    have hs2 : j + 1 < st.ps.length := by rw [hsame.1]; omega
    have hstep : (List.range (j + 1)).foldl (mergeStep cold) ⟨ps, cs⟩ = mergeStep cold st j := by
      rw [List.range_succ, List.foldl_append, ← HST.out]; rfl
    obtain ⟨p, hp⟩ : ∃ p, p = st.ps[j] := ⟨_, rfl⟩
    obtain ⟨q, hq⟩ : ∃ q, q = st.ps[j + 1] := ⟨_, rfl⟩
    have hpq : st.ps[j]? = some p := by rw [hp]; exact List.getElem?_eq_getElem hs1
    have hqq : st.ps[j + 1]? = some q := by rw [hq]; exact List.getElem?_eq_getElem hs2
    have hss : mergeStep cold st j = if mergeOk cold p q = true then ⟨(st.ps.set j (taken p)).set (j + 1) (taken q), st.cs ++ [⟨2, p.z.id, 0, 0, ⟨#[]⟩⟩]⟩ else st := by
      unfold mergeStep
      rw [hpq, hqq]
    rw [hss] at hstep
    have HSTEP := Lib.hid hstep
    have hqh := hsame.hits HHI.out
    have bx := hqh _ (List.getElem_mem hs1)
    have by_ := hqh _ (List.getElem_mem hs2)
    rw [← hp] at bx
    rw [← hq] at by_
    have HFX : Hid (freeAt st.ps j = p.fr) := Lib.hid (by unfold freeAt; rw [hpq]; rfl)
    have HFY : Hid (freeAt st.ps (j + 1) = q.fr) := Lib.hid (by unfold freeAt; rw [hqq]; rfl)
    have HHX : Hid (hitsAt st.ps j = p.hits) := Lib.hid (by unfold hitsAt; rw [hpq]; rfl)
    have HHY : Hid (hitsAt st.ps (j + 1) = q.hits) := Lib.hid (by unfold hitsAt; rw [hqq]; rfl)
    obtain ⟨-, -, -, u3, -⟩ := hS.zn HA.out hj1
    obtain ⟨-, -, -, v3, -⟩ := hS.zn HA.out hj2
    rw [← (hS.lk.z j hs1 hj1).1, ← hp] at u3
    rw [← (hS.lk.z (j + 1) hs2 hj2).1, ← hq] at v3
    have hgw : gz < wr.heap.size := Nat.lt_of_lt_of_le hgB hbw
    have z1 : wrap64 (p.hits + q.hits) = p.hits + q.hits := wrap_small (by omega) (by omega)
    have z2 : IntKind.i64.wrap (p.hits + q.hits) = p.hits + q.hits := by rw [IntKind.wrap_i64]; omega
    have HPQ := Lib.hid hpq
    have HQQ := Lib.hid hqq
    clear hstep hss hqh hp hq hpq hqq hS hsame
    go_upto_region 3 with fail
    cases c1 : p.fr with
    | false =>
      have HNO : Hid (¬ (mergeOk cold p q = true)) := Lib.hid (by unfold mergeOk; rw [c1]; simp)
      rw [c1] at HFX
      refine wp_region_held_drew (S := (fun W => Below wr.heap.size wr W ∧ W.cell? ⟨x, 2, none⟩ = some (.slice (some ⟨gz, oz, none⟩) c.m.zs.length c.cp) ∧ W.cell? ⟨gz, oz + j * 9 + 3, none⟩ = some (.int .i64 p.z.ow) ∧ W.cell? ⟨gz, oz + (j + 1) * 9 + 3, none⟩ = some (.int .i64 q.z.ow))) (by kernel_rfl) ⟨(Below.refl _ _).drew, k2, u3, v3⟩ (fun hHeld => ?_)
      refine tk (i := 0) (oi := ⟨some 16, _, _, _, _, _⟩) (?v0a) rfl (by rfl) ?y0a ?r0a
      case y0a => (intro w hSw; (try dsimp only at hSw); (try go_split_ands); go_simp); (try with_reducible rfl)
      case r0a =>
      (try simp only [Act.put, sA, sB, sC])
      refine tk (i := 1) (oi := ⟨some 17, _, _, _, _, _⟩) (?v1a) rfl (by rfl) ?y1a ?r1a
      case y1a => (intro w hSw; (try dsimp only at hSw); (try go_split_ands); go_simp); (try with_reducible rfl)
      case r1a =>
      (try simp only [Act.put, sA, sB, sC])
      refine wpAnyH_ready (rs := [2]) (by kernel_rfl) (by simp) ?_
      refine AllReadyH.cons (o := ⟨some 18, _, _, _, _, _⟩) rfl (fun K hK => ?_) AllReadyH.nil
      go_simp
      refine (rsFree B x c (.slice (some ⟨gn, 0, none⟩) c.m.zs.length cn) ovj tv nmj st.ps st.cs mv j hj1 _ (HS.out.below hHeld.1)).mono ?_; rintro e w3 ⟨rfl, hb3⟩; rw [HFX.out]
      go_wp2_with fail
      refine hK.out _ _ (by have hh := Below.trans hHeld.1 (Below.mono hb3 (Below.size hHeld.1)); exact ⟨hh, bkeep hh k2 hxw2, bkeep hh u3 hgw, bkeep hh v3 hgw⟩) (fun hHeld => ?_)
      clear hK K
      (try simp only [Act.put, sA, sB, sC])
      refine tk (i := 3) (oi := ⟨some 19, _, _, _, _, _⟩) (.bool false) rfl (by rfl) ?y3a ?r3a
      case y3a => (intro w hSw; (try dsimp only at hSw); (try go_split_ands); (go_simp <;> omega))
      case r3a =>
      (try simp only [Act.put, sA, sB, sC])
      refine tn (i := 4) (oi := ⟨some 20, _, _, _, _, _⟩) rfl (by rfl) ?_
      (try simp only [Act.put, sA, sB, sC])
      refine tn (i := 5) (oi := ⟨some 21, _, _, _, _, _⟩) rfl (by rfl) ?_
      (try simp only [Act.put, sA, sB, sC])
      refine tn (i := 6) (oi := ⟨some 22, _, _, _, _, _⟩) rfl (by rfl) ?_
      (try simp only [Act.put, sA, sB, sC])
      refine tn (i := 7) (oi := ⟨some 23, _, _, _, _, _⟩) rfl (by rfl) ?_
      (try simp only [Act.put, sA, sB, sC])
      refine tk (i := 8) (oi := ⟨some 24, _, _, _, _, _⟩) (.bool false) rfl (by rfl) ?y8a ?r8a
      case y8a => (intro w hSw; (try dsimp only at hSw); (try go_split_ands); (go_simp <;> omega))
      case r8a =>
      (try simp only [Act.put, sA, sB, sC])
      refine tk (i := 9) (oi := ⟨some 25, _, _, _, _, _⟩) (.bool false) rfl (by rfl) ?y9a ?r9a
      case y9a => (intro w hSw; (try dsimp only at hSw); (try go_split_ands); (go_simp <;> omega))
      case r9a =>
      (try simp only [Act.put, sA, sB, sC])
      refine tn (i := 10) (oi := ⟨some 26, _, _, _, _, _⟩) rfl (by rfl) ?_
      (try simp only [Act.put, sA, sB, sC])
      refine tn (i := 11) (oi := ⟨some 27, _, _, _, _, _⟩) rfl (by rfl) ?_
      (try simp only [Act.put, sA, sB, sC])
      refine tn (i := 12) (oi := ⟨some 28, _, _, _, _, _⟩) rfl (by rfl) ?_
      (try simp only [Act.put, sA, sB, sC])
      refine tn (i := 13) (oi := ⟨some 29, _, _, _, _, _⟩) rfl (by rfl) ?_
      (try simp only [Act.put, sA, sB, sC])
      refine tn (i := 14) (oi := ⟨some 30, _, _, _, _, _⟩) rfl (by rfl) ?_
      (try simp only [Act.put, sA, sB, sC])
      refine tn (i := 15) (oi := ⟨some 31, _, _, _, _, _⟩) rfl (by rfl) ?_
      (try simp only [Act.put, sA, sB, sC])
      refine tn (i := 16) (oi := ⟨some 32, _, _, _, _, _⟩) rfl (by rfl) ?_
      (try simp only [Act.put, sA, sB, sC])
      refine tn (i := 17) (oi := ⟨some 33, _, _, _, _, _⟩) rfl (by rfl) ?_
      (try simp only [Act.put, sA, sB, sC])
      refine tn (i := 18) (oi := ⟨some 34, _, _, _, _, _⟩) rfl (by rfl) ?_
      (try simp only [Act.put, sA, sB, sC])
      refine tn (i := 19) (oi := ⟨some 35, _, _, _, _, _⟩) rfl (by rfl) ?_
      (try simp only [Act.put, sA, sB, sC])
      refine tn (i := 20) (oi := ⟨some 36, _, _, _, _, _⟩) rfl (by rfl) ?_
      (try simp only [Act.put, sA, sB, sC])
      refine tn (i := 21) (oi := ⟨some 37, _, _, _, _, _⟩) rfl (by rfl) ?_
      (try simp only [Act.put, sA, sB, sC])
      refine tn (i := 22) (oi := ⟨some 38, _, _, _, _, _⟩) rfl (by rfl) ?_
      (try simp only [Act.put, sA, sB, sC])
      refine tn (i := 23) (oi := ⟨some 39, _, _, _, _, _⟩) rfl (by rfl) ?_
      (try simp only [Act.put, sA, sB, sC])
      refine tn (i := 24) (oi := ⟨some 40, _, _, _, _, _⟩) rfl (by rfl) ?_
      (try simp only [Act.put, sA, sB, sC])
      refine tn (i := 25) (oi := ⟨some 41, _, _, _, _, _⟩) rfl (by rfl) ?_
      (try simp only [Act.put, sA, sB, sC])
      refine tn (i := 26) (oi := ⟨some 42, _, _, _, _, _⟩) rfl (by rfl) ?_
      (try simp only [Act.put, sA, sB, sC])
      refine tn (i := 27) (oi := ⟨some 43, _, _, _, _, _⟩) rfl (by rfl) ?_
      (try simp only [Act.put, sA, sB, sC])
      refine tn (i := 28) (oi := ⟨some 44, _, _, _, _, _⟩) rfl (by rfl) ?_
      (try simp only [Act.put, sA, sB, sC])
      refine tn (i := 29) (oi := ⟨some 45, _, _, _, _, _⟩) rfl (by rfl) ?_
      (try simp only [Act.put, sA, sB, sC])
      refine tk (i := 30) (oi := ⟨some 46, _, _, _, _, _⟩) (.bool false) rfl (by rfl) ?y30a ?r30a
      case y30a => (intro w hSw; (try dsimp only at hSw); (try go_split_ands); (go_simp <;> omega))
      case r30a =>
      (try simp only [Act.put, sA, sB, sC])
      refine tk (i := 31) (oi := ⟨some 47, _, _, _, _, _⟩) (.bool false) rfl (by rfl) ?y31a ?r31a
      case y31a => (intro w hSw; (try dsimp only at hSw); (try go_split_ands); (go_simp <;> omega))
      case r31a =>
      (try simp only [Act.put, sA, sB, sC])
      refine tn (i := 32) (oi := ⟨some 48, _, _, _, _, _⟩) rfl (by rfl) ?_
      (try simp only [Act.put, sA, sB, sC])
      refine tn (i := 33) (oi := ⟨some 49, _, _, _, _, _⟩) rfl (by rfl) ?_
      (try simp only [Act.put, sA, sB, sC])
      refine tn (i := 34) (oi := ⟨some 50, _, _, _, _, _⟩) rfl (by rfl) ?_
      (try simp only [Act.put, sA, sB, sC])
      refine tn (i := 35) (oi := ⟨some 51, _, _, _, _, _⟩) rfl (by rfl) ?_
      (try simp only [Act.put, sA, sB, sC])
      refine tn (i := 36) (oi := ⟨some 52, _, _, _, _, _⟩) rfl (by rfl) ?_
      (try simp only [Act.put, sA, sB, sC])
      refine tn (i := 37) (oi := ⟨some 53, _, _, _, _, _⟩) rfl (by rfl) ?_
      (try simp only [Act.put, sA, sB, sC])
      refine tn (i := 38) (oi := ⟨some 54, _, _, _, _, _⟩) rfl (by rfl) ?_
      (try simp only [Act.put, sA, sB, sC])
      refine tn (i := 39) (oi := ⟨some 55, _, _, _, _, _⟩) rfl (by rfl) ?_
      (try simp only [Act.put, sA, sB, sC])
      refine tn (i := 40) (oi := ⟨some 56, _, _, _, _, _⟩) rfl (by rfl) ?_
      (try simp only [Act.put, sA, sB, sC])
      refine tn (i := 41) (oi := ⟨some 57, _, _, _, _, _⟩) rfl (by rfl) ?_
      (try simp only [Act.put, sA, sB, sC])
      refine tk (i := 42) (oi := ⟨some 58, _, _, _, _, _⟩) (.bool false) rfl (by rfl) ?y42a ?r42a
      case y42a => (intro w hSw; (try dsimp only at hSw); (try go_split_ands); (go_simp <;> omega))
      case r42a =>
      (try simp only [Act.put, sA, sB, sC])
      refine wpAnyH_done (by kernel_rfl) ?_ _
      go_wp2_with fail
      exact ⟨⟨j + 1, ovj, nmj, st, by omega, by go_num, by rw [HSTEP.out, if_neg HNO.out], HS.out.below hHeld.1, HBJ.out.trans (hHeld.1.mono HS.out.bw), by omega⟩, by simp [intOf]; omega⟩
    | true =>
      rw [c1] at HFX
      cases c2 : q.fr with
      | false =>
        have HNO : Hid (¬ (mergeOk cold p q = true)) := Lib.hid (by unfold mergeOk; rw [c2]; simp)
        rw [c2] at HFY
        refine wp_region_held_drew (S := (fun W => Below wr.heap.size wr W ∧ W.cell? ⟨x, 2, none⟩ = some (.slice (some ⟨gz, oz, none⟩) c.m.zs.length c.cp) ∧ W.cell? ⟨gz, oz + j * 9 + 3, none⟩ = some (.int .i64 p.z.ow) ∧ W.cell? ⟨gz, oz + (j + 1) * 9 + 3, none⟩ = some (.int .i64 q.z.ow))) (by kernel_rfl) ⟨(Below.refl _ _).drew, k2, u3, v3⟩ (fun hHeld => ?_)
        refine tk (i := 0) (oi := ⟨some 16, _, _, _, _, _⟩) (?v0b) rfl (by rfl) ?y0b ?r0b
        case y0b => (intro w hSw; (try dsimp only at hSw); (try go_split_ands); go_simp); (try with_reducible rfl)
        case r0b =>
        (try simp only [Act.put, sA, sB, sC])
        refine tk (i := 1) (oi := ⟨some 17, _, _, _, _, _⟩) (?v1b) rfl (by rfl) ?y1b ?r1b
        case y1b => (intro w hSw; (try dsimp only at hSw); (try go_split_ands); go_simp); (try with_reducible rfl)
        case r1b =>
        (try simp only [Act.put, sA, sB, sC])
        refine wpAnyH_ready (rs := [2]) (by kernel_rfl) (by simp) ?_
        refine AllReadyH.cons (o := ⟨some 18, _, _, _, _, _⟩) rfl (fun K hK => ?_) AllReadyH.nil
        go_simp
        refine (rsFree B x c (.slice (some ⟨gn, 0, none⟩) c.m.zs.length cn) ovj tv nmj st.ps st.cs mv j hj1 _ (HS.out.below hHeld.1)).mono ?_; rintro e w3 ⟨rfl, hb3⟩; rw [HFX.out]
        go_wp2_with fail
        refine hK.out _ _ (by have hh := Below.trans hHeld.1 (Below.mono hb3 (Below.size hHeld.1)); exact ⟨hh, bkeep hh k2 hxw2, bkeep hh u3 hgw, bkeep hh v3 hgw⟩) (fun hHeld => ?_)
        clear hK K
        (try simp only [Act.put, sA, sB, sC])
        refine tk (i := 3) (oi := ⟨some 19, _, _, _, _, _⟩) (.bool true) rfl (by rfl) ?y3b ?r3b
        case y3b => (intro w hSw; (try dsimp only at hSw); (try go_split_ands); (go_simp <;> omega))
        case r3b =>
        (try simp only [Act.put, sA, sB, sC])
        refine tk (i := 4) (oi := ⟨some 20, _, _, _, _, _⟩) (?v4b) rfl (by rfl) ?y4b ?r4b
        case y4b => (intro w hSw; (try dsimp only at hSw); (try go_split_ands); go_simp); (try with_reducible rfl)
        case r4b =>
        (try simp only [Act.put, sA, sB, sC])
        refine tk (i := 5) (oi := ⟨some 21, _, _, _, _, _⟩) (?v5b) rfl (by rfl) ?y5b ?r5b
        case y5b => (intro w hSw; (try dsimp only at hSw); (try go_split_ands); go_simp); (try with_reducible rfl)
        case r5b =>
        (try simp only [Act.put, sA, sB, sC])
        refine tk (i := 6) (oi := ⟨some 22, _, _, _, _, _⟩) (?v6b) rfl (by rfl) ?y6b ?r6b
        case y6b => (intro w hSw; (try dsimp only at hSw); (try go_split_ands); go_simp); (try with_reducible rfl)
        case r6b =>
        (try simp only [Act.put, sA, sB, sC])
        refine wpAnyH_ready (rs := [7]) (by kernel_rfl) (by simp) ?_
        refine AllReadyH.cons (o := ⟨some 23, _, _, _, _, _⟩) rfl (fun K hK => ?_) AllReadyH.nil
        go_simp
        have hfree : Calls Tryz.prog 41 #[.pointer (some ⟨x, 0, none⟩), .int .i64 ((j : Int) + 1)] _ _ := rsFree B x c (.slice (some ⟨gn, 0, none⟩) c.m.zs.length cn) ovj tv nmj st.ps st.cs mv (j + 1) hj2 _ (HS.out.below hHeld.1)
        refine hfree.mono ?_; rintro e w3 ⟨rfl, hb3⟩; rw [HFY.out]
        go_wp2_with fail
        refine hK.out _ _ (by have hh := Below.trans hHeld.1 (Below.mono hb3 (Below.size hHeld.1)); exact ⟨hh, bkeep hh k2 hxw2, bkeep hh u3 hgw, bkeep hh v3 hgw⟩) (fun hHeld => ?_)
        clear hK K
        (try simp only [Act.put, sA, sB, sC])
        refine tk (i := 8) (oi := ⟨some 24, _, _, _, _, _⟩) (.bool false) rfl (by rfl) ?y8b ?r8b
        case y8b => (intro w hSw; (try dsimp only at hSw); (try go_split_ands); (go_simp <;> omega))
        case r8b =>
        (try simp only [Act.put, sA, sB, sC])
        refine tk (i := 9) (oi := ⟨some 25, _, _, _, _, _⟩) (.bool false) rfl (by rfl) ?y9b ?r9b
        case y9b => (intro w hSw; (try dsimp only at hSw); (try go_split_ands); (go_simp <;> omega))
        case r9b =>
        (try simp only [Act.put, sA, sB, sC])
        refine tn (i := 10) (oi := ⟨some 26, _, _, _, _, _⟩) rfl (by rfl) ?_
        (try simp only [Act.put, sA, sB, sC])
        refine tn (i := 11) (oi := ⟨some 27, _, _, _, _, _⟩) rfl (by rfl) ?_
        (try simp only [Act.put, sA, sB, sC])
        refine tn (i := 12) (oi := ⟨some 28, _, _, _, _, _⟩) rfl (by rfl) ?_
        (try simp only [Act.put, sA, sB, sC])
        refine tn (i := 13) (oi := ⟨some 29, _, _, _, _, _⟩) rfl (by rfl) ?_
        (try simp only [Act.put, sA, sB, sC])
        refine tn (i := 14) (oi := ⟨some 30, _, _, _, _, _⟩) rfl (by rfl) ?_
        (try simp only [Act.put, sA, sB, sC])
        refine tn (i := 15) (oi := ⟨some 31, _, _, _, _, _⟩) rfl (by rfl) ?_
        (try simp only [Act.put, sA, sB, sC])
        refine tn (i := 16) (oi := ⟨some 32, _, _, _, _, _⟩) rfl (by rfl) ?_
        (try simp only [Act.put, sA, sB, sC])
        refine tn (i := 17) (oi := ⟨some 33, _, _, _, _, _⟩) rfl (by rfl) ?_
        (try simp only [Act.put, sA, sB, sC])
        refine tn (i := 18) (oi := ⟨some 34, _, _, _, _, _⟩) rfl (by rfl) ?_
        (try simp only [Act.put, sA, sB, sC])
        refine tn (i := 19) (oi := ⟨some 35, _, _, _, _, _⟩) rfl (by rfl) ?_
        (try simp only [Act.put, sA, sB, sC])
        refine tn (i := 20) (oi := ⟨some 36, _, _, _, _, _⟩) rfl (by rfl) ?_
        (try simp only [Act.put, sA, sB, sC])
        refine tn (i := 21) (oi := ⟨some 37, _, _, _, _, _⟩) rfl (by rfl) ?_
        (try simp only [Act.put, sA, sB, sC])
        refine tn (i := 22) (oi := ⟨some 38, _, _, _, _, _⟩) rfl (by rfl) ?_
        (try simp only [Act.put, sA, sB, sC])
        refine tn (i := 23) (oi := ⟨some 39, _, _, _, _, _⟩) rfl (by rfl) ?_
        (try simp only [Act.put, sA, sB, sC])
        refine tn (i := 24) (oi := ⟨some 40, _, _, _, _, _⟩) rfl (by rfl) ?_
        (try simp only [Act.put, sA, sB, sC])
        refine tn (i := 25) (oi := ⟨some 41, _, _, _, _, _⟩) rfl (by rfl) ?_
        (try simp only [Act.put, sA, sB, sC])
        refine tn (i := 26) (oi := ⟨some 42, _, _, _, _, _⟩) rfl (by rfl) ?_
        (try simp only [Act.put, sA, sB, sC])
        refine tn (i := 27) (oi := ⟨some 43, _, _, _, _, _⟩) rfl (by rfl) ?_
        (try simp only [Act.put, sA, sB, sC])
        refine tn (i := 28) (oi := ⟨some 44, _, _, _, _, _⟩) rfl (by rfl) ?_
        (try simp only [Act.put, sA, sB, sC])
        refine tn (i := 29) (oi := ⟨some 45, _, _, _, _, _⟩) rfl (by rfl) ?_
        (try simp only [Act.put, sA, sB, sC])
        refine tk (i := 30) (oi := ⟨some 46, _, _, _, _, _⟩) (.bool false) rfl (by rfl) ?y30b ?r30b
        case y30b => (intro w hSw; (try dsimp only at hSw); (try go_split_ands); (go_simp <;> omega))
        case r30b =>
        (try simp only [Act.put, sA, sB, sC])
        refine tk (i := 31) (oi := ⟨some 47, _, _, _, _, _⟩) (.bool false) rfl (by rfl) ?y31b ?r31b
        case y31b => (intro w hSw; (try dsimp only at hSw); (try go_split_ands); (go_simp <;> omega))
        case r31b =>
        (try simp only [Act.put, sA, sB, sC])
        refine tn (i := 32) (oi := ⟨some 48, _, _, _, _, _⟩) rfl (by rfl) ?_
        (try simp only [Act.put, sA, sB, sC])
        refine tn (i := 33) (oi := ⟨some 49, _, _, _, _, _⟩) rfl (by rfl) ?_
        (try simp only [Act.put, sA, sB, sC])
        refine tn (i := 34) (oi := ⟨some 50, _, _, _, _, _⟩) rfl (by rfl) ?_
        (try simp only [Act.put, sA, sB, sC])
        refine tn (i := 35) (oi := ⟨some 51, _, _, _, _, _⟩) rfl (by rfl) ?_
        (try simp only [Act.put, sA, sB, sC])
        refine tn (i := 36) (oi := ⟨some 52, _, _, _, _, _⟩) rfl (by rfl) ?_
        (try simp only [Act.put, sA, sB, sC])
        refine tn (i := 37) (oi := ⟨some 53, _, _, _, _, _⟩) rfl (by rfl) ?_
        (try simp only [Act.put, sA, sB, sC])
        refine tn (i := 38) (oi := ⟨some 54, _, _, _, _, _⟩) rfl (by rfl) ?_
        (try simp only [Act.put, sA, sB, sC])
        refine tn (i := 39) (oi := ⟨some 55, _, _, _, _, _⟩) rfl (by rfl) ?_
        (try simp only [Act.put, sA, sB, sC])
        refine tn (i := 40) (oi := ⟨some 56, _, _, _, _, _⟩) rfl (by rfl) ?_
        (try simp only [Act.put, sA, sB, sC])
        refine tn (i := 41) (oi := ⟨some 57, _, _, _, _, _⟩) rfl (by rfl) ?_
        (try simp only [Act.put, sA, sB, sC])
        refine tk (i := 42) (oi := ⟨some 58, _, _, _, _, _⟩) (.bool false) rfl (by rfl) ?y42b ?r42b
        case y42b => (intro w hSw; (try dsimp only at hSw); (try go_split_ands); (go_simp <;> omega))
        case r42b =>
        (try simp only [Act.put, sA, sB, sC])
        refine wpAnyH_done (by kernel_rfl) ?_ _
        go_wp2_with fail
        exact ⟨⟨j + 1, ovj, nmj, st, by omega, by go_num, by rw [HSTEP.out, if_neg HNO.out], HS.out.below hHeld.1, HBJ.out.trans (hHeld.1.mono HS.out.bw), by omega⟩, by simp [intOf]; omega⟩
      | true =>
        rw [c2] at HFY
        by_cases c3 : p.z.ow = q.z.ow
        case neg =>
          have HNO : Hid (¬ (mergeOk cold p q = true)) := Lib.hid (by unfold mergeOk; rw [decide_eq_false c3]; simp)
          have c3b : (p.z.ow == q.z.ow) = false := by simpa using c3
          clear c3
          refine wp_region_held_drew (S := (fun W => Below wr.heap.size wr W ∧ W.cell? ⟨x, 2, none⟩ = some (.slice (some ⟨gz, oz, none⟩) c.m.zs.length c.cp) ∧ W.cell? ⟨gz, oz + j * 9 + 3, none⟩ = some (.int .i64 p.z.ow) ∧ W.cell? ⟨gz, oz + (j + 1) * 9 + 3, none⟩ = some (.int .i64 q.z.ow))) (by kernel_rfl) ⟨(Below.refl _ _).drew, k2, u3, v3⟩ (fun hHeld => ?_)
          refine tk (i := 0) (oi := ⟨some 16, _, _, _, _, _⟩) (?v0c) rfl (by rfl) ?y0c ?r0c
          case y0c => (intro w hSw; (try dsimp only at hSw); (try go_split_ands); go_simp); (try with_reducible rfl)
          case r0c =>
          (try simp only [Act.put, sA, sB, sC])
          refine tk (i := 1) (oi := ⟨some 17, _, _, _, _, _⟩) (?v1c) rfl (by rfl) ?y1c ?r1c
          case y1c => (intro w hSw; (try dsimp only at hSw); (try go_split_ands); go_simp); (try with_reducible rfl)
          case r1c =>
          (try simp only [Act.put, sA, sB, sC])
          refine wpAnyH_ready (rs := [2]) (by kernel_rfl) (by simp) ?_
          refine AllReadyH.cons (o := ⟨some 18, _, _, _, _, _⟩) rfl (fun K hK => ?_) AllReadyH.nil
          go_simp
          refine (rsFree B x c (.slice (some ⟨gn, 0, none⟩) c.m.zs.length cn) ovj tv nmj st.ps st.cs mv j hj1 _ (HS.out.below hHeld.1)).mono ?_; rintro e w3 ⟨rfl, hb3⟩; rw [HFX.out]
          go_wp2_with fail
          refine hK.out _ _ (by have hh := Below.trans hHeld.1 (Below.mono hb3 (Below.size hHeld.1)); exact ⟨hh, bkeep hh k2 hxw2, bkeep hh u3 hgw, bkeep hh v3 hgw⟩) (fun hHeld => ?_)
          clear hK K
          (try simp only [Act.put, sA, sB, sC])
          refine tk (i := 3) (oi := ⟨some 19, _, _, _, _, _⟩) (.bool true) rfl (by rfl) ?y3c ?r3c
          case y3c => (intro w hSw; (try dsimp only at hSw); (try go_split_ands); (go_simp <;> omega))
          case r3c =>
          (try simp only [Act.put, sA, sB, sC])
          refine tk (i := 4) (oi := ⟨some 20, _, _, _, _, _⟩) (?v4c) rfl (by rfl) ?y4c ?r4c
          case y4c => (intro w hSw; (try dsimp only at hSw); (try go_split_ands); go_simp); (try with_reducible rfl)
          case r4c =>
          (try simp only [Act.put, sA, sB, sC])
          refine tk (i := 5) (oi := ⟨some 21, _, _, _, _, _⟩) (?v5c) rfl (by rfl) ?y5c ?r5c
          case y5c => (intro w hSw; (try dsimp only at hSw); (try go_split_ands); go_simp); (try with_reducible rfl)
          case r5c =>
          (try simp only [Act.put, sA, sB, sC])
          refine tk (i := 6) (oi := ⟨some 22, _, _, _, _, _⟩) (?v6c) rfl (by rfl) ?y6c ?r6c
          case y6c => (intro w hSw; (try dsimp only at hSw); (try go_split_ands); go_simp); (try with_reducible rfl)
          case r6c =>
          (try simp only [Act.put, sA, sB, sC])
          refine wpAnyH_ready (rs := [7]) (by kernel_rfl) (by simp) ?_
          refine AllReadyH.cons (o := ⟨some 23, _, _, _, _, _⟩) rfl (fun K hK => ?_) AllReadyH.nil
          go_simp
          have hfree : Calls Tryz.prog 41 #[.pointer (some ⟨x, 0, none⟩), .int .i64 ((j : Int) + 1)] _ _ := rsFree B x c (.slice (some ⟨gn, 0, none⟩) c.m.zs.length cn) ovj tv nmj st.ps st.cs mv (j + 1) hj2 _ (HS.out.below hHeld.1)
          refine hfree.mono ?_; rintro e w3 ⟨rfl, hb3⟩; rw [HFY.out]
          go_wp2_with fail
          refine hK.out _ _ (by have hh := Below.trans hHeld.1 (Below.mono hb3 (Below.size hHeld.1)); exact ⟨hh, bkeep hh k2 hxw2, bkeep hh u3 hgw, bkeep hh v3 hgw⟩) (fun hHeld => ?_)
          clear hK K
          (try simp only [Act.put, sA, sB, sC])
          refine tk (i := 8) (oi := ⟨some 24, _, _, _, _, _⟩) (.bool true) rfl (by rfl) ?y8c ?r8c
          case y8c => (intro w hSw; (try dsimp only at hSw); (try go_split_ands); (go_simp <;> omega))
          case r8c =>
          (try simp only [Act.put, sA, sB, sC])
          refine tk (i := 9) (oi := ⟨some 25, _, _, _, _, _⟩) (.bool true) rfl (by rfl) ?y9c ?r9c
          case y9c => (intro w hSw; (try dsimp only at hSw); (try go_split_ands); (go_simp <;> omega))
          case r9c =>
          (try simp only [Act.put, sA, sB, sC])
          refine tk (i := 10) (oi := ⟨some 26, _, _, _, _, _⟩) (?v10c) rfl (by rfl) ?y10c ?r10c
          case y10c => (intro w hSw; (try dsimp only at hSw); (try go_split_ands); go_simp); (try with_reducible rfl)
          case r10c =>
          (try simp only [Act.put, sA, sB, sC])
          refine tk (i := 11) (oi := ⟨some 27, _, _, _, _, _⟩) (?v11c) rfl (by rfl) ?y11c ?r11c
          case y11c => (intro w hSw; (try dsimp only at hSw); (try go_split_ands); go_simp); (try with_reducible rfl)
          case r11c =>
          (try simp only [Act.put, sA, sB, sC])
          refine tk (i := 12) (oi := ⟨some 28, _, _, _, _, _⟩) (?v12c) rfl (by rfl) ?y12c ?r12c
          case y12c => (intro w hSw; (try dsimp only at hSw); (try go_split_ands); go_simp); (try with_reducible rfl)
          case r12c =>
          (try simp only [Act.put, sA, sB, sC])
          refine tk (i := 13) (oi := ⟨some 29, _, _, _, _, _⟩) (?v13c) rfl (by rfl) ?y13c ?r13c
          case y13c => (intro w hSw; (try dsimp only at hSw); (try go_split_ands); go_simp); (try with_reducible rfl)
          case r13c =>
          (try simp only [Act.put, sA, sB, sC])
          refine tk (i := 14) (oi := ⟨some 30, _, _, _, _, _⟩) (?v14c) rfl (by rfl) ?y14c ?r14c
          case y14c => (intro w hSw; (try dsimp only at hSw); (try go_split_ands); go_simp); (try with_reducible rfl)
          case r14c =>
          (try simp only [Act.put, sA, sB, sC])
          refine tk (i := 15) (oi := ⟨some 31, _, _, _, _, _⟩) (?v15c) rfl (by rfl) ?y15c ?r15c
          case y15c => (intro w hSw; (try dsimp only at hSw); (try go_split_ands); go_simp); (try with_reducible rfl)
          case r15c =>
          (try simp only [Act.put, sA, sB, sC])
          refine tk (i := 16) (oi := ⟨some 32, _, _, _, _, _⟩) (?v16c) rfl (by rfl) ?y16c ?r16c
          case y16c => (intro w hSw; (try dsimp only at hSw); (try go_split_ands); go_simp); (try with_reducible rfl)
          case r16c =>
          (try simp only [Act.put, sA, sB, sC])
          refine tk (i := 17) (oi := ⟨some 33, _, _, _, _, _⟩) (?v17c) rfl (by rfl) ?y17c ?r17c
          case y17c => (intro w hSw; (try dsimp only at hSw); (try go_split_ands); go_simp); (try with_reducible rfl)
          case r17c =>
          (try simp only [Act.put, sA, sB, sC])
          refine tk (i := 18) (oi := ⟨some 34, _, _, _, _, _⟩) (?v18c) rfl (by rfl) ?y18c ?r18c
          case y18c => (intro w hSw; (try dsimp only at hSw); (try go_split_ands); go_simp); (try with_reducible rfl)
          case r18c =>
          (try simp only [Act.put, sA, sB, sC])
          refine tk (i := 19) (oi := ⟨some 35, _, _, _, _, _⟩) (?v19c) rfl (by rfl) ?y19c ?r19c
          case y19c => (intro w hSw; (try dsimp only at hSw); (try go_split_ands); go_simp); (try with_reducible rfl)
          case r19c =>
          (try simp only [Act.put, sA, sB, sC])
          refine tk (i := 20) (oi := ⟨some 36, _, _, _, _, _⟩) (?v20c) rfl (by rfl) ?y20c ?r20c
          case y20c => (intro w hSw; (try dsimp only at hSw); (try go_split_ands); go_simp); (try with_reducible rfl)
          case r20c =>
          (try simp only [Act.put, sA, sB, sC])
          refine tk (i := 21) (oi := ⟨some 37, _, _, _, _, _⟩) (?v21c) rfl (by rfl) ?y21c ?r21c
          case y21c => (intro w hSw; (try dsimp only at hSw); (try go_split_ands); go_simp); (try with_reducible rfl)
          case r21c =>
          (try simp only [Act.put, sA, sB, sC])
          refine tk (i := 22) (oi := ⟨some 38, _, _, _, _, _⟩) (?v22c) rfl (by rfl) ?y22c ?r22c
          case y22c => (intro w hSw; (try dsimp only at hSw); (try go_split_ands); go_simp); (try with_reducible rfl)
          case r22c =>
          (try simp only [Act.put, sA, sB, sC])
          refine tk (i := 23) (oi := ⟨some 39, _, _, _, _, _⟩) (?v23c) rfl (by rfl) ?y23c ?r23c
          case y23c => (intro w hSw; (try dsimp only at hSw); (try go_split_ands); go_simp); (try with_reducible rfl)
          case r23c =>
          (try simp only [Act.put, sA, sB, sC])
          refine tk (i := 24) (oi := ⟨some 40, _, _, _, _, _⟩) (?v24c) rfl (by rfl) ?y24c ?r24c
          case y24c => (intro w hSw; (try dsimp only at hSw); (try go_split_ands); go_simp); (try with_reducible rfl)
          case r24c =>
          (try simp only [Act.put, sA, sB, sC])
          refine tk (i := 25) (oi := ⟨some 41, _, _, _, _, _⟩) (?v25c) rfl (by rfl) ?y25c ?r25c
          case y25c => (intro w hSw; (try dsimp only at hSw); (try go_split_ands); go_simp); (try with_reducible rfl)
          case r25c =>
          (try simp only [Act.put, sA, sB, sC])
          refine tk (i := 26) (oi := ⟨some 42, _, _, _, _, _⟩) (?v26c) rfl (by rfl) ?y26c ?r26c
          case y26c => (intro w hSw; (try dsimp only at hSw); (try go_split_ands); go_simp); (try with_reducible rfl)
          case r26c =>
          (try simp only [Act.put, sA, sB, sC])
          refine tk (i := 27) (oi := ⟨some 43, _, _, _, _, _⟩) (?v27c) rfl (by rfl) ?y27c ?r27c
          case y27c => (intro w hSw; (try dsimp only at hSw); (try go_split_ands); go_simp); (try with_reducible rfl)
          case r27c =>
          (try simp only [Act.put, sA, sB, sC])
          refine tk (i := 28) (oi := ⟨some 44, _, _, _, _, _⟩) (?v28c) rfl (by rfl) ?y28c ?r28c
          case y28c => (intro w hSw; (try dsimp only at hSw); (try go_split_ands); go_simp); (try with_reducible rfl)
          case r28c =>
          (try simp only [Act.put, sA, sB, sC])
          refine tk (i := 29) (oi := ⟨some 45, _, _, _, _, _⟩) (.bool false) rfl (by rfl) ?y29c ?r29c
          case y29c => (intro w hSw; (try dsimp only at hSw); (try go_split_ands); (go_simp <;> omega))
          case r29c =>
          (try simp only [Act.put, sA, sB, sC])
          refine tk (i := 30) (oi := ⟨some 46, _, _, _, _, _⟩) (.bool false) rfl (by rfl) ?y30c ?r30c
          case y30c => (intro w hSw; (try dsimp only at hSw); (try go_split_ands); (go_simp <;> omega))
          case r30c =>
          (try simp only [Act.put, sA, sB, sC])
          refine tk (i := 31) (oi := ⟨some 47, _, _, _, _, _⟩) (.bool false) rfl (by rfl) ?y31c ?r31c
          case y31c => (intro w hSw; (try dsimp only at hSw); (try go_split_ands); (go_simp <;> omega))
          case r31c =>
          (try simp only [Act.put, sA, sB, sC])
          refine tn (i := 32) (oi := ⟨some 48, _, _, _, _, _⟩) rfl (by rfl) ?_
          (try simp only [Act.put, sA, sB, sC])
          refine tn (i := 33) (oi := ⟨some 49, _, _, _, _, _⟩) rfl (by rfl) ?_
          (try simp only [Act.put, sA, sB, sC])
          refine tn (i := 34) (oi := ⟨some 50, _, _, _, _, _⟩) rfl (by rfl) ?_
          (try simp only [Act.put, sA, sB, sC])
          refine tn (i := 35) (oi := ⟨some 51, _, _, _, _, _⟩) rfl (by rfl) ?_
          (try simp only [Act.put, sA, sB, sC])
          refine tn (i := 36) (oi := ⟨some 52, _, _, _, _, _⟩) rfl (by rfl) ?_
          (try simp only [Act.put, sA, sB, sC])
          refine tn (i := 37) (oi := ⟨some 53, _, _, _, _, _⟩) rfl (by rfl) ?_
          (try simp only [Act.put, sA, sB, sC])
          refine tn (i := 38) (oi := ⟨some 54, _, _, _, _, _⟩) rfl (by rfl) ?_
          (try simp only [Act.put, sA, sB, sC])
          refine tn (i := 39) (oi := ⟨some 55, _, _, _, _, _⟩) rfl (by rfl) ?_
          (try simp only [Act.put, sA, sB, sC])
          refine tn (i := 40) (oi := ⟨some 56, _, _, _, _, _⟩) rfl (by rfl) ?_
          (try simp only [Act.put, sA, sB, sC])
          refine tn (i := 41) (oi := ⟨some 57, _, _, _, _, _⟩) rfl (by rfl) ?_
          (try simp only [Act.put, sA, sB, sC])
          refine tk (i := 42) (oi := ⟨some 58, _, _, _, _, _⟩) (.bool false) rfl (by rfl) ?y42c ?r42c
          case y42c => (intro w hSw; (try dsimp only at hSw); (try go_split_ands); (go_simp <;> omega))
          case r42c =>
          (try simp only [Act.put, sA, sB, sC])
          refine wpAnyH_done (by kernel_rfl) ?_ _
          go_wp2_with fail
          exact ⟨⟨j + 1, ovj, nmj, st, by omega, by go_num, by rw [HSTEP.out, if_neg HNO.out], HS.out.below hHeld.1, HBJ.out.trans (hHeld.1.mono HS.out.bw), by omega⟩, by simp [intOf]; omega⟩
        have c3b : (p.z.ow == q.z.ow) = true := by simpa using c3
        by_cases c4 : p.hits + q.hits < cold
        case neg =>
          have HNO : Hid (¬ (mergeOk cold p q = true)) := Lib.hid (by unfold mergeOk; rw [decide_eq_false c4]; simp)
          clear c3
          refine wp_region_held_drew (S := (fun W => Below wr.heap.size wr W ∧ W.cell? ⟨x, 2, none⟩ = some (.slice (some ⟨gz, oz, none⟩) c.m.zs.length c.cp) ∧ W.cell? ⟨gz, oz + j * 9 + 3, none⟩ = some (.int .i64 p.z.ow) ∧ W.cell? ⟨gz, oz + (j + 1) * 9 + 3, none⟩ = some (.int .i64 q.z.ow))) (by kernel_rfl) ⟨(Below.refl _ _).drew, k2, u3, v3⟩ (fun hHeld => ?_)
          refine tk (i := 0) (oi := ⟨some 16, _, _, _, _, _⟩) (?v0d) rfl (by rfl) ?y0d ?r0d
          case y0d => (intro w hSw; (try dsimp only at hSw); (try go_split_ands); go_simp); (try with_reducible rfl)
          case r0d =>
          (try simp only [Act.put, sA, sB, sC])
          refine tk (i := 1) (oi := ⟨some 17, _, _, _, _, _⟩) (?v1d) rfl (by rfl) ?y1d ?r1d
          case y1d => (intro w hSw; (try dsimp only at hSw); (try go_split_ands); go_simp); (try with_reducible rfl)
          case r1d =>
          (try simp only [Act.put, sA, sB, sC])
          refine wpAnyH_ready (rs := [2]) (by kernel_rfl) (by simp) ?_
          refine AllReadyH.cons (o := ⟨some 18, _, _, _, _, _⟩) rfl (fun K hK => ?_) AllReadyH.nil
          go_simp
          refine (rsFree B x c (.slice (some ⟨gn, 0, none⟩) c.m.zs.length cn) ovj tv nmj st.ps st.cs mv j hj1 _ (HS.out.below hHeld.1)).mono ?_; rintro e w3 ⟨rfl, hb3⟩; rw [HFX.out]
          go_wp2_with fail
          refine hK.out _ _ (by have hh := Below.trans hHeld.1 (Below.mono hb3 (Below.size hHeld.1)); exact ⟨hh, bkeep hh k2 hxw2, bkeep hh u3 hgw, bkeep hh v3 hgw⟩) (fun hHeld => ?_)
          clear hK K
          (try simp only [Act.put, sA, sB, sC])
          refine tk (i := 3) (oi := ⟨some 19, _, _, _, _, _⟩) (.bool true) rfl (by rfl) ?y3d ?r3d
          case y3d => (intro w hSw; (try dsimp only at hSw); (try go_split_ands); (go_simp <;> omega))
          case r3d =>
          (try simp only [Act.put, sA, sB, sC])
          refine tk (i := 4) (oi := ⟨some 20, _, _, _, _, _⟩) (?v4d) rfl (by rfl) ?y4d ?r4d
          case y4d => (intro w hSw; (try dsimp only at hSw); (try go_split_ands); go_simp); (try with_reducible rfl)
          case r4d =>
          (try simp only [Act.put, sA, sB, sC])
          refine tk (i := 5) (oi := ⟨some 21, _, _, _, _, _⟩) (?v5d) rfl (by rfl) ?y5d ?r5d
          case y5d => (intro w hSw; (try dsimp only at hSw); (try go_split_ands); go_simp); (try with_reducible rfl)
          case r5d =>
          (try simp only [Act.put, sA, sB, sC])
          refine tk (i := 6) (oi := ⟨some 22, _, _, _, _, _⟩) (?v6d) rfl (by rfl) ?y6d ?r6d
          case y6d => (intro w hSw; (try dsimp only at hSw); (try go_split_ands); go_simp); (try with_reducible rfl)
          case r6d =>
          (try simp only [Act.put, sA, sB, sC])
          refine wpAnyH_ready (rs := [7]) (by kernel_rfl) (by simp) ?_
          refine AllReadyH.cons (o := ⟨some 23, _, _, _, _, _⟩) rfl (fun K hK => ?_) AllReadyH.nil
          go_simp
          have hfree : Calls Tryz.prog 41 #[.pointer (some ⟨x, 0, none⟩), .int .i64 ((j : Int) + 1)] _ _ := rsFree B x c (.slice (some ⟨gn, 0, none⟩) c.m.zs.length cn) ovj tv nmj st.ps st.cs mv (j + 1) hj2 _ (HS.out.below hHeld.1)
          refine hfree.mono ?_; rintro e w3 ⟨rfl, hb3⟩; rw [HFY.out]
          go_wp2_with fail
          refine hK.out _ _ (by have hh := Below.trans hHeld.1 (Below.mono hb3 (Below.size hHeld.1)); exact ⟨hh, bkeep hh k2 hxw2, bkeep hh u3 hgw, bkeep hh v3 hgw⟩) (fun hHeld => ?_)
          clear hK K
          (try simp only [Act.put, sA, sB, sC])
          refine tk (i := 8) (oi := ⟨some 24, _, _, _, _, _⟩) (.bool true) rfl (by rfl) ?y8d ?r8d
          case y8d => (intro w hSw; (try dsimp only at hSw); (try go_split_ands); (go_simp <;> omega))
          case r8d =>
          (try simp only [Act.put, sA, sB, sC])
          refine tk (i := 9) (oi := ⟨some 25, _, _, _, _, _⟩) (.bool true) rfl (by rfl) ?y9d ?r9d
          case y9d => (intro w hSw; (try dsimp only at hSw); (try go_split_ands); (go_simp <;> omega))
          case r9d =>
          (try simp only [Act.put, sA, sB, sC])
          refine tk (i := 10) (oi := ⟨some 26, _, _, _, _, _⟩) (?v10d) rfl (by rfl) ?y10d ?r10d
          case y10d => (intro w hSw; (try dsimp only at hSw); (try go_split_ands); go_simp); (try with_reducible rfl)
          case r10d =>
          (try simp only [Act.put, sA, sB, sC])
          refine tk (i := 11) (oi := ⟨some 27, _, _, _, _, _⟩) (?v11d) rfl (by rfl) ?y11d ?r11d
          case y11d => (intro w hSw; (try dsimp only at hSw); (try go_split_ands); go_simp); (try with_reducible rfl)
          case r11d =>
          (try simp only [Act.put, sA, sB, sC])
          refine tk (i := 12) (oi := ⟨some 28, _, _, _, _, _⟩) (?v12d) rfl (by rfl) ?y12d ?r12d
          case y12d => (intro w hSw; (try dsimp only at hSw); (try go_split_ands); go_simp); (try with_reducible rfl)
          case r12d =>
          (try simp only [Act.put, sA, sB, sC])
          refine tk (i := 13) (oi := ⟨some 29, _, _, _, _, _⟩) (?v13d) rfl (by rfl) ?y13d ?r13d
          case y13d => (intro w hSw; (try dsimp only at hSw); (try go_split_ands); go_simp); (try with_reducible rfl)
          case r13d =>
          (try simp only [Act.put, sA, sB, sC])
          refine tk (i := 14) (oi := ⟨some 30, _, _, _, _, _⟩) (?v14d) rfl (by rfl) ?y14d ?r14d
          case y14d => (intro w hSw; (try dsimp only at hSw); (try go_split_ands); go_simp); (try with_reducible rfl)
          case r14d =>
          (try simp only [Act.put, sA, sB, sC])
          refine tk (i := 15) (oi := ⟨some 31, _, _, _, _, _⟩) (?v15d) rfl (by rfl) ?y15d ?r15d
          case y15d => (intro w hSw; (try dsimp only at hSw); (try go_split_ands); go_simp); (try with_reducible rfl)
          case r15d =>
          (try simp only [Act.put, sA, sB, sC])
          refine tk (i := 16) (oi := ⟨some 32, _, _, _, _, _⟩) (?v16d) rfl (by rfl) ?y16d ?r16d
          case y16d => (intro w hSw; (try dsimp only at hSw); (try go_split_ands); go_simp); (try with_reducible rfl)
          case r16d =>
          (try simp only [Act.put, sA, sB, sC])
          refine tk (i := 17) (oi := ⟨some 33, _, _, _, _, _⟩) (?v17d) rfl (by rfl) ?y17d ?r17d
          case y17d => (intro w hSw; (try dsimp only at hSw); (try go_split_ands); go_simp); (try with_reducible rfl)
          case r17d =>
          (try simp only [Act.put, sA, sB, sC])
          refine tk (i := 18) (oi := ⟨some 34, _, _, _, _, _⟩) (?v18d) rfl (by rfl) ?y18d ?r18d
          case y18d => (intro w hSw; (try dsimp only at hSw); (try go_split_ands); go_simp); (try with_reducible rfl)
          case r18d =>
          (try simp only [Act.put, sA, sB, sC])
          refine tk (i := 19) (oi := ⟨some 35, _, _, _, _, _⟩) (?v19d) rfl (by rfl) ?y19d ?r19d
          case y19d => (intro w hSw; (try dsimp only at hSw); (try go_split_ands); go_simp); (try with_reducible rfl)
          case r19d =>
          (try simp only [Act.put, sA, sB, sC])
          refine tk (i := 20) (oi := ⟨some 36, _, _, _, _, _⟩) (?v20d) rfl (by rfl) ?y20d ?r20d
          case y20d => (intro w hSw; (try dsimp only at hSw); (try go_split_ands); go_simp); (try with_reducible rfl)
          case r20d =>
          (try simp only [Act.put, sA, sB, sC])
          refine tk (i := 21) (oi := ⟨some 37, _, _, _, _, _⟩) (?v21d) rfl (by rfl) ?y21d ?r21d
          case y21d => (intro w hSw; (try dsimp only at hSw); (try go_split_ands); go_simp); (try with_reducible rfl)
          case r21d =>
          (try simp only [Act.put, sA, sB, sC])
          refine tk (i := 22) (oi := ⟨some 38, _, _, _, _, _⟩) (?v22d) rfl (by rfl) ?y22d ?r22d
          case y22d => (intro w hSw; (try dsimp only at hSw); (try go_split_ands); go_simp); (try with_reducible rfl)
          case r22d =>
          (try simp only [Act.put, sA, sB, sC])
          refine tk (i := 23) (oi := ⟨some 39, _, _, _, _, _⟩) (?v23d) rfl (by rfl) ?y23d ?r23d
          case y23d => (intro w hSw; (try dsimp only at hSw); (try go_split_ands); go_simp); (try with_reducible rfl)
          case r23d =>
          (try simp only [Act.put, sA, sB, sC])
          refine tk (i := 24) (oi := ⟨some 40, _, _, _, _, _⟩) (?v24d) rfl (by rfl) ?y24d ?r24d
          case y24d => (intro w hSw; (try dsimp only at hSw); (try go_split_ands); go_simp); (try with_reducible rfl)
          case r24d =>
          (try simp only [Act.put, sA, sB, sC])
          refine tk (i := 25) (oi := ⟨some 41, _, _, _, _, _⟩) (?v25d) rfl (by rfl) ?y25d ?r25d
          case y25d => (intro w hSw; (try dsimp only at hSw); (try go_split_ands); go_simp); (try with_reducible rfl)
          case r25d =>
          (try simp only [Act.put, sA, sB, sC])
          refine tk (i := 26) (oi := ⟨some 42, _, _, _, _, _⟩) (?v26d) rfl (by rfl) ?y26d ?r26d
          case y26d => (intro w hSw; (try dsimp only at hSw); (try go_split_ands); go_simp); (try with_reducible rfl)
          case r26d =>
          (try simp only [Act.put, sA, sB, sC])
          refine tk (i := 27) (oi := ⟨some 43, _, _, _, _, _⟩) (?v27d) rfl (by rfl) ?y27d ?r27d
          case y27d => (intro w hSw; (try dsimp only at hSw); (try go_split_ands); go_simp); (try with_reducible rfl)
          case r27d =>
          (try simp only [Act.put, sA, sB, sC])
          refine tk (i := 28) (oi := ⟨some 44, _, _, _, _, _⟩) (?v28d) rfl (by rfl) ?y28d ?r28d
          case y28d => (intro w hSw; (try dsimp only at hSw); (try go_split_ands); go_simp); (try with_reducible rfl)
          case r28d =>
          (try simp only [Act.put, sA, sB, sC])
          refine tk (i := 29) (oi := ⟨some 45, _, _, _, _, _⟩) (.bool true) rfl (by rfl) ?y29d ?r29d
          case y29d => (intro w hSw; (try dsimp only at hSw); (try go_split_ands); (go_simp <;> omega))
          case r29d =>
          (try simp only [Act.put, sA, sB, sC])
          refine tk (i := 30) (oi := ⟨some 46, _, _, _, _, _⟩) (.bool true) rfl (by rfl) ?y30d ?r30d
          case y30d => (intro w hSw; (try dsimp only at hSw); (try go_split_ands); (go_simp <;> omega))
          case r30d =>
          (try simp only [Act.put, sA, sB, sC])
          refine tk (i := 31) (oi := ⟨some 47, _, _, _, _, _⟩) (.bool true) rfl (by rfl) ?y31d ?r31d
          case y31d => (intro w hSw; (try dsimp only at hSw); (try go_split_ands); (go_simp <;> omega))
          case r31d =>
          (try simp only [Act.put, sA, sB, sC])
          refine tk (i := 32) (oi := ⟨some 48, _, _, _, _, _⟩) (?v32d) rfl (by rfl) ?y32d ?r32d
          case y32d => (intro w hSw; (try dsimp only at hSw); (try go_split_ands); go_simp); (try with_reducible rfl)
          case r32d =>
          (try simp only [Act.put, sA, sB, sC])
          refine tk (i := 33) (oi := ⟨some 49, _, _, _, _, _⟩) (?v33d) rfl (by rfl) ?y33d ?r33d
          case y33d => (intro w hSw; (try dsimp only at hSw); (try go_split_ands); go_simp); (try with_reducible rfl)
          case r33d =>
          (try simp only [Act.put, sA, sB, sC])
          refine tk (i := 35) (oi := ⟨some 51, _, _, _, _, _⟩) (?v35d) rfl (by rfl) ?y35d ?r35d
          case y35d => (intro w hSw; (try dsimp only at hSw); (try go_split_ands); go_simp); (try with_reducible rfl)
          case r35d =>
          (try simp only [Act.put, sA, sB, sC])
          refine tk (i := 36) (oi := ⟨some 52, _, _, _, _, _⟩) (?v36d) rfl (by rfl) ?y36d ?r36d
          case y36d => (intro w hSw; (try dsimp only at hSw); (try go_split_ands); go_simp); (try with_reducible rfl)
          case r36d =>
          (try simp only [Act.put, sA, sB, sC])
          refine tk (i := 37) (oi := ⟨some 53, _, _, _, _, _⟩) (?v37d) rfl (by rfl) ?y37d ?r37d
          case y37d => (intro w hSw; (try dsimp only at hSw); (try go_split_ands); go_simp); (try with_reducible rfl)
          case r37d =>
          (try simp only [Act.put, sA, sB, sC])
          refine tk (i := 40) (oi := ⟨some 56, _, _, _, _, _⟩) (?v40d) rfl (by rfl) ?y40d ?r40d
          case y40d => (intro w hSw; (try dsimp only at hSw); (try go_split_ands); go_simp); (try with_reducible rfl)
          case r40d =>
          (try simp only [Act.put, sA, sB, sC])
          refine wpAnyH_ready (rs := [34]) (by kernel_rfl) (by simp) ?_
          refine AllReadyH.cons (o := ⟨some 50, _, _, _, _, _⟩) rfl (fun K hK => ?_) AllReadyH.nil
          go_simp
          refine (rsHits B x c (.slice (some ⟨gn, 0, none⟩) c.m.zs.length cn) ovj tv nmj st.ps st.cs mv j hj1 _ (HS.out.below hHeld.1)).mono ?_; rintro e w3 ⟨rfl, hb3⟩; rw [HHX.out]
          go_wp2_with fail
          refine hK.out _ _ (by have hh := Below.trans hHeld.1 (Below.mono hb3 (Below.size hHeld.1)); exact ⟨hh, bkeep hh k2 hxw2, bkeep hh u3 hgw, bkeep hh v3 hgw⟩) (fun hHeld => ?_)
          clear hK K
          (try simp only [Act.put, sA, sB, sC])
          refine wpAnyH_ready (rs := [38]) (by kernel_rfl) (by simp) ?_
          refine AllReadyH.cons (o := ⟨some 54, _, _, _, _, _⟩) rfl (fun K hK => ?_) AllReadyH.nil
          go_simp
          have hhit : Calls Tryz.prog 44 #[.pointer (some ⟨x, 0, none⟩), .int .i64 ((j : Int) + 1)] _ _ := rsHits B x c (.slice (some ⟨gn, 0, none⟩) c.m.zs.length cn) ovj tv nmj st.ps st.cs mv (j + 1) hj2 _ (HS.out.below hHeld.1)
          refine hhit.mono ?_; rintro e w3 ⟨rfl, hb3⟩; rw [HHY.out]
          go_wp2_with fail
          refine hK.out _ _ (by have hh := Below.trans hHeld.1 (Below.mono hb3 (Below.size hHeld.1)); exact ⟨hh, bkeep hh k2 hxw2, bkeep hh u3 hgw, bkeep hh v3 hgw⟩) (fun hHeld => ?_)
          clear hK K
          (try simp only [Act.put, sA, sB, sC])
          refine tk (i := 39) (oi := ⟨some 55, _, _, _, _, _⟩) (?v39d) rfl (by rfl) ?y39d ?r39d
          case y39d => (intro w hSw; (try dsimp only at hSw); (try go_split_ands); go_simp); (try with_reducible rfl)
          case r39d =>
          (try simp only [Act.put, sA, sB, sC])
          refine tk (i := 41) (oi := ⟨some 57, _, _, _, _, _⟩) (.bool false) rfl (by rfl) ?y41d ?r41d
          case y41d => (intro w hSw; (try dsimp only at hSw); (try go_split_ands); (go_simp <;> omega))
          case r41d =>
          (try simp only [Act.put, sA, sB, sC])
          refine tk (i := 42) (oi := ⟨some 58, _, _, _, _, _⟩) (.bool false) rfl (by rfl) ?y42d ?r42d
          case y42d => (intro w hSw; (try dsimp only at hSw); (try go_split_ands); (go_simp <;> omega))
          case r42d =>
          (try simp only [Act.put, sA, sB, sC])
          refine wpAnyH_done (by kernel_rfl) ?_ _
          go_wp2_with fail
          exact ⟨⟨j + 1, ovj, nmj, st, by omega, by go_num, by rw [HSTEP.out, if_neg HNO.out], HS.out.below hHeld.1, HBJ.out.trans (hHeld.1.mono HS.out.bw), by omega⟩, by simp [intOf]; omega⟩
        have HYES : Hid (mergeOk cold p q = true) := Lib.hid (by unfold mergeOk; rw [c1, c2, decide_eq_true c3, decide_eq_true c4]; rfl)
        clear c3
        refine wp_region_held_drew (S := (fun W => Below wr.heap.size wr W ∧ W.cell? ⟨x, 2, none⟩ = some (.slice (some ⟨gz, oz, none⟩) c.m.zs.length c.cp) ∧ W.cell? ⟨gz, oz + j * 9 + 3, none⟩ = some (.int .i64 p.z.ow) ∧ W.cell? ⟨gz, oz + (j + 1) * 9 + 3, none⟩ = some (.int .i64 q.z.ow))) (by kernel_rfl) ⟨(Below.refl _ _).drew, k2, u3, v3⟩ (fun hHeld => ?_)
        refine tk (i := 0) (oi := ⟨some 16, _, _, _, _, _⟩) (?v0e) rfl (by rfl) ?y0e ?r0e
        case y0e => (intro w hSw; (try dsimp only at hSw); (try go_split_ands); go_simp); (try with_reducible rfl)
        case r0e =>
        (try simp only [Act.put, sA, sB, sC])
        refine tk (i := 1) (oi := ⟨some 17, _, _, _, _, _⟩) (?v1e) rfl (by rfl) ?y1e ?r1e
        case y1e => (intro w hSw; (try dsimp only at hSw); (try go_split_ands); go_simp); (try with_reducible rfl)
        case r1e =>
        (try simp only [Act.put, sA, sB, sC])
        refine wpAnyH_ready (rs := [2]) (by kernel_rfl) (by simp) ?_
        refine AllReadyH.cons (o := ⟨some 18, _, _, _, _, _⟩) rfl (fun K hK => ?_) AllReadyH.nil
        go_simp
        refine (rsFree B x c (.slice (some ⟨gn, 0, none⟩) c.m.zs.length cn) ovj tv nmj st.ps st.cs mv j hj1 _ (HS.out.below hHeld.1)).mono ?_; rintro e w3 ⟨rfl, hb3⟩; rw [HFX.out]
        go_wp2_with fail
        refine hK.out _ _ (by have hh := Below.trans hHeld.1 (Below.mono hb3 (Below.size hHeld.1)); exact ⟨hh, bkeep hh k2 hxw2, bkeep hh u3 hgw, bkeep hh v3 hgw⟩) (fun hHeld => ?_)
        clear hK K
        (try simp only [Act.put, sA, sB, sC])
        refine tk (i := 3) (oi := ⟨some 19, _, _, _, _, _⟩) (.bool true) rfl (by rfl) ?y3e ?r3e
        case y3e => (intro w hSw; (try dsimp only at hSw); (try go_split_ands); (go_simp <;> omega))
        case r3e =>
        (try simp only [Act.put, sA, sB, sC])
        refine tk (i := 4) (oi := ⟨some 20, _, _, _, _, _⟩) (?v4e) rfl (by rfl) ?y4e ?r4e
        case y4e => (intro w hSw; (try dsimp only at hSw); (try go_split_ands); go_simp); (try with_reducible rfl)
        case r4e =>
        (try simp only [Act.put, sA, sB, sC])
        refine tk (i := 5) (oi := ⟨some 21, _, _, _, _, _⟩) (?v5e) rfl (by rfl) ?y5e ?r5e
        case y5e => (intro w hSw; (try dsimp only at hSw); (try go_split_ands); go_simp); (try with_reducible rfl)
        case r5e =>
        (try simp only [Act.put, sA, sB, sC])
        refine tk (i := 6) (oi := ⟨some 22, _, _, _, _, _⟩) (?v6e) rfl (by rfl) ?y6e ?r6e
        case y6e => (intro w hSw; (try dsimp only at hSw); (try go_split_ands); go_simp); (try with_reducible rfl)
        case r6e =>
        (try simp only [Act.put, sA, sB, sC])
        refine wpAnyH_ready (rs := [7]) (by kernel_rfl) (by simp) ?_
        refine AllReadyH.cons (o := ⟨some 23, _, _, _, _, _⟩) rfl (fun K hK => ?_) AllReadyH.nil
        go_simp
        have hfree : Calls Tryz.prog 41 #[.pointer (some ⟨x, 0, none⟩), .int .i64 ((j : Int) + 1)] _ _ := rsFree B x c (.slice (some ⟨gn, 0, none⟩) c.m.zs.length cn) ovj tv nmj st.ps st.cs mv (j + 1) hj2 _ (HS.out.below hHeld.1)
        refine hfree.mono ?_; rintro e w3 ⟨rfl, hb3⟩; rw [HFY.out]
        go_wp2_with fail
        refine hK.out _ _ (by have hh := Below.trans hHeld.1 (Below.mono hb3 (Below.size hHeld.1)); exact ⟨hh, bkeep hh k2 hxw2, bkeep hh u3 hgw, bkeep hh v3 hgw⟩) (fun hHeld => ?_)
        clear hK K
        (try simp only [Act.put, sA, sB, sC])
        refine tk (i := 8) (oi := ⟨some 24, _, _, _, _, _⟩) (.bool true) rfl (by rfl) ?y8e ?r8e
        case y8e => (intro w hSw; (try dsimp only at hSw); (try go_split_ands); (go_simp <;> omega))
        case r8e =>
        (try simp only [Act.put, sA, sB, sC])
        refine tk (i := 9) (oi := ⟨some 25, _, _, _, _, _⟩) (.bool true) rfl (by rfl) ?y9e ?r9e
        case y9e => (intro w hSw; (try dsimp only at hSw); (try go_split_ands); (go_simp <;> omega))
        case r9e =>
        (try simp only [Act.put, sA, sB, sC])
        refine tk (i := 10) (oi := ⟨some 26, _, _, _, _, _⟩) (?v10e) rfl (by rfl) ?y10e ?r10e
        case y10e => (intro w hSw; (try dsimp only at hSw); (try go_split_ands); go_simp); (try with_reducible rfl)
        case r10e =>
        (try simp only [Act.put, sA, sB, sC])
        refine tk (i := 11) (oi := ⟨some 27, _, _, _, _, _⟩) (?v11e) rfl (by rfl) ?y11e ?r11e
        case y11e => (intro w hSw; (try dsimp only at hSw); (try go_split_ands); go_simp); (try with_reducible rfl)
        case r11e =>
        (try simp only [Act.put, sA, sB, sC])
        refine tk (i := 12) (oi := ⟨some 28, _, _, _, _, _⟩) (?v12e) rfl (by rfl) ?y12e ?r12e
        case y12e => (intro w hSw; (try dsimp only at hSw); (try go_split_ands); go_simp); (try with_reducible rfl)
        case r12e =>
        (try simp only [Act.put, sA, sB, sC])
        refine tk (i := 13) (oi := ⟨some 29, _, _, _, _, _⟩) (?v13e) rfl (by rfl) ?y13e ?r13e
        case y13e => (intro w hSw; (try dsimp only at hSw); (try go_split_ands); go_simp); (try with_reducible rfl)
        case r13e =>
        (try simp only [Act.put, sA, sB, sC])
        refine tk (i := 14) (oi := ⟨some 30, _, _, _, _, _⟩) (?v14e) rfl (by rfl) ?y14e ?r14e
        case y14e => (intro w hSw; (try dsimp only at hSw); (try go_split_ands); go_simp); (try with_reducible rfl)
        case r14e =>
        (try simp only [Act.put, sA, sB, sC])
        refine tk (i := 15) (oi := ⟨some 31, _, _, _, _, _⟩) (?v15e) rfl (by rfl) ?y15e ?r15e
        case y15e => (intro w hSw; (try dsimp only at hSw); (try go_split_ands); go_simp); (try with_reducible rfl)
        case r15e =>
        (try simp only [Act.put, sA, sB, sC])
        refine tk (i := 16) (oi := ⟨some 32, _, _, _, _, _⟩) (?v16e) rfl (by rfl) ?y16e ?r16e
        case y16e => (intro w hSw; (try dsimp only at hSw); (try go_split_ands); go_simp); (try with_reducible rfl)
        case r16e =>
        (try simp only [Act.put, sA, sB, sC])
        refine tk (i := 17) (oi := ⟨some 33, _, _, _, _, _⟩) (?v17e) rfl (by rfl) ?y17e ?r17e
        case y17e => (intro w hSw; (try dsimp only at hSw); (try go_split_ands); go_simp); (try with_reducible rfl)
        case r17e =>
        (try simp only [Act.put, sA, sB, sC])
        refine tk (i := 18) (oi := ⟨some 34, _, _, _, _, _⟩) (?v18e) rfl (by rfl) ?y18e ?r18e
        case y18e => (intro w hSw; (try dsimp only at hSw); (try go_split_ands); go_simp); (try with_reducible rfl)
        case r18e =>
        (try simp only [Act.put, sA, sB, sC])
        refine tk (i := 19) (oi := ⟨some 35, _, _, _, _, _⟩) (?v19e) rfl (by rfl) ?y19e ?r19e
        case y19e => (intro w hSw; (try dsimp only at hSw); (try go_split_ands); go_simp); (try with_reducible rfl)
        case r19e =>
        (try simp only [Act.put, sA, sB, sC])
        refine tk (i := 20) (oi := ⟨some 36, _, _, _, _, _⟩) (?v20e) rfl (by rfl) ?y20e ?r20e
        case y20e => (intro w hSw; (try dsimp only at hSw); (try go_split_ands); go_simp); (try with_reducible rfl)
        case r20e =>
        (try simp only [Act.put, sA, sB, sC])
        refine tk (i := 21) (oi := ⟨some 37, _, _, _, _, _⟩) (?v21e) rfl (by rfl) ?y21e ?r21e
        case y21e => (intro w hSw; (try dsimp only at hSw); (try go_split_ands); go_simp); (try with_reducible rfl)
        case r21e =>
        (try simp only [Act.put, sA, sB, sC])
        refine tk (i := 22) (oi := ⟨some 38, _, _, _, _, _⟩) (?v22e) rfl (by rfl) ?y22e ?r22e
        case y22e => (intro w hSw; (try dsimp only at hSw); (try go_split_ands); go_simp); (try with_reducible rfl)
        case r22e =>
        (try simp only [Act.put, sA, sB, sC])
        refine tk (i := 23) (oi := ⟨some 39, _, _, _, _, _⟩) (?v23e) rfl (by rfl) ?y23e ?r23e
        case y23e => (intro w hSw; (try dsimp only at hSw); (try go_split_ands); go_simp); (try with_reducible rfl)
        case r23e =>
        (try simp only [Act.put, sA, sB, sC])
        refine tk (i := 24) (oi := ⟨some 40, _, _, _, _, _⟩) (?v24e) rfl (by rfl) ?y24e ?r24e
        case y24e => (intro w hSw; (try dsimp only at hSw); (try go_split_ands); go_simp); (try with_reducible rfl)
        case r24e =>
        (try simp only [Act.put, sA, sB, sC])
        refine tk (i := 25) (oi := ⟨some 41, _, _, _, _, _⟩) (?v25e) rfl (by rfl) ?y25e ?r25e
        case y25e => (intro w hSw; (try dsimp only at hSw); (try go_split_ands); go_simp); (try with_reducible rfl)
        case r25e =>
        (try simp only [Act.put, sA, sB, sC])
        refine tk (i := 26) (oi := ⟨some 42, _, _, _, _, _⟩) (?v26e) rfl (by rfl) ?y26e ?r26e
        case y26e => (intro w hSw; (try dsimp only at hSw); (try go_split_ands); go_simp); (try with_reducible rfl)
        case r26e =>
        (try simp only [Act.put, sA, sB, sC])
        refine tk (i := 27) (oi := ⟨some 43, _, _, _, _, _⟩) (?v27e) rfl (by rfl) ?y27e ?r27e
        case y27e => (intro w hSw; (try dsimp only at hSw); (try go_split_ands); go_simp); (try with_reducible rfl)
        case r27e =>
        (try simp only [Act.put, sA, sB, sC])
        refine tk (i := 28) (oi := ⟨some 44, _, _, _, _, _⟩) (?v28e) rfl (by rfl) ?y28e ?r28e
        case y28e => (intro w hSw; (try dsimp only at hSw); (try go_split_ands); go_simp); (try with_reducible rfl)
        case r28e =>
        (try simp only [Act.put, sA, sB, sC])
        refine tk (i := 29) (oi := ⟨some 45, _, _, _, _, _⟩) (.bool true) rfl (by rfl) ?y29e ?r29e
        case y29e => (intro w hSw; (try dsimp only at hSw); (try go_split_ands); (go_simp <;> omega))
        case r29e =>
        (try simp only [Act.put, sA, sB, sC])
        refine tk (i := 30) (oi := ⟨some 46, _, _, _, _, _⟩) (.bool true) rfl (by rfl) ?y30e ?r30e
        case y30e => (intro w hSw; (try dsimp only at hSw); (try go_split_ands); (go_simp <;> omega))
        case r30e =>
        (try simp only [Act.put, sA, sB, sC])
        refine tk (i := 31) (oi := ⟨some 47, _, _, _, _, _⟩) (.bool true) rfl (by rfl) ?y31e ?r31e
        case y31e => (intro w hSw; (try dsimp only at hSw); (try go_split_ands); (go_simp <;> omega))
        case r31e =>
        (try simp only [Act.put, sA, sB, sC])
        refine tk (i := 32) (oi := ⟨some 48, _, _, _, _, _⟩) (?v32e) rfl (by rfl) ?y32e ?r32e
        case y32e => (intro w hSw; (try dsimp only at hSw); (try go_split_ands); go_simp); (try with_reducible rfl)
        case r32e =>
        (try simp only [Act.put, sA, sB, sC])
        refine tk (i := 33) (oi := ⟨some 49, _, _, _, _, _⟩) (?v33e) rfl (by rfl) ?y33e ?r33e
        case y33e => (intro w hSw; (try dsimp only at hSw); (try go_split_ands); go_simp); (try with_reducible rfl)
        case r33e =>
        (try simp only [Act.put, sA, sB, sC])
        refine tk (i := 35) (oi := ⟨some 51, _, _, _, _, _⟩) (?v35e) rfl (by rfl) ?y35e ?r35e
        case y35e => (intro w hSw; (try dsimp only at hSw); (try go_split_ands); go_simp); (try with_reducible rfl)
        case r35e =>
        (try simp only [Act.put, sA, sB, sC])
        refine tk (i := 36) (oi := ⟨some 52, _, _, _, _, _⟩) (?v36e) rfl (by rfl) ?y36e ?r36e
        case y36e => (intro w hSw; (try dsimp only at hSw); (try go_split_ands); go_simp); (try with_reducible rfl)
        case r36e =>
        (try simp only [Act.put, sA, sB, sC])
        refine tk (i := 37) (oi := ⟨some 53, _, _, _, _, _⟩) (?v37e) rfl (by rfl) ?y37e ?r37e
        case y37e => (intro w hSw; (try dsimp only at hSw); (try go_split_ands); go_simp); (try with_reducible rfl)
        case r37e =>
        (try simp only [Act.put, sA, sB, sC])
        refine tk (i := 40) (oi := ⟨some 56, _, _, _, _, _⟩) (?v40e) rfl (by rfl) ?y40e ?r40e
        case y40e => (intro w hSw; (try dsimp only at hSw); (try go_split_ands); go_simp); (try with_reducible rfl)
        case r40e =>
        (try simp only [Act.put, sA, sB, sC])
        refine wpAnyH_ready (rs := [34]) (by kernel_rfl) (by simp) ?_
        refine AllReadyH.cons (o := ⟨some 50, _, _, _, _, _⟩) rfl (fun K hK => ?_) AllReadyH.nil
        go_simp
        refine (rsHits B x c (.slice (some ⟨gn, 0, none⟩) c.m.zs.length cn) ovj tv nmj st.ps st.cs mv j hj1 _ (HS.out.below hHeld.1)).mono ?_; rintro e w3 ⟨rfl, hb3⟩; rw [HHX.out]
        go_wp2_with fail
        refine hK.out _ _ (by have hh := Below.trans hHeld.1 (Below.mono hb3 (Below.size hHeld.1)); exact ⟨hh, bkeep hh k2 hxw2, bkeep hh u3 hgw, bkeep hh v3 hgw⟩) (fun hHeld => ?_)
        clear hK K
        (try simp only [Act.put, sA, sB, sC])
        refine wpAnyH_ready (rs := [38]) (by kernel_rfl) (by simp) ?_
        refine AllReadyH.cons (o := ⟨some 54, _, _, _, _, _⟩) rfl (fun K hK => ?_) AllReadyH.nil
        go_simp
        have hhit : Calls Tryz.prog 44 #[.pointer (some ⟨x, 0, none⟩), .int .i64 ((j : Int) + 1)] _ _ := rsHits B x c (.slice (some ⟨gn, 0, none⟩) c.m.zs.length cn) ovj tv nmj st.ps st.cs mv (j + 1) hj2 _ (HS.out.below hHeld.1)
        refine hhit.mono ?_; rintro e w3 ⟨rfl, hb3⟩; rw [HHY.out]
        go_wp2_with fail
        refine hK.out _ _ (by have hh := Below.trans hHeld.1 (Below.mono hb3 (Below.size hHeld.1)); exact ⟨hh, bkeep hh k2 hxw2, bkeep hh u3 hgw, bkeep hh v3 hgw⟩) (fun hHeld => ?_)
        clear hK K
        (try simp only [Act.put, sA, sB, sC])
        refine tk (i := 39) (oi := ⟨some 55, _, _, _, _, _⟩) (?v39e) rfl (by rfl) ?y39e ?r39e
        case y39e => (intro w hSw; (try dsimp only at hSw); (try go_split_ands); go_simp); (try with_reducible rfl)
        case r39e =>
        (try simp only [Act.put, sA, sB, sC])
        refine tk (i := 41) (oi := ⟨some 57, _, _, _, _, _⟩) (.bool true) rfl (by rfl) ?y41e ?r41e
        case y41e => (intro w hSw; (try dsimp only at hSw); (try go_split_ands); (go_simp <;> omega))
        case r41e =>
        (try simp only [Act.put, sA, sB, sC])
        refine tk (i := 42) (oi := ⟨some 58, _, _, _, _, _⟩) (.bool true) rfl (by rfl) ?y42e ?r42e
        case y42e => (intro w hSw; (try dsimp only at hSw); (try go_split_ands); (go_simp <;> omega))
        case r42e =>
        (try simp only [Act.put, sA, sB, sC])
        refine wpAnyH_done (by kernel_rfl) ?_ _
        have HS5 := Lib.hid (HS.out.below hHeld.1)
        have HB5 := Lib.hid (HBJ.out.trans (hHeld.1.mono HS.out.bw))
        go_wp2_with (first
          | (go_at_call 42; go_loud (refine (rsName B x gn cn j c ovj tv nmj st.ps st.cs mv 2 0 0 0 ⟨#[]⟩ p _ HS5.out HPQ.out (by omega)).mono ?_; rintro e w7 ⟨rfl, ov7, hs7, hb7⟩; have HS7 := Lib.hid hs7; have HB7 := Lib.hid (HB5.out.trans hb7); obtain ⟨-, -, -, f5, -, -, -⟩ := hs7.cells; have hnl : j + 1 < (nmj.set j true).length := (by have := hs7.lk.lb; omega); have n1 := own_bool hs7.nr hnl; obtain ⟨b1, hb1⟩ : ∃ b, b = (nmj.set j true)[j + 1] := ⟨_, rfl⟩; rw [← hb1] at n1; have nf := hs7.nr.frozenAt (j + 1); clear hs7 hb7 hb1))
          | fail)
        have HP2 : Hid ((st.ps.set j (taken p))[j + 1]? = some q) := Lib.hid (by rw [List.getElem?_set_ne (by omega)]; exact HQQ.out)
        refine ⟨⟨j + 1, ov7, _, ⟨(st.ps.set j (taken p)).set (j + 1) (taken q), st.cs ++ [⟨2, p.z.id, 0, 0, ⟨#[]⟩⟩]⟩, by omega, by go_num, by rw [HSTEP.out, if_pos HYES.out], HS7.out.named HP2.out, HB7.out.setCell (HS7.out.nr.lt gn rfl).1 _, ?_⟩, by simp [intOf]; omega⟩
        show (st.cs ++ [_]).length ≤ _
        rw [List.length_append, List.length_singleton]; omega
end Go.Proofs.YtepjehcmiofehaaGreat
