/- the document's plan: splits. -/
import Derived.Test.YtepjehcmiofehaaGreatPmD
import Derived.Test.YtepjehcmiofehaaGreatPmF
namespace Go.Proofs.YtepjehcmiofehaaGreat
open Go.RowKit
set_option linter.unusedVariables false
set_option linter.unusedSimpArgs false

theorem refCutU (f t k : ByteArray) (w : World) :
    Calls Tryz.prog 40 #[.agg #[.string f, .string t], .string k] w fun e w' => ∃ f1 t1 f2 t2, e = .returned (.tuple #[.agg #[.string f1, .string t1], .agg #[.string f2, .string t2], .bool (cutB f t k)]) ∧ Below w.heap.size w w' := by
  cases h : cutB f t k with
  | true => exact (refCut1 f t k w h).mono fun e w' ⟨h1, h2⟩ => ⟨_, _, _, _, h1, h2⟩
  | false => exact (refCut0 f t k w h).mono fun e w' ⟨h1, h2⟩ => ⟨_, _, _, _, h1, h2⟩
theorem NextP.same {a b : List Pz} (h : SameZ a b) {id r : Int} (hn : NextP a id r) : NextP b id r := by
  have hz : ∀ i (h1 : i < a.length) (h2 : i < b.length), a[i].z.id = b[i].z.id := fun i h1 h2 => by rw [(h.2 i h1 h2).1]
  rcases hn with ⟨e, hn⟩ | ⟨k, e, hk, h1, h2⟩
  · exact .inl ⟨e, fun j hj => by have h1 : j < a.length := by rw [h.1]; exact hj
                                  rw [← hz j h1 hj]; exact hn j h1⟩
  · have hk2 : k < b.length := by rw [← h.1]; exact hk
    exact .inr ⟨k, e, hk2, by rw [← hz k hk hk2]; exact h1, fun j hj hl => by
      have h3 : j < a.length := by rw [h.1]; exact hj
      rw [← hz j h3 hj] at hl ⊢
      rw [← hz k hk hk2]
      exact h2 j h3 hl⟩
theorem split_full (hot : Int) : ∀ (l : List Nat) (st : PS), st.room ≤ 0 → l.foldl (splitStep hot) st = st
  | [], _, _ => rfl
  | i :: l, st, h => by
    have e : splitStep hot st i = st := by
      unfold splitStep
      split
      · rfl
      · rw [if_neg]
        unfold splitOk
        rw [decide_eq_false (by omega)]
        simp
    rw [List.foldl_cons, e]
    exact split_full hot l st h
theorem RsH.form {w : World} {B x : Nat} {c : Rc} {nv ov tv : Value} {nm : List Bool} {ps : List Pz} {cs : List Ch} {mv : Int} (h : RsH w B x c nv ov tv nm ps cs mv) : ∃ gz oz, c.A = some ⟨gz, oz, none⟩ ∧ gz < B := by
  obtain ⟨gz, oz, hA, hgB, _⟩ := zn_at h.zr (i := 0) (by have := h.len; omega)
  exact ⟨gz, oz, hA, hgB⟩
theorem RsH.k2 {w : World} {B x gz oz : Nat} {c : Rc} {nv ov tv : Value} {nm : List Bool} {ps : List Pz} {cs : List Ch} {mv : Int} (h : RsH w B x c nv ov tv nm ps cs mv) (hA : c.A = some ⟨gz, oz, none⟩) : w.cell? ⟨x, 2, none⟩ = some (.slice (some ⟨gz, oz, none⟩) c.m.zs.length c.cp) := by
  have := h.cells.1
  rw [hA] at this
  exact this
theorem RsH.zn {w : World} {B x gz oz : Nat} {c : Rc} {nv ov tv : Value} {nm : List Bool} {ps : List Pz} {cs : List Ch} {mv : Int} (h : RsH w B x c nv ov tv nm ps cs mv) (hA : c.A = some ⟨gz, oz, none⟩) {i : Nat} (hi : i < c.m.zs.length) :
    w.cell? ⟨gz, oz + i * 9, none⟩ = some (.int .i64 c.m.zs[i].id) ∧ w.cell? ⟨gz, oz + i * 9 + 1, none⟩ = some (.string c.m.zs[i].fr) ∧ w.cell? ⟨gz, oz + i * 9 + 2, none⟩ = some (.string c.m.zs[i].tt) ∧ w.cell? ⟨gz, oz + i * 9 + 3, none⟩ = some (.int .i64 c.m.zs[i].ow) ∧ w.cell? ⟨gz, oz + i * 9 + 5, none⟩ = some (.int .i64 c.m.zs[i].pd) := by
  obtain ⟨g2, o2, e, _, u0, u1, u2, u3, _, u5, _⟩ := zn_at h.zr hi
  rw [hA] at e
  injection e with e
  injection e with e1 e2
  subst e1 e2
  exact ⟨u0, u1, u2, u3, u5⟩
/-- what is left of a walk by IDs -/
def mI (π : List Nat) (z : Int) : Nat := if z < 0 then 0 else π.length - π.idxOf z.toNat
theorem mI_at {π : List Nat} (hn : π.Nodup) {k : Nat} (hk : k ≤ π.length) : mI π (nxI π k) = π.length - k := by
  by_cases h : k < π.length
  · have e : nxI π k = (π[k] : Int) := by unfold nxI; rw [List.getElem?_eq_getElem h]
    rw [e]
    unfold mI
    rw [if_neg (by omega), show ((π[k] : Int)).toNat = π[k] from by omega, hn.idxOf_getElem]
  · have e : nxI π k = -1 := by unfold nxI; rw [List.getElem?_eq_none (by omega)]
    rw [e]
    unfold mI
    rw [if_pos (by omega)]
    omega
theorem Lk.pdN {m : Mp} {l : List Lr} {nm : List Bool} {ps : List Pz} (h : Lk m l nm ps) (k : Int) {i : Nat} (hi : i < ps.length) (hi2 : i < m.zs.length) : pdN k (ps.take (i + 1)) = pdN k (ps.take i) + if m.zs[i].pd = k then 1 else 0 := by
  rw [pdN_snoc k hi, (h.z i hi hi2).1]
set_option maxHeartbeats 16000000 in
set_option maxRecDepth 10000 in
theorem rsSplits (B x gn cn : Nat) (c : Rc) (ov tv : Value) (nm : List Bool) (ps : List Pz) (cs : List Ch) (mv hot : Int) (π : List Nat) (w : World) (h : RsH w B x c (.slice (some ⟨gn, 0, none⟩) c.m.zs.length cn) ov tv nm ps cs mv) (hπ : ByI ps π) (hnd : (ps.map fun p => p.z.id).Nodup) (hp1 : ∀ p ∈ ps, 1 ≤ p.z.id) (hcl : cs.length ≤ 500) :
    Calls Tryz.prog 21 #[.pointer (some ⟨x, 0, none⟩), .int .i64 hot] w fun e w' => e = .returned (.tuple #[]) ∧ ∃ ov' nm' st, st = π.foldl (splitStep hot) ⟨ps, cs, 16 - (ps.length : Int) - (pdN 1 ps : Int)⟩ ∧ RsH w' B x c (.slice (some ⟨gn, 0, none⟩) c.m.zs.length cn) ov' tv nm' st.ps st.cs mv ∧ Below B w w' := by
  have HR := Lib.hid h
  have hxw := h.blk.low
  obtain ⟨hl1, hl16, hps, -⟩ := h.len
  obtain ⟨gz, oz, hA, hgB⟩ := h.form
  have hgw0 : gz < w.heap.size := Nat.lt_of_lt_of_le hgB h.bw
  have k2 := h.k2 hA
  have HA := Lib.hid hA
  have HK := Lib.hid k2
  have HPS := Lib.hid hps
  have HPI := Lib.hid hπ
  have HND := Lib.hid hnd
  have HP1 := Lib.hid hp1
  have hπl : π.length = c.m.zs.length := by rw [hπ.len, hps]
  have hpn := pdN_le 1 ps
  clear h hπ hnd hp1 hA
  go_enter Tryz.func21, Tryz.ntmps21
  go_wp2_with fail
  go_loopw [4, 5] (fun nv0 iv wr => ∃ i : Nat, i ≤ c.m.zs.length ∧ iv = .int .i64 i ∧ nv0 = .int .i64 ((c.m.zs.length : Int) + (pdN 1 (ps.take i) : Int)) ∧ Below w.heap.size w wr) (fun _ iv _ => c.m.zs.length - (intOf iv).toNat)
  case atStart => exact ⟨0, Nat.zero_le _, rfl, by simp [pdN], Below.refl _ _⟩
  case round =>
    obtain ⟨i, hil, rfl, rfl, hBw⟩ := hrel
    have HBW := Lib.hid hBw
    have k2 := bkeep hBw HK.out hxw
    have hsw := hBw.size
    by_cases hlt : i < c.m.zs.length
    · have q3 : (i : Int) < (c.m.zs.length : Int) := by omega
      have hip : i < ps.length := by omega
      obtain ⟨-, -, -, -, u5⟩ := HR.out.zn HA.out hlt
      have hsn := HR.out.lk.pdN 1 hip hlt
      have hcn := pdN_le 1 (ps.take i)
      rw [List.length_take] at hcn
      obtain ⟨pd, hpd⟩ : ∃ pd, pd = c.m.zs[i].pd := ⟨_, rfl⟩
      rw [← hpd] at u5 hsn
      have a5 := bkeep hBw u5 hgw0
      obtain ⟨n, hn⟩ : ∃ n, n = pdN 1 (ps.take i) := ⟨_, rfl⟩
      rw [← hn] at hsn hcn ⊢
      have HSN := Lib.hid hsn
      clear hsn hn hpd u5 hBw
      by_cases e : pd = 1
      · have q5 : (pd == 1) = true := by rw [beq_iff_eq]; exact e
        have HE := Lib.hid e
        clear e
        go_wp2_with fail
        exact ⟨⟨i + 1, hlt, by go_num, by rw [HSN.out, if_pos HE.out]; congr 1, HBW.out⟩, measZ hlt⟩
      · have q5 : (pd == 1) = false := by rw [beq_eq_false_iff_ne]; exact e
        have HE := Lib.hid e
        clear e
        go_wp2_with fail
        exact ⟨⟨i + 1, hlt, by go_num, by rw [HSN.out, if_neg HE.out]; rfl, HBW.out⟩, measZ hlt⟩
    · have hi2 : ps.take i = ps := List.take_of_length_le (by omega)
      rw [hi2]
      obtain ⟨pn, hpn2⟩ : ∃ n, n = pdN 1 ps := ⟨_, rfl⟩
      rw [← hpn2] at hpn ⊢
      have HPN := Lib.hid hpn2
      obtain ⟨room0, hroom⟩ : ∃ r : Int, r = 16 - (c.m.zs.length : Int) - (pn : Int) := ⟨_, rfl⟩
      have hrb : -16 ≤ room0 ∧ room0 ≤ 16 := by omega
      have HROOM := Lib.hid hroom
      have HR1 := Lib.hid (HR.out.below hBw)
      have HB1 := Lib.hid (hBw.mono HR.out.bw)
      have hN16 : (c.m.zs.length : Int) + (pn : Int) = 16 - room0 := by omega
      rw [hN16]
      clear hi2 hpn2 hroom hBw hN16
      go_wp2_with (first
        | (go_at_call 38; go_loud (refine (rsNext B x c (.slice (some ⟨gn, 0, none⟩) c.m.zs.length cn) ov tv nm ps cs mv 0 _ HR1.out).mono ?_; rintro e w2 ⟨r, rfl, hN, hb2⟩; have hr := next_is HPI.out HND.out HP1.out (.inl ⟨rfl, rfl⟩) hN.out; subst hr; have HR2 := Lib.hid (HR1.out.below hb2); have HB2 := Lib.hid (HB1.out.trans (hb2.mono HR1.out.bw)); clear hb2 hN))
        | fail)
      go_loopw [4, 6] (fun nv0 iv wr => ∃ (k : Nat) (ovk : Value) (nmk : List Bool) (st : PS), k ≤ π.length ∧ iv = .int .i64 (nxI π k) ∧ st = (π.take k).foldl (splitStep hot) ⟨ps, cs, room0⟩ ∧ nv0 = .int .i64 (16 - st.room) ∧ RsH wr B x c (.slice (some ⟨gn, 0, none⟩) c.m.zs.length cn) ovk tv nmk st.ps st.cs mv ∧ Below B w wr ∧ st.cs.length ≤ cs.length + k ∧ -16 - (k : Int) ≤ st.room ∧ st.room ≤ 16) (fun _ iv _ => mI π (intOf iv))
      case atStart => exact ⟨0, ov, nm, ⟨ps, cs, room0⟩, Nat.zero_le _, rfl, rfl, rfl, HR2.out, HB2.out, by simp, by show -16 - ((0 : Nat) : Int) ≤ room0; omega, hrb.2⟩
      case round =>
        obtain ⟨k, ovk, nmk, st, hkl, rfl, hst, rfl, hS, hBk, hck, hr1, hr2⟩ := hrel
        have HST := Lib.hid hst
        have HS := Lib.hid hS
        have HBK := Lib.hid hBk
        have hbw := hS.bw
        clear hst hBk
        by_cases hkt : k < π.length
        case neg =>
          have e : nxI π k = -1 := by unfold nxI; rw [List.getElem?_eq_none (by omega)]
          have hfin : st = π.foldl (splitStep hot) ⟨ps, cs, 16 - (ps.length : Int) - (pdN 1 ps : Int)⟩ := by
            have h1 := HST.out
            rw [List.take_of_length_le (by omega), HROOM.out, HPN.out, ← HPS.out] at h1
            exact h1
          have HF := Lib.hid hfin
          rw [e]
          clear e hfin hS
          go_wp2_with fail
          exact bodyPost_end (v := .tuple #[]) (by simp [results, Tryz.results21, go_sem]) rfl ⟨rfl, ovk, nmk, st, HF.out, HS.out, HBK.out⟩
        obtain ⟨j, hj⟩ : ∃ j, j = π[k] := ⟨_, rfl⟩
        have e : nxI π k = (j : Int) := by rw [hj]; unfold nxI; rw [List.getElem?_eq_getElem hkt]
        have hsame : SameZ st.ps ps := by rw [HST.out]; exact splitFold_same hot _ _
        have hjp : j < ps.length := by rw [hj]; exact HPI.out.lt _ (List.getElem_mem _)
        have hjs : j < st.ps.length := by rw [hsame.1]; exact hjp
        have hjz : j < c.m.zs.length := by omega
        have q3 : (j : Int) < (c.m.zs.length : Int) := by omega
        have q4 : (0 : Int) ≤ (j : Int) := by omega
        have hstep := fold_snoc (splitStep hot) ⟨ps, cs, room0⟩ hkt
        rw [← hj, ← HST.out] at hstep
        obtain ⟨p, hp⟩ : ∃ p, p = st.ps[j] := ⟨_, rfl⟩
        have hpq : st.ps[j]? = some p := by rw [hp]; exact List.getElem?_eq_getElem hjs
        have hss : splitStep hot st j = if splitOk hot st.room p = true then ⟨st.ps.set j (taken p), st.cs ++ [⟨1, p.z.id, 0, 0, p.mid⟩], st.room - 1⟩ else st := by
          unfold splitStep; rw [hpq]
        rw [hss] at hstep
        have hlz := hS.lk.z j hjs hjz
        rw [← hp] at hlz
        have HZ : Hid (p.z = c.m.zs[j]) := Lib.hid hlz.1
        have hrd := rowD_hm c.l p.z.id
        rw [show (hm c.l p.z.id).1 = p.hits by rw [hlz.2.1, hlz.1], show (hm c.l p.z.id).2 = p.mid by rw [hlz.2.2, hlz.1]] at hrd
        have HRD := Lib.hid hrd
        have HFR : Hid (freeAt st.ps j = p.fr) := Lib.hid (by unfold freeAt; rw [hpq]; rfl)
        have HMS : Hid (mI π (nxI π (k + 1)) < mI π (j : Int)) := Lib.hid (by rw [← e, mI_at HPI.out.nodup (by omega), mI_at HPI.out.nodup (by omega)]; omega)
        have HNX : Hid (∀ r, NextP ps p.z.id r → r = nxI π (k + 1)) := Lib.hid (fun r hr => next_is HPI.out HND.out HP1.out (.inr ⟨k, rfl, hkt, by rw [← hj]; exact hjp, by
          have : ps[π[k]]'(by rw [← hj]; exact hjp) = ps[j] := by simp only [hj]
          rw [this, ← (hsame.2 j hjs hjp).1, ← hp]⟩) hr)
        have HSTEP := Lib.hid hstep
        have HSM := Lib.hid hsame
        have HPQ := Lib.hid hpq
        have HPP := Lib.hid hp
        obtain ⟨u0, u1, u2, -, -⟩ := hS.zn HA.out hjz
        rw [← HZ.out] at u0 u1 u2
        have hgw : gz < wr.heap.size := Nat.lt_of_lt_of_le hgB hbw
        have k2 := hS.k2 HA.out
        have HS0 := Lib.hid hS
        rw [e]
        clear e hj hsame hstep hss hpq hp hlz hrd hS
        go_upto_region 10 with (first
          | (go_at_call 39; go_loud (have hrw := rsRow B x c (.slice (some ⟨gn, 0, none⟩) c.m.zs.length cn) ovk tv nmk st.ps st.cs mv p.z.id _ HS0.out; rw [HRD.out.1, HRD.out.2] at hrw; refine hrw.mono ?_; clear hrw; rintro e w4 ⟨rfl, hb4⟩; have HS4 := Lib.hid (HS0.out.below hb4); have HB4 := Lib.hid (HBK.out.trans (hb4.mono HS0.out.bw)); have hs4 := hb4.size; have a1 := bkeep hb4 u1 hgw; have a2 := bkeep hb4 u2 hgw; have a0 := bkeep hb4 u0 hgw; clear hb4))
          | fail)
        obtain ⟨zo0, hzo0⟩ : ∃ z, z = (rowD c.l p.z.id).zo := ⟨_, rfl⟩
        rw [← hzo0]
        obtain ⟨V, hV⟩ : ∃ V, V = (w4.alloc (.cells #[.int .i64 zo0, .int .i64 p.hits, .string p.mid] 64)) := ⟨_, rfl⟩
        rw [← hV]
        have hbV : Below w4.heap.size w4 V := by rw [hV]; exact (Below.refl _ _).alloc (Nat.le_refl _) _
        have HSV := Lib.hid (HS4.out.below hbV)
        have HBV := Lib.hid (HB4.out.trans (hbV.mono HS4.out.bw))
        have hWR : Whl V w4.heap.size 64 #[.int .i64 zo0, .int .i64 p.hits, .string p.mid] := by rw [hV]; exact Whl.new rfl
        have hrV := hWR.low
        have r1 := hWR.cell 1
        have r2 := hWR.cell 2
        simp only [List.getElem?_toArray, List.getElem?_cons_succ, List.getElem?_cons_zero] at r1 r2
        have a0 := bkeep hbV a0 (by omega)
        have a1 := bkeep hbV a1 (by omega)
        have a2 := bkeep hbV a2 (by omega)
        have k2 := HSV.out.k2 HA.out
        have hxV := HSV.out.blk.low
        have hgV : gz < V.heap.size := by omega
        clear u0 u1 u2 hV hbV hWR hzo0
        go_cut [10] (fun okv wx => okv = .bool (cutsB p) ∧ Below V.heap.size V wx)
        case first =>
          refine wp_region_held_drew (S := (fun W => Below V.heap.size V W)) (by kernel_rfl) (Below.refl _ _).drew (fun hHeld => ?_)
          refine tk (i := 0) (oi := ⟨some 66, _, _, _, _, _⟩) (?v0C_1) rfl (by rfl) ?y0C_1 ?r0C_1
          case y0C_1 => (intro w hSw; (try dsimp only at hSw); (try go_split_ands); go_simp); (try with_reducible rfl)
          case r0C_1 =>
          (try simp only [Act.put, sA, sB, sC])
          refine tk (i := 1) (oi := ⟨some 67, _, _, _, _, _⟩) (?v1C_4) rfl (by rfl) ?y1C_4 ?r1C_4
          case y1C_4 => (intro w hSw; (try dsimp only at hSw); (try go_split_ands); go_simp); (try with_reducible rfl)
          case r1C_4 =>
          (try simp only [Act.put, sA, sB, sC])
          refine tk (i := 2) (oi := ⟨some 68, _, _, _, _, _⟩) (?v2C_7) rfl (by rfl) ?y2C_7 ?r2C_7
          case y2C_7 => (intro w hSw; (try dsimp only at hSw); (try go_split_ands); go_simp); (try with_reducible rfl)
          case r2C_7 =>
          (try simp only [Act.put, sA, sB, sC])
          refine tk (i := 3) (oi := ⟨some 69, _, _, _, _, _⟩) (?v3C_10) rfl (by rfl) ?y3C_10 ?r3C_10
          case y3C_10 => (intro w hSw; (try dsimp only at hSw); (try go_split_ands); go_simp); (try with_reducible rfl)
          case r3C_10 =>
          (try simp only [Act.put, sA, sB, sC])
          refine tk (i := 4) (oi := ⟨some 70, _, _, _, _, _⟩) (.slice (some ⟨gz, oz, none⟩) c.m.zs.length c.cp) rfl (by rfl) ?y4C_13 ?r4C_13
          case y4C_13 => (intro w hSw; (try dsimp only at hSw); (try go_split_ands); (have c2 := bkeep hSw k2 hxV; go_simp))
          case r4C_13 =>
          (try simp only [Act.put, sA, sB, sC])
          refine tk (i := 5) (oi := ⟨some 71, _, _, _, _, _⟩) (?v5C_16) rfl (by rfl) ?y5C_16 ?r5C_16
          case y5C_16 => (intro w hSw; (try dsimp only at hSw); (try go_split_ands); go_simp); (try with_reducible rfl)
          case r5C_16 =>
          (try simp only [Act.put, sA, sB, sC])
          refine tk (i := 6) (oi := ⟨some 72, _, _, _, _, _⟩) (?v6C_19) rfl (by rfl) ?y6C_19 ?r6C_19
          case y6C_19 => (intro w hSw; (try dsimp only at hSw); (try go_split_ands); go_simp); (try with_reducible rfl)
          case r6C_19 =>
          (try simp only [Act.put, sA, sB, sC])
          refine tk (i := 7) (oi := ⟨some 73, _, _, _, _, _⟩) (?v7C_22) rfl (by rfl) ?y7C_22 ?r7C_22
          case y7C_22 => (intro w hSw; (try dsimp only at hSw); (try go_split_ands); go_simp); (try with_reducible rfl)
          case r7C_22 =>
          (try simp only [Act.put, sA, sB, sC])
          refine tk (i := 8) (oi := ⟨some 74, _, _, _, _, _⟩) (.agg #[.string p.z.fr, .string p.z.tt]) rfl (by rfl) ?y8C_25 ?r8C_25
          case y8C_25 => (intro w hSw; (try dsimp only at hSw); (try go_split_ands); (have c3 := bkeep hSw a1 hgV; have c4 := bkeep hSw a2 hgV; go_simp))
          case r8C_25 =>
          (try simp only [Act.put, sA, sB, sC])
          refine tk (i := 9) (oi := ⟨some 75, _, _, _, _, _⟩) (?v9C_28) rfl (by rfl) ?y9C_28 ?r9C_28
          case y9C_28 => (intro w hSw; (try dsimp only at hSw); (try go_split_ands); go_simp); (try with_reducible rfl)
          case r9C_28 =>
          (try simp only [Act.put, sA, sB, sC])
          refine tk (i := 10) (oi := ⟨some 76, _, _, _, _, _⟩) (.string p.mid) rfl (by rfl) ?y10C_31 ?r10C_31
          case y10C_31 => (intro w hSw; (try dsimp only at hSw); (try go_split_ands); (have c5 := bkeep hSw r2 hrV; go_simp))
          case r10C_31 =>
          (try simp only [Act.put, sA, sB, sC])
          refine wpAnyH_ready (rs := [11, 16, 17]) (by kernel_rfl) (by simp) ?_
          refine AllReadyH.cons (o := ⟨some 77, _, _, _, _, _⟩) rfl (fun K hK => ?_) (AllReadyH.cons (o := ⟨some 8, _, _, _, _, _⟩) rfl (fun K hK => ?_) (AllReadyH.cons (o := ⟨some 9, _, _, _, _, _⟩) rfl (fun K hK => ?_) AllReadyH.nil))
          · go_simp
            refine (refCutU p.z.fr p.z.tt p.mid _).mono ?_
            rintro e w5 ⟨f1, t1, f2, t2, rfl, hb5⟩
            have hb5 : Below V.drew.heap.size V.drew w5 := hb5
            have hB5 : Below V.heap.size V w5 := Below.trans hHeld (hb5.mono hHeld.size)
            go_wp2_with fail
            refine hK.out _ _ (by first | exact hHeld.trans (hb5.mono hHeld.size) | exact Below.alloc hHeld hHeld.size _ | exact (Below.alloc hB5 hB5.size _).alloc (by have := hB5.size; simp; omega) _ | (have hh : Below V.heap.size V _ := hHeld; ((repeat (first | (with_reducible exact Below.refl _ _) | (with_reducible assumption) | ((with_reducible refine b_set ?_ ?_); · (first | omega | (simp; done) | (simp; omega))) | ((with_reducible refine b_alloc ?_ ?_); · (first | omega | (simp; done) | (simp; omega))) | (with_reducible refine Below.drew ?_) | (with_reducible refine b_drewN ?_) | ((with_reducible refine b_call (by assumption) ?_ ?_); · (first | omega | (simp; done) | (simp; omega))))); done))) (fun hHeld => ?_)
            clear hK K
            (try simp only [Act.put, sA, sB, sC])
            refine tk (i := 12) (oi := ⟨some 65, _, _, _, _, _⟩) (?v12C_45) rfl (by rfl) ?y12C_45 ?r12C_45
            case y12C_45 => (intro w hSw; (try dsimp only at hSw); (try go_split_ands); go_simp); (try with_reducible rfl)
            case r12C_45 =>
            (try simp only [Act.put, sA, sB, sC])
            refine tk (i := 13) (oi := ⟨some 78, _, _, _, _, _⟩) (?v13C_48) rfl (by rfl) ?y13C_48 ?r13C_48
            case y13C_48 => (intro w hSw; (try dsimp only at hSw); (try go_split_ands); go_simp); (try with_reducible rfl)
            case r13C_48 =>
            (try simp only [Act.put, sA, sB, sC])
            refine tk (i := 14) (oi := ⟨some 79, _, _, _, _, _⟩) (?v14C_51) rfl (by rfl) ?y14C_51 ?r14C_51
            case y14C_51 => (intro w hSw; (try dsimp only at hSw); (try go_split_ands); go_simp); (try with_reducible rfl)
            case r14C_51 =>
            (try simp only [Act.put, sA, sB, sC])
            refine tk (i := 15) (oi := ⟨some 80, _, _, _, _, _⟩) (?v15C_54) rfl (by rfl) ?y15C_54 ?r15C_54
            case y15C_54 => (intro w hSw; (try dsimp only at hSw); (try go_split_ands); go_simp); (try with_reducible rfl)
            case r15C_54 =>
            (try simp only [Act.put, sA, sB, sC])
            refine wpAnyH_ready (rs := [16, 17]) (by kernel_rfl) (by simp) ?_
            refine AllReadyH.cons (o := ⟨some 8, _, _, _, _, _⟩) rfl (fun K hK => ?_) (AllReadyH.cons (o := ⟨some 9, _, _, _, _, _⟩) rfl (fun K hK => ?_) AllReadyH.nil)
            · go_simp
              refine hK.out _ _ (by first | exact hHeld.trans (hb5.mono hHeld.size) | exact Below.alloc hHeld hHeld.size _ | exact (Below.alloc hB5 hB5.size _).alloc (by have := hB5.size; simp; omega) _ | (have hh : Below V.heap.size V _ := hHeld; ((repeat (first | (with_reducible exact Below.refl _ _) | (with_reducible assumption) | ((with_reducible refine b_set ?_ ?_); · (first | omega | (simp; done) | (simp; omega))) | ((with_reducible refine b_alloc ?_ ?_); · (first | omega | (simp; done) | (simp; omega))) | (with_reducible refine Below.drew ?_) | (with_reducible refine b_drewN ?_) | ((with_reducible refine b_call (by assumption) ?_ ?_); · (first | omega | (simp; done) | (simp; omega))))); done))) (fun hHeld => ?_)
              clear hK K
              (try simp only [Act.put, sA, sB, sC])
              refine wpAnyH_ready (rs := [17]) (by kernel_rfl) (by simp) ?_
              refine AllReadyH.cons (o := ⟨some 9, _, _, _, _, _⟩) rfl (fun K hK => ?_) AllReadyH.nil
              go_simp
              refine hK.out _ _ (by first | exact hHeld.trans (hb5.mono hHeld.size) | exact Below.alloc hHeld hHeld.size _ | exact (Below.alloc hB5 hB5.size _).alloc (by have := hB5.size; simp; omega) _ | (have hh : Below V.heap.size V _ := hHeld; ((repeat (first | (with_reducible exact Below.refl _ _) | (with_reducible assumption) | ((with_reducible refine b_set ?_ ?_); · (first | omega | (simp; done) | (simp; omega))) | ((with_reducible refine b_alloc ?_ ?_); · (first | omega | (simp; done) | (simp; omega))) | (with_reducible refine Below.drew ?_) | (with_reducible refine b_drewN ?_) | ((with_reducible refine b_call (by assumption) ?_ ?_); · (first | omega | (simp; done) | (simp; omega))))); done))) (fun hHeld => ?_)
              clear hK K
              (try simp only [Act.put, sA, sB, sC])
              refine wpAnyH_ready (rs := [18]) (by kernel_rfl) (by simp) ?_
              refine AllReadyH.cons (o := ⟨none, _, _, _, _, _⟩) rfl (fun K hK => ?_) AllReadyH.nil
              go_simp
              refine hK.out _ _ (by first | exact hHeld.trans (hb5.mono hHeld.size) | exact Below.alloc hHeld hHeld.size _ | exact (Below.alloc hB5 hB5.size _).alloc (by have := hB5.size; simp; omega) _ | (have hh : Below V.heap.size V _ := hHeld; ((repeat (first | (with_reducible exact Below.refl _ _) | (with_reducible assumption) | ((with_reducible refine b_set ?_ ?_); · (first | omega | (simp; done) | (simp; omega))) | ((with_reducible refine b_alloc ?_ ?_); · (first | omega | (simp; done) | (simp; omega))) | (with_reducible refine Below.drew ?_) | (with_reducible refine b_drewN ?_) | ((with_reducible refine b_call (by assumption) ?_ ?_); · (first | omega | (simp; done) | (simp; omega))))); done))) (fun hHeld => ?_)
              clear hK K
              (try simp only [Act.put, sA, sB, sC])
              refine wpAnyH_ready (rs := [19]) (by kernel_rfl) (by simp) ?_
              refine AllReadyH.cons (o := ⟨none, _, _, _, _, _⟩) rfl (fun K hK => ?_) AllReadyH.nil
              go_simp
              refine hK.out _ _ (by first | exact hHeld.trans (hb5.mono hHeld.size) | exact Below.alloc hHeld hHeld.size _ | exact (Below.alloc hB5 hB5.size _).alloc (by have := hB5.size; simp; omega) _ | (have hh : Below V.heap.size V _ := hHeld; ((repeat (first | (with_reducible exact Below.refl _ _) | (with_reducible assumption) | ((with_reducible refine b_set ?_ ?_); · (first | omega | (simp; done) | (simp; omega))) | ((with_reducible refine b_alloc ?_ ?_); · (first | omega | (simp; done) | (simp; omega))) | (with_reducible refine Below.drew ?_) | (with_reducible refine b_drewN ?_) | ((with_reducible refine b_call (by assumption) ?_ ?_); · (first | omega | (simp; done) | (simp; omega))))); done))) (fun hHeld => ?_)
              clear hK K
              (try simp only [Act.put, sA, sB, sC])
              refine tk (i := 20) (oi := ⟨some 10, _, _, _, _, _⟩) (?v20C_81) rfl (by rfl) ?y20C_81 ?r20C_81
              case y20C_81 => (intro w hSw; (try dsimp only at hSw); (try go_split_ands); go_simp); (try with_reducible rfl)
              case r20C_81 =>
              (try simp only [Act.put, sA, sB, sC])
              refine wpAnyH_done (by kernel_rfl) ?_ _
              go_wp2_with fail
              go_meet
              exact ⟨rfl, hHeld⟩
            · go_simp
              refine hK.out _ _ (by first | exact hHeld.trans (hb5.mono hHeld.size) | exact Below.alloc hHeld hHeld.size _ | exact (Below.alloc hB5 hB5.size _).alloc (by have := hB5.size; simp; omega) _ | (have hh : Below V.heap.size V _ := hHeld; ((repeat (first | (with_reducible exact Below.refl _ _) | (with_reducible assumption) | ((with_reducible refine b_set ?_ ?_); · (first | omega | (simp; done) | (simp; omega))) | ((with_reducible refine b_alloc ?_ ?_); · (first | omega | (simp; done) | (simp; omega))) | (with_reducible refine Below.drew ?_) | (with_reducible refine b_drewN ?_) | ((with_reducible refine b_call (by assumption) ?_ ?_); · (first | omega | (simp; done) | (simp; omega))))); done))) (fun hHeld => ?_)
              clear hK K
              (try simp only [Act.put, sA, sB, sC])
              refine wpAnyH_ready (rs := [16]) (by kernel_rfl) (by simp) ?_
              refine AllReadyH.cons (o := ⟨some 8, _, _, _, _, _⟩) rfl (fun K hK => ?_) AllReadyH.nil
              go_simp
              refine hK.out _ _ (by first | exact hHeld.trans (hb5.mono hHeld.size) | exact Below.alloc hHeld hHeld.size _ | exact (Below.alloc hB5 hB5.size _).alloc (by have := hB5.size; simp; omega) _ | (have hh : Below V.heap.size V _ := hHeld; ((repeat (first | (with_reducible exact Below.refl _ _) | (with_reducible assumption) | ((with_reducible refine b_set ?_ ?_); · (first | omega | (simp; done) | (simp; omega))) | ((with_reducible refine b_alloc ?_ ?_); · (first | omega | (simp; done) | (simp; omega))) | (with_reducible refine Below.drew ?_) | (with_reducible refine b_drewN ?_) | ((with_reducible refine b_call (by assumption) ?_ ?_); · (first | omega | (simp; done) | (simp; omega))))); done))) (fun hHeld => ?_)
              clear hK K
              (try simp only [Act.put, sA, sB, sC])
              refine wpAnyH_ready (rs := [18]) (by kernel_rfl) (by simp) ?_
              refine AllReadyH.cons (o := ⟨none, _, _, _, _, _⟩) rfl (fun K hK => ?_) AllReadyH.nil
              go_simp
              refine hK.out _ _ (by first | exact hHeld.trans (hb5.mono hHeld.size) | exact Below.alloc hHeld hHeld.size _ | exact (Below.alloc hB5 hB5.size _).alloc (by have := hB5.size; simp; omega) _ | (have hh : Below V.heap.size V _ := hHeld; ((repeat (first | (with_reducible exact Below.refl _ _) | (with_reducible assumption) | ((with_reducible refine b_set ?_ ?_); · (first | omega | (simp; done) | (simp; omega))) | ((with_reducible refine b_alloc ?_ ?_); · (first | omega | (simp; done) | (simp; omega))) | (with_reducible refine Below.drew ?_) | (with_reducible refine b_drewN ?_) | ((with_reducible refine b_call (by assumption) ?_ ?_); · (first | omega | (simp; done) | (simp; omega))))); done))) (fun hHeld => ?_)
              clear hK K
              (try simp only [Act.put, sA, sB, sC])
              refine wpAnyH_ready (rs := [19]) (by kernel_rfl) (by simp) ?_
              refine AllReadyH.cons (o := ⟨none, _, _, _, _, _⟩) rfl (fun K hK => ?_) AllReadyH.nil
              go_simp
              refine hK.out _ _ (by first | exact hHeld.trans (hb5.mono hHeld.size) | exact Below.alloc hHeld hHeld.size _ | exact (Below.alloc hB5 hB5.size _).alloc (by have := hB5.size; simp; omega) _ | (have hh : Below V.heap.size V _ := hHeld; ((repeat (first | (with_reducible exact Below.refl _ _) | (with_reducible assumption) | ((with_reducible refine b_set ?_ ?_); · (first | omega | (simp; done) | (simp; omega))) | ((with_reducible refine b_alloc ?_ ?_); · (first | omega | (simp; done) | (simp; omega))) | (with_reducible refine Below.drew ?_) | (with_reducible refine b_drewN ?_) | ((with_reducible refine b_call (by assumption) ?_ ?_); · (first | omega | (simp; done) | (simp; omega))))); done))) (fun hHeld => ?_)
              clear hK K
              (try simp only [Act.put, sA, sB, sC])
              refine tk (i := 20) (oi := ⟨some 10, _, _, _, _, _⟩) (?v20C_110) rfl (by rfl) ?y20C_110 ?r20C_110
              case y20C_110 => (intro w hSw; (try dsimp only at hSw); (try go_split_ands); go_simp); (try with_reducible rfl)
              case r20C_110 =>
              (try simp only [Act.put, sA, sB, sC])
              refine wpAnyH_done (by kernel_rfl) ?_ _
              go_wp2_with fail
              go_meet
              exact ⟨rfl, hHeld⟩
          · go_simp
            refine hK.out _ _ (by first | exact hHeld.trans (hb5.mono hHeld.size) | exact Below.alloc hHeld hHeld.size _ | exact (Below.alloc hB5 hB5.size _).alloc (by have := hB5.size; simp; omega) _ | (have hh : Below V.heap.size V _ := hHeld; ((repeat (first | (with_reducible exact Below.refl _ _) | (with_reducible assumption) | ((with_reducible refine b_set ?_ ?_); · (first | omega | (simp; done) | (simp; omega))) | ((with_reducible refine b_alloc ?_ ?_); · (first | omega | (simp; done) | (simp; omega))) | (with_reducible refine Below.drew ?_) | (with_reducible refine b_drewN ?_) | ((with_reducible refine b_call (by assumption) ?_ ?_); · (first | omega | (simp; done) | (simp; omega))))); done))) (fun hHeld => ?_)
            clear hK K
            (try simp only [Act.put, sA, sB, sC])
            refine wpAnyH_ready (rs := [11, 17]) (by kernel_rfl) (by simp) ?_
            refine AllReadyH.cons (o := ⟨some 77, _, _, _, _, _⟩) rfl (fun K hK => ?_) (AllReadyH.cons (o := ⟨some 9, _, _, _, _, _⟩) rfl (fun K hK => ?_) AllReadyH.nil)
            · go_simp
              refine (refCutU p.z.fr p.z.tt p.mid _).mono ?_
              rintro e w5 ⟨f1, t1, f2, t2, rfl, hb5⟩
              have hb5 : Below (V.drew.alloc (.cells #[.string ⟨#[]⟩, .string ⟨#[]⟩] 54)).heap.size (V.drew.alloc (.cells #[.string ⟨#[]⟩, .string ⟨#[]⟩] 54)) w5 := hb5
              have hB5 : Below V.heap.size V w5 := Below.trans hHeld (hb5.mono hHeld.size)
              have gx := (Whl.new (w := V.drew) (t := 54) (cs := #[.string ⟨#[]⟩, .string ⟨#[]⟩]) (n := V.heap.size) (by simp)).below hb5 (by first | (simp; done) | (simp; omega))
              have x0 := gx.cell 0
              have x1 := gx.cell 1
              have xf := fun k => gx.free k
              have xl := gx.low
              simp only [List.getElem?_toArray, List.getElem?_cons_succ, List.getElem?_cons_zero] at x0 x1
              go_wp2_with fail
              refine hK.out _ _ (by first | exact hHeld.trans (hb5.mono hHeld.size) | exact Below.alloc hHeld hHeld.size _ | exact (Below.alloc hB5 hB5.size _).alloc (by have := hB5.size; simp; omega) _ | (have hh : Below V.heap.size V _ := hHeld; ((repeat (first | (with_reducible exact Below.refl _ _) | (with_reducible assumption) | ((with_reducible refine b_set ?_ ?_); · (first | omega | (simp; done) | (simp; omega))) | ((with_reducible refine b_alloc ?_ ?_); · (first | omega | (simp; done) | (simp; omega))) | (with_reducible refine Below.drew ?_) | (with_reducible refine b_drewN ?_) | ((with_reducible refine b_call (by assumption) ?_ ?_); · (first | omega | (simp; done) | (simp; omega))))); done))) (fun hHeld => ?_)
              clear hK K
              (try simp only [Act.put, sA, sB, sC])
              refine tk (i := 12) (oi := ⟨some 65, _, _, _, _, _⟩) (?v12C_138) rfl (by rfl) ?y12C_138 ?r12C_138
              case y12C_138 => (intro w hSw; (try dsimp only at hSw); (try go_split_ands); go_simp); (try with_reducible rfl)
              case r12C_138 =>
              (try simp only [Act.put, sA, sB, sC])
              refine tk (i := 13) (oi := ⟨some 78, _, _, _, _, _⟩) (?v13C_141) rfl (by rfl) ?y13C_141 ?r13C_141
              case y13C_141 => (intro w hSw; (try dsimp only at hSw); (try go_split_ands); go_simp); (try with_reducible rfl)
              case r13C_141 =>
              (try simp only [Act.put, sA, sB, sC])
              refine tk (i := 14) (oi := ⟨some 79, _, _, _, _, _⟩) (?v14C_144) rfl (by rfl) ?y14C_144 ?r14C_144
              case y14C_144 => (intro w hSw; (try dsimp only at hSw); (try go_split_ands); go_simp); (try with_reducible rfl)
              case r14C_144 =>
              (try simp only [Act.put, sA, sB, sC])
              refine tk (i := 15) (oi := ⟨some 80, _, _, _, _, _⟩) (?v15C_147) rfl (by rfl) ?y15C_147 ?r15C_147
              case y15C_147 => (intro w hSw; (try dsimp only at hSw); (try go_split_ands); go_simp); (try with_reducible rfl)
              case r15C_147 =>
              (try simp only [Act.put, sA, sB, sC])
              refine wpAnyH_ready (rs := [17]) (by kernel_rfl) (by simp) ?_
              refine AllReadyH.cons (o := ⟨some 9, _, _, _, _, _⟩) rfl (fun K hK => ?_) AllReadyH.nil
              go_simp
              refine hK.out _ _ (by first | exact hHeld.trans (hb5.mono hHeld.size) | exact Below.alloc hHeld hHeld.size _ | exact (Below.alloc hB5 hB5.size _).alloc (by have := hB5.size; simp; omega) _ | (have hh : Below V.heap.size V _ := hHeld; ((repeat (first | (with_reducible exact Below.refl _ _) | (with_reducible assumption) | ((with_reducible refine b_set ?_ ?_); · (first | omega | (simp; done) | (simp; omega))) | ((with_reducible refine b_alloc ?_ ?_); · (first | omega | (simp; done) | (simp; omega))) | (with_reducible refine Below.drew ?_) | (with_reducible refine b_drewN ?_) | ((with_reducible refine b_call (by assumption) ?_ ?_); · (first | omega | (simp; done) | (simp; omega))))); done))) (fun hHeld => ?_)
              clear hK K
              (try simp only [Act.put, sA, sB, sC])
              refine wpAnyH_ready (rs := [18]) (by kernel_rfl) (by simp) ?_
              refine AllReadyH.cons (o := ⟨none, _, _, _, _, _⟩) rfl (fun K hK => ?_) AllReadyH.nil
              go_simp
              refine hK.out _ _ (by first | exact hHeld.trans (hb5.mono hHeld.size) | exact Below.alloc hHeld hHeld.size _ | exact (Below.alloc hB5 hB5.size _).alloc (by have := hB5.size; simp; omega) _ | (have hh : Below V.heap.size V _ := hHeld; ((repeat (first | (with_reducible exact Below.refl _ _) | (with_reducible assumption) | ((with_reducible refine b_set ?_ ?_); · (first | omega | (simp; done) | (simp; omega))) | ((with_reducible refine b_alloc ?_ ?_); · (first | omega | (simp; done) | (simp; omega))) | (with_reducible refine Below.drew ?_) | (with_reducible refine b_drewN ?_) | ((with_reducible refine b_call (by assumption) ?_ ?_); · (first | omega | (simp; done) | (simp; omega))))); done))) (fun hHeld => ?_)
              clear hK K
              (try simp only [Act.put, sA, sB, sC])
              refine wpAnyH_ready (rs := [19]) (by kernel_rfl) (by simp) ?_
              refine AllReadyH.cons (o := ⟨none, _, _, _, _, _⟩) rfl (fun K hK => ?_) AllReadyH.nil
              go_simp
              refine hK.out _ _ (by first | exact hHeld.trans (hb5.mono hHeld.size) | exact Below.alloc hHeld hHeld.size _ | exact (Below.alloc hB5 hB5.size _).alloc (by have := hB5.size; simp; omega) _ | (have hh : Below V.heap.size V _ := hHeld; ((repeat (first | (with_reducible exact Below.refl _ _) | (with_reducible assumption) | ((with_reducible refine b_set ?_ ?_); · (first | omega | (simp; done) | (simp; omega))) | ((with_reducible refine b_alloc ?_ ?_); · (first | omega | (simp; done) | (simp; omega))) | (with_reducible refine Below.drew ?_) | (with_reducible refine b_drewN ?_) | ((with_reducible refine b_call (by assumption) ?_ ?_); · (first | omega | (simp; done) | (simp; omega))))); done))) (fun hHeld => ?_)
              clear hK K
              (try simp only [Act.put, sA, sB, sC])
              refine tk (i := 20) (oi := ⟨some 10, _, _, _, _, _⟩) (?v20C_168) rfl (by rfl) ?y20C_168 ?r20C_168
              case y20C_168 => (intro w hSw; (try dsimp only at hSw); (try go_split_ands); go_simp); (try with_reducible rfl)
              case r20C_168 =>
              (try simp only [Act.put, sA, sB, sC])
              refine wpAnyH_done (by kernel_rfl) ?_ _
              go_wp2_with fail
              go_meet
              exact ⟨rfl, hHeld⟩
            · go_simp
              refine hK.out _ _ (by first | exact hHeld.trans (hb5.mono hHeld.size) | exact Below.alloc hHeld hHeld.size _ | exact (Below.alloc hB5 hB5.size _).alloc (by have := hB5.size; simp; omega) _ | (have hh : Below V.heap.size V _ := hHeld; ((repeat (first | (with_reducible exact Below.refl _ _) | (with_reducible assumption) | ((with_reducible refine b_set ?_ ?_); · (first | omega | (simp; done) | (simp; omega))) | ((with_reducible refine b_alloc ?_ ?_); · (first | omega | (simp; done) | (simp; omega))) | (with_reducible refine Below.drew ?_) | (with_reducible refine b_drewN ?_) | ((with_reducible refine b_call (by assumption) ?_ ?_); · (first | omega | (simp; done) | (simp; omega))))); done))) (fun hHeld => ?_)
              clear hK K
              (try simp only [Act.put, sA, sB, sC])
              refine wpAnyH_ready (rs := [11]) (by kernel_rfl) (by simp) ?_
              refine AllReadyH.cons (o := ⟨some 77, _, _, _, _, _⟩) rfl (fun K hK => ?_) AllReadyH.nil
              go_simp
              refine (refCutU p.z.fr p.z.tt p.mid _).mono ?_
              rintro e w5 ⟨f1, t1, f2, t2, rfl, hb5⟩
              have hb5 : Below ((V.drew.alloc (.cells #[.string ⟨#[]⟩, .string ⟨#[]⟩] 54)).alloc (.cells #[.string ⟨#[]⟩, .string ⟨#[]⟩] 54)).heap.size ((V.drew.alloc (.cells #[.string ⟨#[]⟩, .string ⟨#[]⟩] 54)).alloc (.cells #[.string ⟨#[]⟩, .string ⟨#[]⟩] 54)) w5 := hb5
              have hB5 : Below V.heap.size V w5 := Below.trans hHeld (hb5.mono hHeld.size)
              have gx := ((Whl.new (w := V.drew) (t := 54) (cs := #[.string ⟨#[]⟩, .string ⟨#[]⟩]) (n := V.heap.size) (by simp)).alloc (.cells #[.string ⟨#[]⟩, .string ⟨#[]⟩] 54)).below hb5 (by first | (simp; done) | (simp; omega))
              have x0 := gx.cell 0
              have x1 := gx.cell 1
              have xf := fun k => gx.free k
              have xl := gx.low
              simp only [List.getElem?_toArray, List.getElem?_cons_succ, List.getElem?_cons_zero] at x0 x1
              have gy := (Whl.new (w := (V.drew.alloc (.cells #[.string ⟨#[]⟩, .string ⟨#[]⟩] 54))) (t := 54) (cs := #[.string ⟨#[]⟩, .string ⟨#[]⟩]) (n := V.heap.size + 1) (by simp)).below hb5 (by first | (simp; done) | (simp; omega))
              have y0 := gy.cell 0
              have y1 := gy.cell 1
              have yf := fun k => gy.free k
              have yl := gy.low
              simp only [List.getElem?_toArray, List.getElem?_cons_succ, List.getElem?_cons_zero] at y0 y1
              go_wp2_with fail
              refine hK.out _ _ (by first | exact hHeld.trans (hb5.mono hHeld.size) | exact Below.alloc hHeld hHeld.size _ | exact (Below.alloc hB5 hB5.size _).alloc (by have := hB5.size; simp; omega) _ | (have hh : Below V.heap.size V _ := hHeld; ((repeat (first | (with_reducible exact Below.refl _ _) | (with_reducible assumption) | ((with_reducible refine b_set ?_ ?_); · (first | omega | (simp; done) | (simp; omega))) | ((with_reducible refine b_alloc ?_ ?_); · (first | omega | (simp; done) | (simp; omega))) | (with_reducible refine Below.drew ?_) | (with_reducible refine b_drewN ?_) | ((with_reducible refine b_call (by assumption) ?_ ?_); · (first | omega | (simp; done) | (simp; omega))))); done))) (fun hHeld => ?_)
              clear hK K
              (try simp only [Act.put, sA, sB, sC])
              refine tk (i := 12) (oi := ⟨some 65, _, _, _, _, _⟩) (?v12C_202) rfl (by rfl) ?y12C_202 ?r12C_202
              case y12C_202 => (intro w hSw; (try dsimp only at hSw); (try go_split_ands); go_simp); (try with_reducible rfl)
              case r12C_202 =>
              (try simp only [Act.put, sA, sB, sC])
              refine tk (i := 13) (oi := ⟨some 78, _, _, _, _, _⟩) (?v13C_205) rfl (by rfl) ?y13C_205 ?r13C_205
              case y13C_205 => (intro w hSw; (try dsimp only at hSw); (try go_split_ands); go_simp); (try with_reducible rfl)
              case r13C_205 =>
              (try simp only [Act.put, sA, sB, sC])
              refine tk (i := 14) (oi := ⟨some 79, _, _, _, _, _⟩) (?v14C_208) rfl (by rfl) ?y14C_208 ?r14C_208
              case y14C_208 => (intro w hSw; (try dsimp only at hSw); (try go_split_ands); go_simp); (try with_reducible rfl)
              case r14C_208 =>
              (try simp only [Act.put, sA, sB, sC])
              refine tk (i := 15) (oi := ⟨some 80, _, _, _, _, _⟩) (?v15C_211) rfl (by rfl) ?y15C_211 ?r15C_211
              case y15C_211 => (intro w hSw; (try dsimp only at hSw); (try go_split_ands); go_simp); (try with_reducible rfl)
              case r15C_211 =>
              (try simp only [Act.put, sA, sB, sC])
              refine wpAnyH_ready (rs := [18]) (by kernel_rfl) (by simp) ?_
              refine AllReadyH.cons (o := ⟨none, _, _, _, _, _⟩) rfl (fun K hK => ?_) AllReadyH.nil
              go_simp
              refine hK.out _ _ (by first | exact hHeld.trans (hb5.mono hHeld.size) | exact Below.alloc hHeld hHeld.size _ | exact (Below.alloc hB5 hB5.size _).alloc (by have := hB5.size; simp; omega) _ | (have hh : Below V.heap.size V _ := hHeld; ((repeat (first | (with_reducible exact Below.refl _ _) | (with_reducible assumption) | ((with_reducible refine b_set ?_ ?_); · (first | omega | (simp; done) | (simp; omega))) | ((with_reducible refine b_alloc ?_ ?_); · (first | omega | (simp; done) | (simp; omega))) | (with_reducible refine Below.drew ?_) | (with_reducible refine b_drewN ?_) | ((with_reducible refine b_call (by assumption) ?_ ?_); · (first | omega | (simp; done) | (simp; omega))))); done))) (fun hHeld => ?_)
              clear hK K
              (try simp only [Act.put, sA, sB, sC])
              refine wpAnyH_ready (rs := [19]) (by kernel_rfl) (by simp) ?_
              refine AllReadyH.cons (o := ⟨none, _, _, _, _, _⟩) rfl (fun K hK => ?_) AllReadyH.nil
              go_simp
              refine hK.out _ _ (by first | exact hHeld.trans (hb5.mono hHeld.size) | exact Below.alloc hHeld hHeld.size _ | exact (Below.alloc hB5 hB5.size _).alloc (by have := hB5.size; simp; omega) _ | (have hh : Below V.heap.size V _ := hHeld; ((repeat (first | (with_reducible exact Below.refl _ _) | (with_reducible assumption) | ((with_reducible refine b_set ?_ ?_); · (first | omega | (simp; done) | (simp; omega))) | ((with_reducible refine b_alloc ?_ ?_); · (first | omega | (simp; done) | (simp; omega))) | (with_reducible refine Below.drew ?_) | (with_reducible refine b_drewN ?_) | ((with_reducible refine b_call (by assumption) ?_ ?_); · (first | omega | (simp; done) | (simp; omega))))); done))) (fun hHeld => ?_)
              clear hK K
              (try simp only [Act.put, sA, sB, sC])
              refine tk (i := 20) (oi := ⟨some 10, _, _, _, _, _⟩) (?v20C_226) rfl (by rfl) ?y20C_226 ?r20C_226
              case y20C_226 => (intro w hSw; (try dsimp only at hSw); (try go_split_ands); go_simp); (try with_reducible rfl)
              case r20C_226 =>
              (try simp only [Act.put, sA, sB, sC])
              refine wpAnyH_done (by kernel_rfl) ?_ _
              go_wp2_with fail
              go_meet
              exact ⟨rfl, hHeld⟩
          · go_simp
            refine hK.out _ _ (by first | exact hHeld.trans (hb5.mono hHeld.size) | exact Below.alloc hHeld hHeld.size _ | exact (Below.alloc hB5 hB5.size _).alloc (by have := hB5.size; simp; omega) _ | (have hh : Below V.heap.size V _ := hHeld; ((repeat (first | (with_reducible exact Below.refl _ _) | (with_reducible assumption) | ((with_reducible refine b_set ?_ ?_); · (first | omega | (simp; done) | (simp; omega))) | ((with_reducible refine b_alloc ?_ ?_); · (first | omega | (simp; done) | (simp; omega))) | (with_reducible refine Below.drew ?_) | (with_reducible refine b_drewN ?_) | ((with_reducible refine b_call (by assumption) ?_ ?_); · (first | omega | (simp; done) | (simp; omega))))); done))) (fun hHeld => ?_)
            clear hK K
            (try simp only [Act.put, sA, sB, sC])
            refine wpAnyH_ready (rs := [11, 16]) (by kernel_rfl) (by simp) ?_
            refine AllReadyH.cons (o := ⟨some 77, _, _, _, _, _⟩) rfl (fun K hK => ?_) (AllReadyH.cons (o := ⟨some 8, _, _, _, _, _⟩) rfl (fun K hK => ?_) AllReadyH.nil)
            · go_simp
              refine (refCutU p.z.fr p.z.tt p.mid _).mono ?_
              rintro e w5 ⟨f1, t1, f2, t2, rfl, hb5⟩
              have hb5 : Below (V.drew.alloc (.cells #[.string ⟨#[]⟩, .string ⟨#[]⟩] 54)).heap.size (V.drew.alloc (.cells #[.string ⟨#[]⟩, .string ⟨#[]⟩] 54)) w5 := hb5
              have hB5 : Below V.heap.size V w5 := Below.trans hHeld (hb5.mono hHeld.size)
              have gx := (Whl.new (w := V.drew) (t := 54) (cs := #[.string ⟨#[]⟩, .string ⟨#[]⟩]) (n := V.heap.size) (by simp)).below hb5 (by first | (simp; done) | (simp; omega))
              have x0 := gx.cell 0
              have x1 := gx.cell 1
              have xf := fun k => gx.free k
              have xl := gx.low
              simp only [List.getElem?_toArray, List.getElem?_cons_succ, List.getElem?_cons_zero] at x0 x1
              go_wp2_with fail
              refine hK.out _ _ (by first | exact hHeld.trans (hb5.mono hHeld.size) | exact Below.alloc hHeld hHeld.size _ | exact (Below.alloc hB5 hB5.size _).alloc (by have := hB5.size; simp; omega) _ | (have hh : Below V.heap.size V _ := hHeld; ((repeat (first | (with_reducible exact Below.refl _ _) | (with_reducible assumption) | ((with_reducible refine b_set ?_ ?_); · (first | omega | (simp; done) | (simp; omega))) | ((with_reducible refine b_alloc ?_ ?_); · (first | omega | (simp; done) | (simp; omega))) | (with_reducible refine Below.drew ?_) | (with_reducible refine b_drewN ?_) | ((with_reducible refine b_call (by assumption) ?_ ?_); · (first | omega | (simp; done) | (simp; omega))))); done))) (fun hHeld => ?_)
              clear hK K
              (try simp only [Act.put, sA, sB, sC])
              refine tk (i := 12) (oi := ⟨some 65, _, _, _, _, _⟩) (?v12C_254) rfl (by rfl) ?y12C_254 ?r12C_254
              case y12C_254 => (intro w hSw; (try dsimp only at hSw); (try go_split_ands); go_simp); (try with_reducible rfl)
              case r12C_254 =>
              (try simp only [Act.put, sA, sB, sC])
              refine tk (i := 13) (oi := ⟨some 78, _, _, _, _, _⟩) (?v13C_257) rfl (by rfl) ?y13C_257 ?r13C_257
              case y13C_257 => (intro w hSw; (try dsimp only at hSw); (try go_split_ands); go_simp); (try with_reducible rfl)
              case r13C_257 =>
              (try simp only [Act.put, sA, sB, sC])
              refine tk (i := 14) (oi := ⟨some 79, _, _, _, _, _⟩) (?v14C_260) rfl (by rfl) ?y14C_260 ?r14C_260
              case y14C_260 => (intro w hSw; (try dsimp only at hSw); (try go_split_ands); go_simp); (try with_reducible rfl)
              case r14C_260 =>
              (try simp only [Act.put, sA, sB, sC])
              refine tk (i := 15) (oi := ⟨some 80, _, _, _, _, _⟩) (?v15C_263) rfl (by rfl) ?y15C_263 ?r15C_263
              case y15C_263 => (intro w hSw; (try dsimp only at hSw); (try go_split_ands); go_simp); (try with_reducible rfl)
              case r15C_263 =>
              (try simp only [Act.put, sA, sB, sC])
              refine wpAnyH_ready (rs := [16]) (by kernel_rfl) (by simp) ?_
              refine AllReadyH.cons (o := ⟨some 8, _, _, _, _, _⟩) rfl (fun K hK => ?_) AllReadyH.nil
              go_simp
              refine hK.out _ _ (by first | exact hHeld.trans (hb5.mono hHeld.size) | exact Below.alloc hHeld hHeld.size _ | exact (Below.alloc hB5 hB5.size _).alloc (by have := hB5.size; simp; omega) _ | (have hh : Below V.heap.size V _ := hHeld; ((repeat (first | (with_reducible exact Below.refl _ _) | (with_reducible assumption) | ((with_reducible refine b_set ?_ ?_); · (first | omega | (simp; done) | (simp; omega))) | ((with_reducible refine b_alloc ?_ ?_); · (first | omega | (simp; done) | (simp; omega))) | (with_reducible refine Below.drew ?_) | (with_reducible refine b_drewN ?_) | ((with_reducible refine b_call (by assumption) ?_ ?_); · (first | omega | (simp; done) | (simp; omega))))); done))) (fun hHeld => ?_)
              clear hK K
              (try simp only [Act.put, sA, sB, sC])
              refine wpAnyH_ready (rs := [18]) (by kernel_rfl) (by simp) ?_
              refine AllReadyH.cons (o := ⟨none, _, _, _, _, _⟩) rfl (fun K hK => ?_) AllReadyH.nil
              go_simp
              refine hK.out _ _ (by first | exact hHeld.trans (hb5.mono hHeld.size) | exact Below.alloc hHeld hHeld.size _ | exact (Below.alloc hB5 hB5.size _).alloc (by have := hB5.size; simp; omega) _ | (have hh : Below V.heap.size V _ := hHeld; ((repeat (first | (with_reducible exact Below.refl _ _) | (with_reducible assumption) | ((with_reducible refine b_set ?_ ?_); · (first | omega | (simp; done) | (simp; omega))) | ((with_reducible refine b_alloc ?_ ?_); · (first | omega | (simp; done) | (simp; omega))) | (with_reducible refine Below.drew ?_) | (with_reducible refine b_drewN ?_) | ((with_reducible refine b_call (by assumption) ?_ ?_); · (first | omega | (simp; done) | (simp; omega))))); done))) (fun hHeld => ?_)
              clear hK K
              (try simp only [Act.put, sA, sB, sC])
              refine wpAnyH_ready (rs := [19]) (by kernel_rfl) (by simp) ?_
              refine AllReadyH.cons (o := ⟨none, _, _, _, _, _⟩) rfl (fun K hK => ?_) AllReadyH.nil
              go_simp
              refine hK.out _ _ (by first | exact hHeld.trans (hb5.mono hHeld.size) | exact Below.alloc hHeld hHeld.size _ | exact (Below.alloc hB5 hB5.size _).alloc (by have := hB5.size; simp; omega) _ | (have hh : Below V.heap.size V _ := hHeld; ((repeat (first | (with_reducible exact Below.refl _ _) | (with_reducible assumption) | ((with_reducible refine b_set ?_ ?_); · (first | omega | (simp; done) | (simp; omega))) | ((with_reducible refine b_alloc ?_ ?_); · (first | omega | (simp; done) | (simp; omega))) | (with_reducible refine Below.drew ?_) | (with_reducible refine b_drewN ?_) | ((with_reducible refine b_call (by assumption) ?_ ?_); · (first | omega | (simp; done) | (simp; omega))))); done))) (fun hHeld => ?_)
              clear hK K
              (try simp only [Act.put, sA, sB, sC])
              refine tk (i := 20) (oi := ⟨some 10, _, _, _, _, _⟩) (?v20C_284) rfl (by rfl) ?y20C_284 ?r20C_284
              case y20C_284 => (intro w hSw; (try dsimp only at hSw); (try go_split_ands); go_simp); (try with_reducible rfl)
              case r20C_284 =>
              (try simp only [Act.put, sA, sB, sC])
              refine wpAnyH_done (by kernel_rfl) ?_ _
              go_wp2_with fail
              go_meet
              exact ⟨rfl, hHeld⟩
            · go_simp
              refine hK.out _ _ (by first | exact hHeld.trans (hb5.mono hHeld.size) | exact Below.alloc hHeld hHeld.size _ | exact (Below.alloc hB5 hB5.size _).alloc (by have := hB5.size; simp; omega) _ | (have hh : Below V.heap.size V _ := hHeld; ((repeat (first | (with_reducible exact Below.refl _ _) | (with_reducible assumption) | ((with_reducible refine b_set ?_ ?_); · (first | omega | (simp; done) | (simp; omega))) | ((with_reducible refine b_alloc ?_ ?_); · (first | omega | (simp; done) | (simp; omega))) | (with_reducible refine Below.drew ?_) | (with_reducible refine b_drewN ?_) | ((with_reducible refine b_call (by assumption) ?_ ?_); · (first | omega | (simp; done) | (simp; omega))))); done))) (fun hHeld => ?_)
              clear hK K
              (try simp only [Act.put, sA, sB, sC])
              refine wpAnyH_ready (rs := [11]) (by kernel_rfl) (by simp) ?_
              refine AllReadyH.cons (o := ⟨some 77, _, _, _, _, _⟩) rfl (fun K hK => ?_) AllReadyH.nil
              go_simp
              refine (refCutU p.z.fr p.z.tt p.mid _).mono ?_
              rintro e w5 ⟨f1, t1, f2, t2, rfl, hb5⟩
              have hb5 : Below ((V.drew.alloc (.cells #[.string ⟨#[]⟩, .string ⟨#[]⟩] 54)).alloc (.cells #[.string ⟨#[]⟩, .string ⟨#[]⟩] 54)).heap.size ((V.drew.alloc (.cells #[.string ⟨#[]⟩, .string ⟨#[]⟩] 54)).alloc (.cells #[.string ⟨#[]⟩, .string ⟨#[]⟩] 54)) w5 := hb5
              have hB5 : Below V.heap.size V w5 := Below.trans hHeld (hb5.mono hHeld.size)
              have gx := ((Whl.new (w := V.drew) (t := 54) (cs := #[.string ⟨#[]⟩, .string ⟨#[]⟩]) (n := V.heap.size) (by simp)).alloc (.cells #[.string ⟨#[]⟩, .string ⟨#[]⟩] 54)).below hb5 (by first | (simp; done) | (simp; omega))
              have x0 := gx.cell 0
              have x1 := gx.cell 1
              have xf := fun k => gx.free k
              have xl := gx.low
              simp only [List.getElem?_toArray, List.getElem?_cons_succ, List.getElem?_cons_zero] at x0 x1
              have gy := (Whl.new (w := (V.drew.alloc (.cells #[.string ⟨#[]⟩, .string ⟨#[]⟩] 54))) (t := 54) (cs := #[.string ⟨#[]⟩, .string ⟨#[]⟩]) (n := V.heap.size + 1) (by simp)).below hb5 (by first | (simp; done) | (simp; omega))
              have y0 := gy.cell 0
              have y1 := gy.cell 1
              have yf := fun k => gy.free k
              have yl := gy.low
              simp only [List.getElem?_toArray, List.getElem?_cons_succ, List.getElem?_cons_zero] at y0 y1
              go_wp2_with fail
              refine hK.out _ _ (by first | exact hHeld.trans (hb5.mono hHeld.size) | exact Below.alloc hHeld hHeld.size _ | exact (Below.alloc hB5 hB5.size _).alloc (by have := hB5.size; simp; omega) _ | (have hh : Below V.heap.size V _ := hHeld; ((repeat (first | (with_reducible exact Below.refl _ _) | (with_reducible assumption) | ((with_reducible refine b_set ?_ ?_); · (first | omega | (simp; done) | (simp; omega))) | ((with_reducible refine b_alloc ?_ ?_); · (first | omega | (simp; done) | (simp; omega))) | (with_reducible refine Below.drew ?_) | (with_reducible refine b_drewN ?_) | ((with_reducible refine b_call (by assumption) ?_ ?_); · (first | omega | (simp; done) | (simp; omega))))); done))) (fun hHeld => ?_)
              clear hK K
              (try simp only [Act.put, sA, sB, sC])
              refine tk (i := 12) (oi := ⟨some 65, _, _, _, _, _⟩) (?v12C_318) rfl (by rfl) ?y12C_318 ?r12C_318
              case y12C_318 => (intro w hSw; (try dsimp only at hSw); (try go_split_ands); go_simp); (try with_reducible rfl)
              case r12C_318 =>
              (try simp only [Act.put, sA, sB, sC])
              refine tk (i := 13) (oi := ⟨some 78, _, _, _, _, _⟩) (?v13C_321) rfl (by rfl) ?y13C_321 ?r13C_321
              case y13C_321 => (intro w hSw; (try dsimp only at hSw); (try go_split_ands); go_simp); (try with_reducible rfl)
              case r13C_321 =>
              (try simp only [Act.put, sA, sB, sC])
              refine tk (i := 14) (oi := ⟨some 79, _, _, _, _, _⟩) (?v14C_324) rfl (by rfl) ?y14C_324 ?r14C_324
              case y14C_324 => (intro w hSw; (try dsimp only at hSw); (try go_split_ands); go_simp); (try with_reducible rfl)
              case r14C_324 =>
              (try simp only [Act.put, sA, sB, sC])
              refine tk (i := 15) (oi := ⟨some 80, _, _, _, _, _⟩) (?v15C_327) rfl (by rfl) ?y15C_327 ?r15C_327
              case y15C_327 => (intro w hSw; (try dsimp only at hSw); (try go_split_ands); go_simp); (try with_reducible rfl)
              case r15C_327 =>
              (try simp only [Act.put, sA, sB, sC])
              refine wpAnyH_ready (rs := [18]) (by kernel_rfl) (by simp) ?_
              refine AllReadyH.cons (o := ⟨none, _, _, _, _, _⟩) rfl (fun K hK => ?_) AllReadyH.nil
              go_simp
              refine hK.out _ _ (by first | exact hHeld.trans (hb5.mono hHeld.size) | exact Below.alloc hHeld hHeld.size _ | exact (Below.alloc hB5 hB5.size _).alloc (by have := hB5.size; simp; omega) _ | (have hh : Below V.heap.size V _ := hHeld; ((repeat (first | (with_reducible exact Below.refl _ _) | (with_reducible assumption) | ((with_reducible refine b_set ?_ ?_); · (first | omega | (simp; done) | (simp; omega))) | ((with_reducible refine b_alloc ?_ ?_); · (first | omega | (simp; done) | (simp; omega))) | (with_reducible refine Below.drew ?_) | (with_reducible refine b_drewN ?_) | ((with_reducible refine b_call (by assumption) ?_ ?_); · (first | omega | (simp; done) | (simp; omega))))); done))) (fun hHeld => ?_)
              clear hK K
              (try simp only [Act.put, sA, sB, sC])
              refine wpAnyH_ready (rs := [19]) (by kernel_rfl) (by simp) ?_
              refine AllReadyH.cons (o := ⟨none, _, _, _, _, _⟩) rfl (fun K hK => ?_) AllReadyH.nil
              go_simp
              refine hK.out _ _ (by first | exact hHeld.trans (hb5.mono hHeld.size) | exact Below.alloc hHeld hHeld.size _ | exact (Below.alloc hB5 hB5.size _).alloc (by have := hB5.size; simp; omega) _ | (have hh : Below V.heap.size V _ := hHeld; ((repeat (first | (with_reducible exact Below.refl _ _) | (with_reducible assumption) | ((with_reducible refine b_set ?_ ?_); · (first | omega | (simp; done) | (simp; omega))) | ((with_reducible refine b_alloc ?_ ?_); · (first | omega | (simp; done) | (simp; omega))) | (with_reducible refine Below.drew ?_) | (with_reducible refine b_drewN ?_) | ((with_reducible refine b_call (by assumption) ?_ ?_); · (first | omega | (simp; done) | (simp; omega))))); done))) (fun hHeld => ?_)
              clear hK K
              (try simp only [Act.put, sA, sB, sC])
              refine tk (i := 20) (oi := ⟨some 10, _, _, _, _, _⟩) (?v20C_342) rfl (by rfl) ?y20C_342 ?r20C_342
              case y20C_342 => (intro w hSw; (try dsimp only at hSw); (try go_split_ands); go_simp); (try with_reducible rfl)
              case r20C_342 =>
              (try simp only [Act.put, sA, sB, sC])
              refine wpAnyH_done (by kernel_rfl) ?_ _
              go_wp2_with fail
              go_meet
              exact ⟨rfl, hHeld⟩

        case rest =>
          obtain ⟨rfl, hB5⟩ := hcut
          have HS5 := Lib.hid (HSV.out.below hB5)
          have HB5 := Lib.hid (HBV.out.trans (hB5.mono HSV.out.bw))
          have a05 := bkeep hB5 a0 hgV
          have r15 := bkeep hB5 r1 hrV
          have r25 := bkeep hB5 r2 hrV
          have hrl5 := Nat.lt_of_lt_of_le hrV hB5.size
          have hgw5 := Nat.lt_of_lt_of_le hgV hB5.size
          have k25 := HS5.out.k2 HA.out
          clear hB5 a0 a1 a2 r1 r2 k2
          by_cases hs : splitOk hot st.room p = true
          case neg =>
            have HSO := Lib.hid hs
            by_cases c1 : st.room ≤ 0
            · have q9 : (16 : Int) ≤ 16 - st.room := by omega
              have hfin : st = π.foldl (splitStep hot) ⟨ps, cs, 16 - (ps.length : Int) - (pdN 1 ps : Int)⟩ := by
                have h1 := HST.out
                have h2 : π.foldl (splitStep hot) ⟨ps, cs, room0⟩ = st := by
                  conv => lhs; rw [← List.take_append_drop k π]
                  rw [List.foldl_append, ← h1]
                  exact split_full hot _ _ c1
                rw [HROOM.out, HPN.out, ← HPS.out] at h2
                exact h2.symm
              have HF := Lib.hid hfin
              clear hfin hs
              go_wp2_with fail
              exact bodyPost_ret (v := .tuple #[]) (by simp [results, Tryz.results21, go_sem]) rfl ⟨rfl, ovk, nmk, st, HF.out, HS5.out, HB5.out⟩
            have q9 : ¬ ((16 : Int) ≤ 16 - st.room) := by omega
            cases c2 : p.fr with
            | false =>
              rw [c2] at HFR
              clear hs
              go_wp2_with (first
                | (go_at_call 38; go_loud (refine (rsNext B x c (.slice (some ⟨gn, 0, none⟩) c.m.zs.length cn) ovk tv nmk st.ps st.cs mv p.z.id _ HS6.out).mono ?_; rintro e w8 ⟨r, rfl, hN, hb8⟩; have hr := HNX.out r (hN.out.same HSM.out); subst hr; have HS8 := Lib.hid (HS6.out.below hb8); have HB8 := Lib.hid (HB6.out.trans (hb8.mono HS6.out.bw)); clear hb8 hN))
                | (go_at_call 41; go_loud (refine (rsFree B x c (.slice (some ⟨gn, 0, none⟩) c.m.zs.length cn) ovk tv nmk st.ps st.cs mv j hjz _ HS5.out).mono ?_; rintro e w6 ⟨rfl, hb6⟩; rw [HFR.out]; have HS6 := Lib.hid (HS5.out.below hb6); have HB6 := Lib.hid (HB5.out.trans (hb6.mono HS5.out.bw)); have k2 := HS6.out.k2 HA.out; have a0 := bkeep hb6 a05 (by have := HS5.out.bw; omega); have r1 := bkeep hb6 r15 hrl5; have r2 := bkeep hb6 r25 hrl5; clear hb6))
                | fail)
              exact ⟨⟨k + 1, ovk, nmk, st, hkt, rfl, by rw [HSTEP.out, if_neg HSO.out], rfl, HS8.out, HB8.out, by omega, by omega, hr2⟩, HMS.out⟩
            | true =>
              rw [c2] at HFR
              by_cases c3 : hot < p.hits
              · have c4 : cutsB p = false := by
                  cases x4 : cutsB p with
                  | false => rfl
                  | true =>
                    refine absurd ?_ hs
                    unfold splitOk
                    rw [c2, x4, decide_eq_true (show 0 < st.room by omega), decide_eq_true c3]
                    rfl
                rw [c4]
                clear hs
                go_wp2_with (first
                  | (go_at_call 38; go_loud (refine (rsNext B x c (.slice (some ⟨gn, 0, none⟩) c.m.zs.length cn) ovk tv nmk st.ps st.cs mv p.z.id _ HS6.out).mono ?_; rintro e w8 ⟨r, rfl, hN, hb8⟩; have hr := HNX.out r (hN.out.same HSM.out); subst hr; have HS8 := Lib.hid (HS6.out.below hb8); have HB8 := Lib.hid (HB6.out.trans (hb8.mono HS6.out.bw)); clear hb8 hN))
                  | (go_at_call 41; go_loud (refine (rsFree B x c (.slice (some ⟨gn, 0, none⟩) c.m.zs.length cn) ovk tv nmk st.ps st.cs mv j hjz _ HS5.out).mono ?_; rintro e w6 ⟨rfl, hb6⟩; rw [HFR.out]; have HS6 := Lib.hid (HS5.out.below hb6); have HB6 := Lib.hid (HB5.out.trans (hb6.mono HS5.out.bw)); have k2 := HS6.out.k2 HA.out; have a0 := bkeep hb6 a05 (by have := HS5.out.bw; omega); have r1 := bkeep hb6 r15 hrl5; have r2 := bkeep hb6 r25 hrl5; clear hb6))
                  | fail)
                exact ⟨⟨k + 1, ovk, nmk, st, hkt, rfl, by rw [HSTEP.out, if_neg HSO.out], rfl, HS8.out, HB8.out, by omega, by omega, hr2⟩, HMS.out⟩
              · clear hs
                go_wp2_with (first
                  | (go_at_call 38; go_loud (refine (rsNext B x c (.slice (some ⟨gn, 0, none⟩) c.m.zs.length cn) ovk tv nmk st.ps st.cs mv p.z.id _ HS6.out).mono ?_; rintro e w8 ⟨r, rfl, hN, hb8⟩; have hr := HNX.out r (hN.out.same HSM.out); subst hr; have HS8 := Lib.hid (HS6.out.below hb8); have HB8 := Lib.hid (HB6.out.trans (hb8.mono HS6.out.bw)); clear hb8 hN))
                  | (go_at_call 41; go_loud (refine (rsFree B x c (.slice (some ⟨gn, 0, none⟩) c.m.zs.length cn) ovk tv nmk st.ps st.cs mv j hjz _ HS5.out).mono ?_; rintro e w6 ⟨rfl, hb6⟩; rw [HFR.out]; have HS6 := Lib.hid (HS5.out.below hb6); have HB6 := Lib.hid (HB5.out.trans (hb6.mono HS5.out.bw)); have k2 := HS6.out.k2 HA.out; have a0 := bkeep hb6 a05 (by have := HS5.out.bw; omega); have r1 := bkeep hb6 r15 hrl5; have r2 := bkeep hb6 r25 hrl5; clear hb6))
                  | fail)
                exact ⟨⟨k + 1, ovk, nmk, st, hkt, rfl, by rw [HSTEP.out, if_neg HSO.out], rfl, HS8.out, HB8.out, by omega, by omega, hr2⟩, HMS.out⟩
          have HSO := Lib.hid hs
          have hs2 := hs
          unfold splitOk at hs2
          simp only [Bool.and_eq_true, decide_eq_true_eq] at hs2
          obtain ⟨⟨⟨c1, c2⟩, c3⟩, c4⟩ := hs2
          rw [c2] at HFR
          rw [c4]
          have q9 : ¬ ((16 : Int) ≤ 16 - st.room) := by omega
          have HSE : Hid (SameZ (st.ps.set j (taken p)) ps) := Lib.hid ((SameZ.set hjs ⟨by rw [HPP.out]; rfl, by rw [HPP.out]; rfl, by rw [HPP.out]; rfl⟩).trans HSM.out)
          clear hs
          go_wp2_with (first
            | (go_at_call 42; go_loud (refine (rsName B x gn cn j c ovk tv nmk st.ps st.cs mv 1 0 0 0 p.mid p _ HS6.out HPQ.out (by omega)).mono ?_; rintro e w7 ⟨rfl, ov7, hs7, hb7⟩; have HS7 := Lib.hid hs7; have HB7 := Lib.hid (HB6.out.trans hb7); have k2 := hs7.k2 HA.out; obtain ⟨a0, -, -, -, -⟩ := hs7.zn HA.out hjz; rw [← HZ.out] at a0; clear hs7 hb7))
            | (go_at_call 38; go_loud (refine (rsNext B x c (.slice (some ⟨gn, 0, none⟩) c.m.zs.length cn) ov7 tv _ _ _ mv p.z.id _ HS7.out).mono ?_; rintro e w8 ⟨r, rfl, hN, hb8⟩; have hr := HNX.out r (hN.out.same HSE.out); subst hr; have HS8 := Lib.hid (HS7.out.below hb8); have HB8 := Lib.hid (HB7.out.trans (hb8.mono HS7.out.bw)); clear hb8 hN))
            | (go_at_call 41; go_loud (refine (rsFree B x c (.slice (some ⟨gn, 0, none⟩) c.m.zs.length cn) ovk tv nmk st.ps st.cs mv j hjz _ HS5.out).mono ?_; rintro e w6 ⟨rfl, hb6⟩; rw [HFR.out]; have HS6 := Lib.hid (HS5.out.below hb6); have HB6 := Lib.hid (HB5.out.trans (hb6.mono HS5.out.bw)); have k2 := HS6.out.k2 HA.out; have a0 := bkeep hb6 a05 (by have := HS5.out.bw; omega); have r1 := bkeep hb6 r15 hrl5; have r2 := bkeep hb6 r25 hrl5; clear hb6))
            | fail)
          refine ⟨⟨k + 1, ov7, _, ⟨st.ps.set j (taken p), st.cs ++ [⟨1, p.z.id, 0, 0, p.mid⟩], st.room - 1⟩, hkt, rfl, by rw [HSTEP.out, if_pos HSO.out], ?_, HS8.out, HB8.out, ?_, ?_, ?_⟩, HMS.out⟩
          · show Value.int .i64 _ = .int .i64 (16 - (st.room - 1)); congr 1; omega
          · show (st.cs ++ [_]).length ≤ _; rw [List.length_append, List.length_singleton]; omega
          · show -16 - ((k + 1 : Nat) : Int) ≤ st.room - 1; omega
          · show st.room - 1 ≤ 16; omega
end Go.Proofs.YtepjehcmiofehaaGreat
