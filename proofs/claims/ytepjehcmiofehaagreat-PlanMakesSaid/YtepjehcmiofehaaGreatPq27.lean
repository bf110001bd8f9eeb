/- plan: split. -/
import Derived.Test.YtepjehcmiofehaaGreatPq26
namespace Go.Proofs.YtepjehcmiofehaaGreat
open Go.RowKit
set_option linter.unusedVariables false
set_option linter.unusedSimpArgs false
theorem spanCutU (f t k : ByteArray) (w : World) :
    Calls Tryz.prog 33 #[.agg #[.string f, .string t], .string k] w fun e w' => ∃ f1 t1 f2 t2, e = .returned (.tuple #[.agg #[.string f1, .string t1], .agg #[.string f2, .string t2], .bool (cutB f t k)]) ∧ Below w.heap.size w w' := by
  cases h : cutB f t k with
  | true => exact (spanCut1 f t k w h).mono fun e w' ⟨h1, h2⟩ => ⟨_, _, _, _, h1, h2⟩
  | false => exact (spanCut0 f t k w h).mono fun e w' ⟨h1, h2⟩ => ⟨_, _, _, _, h1, h2⟩
theorem chV_one (z : Ch) : ∀ u ∈ chV z, u.oneCell' = true := by
  intro u hz
  simp only [chV, List.mem_cons, List.not_mem_nil, or_false] at hz
  rcases hz with rfl | rfl | rfl | rfl | rfl <;> rfl
theorem Touch.of_below' {D : Nat → Prop} {w w' : World} (h : Below w.heap.size w w') : Touch D w w' := (Touch.of_below h).mono'' (fun k hk hd => absurd hd (by omega))
theorem rowP_at2 {w : World} {B g c n : Nat} {l : List Pz} (h : w.ownsRow B 74 13 (.slice (some ⟨g, 0, none⟩) n c) l.length (flatP l)) {i : Nat} (hi : i < l.length) :
    w.cell? ⟨g, i * 13, none⟩ = some (.int .i64 l[i].z.id) ∧ w.cell? ⟨g, i * 13 + 1, none⟩ = some (.string l[i].z.fr) ∧ w.cell? ⟨g, i * 13 + 2, none⟩ = some (.string l[i].z.tt) ∧ w.cell? ⟨g, i * 13 + 3, none⟩ = some (.int .i64 l[i].z.ow) ∧ w.cell? ⟨g, i * 13 + 4, none⟩ = some (.int .i64 l[i].z.ep) ∧ w.cell? ⟨g, i * 13 + 5, none⟩ = some (.int .i64 l[i].z.pd) ∧ w.cell? ⟨g, i * 13 + 6, none⟩ = some (.int .i64 l[i].z.mv) ∧ w.cell? ⟨g, i * 13 + 7, none⟩ = some (.string l[i].z.ky) ∧ w.cell? ⟨g, i * 13 + 8, none⟩ = some (.int .i64 l[i].z.nw) ∧ w.cell? ⟨g, i * 13 + 9, none⟩ = some (.int .i64 l[i].hits) ∧ w.cell? ⟨g, i * 13 + 10, none⟩ = some (.string l[i].mid) ∧ w.cell? ⟨g, i * 13 + 11, none⟩ = some (.bool l[i].fr) ∧ w.cell? ⟨g, i * 13 + 12, none⟩ = some (.int .i64 l[i].nd) := by
  obtain ⟨A', c', e', _⟩ := own_slice h
  injection e' with e1 e2 e3
  subst e2
  exact rowP_at h hi
theorem rowP_free {w : World} {B g c n m : Nat} {l : List Value} (h : w.ownsRow B 74 13 (.slice (some ⟨g, 0, none⟩) n c) m l) (j : Nat) : w.frozen? ⟨g, j, none⟩ = false := by
  obtain ⟨A', c', e', _⟩ := own_slice h
  injection e' with e1 e2 e3
  subst e2
  exact h.frozenAt j
def cutsB (p : Pz) : Bool := cutB p.z.fr p.z.tt p.mid
def splitOk (hot room : Int) (p : Pz) : Bool := decide (0 < room) && p.fr && decide (hot < p.hits) && cutsB p
def taken (p : Pz) : Pz := ⟨p.z, p.hits, p.mid, false, p.nd⟩
structure PS where
  ps : List Pz
  cs : List Ch
  room : Int
def splitStep (hot : Int) (st : PS) (i : Nat) : PS := match st.ps[i]? with
  | none => st
  | some p => if splitOk hot st.room p = true then ⟨st.ps.set i (taken p), st.cs ++ [⟨1, p.z.id, 0, 0, p.mid⟩], st.room - 1⟩ else st
/-- what never changes of a plan's zones -/
def SameZ (ps qs : List Pz) : Prop := ps.length = qs.length ∧ ∀ i (h : i < ps.length) (h2 : i < qs.length), ps[i].z = qs[i].z ∧ ps[i].hits = qs[i].hits ∧ ps[i].mid = qs[i].mid
theorem SameZ.refl (ps : List Pz) : SameZ ps ps := ⟨rfl, fun _ _ _ => ⟨rfl, rfl, rfl⟩⟩
theorem SameZ.trans {a b c : List Pz} (h : SameZ a b) (h2 : SameZ b c) : SameZ a c := ⟨h.1.trans h2.1, fun i ha hc => by
  have hb : i < b.length := by rw [← h.1]; exact ha
  obtain ⟨x1, x2, x3⟩ := h.2 i ha hb
  obtain ⟨y1, y2, y3⟩ := h2.2 i hb hc
  exact ⟨x1.trans y1, x2.trans y2, x3.trans y3⟩⟩
theorem SameZ.set {a : List Pz} {i : Nat} {p : Pz} (hi : i < a.length) (h : p.z = a[i].z ∧ p.hits = a[i].hits ∧ p.mid = a[i].mid) : SameZ (a.set i p) a := by
  refine ⟨by simp, fun j hj hj2 => ?_⟩
  rw [List.getElem_set]
  split
  · rename_i e; subst e; exact h
  · exact ⟨rfl, rfl, rfl⟩
theorem SameZ.ids {a b : List Pz} (h : SameZ a b) : (a.map fun p => p.z.id) = b.map fun p => p.z.id := by
  refine List.ext_getElem (by simp [h.1]) fun i h1 h2 => ?_
  simp only [List.getElem_map]
  rw [(h.2 i (by simpa using h1) (by simpa using h2)).1]
theorem splitStep_same (hot : Int) (st : PS) (i : Nat) : SameZ (splitStep hot st i).ps st.ps := by
  unfold splitStep
  split
  · exact SameZ.refl _
  · rename_i p hp
    split
    · obtain ⟨hi, e⟩ := List.getElem?_eq_some_iff.1 hp
      exact SameZ.set hi ⟨by rw [e]; rfl, by rw [e]; rfl, by rw [e]; rfl⟩
    · exact SameZ.refl _
theorem splitFold_same (hot : Int) : ∀ (l : List Nat) (st : PS), SameZ (l.foldl (splitStep hot) st).ps st.ps
  | [], st => SameZ.refl _
  | i :: l, st => (splitFold_same hot l (splitStep hot st i)).trans (splitStep_same hot st i)
theorem fold_snoc {α : Type} (f : α → Nat → α) (s : α) {l : List Nat} {i : Nat} (h : i < l.length) : (l.take (i + 1)).foldl f s = f ((l.take i).foldl f s) l[i] := by
  rw [List.take_add_one, List.getElem?_eq_getElem h, List.foldl_append]
  rfl
theorem splitStep_room (hot : Int) (st : PS) (i : Nat) : (splitStep hot st i).room ≤ st.room ∧ (0 ≤ st.room → 0 ≤ (splitStep hot st i).room) ∧ st.room - 1 ≤ (splitStep hot st i).room := by
  unfold splitStep
  split
  · omega
  · rename_i p hp
    split
    · rename_i h
      unfold splitOk at h
      simp only [Bool.and_eq_true, decide_eq_true_eq] at h
      show st.room - 1 ≤ st.room ∧ (0 ≤ st.room → 0 ≤ st.room - 1) ∧ st.room - 1 ≤ st.room - 1
      omega
    · omega
set_option maxHeartbeats 8000000 in
set_option maxRecDepth 10000 in
theorem plSplit (B b gz c : Nat) (hv cv : Value) (ps : List Pz) (cs : List Ch) (hot : Int) (w : World) (h : PlH w B b (.slice (some ⟨gz, 0, none⟩) ps.length c) hv cv ps cs) (h0 : 0 < ps.length) (hl : ps.length ≤ 16) (hnd : (ps.map fun p => p.z.id).Nodup) (hcl : cs.length ≤ 1000) :
    Calls Tryz.prog 16 #[.pointer (some ⟨b, 0, none⟩), .int .i64 hot] w fun e w' => e = .returned (.tuple #[]) ∧ ∃ π cv' st, ByI ps π ∧ st = π.foldl (splitStep hot) ⟨ps, cs, 16 - (ps.length : Int) - (pdN 1 ps : Int)⟩ ∧ PlH w' B b (.slice (some ⟨gz, 0, none⟩) ps.length c) hv cv' st.ps st.cs ∧ Touch (Fp b (.slice (some ⟨gz, 0, none⟩) ps.length c) cv) w w' ∧ (∀ k, Fp b (.slice (some ⟨gz, 0, none⟩) ps.length c) cv' k → Fp b (.slice (some ⟨gz, 0, none⟩) ps.length c) cv k ∨ w.heap.size ≤ k) := by
  obtain ⟨i0, hi, hz0, hz1, hz2⟩ := info_parts Tryz.infoPchange
  have HP := Lib.hid h
  have k0 := h.blk.cell 0
  simp only [List.getElem?_toArray, List.getElem?_cons_succ, List.getElem?_cons_zero] at k0
  have hbl := h.blk.low
  have hpd := pdN_le 1 ps
  obtain ⟨room0, hr0⟩ : ∃ r, r = 16 - (ps.length : Int) - (pdN 1 ps : Int) := ⟨_, rfl⟩
  rw [← hr0]
  have z2 : IntKind.i64.wrap (IntKind.i64.wrap (16 - (ps.length : Int)) - (pdN 1 ps : Int)) = room0 := by rw [hr0, IntKind.wrap_i64, IntKind.wrap_i64]; omega
  have Z2 := Lib.hid z2
  have hrm : -20 ≤ room0 ∧ room0 ≤ 20 := by omega
  clear z2
  have HR0 := Lib.hid hr0
  have HND := Lib.hid hnd
  clear h hnd hr0
  go_enter Tryz.func16, Tryz.ntmps16
  go_upto_region 0 with fail
  go_cut [4] (fun rv wx => rv = .int .i64 room0 ∧ Below w.heap.size w wx)
  case first =>
    go_region_with (first
      | (go_at_call 31; go_loud (refine (plPending B b _ hv cv ps cs 1 _ (HP.out.below (Below.refl _ _).drew) (by omega)).mono ?_; rintro e w1 ⟨rfl, hb1⟩; have hb1 : Below w.heap.size w w1 := (Below.refl _ _).drew.trans hb1; have HB1 := Lib.hid hb1; have k1 := bkeep hb1 k0 hbl; clear hb1))
      | fail)
    all_goals
      go_wp2_with fail
      go_meet
      exact ⟨by rw [Z2.out], HB1.out⟩
  case rest =>
    obtain ⟨rfl, hB1⟩ := hcut
    have HB1 := Lib.hid hB1
    have hs1 := hB1.size
    clear hB1 k0
    go_wp2_with (first
      | (go_at_call 32; go_loud (refine (plById B b gz c hv cv ps cs _ (HP.out.below HB1.out) h0 (by omega) HND.out).mono ?_; rintro e w2 ⟨π, v, rfl, hπ, ho2, hb2⟩; have HPI := Lib.hid hπ; obtain ⟨gv, cv2, rfl, hgv, _, _, _⟩ := own_form ho2 h0; have HO2 := Lib.hid ho2; have HB2 := Lib.hid (HB1.out.trans (hb2.mono hs1)); have hs2 := HB2.out.size; have hs12 := hb2.size; clear hπ ho2 hb2))
      | fail)
    have hnp := HPI.out.len
    have hgvw : w.heap.size ≤ gv := by omega
    have HP2 := Lib.hid (HP.out.below HB2.out)
    have HLW := Lib.hid (fun k hk => (HP.out.lows k hk).2)
    go_loopw [4, 22] (fun rv iv wr => ∃ (i : Nat) (cv1 : Value) (st : PS), i ≤ ps.length ∧ iv = .int .i64 i ∧ rv = .int .i64 st.room ∧ st = (π.take i).foldl (splitStep hot) ⟨ps, cs, room0⟩ ∧ PlH wr B b (.slice (some ⟨gz, 0, none⟩) ps.length c) hv cv1 st.ps st.cs ∧ wr.ownsRow wc.heap.size 80 1 (.slice (some ⟨gv, 0, none⟩) ps.length cv2) ps.length (ptrs gz π) ∧ Touch (Fp b (.slice (some ⟨gz, 0, none⟩) ps.length c) cv) w wr ∧ (∀ k, Fp b (.slice (some ⟨gz, 0, none⟩) ps.length c) cv1 k → Fp b (.slice (some ⟨gz, 0, none⟩) ps.length c) cv k ∨ w.heap.size ≤ k) ∧ ¬ Fp b (.slice (some ⟨gz, 0, none⟩) ps.length c) cv1 gv ∧ st.cs.length ≤ cs.length + i ∧ -40 ≤ st.room - ((ps.length : Int) - i) ∧ st.room ≤ 20) (fun _ iv _ => ps.length - (intOf iv).toNat)
    case atStart => exact ⟨0, cv, ⟨ps, cs, room0⟩, Nat.zero_le _, rfl, rfl, rfl, HP2.out, HO2.out, Touch.of_below' HB2.out, fun k hk => .inl hk, fun hk => by have := HLW.out _ hk; omega, by simp, by simp; omega, by simp; omega⟩
    case round =>
      obtain ⟨i, cv1, st, hil, rfl, rfl, hst, hP3, hO3, hT3, hF3, hgn, hcl3, hr1, hr2⟩ := hrel
      have HST := Lib.hid hst
      have HP3 := Lib.hid hP3
      have HO3 := Lib.hid hO3
      have HT3 := Lib.hid hT3
      have HF3 := Lib.hid hF3
      have hsr := hT3.size
      clear hst hP3 hO3 hT3 hF3
      by_cases hlt : i < ps.length
      case neg =>
        obtain rfl : ps.length = i := by omega
        have hst2 := HST.out
        rw [← hnp, List.take_length] at hst2
        have HST2 := Lib.hid hst2
        clear hst2
        go_wp2_with fail
        exact bodyPost_end (v := .tuple #[]) (by simp [results, Tryz.results16, go_sem]) rfl ⟨rfl, π, cv1, st, HPI.out, HST2.out, HP3.out, HT3.out, HF3.out⟩
      have q3 : (i : Int) < (ps.length : Int) := by omega
      have hip : i < π.length := by omega
      obtain ⟨k, hk⟩ : ∃ k, k = π[i] := ⟨_, rfl⟩
      have hkl : k < ps.length := by rw [hk]; exact HPI.out.lt _ (List.getElem_mem _)
      have hsame : SameZ st.ps ps := by rw [HST.out]; exact splitFold_same hot _ _
      have hkl2 : k < st.ps.length := by rw [hsame.1]; exact hkl
      have hstep := fold_snoc (splitStep hot) ⟨ps, cs, room0⟩ hip
      rw [← hk, ← HST.out] at hstep
      obtain ⟨p, hp⟩ : ∃ p, p = st.ps[k] := ⟨_, rfl⟩
      have hpq : st.ps[k]? = some p := by rw [hp]; exact List.getElem?_eq_getElem hkl2
      have hss : splitStep hot st k = if splitOk hot st.room p = true then ⟨st.ps.set k (taken p), st.cs ++ [⟨1, p.z.id, 0, 0, p.mid⟩], st.room - 1⟩ else st := by
        unfold splitStep; rw [hpq]
      rw [hss] at hstep
      have HSTEP := Lib.hid hstep
      have v0 := (HO3.out.cellAt i (by omega)).trans (ptrs_get hip)
      rw [← hk] at v0
      change wr.cell? ⟨gv, i, none⟩ = some (.pointer (some ⟨gz, k * 13, none⟩)) at v0
      obtain ⟨a0, a1, a2, a3, a4, a5, a6, a7, a8, a9, a10, a11, a12⟩ := rowP_at2 HP3.out.row hkl2
      rw [← hp] at a0 a1 a2 a3 a4 a5 a6 a7 a8 a9 a10 a11 a12
      have HPP := Lib.hid hp
      have hgz := (HP3.out.row.lt gz rfl).2
      clear hstep hss hpq hsame hk hp
      go_upto_region 4 with fail
      go_cut [9] (fun ok wx => ok = .bool (cutsB p) ∧ Below wr.heap.size wr wx)
      case first =>
        refine wp_region_held_drew (S := (fun W => Below wr.heap.size wr W)) (by kernel_rfl) (Below.refl _ _).drew (fun hHeld => ?_)
        refine wpAnyH_take (i := 0) (oi := ⟨some 27, _, _, _, _, _⟩) (v := ?v0C_1) rfl (by kernel_rfl) (by kernel_rfl) (by kernel_rfl) (fun _ _ _ h => h) (Or.inl ⟨by rfl, ?y0C_1⟩) (by assumption) ?r0C_1
        case y0C_1 => (intro w hSw; (try dsimp only at hSw); (try go_split_ands); go_simp); (try with_reducible rfl)
        case r0C_1 =>
        (try simp only [Act.put, List.setIfInBounds_toArray, List.set_cons_zero, List.set_cons_succ])
        refine wpAnyH_take (i := 1) (oi := ⟨some 28, _, _, _, _, _⟩) (v := ?v1C_4) rfl (by kernel_rfl) (by kernel_rfl) (by kernel_rfl) (fun _ _ _ h => h) (Or.inl ⟨by rfl, ?y1C_4⟩) (by assumption) ?r1C_4
        case y1C_4 => (intro w hSw; (try dsimp only at hSw); (try go_split_ands); go_simp); (try with_reducible rfl)
        case r1C_4 =>
        (try simp only [Act.put, List.setIfInBounds_toArray, List.set_cons_zero, List.set_cons_succ])
        refine wpAnyH_take (i := 2) (oi := ⟨some 29, _, _, _, _, _⟩) (v := ?v2C_7) rfl (by kernel_rfl) (by kernel_rfl) (by kernel_rfl) (fun _ _ _ h => h) (Or.inl ⟨by rfl, ?y2C_7⟩) (by assumption) ?r2C_7
        case y2C_7 => (intro w hSw; (try dsimp only at hSw); (try go_split_ands); go_simp); (try with_reducible rfl)
        case r2C_7 =>
        (try simp only [Act.put, List.setIfInBounds_toArray, List.set_cons_zero, List.set_cons_succ])
        refine wpAnyH_take (i := 3) (oi := ⟨some 30, _, _, _, _, _⟩) (v := ?v3C_10) rfl (by kernel_rfl) (by kernel_rfl) (by kernel_rfl) (fun _ _ _ h => h) (Or.inl ⟨by rfl, ?y3C_10⟩) (by assumption) ?r3C_10
        case y3C_10 => (intro w hSw; (try dsimp only at hSw); (try go_split_ands); go_simp); (try with_reducible rfl)
        case r3C_10 =>
        (try simp only [Act.put, List.setIfInBounds_toArray, List.set_cons_zero, List.set_cons_succ])
        refine wpAnyH_take (i := 4) (oi := ⟨some 31, _, _, _, _, _⟩) (v := .agg #[.string p.z.fr, .string p.z.tt]) rfl (by kernel_rfl) (by kernel_rfl) (by kernel_rfl) (fun _ _ _ h => h) (Or.inl ⟨by rfl, ?y4C_13⟩) (by assumption) ?r4C_13
        case y4C_13 => (intro w hSw; (try dsimp only at hSw); (try go_split_ands); (have c1 := bkeep hSw a1 hgz; have c2 := bkeep hSw a2 hgz; go_simp))
        case r4C_13 =>
        (try simp only [Act.put, List.setIfInBounds_toArray, List.set_cons_zero, List.set_cons_succ])
        refine wpAnyH_take (i := 5) (oi := ⟨some 32, _, _, _, _, _⟩) (v := ?v5C_16) rfl (by kernel_rfl) (by kernel_rfl) (by kernel_rfl) (fun _ _ _ h => h) (Or.inl ⟨by rfl, ?y5C_16⟩) (by assumption) ?r5C_16
        case y5C_16 => (intro w hSw; (try dsimp only at hSw); (try go_split_ands); go_simp); (try with_reducible rfl)
        case r5C_16 =>
        (try simp only [Act.put, List.setIfInBounds_toArray, List.set_cons_zero, List.set_cons_succ])
        refine wpAnyH_take (i := 6) (oi := ⟨some 33, _, _, _, _, _⟩) (v := ?v6C_19) rfl (by kernel_rfl) (by kernel_rfl) (by kernel_rfl) (fun _ _ _ h => h) (Or.inl ⟨by rfl, ?y6C_19⟩) (by assumption) ?r6C_19
        case y6C_19 => (intro w hSw; (try dsimp only at hSw); (try go_split_ands); go_simp); (try with_reducible rfl)
        case r6C_19 =>
        (try simp only [Act.put, List.setIfInBounds_toArray, List.set_cons_zero, List.set_cons_succ])
        refine wpAnyH_take (i := 7) (oi := ⟨some 34, _, _, _, _, _⟩) (v := ?v7C_22) rfl (by kernel_rfl) (by kernel_rfl) (by kernel_rfl) (fun _ _ _ h => h) (Or.inl ⟨by rfl, ?y7C_22⟩) (by assumption) ?r7C_22
        case y7C_22 => (intro w hSw; (try dsimp only at hSw); (try go_split_ands); go_simp); (try with_reducible rfl)
        case r7C_22 =>
        (try simp only [Act.put, List.setIfInBounds_toArray, List.set_cons_zero, List.set_cons_succ])
        refine wpAnyH_take (i := 8) (oi := ⟨some 35, _, _, _, _, _⟩) (v := .string p.mid) rfl (by kernel_rfl) (by kernel_rfl) (by kernel_rfl) (fun _ _ _ h => h) (Or.inl ⟨by rfl, ?y8C_25⟩) (by assumption) ?r8C_25
        case y8C_25 => (intro w hSw; (try dsimp only at hSw); (try go_split_ands); (have c10 := bkeep hSw a10 hgz; go_simp))
        case r8C_25 =>
        (try simp only [Act.put, List.setIfInBounds_toArray, List.set_cons_zero, List.set_cons_succ])
        refine wpAnyH_ready (rs := [9, 14, 15]) (by kernel_rfl) (by simp) ?_
        refine AllReadyH.cons (o := ⟨some 36, _, _, _, _, _⟩) rfl (fun K hK => ?_) (AllReadyH.cons (o := ⟨some 7, _, _, _, _, _⟩) rfl (fun K hK => ?_) (AllReadyH.cons (o := ⟨some 8, _, _, _, _, _⟩) rfl (fun K hK => ?_) AllReadyH.nil))
        · go_simp
          refine (spanCutU p.z.fr p.z.tt p.mid _).mono ?_
          rintro e w5 ⟨f1, t1, f2, t2, rfl, hb5⟩
          have hb5 : Below wr.drew.heap.size wr.drew w5 := hb5
          have hB5 : Below wr.heap.size wr w5 := Below.trans hHeld (hb5.mono hHeld.size)
          go_wp2_with fail
          refine hK.out _ _ (by first | exact hHeld.trans (hb5.mono hHeld.size) | exact Below.alloc hHeld hHeld.size _ | exact (Below.alloc hB5 hB5.size _).alloc (by have := hB5.size; simp; omega) _ | (have hh : Below wr.heap.size wr _ := hHeld; ((repeat (first | (with_reducible exact Below.refl _ _) | (with_reducible assumption) | ((with_reducible refine b_set ?_ ?_); · (first | omega | (simp; done) | (simp; omega))) | ((with_reducible refine b_alloc ?_ ?_); · (first | omega | (simp; done) | (simp; omega))) | (with_reducible refine Below.drew ?_) | (with_reducible refine b_drewN ?_) | ((with_reducible refine b_call (by assumption) ?_ ?_); · (first | omega | (simp; done) | (simp; omega))))); done))) (fun hHeld => ?_)
          clear hK K
          (try simp only [Act.put, List.setIfInBounds_toArray, List.set_cons_zero, List.set_cons_succ])
          refine wpAnyH_take (i := 10) (oi := ⟨some 26, _, _, _, _, _⟩) (v := ?v10C_39) rfl (by kernel_rfl) (by kernel_rfl) (by kernel_rfl) (fun _ _ _ h => h) (Or.inl ⟨by rfl, ?y10C_39⟩) (by assumption) ?r10C_39
          case y10C_39 => (intro w hSw; (try dsimp only at hSw); (try go_split_ands); go_simp); (try with_reducible rfl)
          case r10C_39 =>
          (try simp only [Act.put, List.setIfInBounds_toArray, List.set_cons_zero, List.set_cons_succ])
          refine wpAnyH_take (i := 11) (oi := ⟨some 37, _, _, _, _, _⟩) (v := ?v11C_42) rfl (by kernel_rfl) (by kernel_rfl) (by kernel_rfl) (fun _ _ _ h => h) (Or.inl ⟨by rfl, ?y11C_42⟩) (by assumption) ?r11C_42
          case y11C_42 => (intro w hSw; (try dsimp only at hSw); (try go_split_ands); go_simp); (try with_reducible rfl)
          case r11C_42 =>
          (try simp only [Act.put, List.setIfInBounds_toArray, List.set_cons_zero, List.set_cons_succ])
          refine wpAnyH_take (i := 12) (oi := ⟨some 38, _, _, _, _, _⟩) (v := ?v12C_45) rfl (by kernel_rfl) (by kernel_rfl) (by kernel_rfl) (fun _ _ _ h => h) (Or.inl ⟨by rfl, ?y12C_45⟩) (by assumption) ?r12C_45
          case y12C_45 => (intro w hSw; (try dsimp only at hSw); (try go_split_ands); go_simp); (try with_reducible rfl)
          case r12C_45 =>
          (try simp only [Act.put, List.setIfInBounds_toArray, List.set_cons_zero, List.set_cons_succ])
          refine wpAnyH_take (i := 13) (oi := ⟨some 39, _, _, _, _, _⟩) (v := ?v13C_48) rfl (by kernel_rfl) (by kernel_rfl) (by kernel_rfl) (fun _ _ _ h => h) (Or.inl ⟨by rfl, ?y13C_48⟩) (by assumption) ?r13C_48
          case y13C_48 => (intro w hSw; (try dsimp only at hSw); (try go_split_ands); go_simp); (try with_reducible rfl)
          case r13C_48 =>
          (try simp only [Act.put, List.setIfInBounds_toArray, List.set_cons_zero, List.set_cons_succ])
          refine wpAnyH_ready (rs := [14, 15]) (by kernel_rfl) (by simp) ?_
          refine AllReadyH.cons (o := ⟨some 7, _, _, _, _, _⟩) rfl (fun K hK => ?_) (AllReadyH.cons (o := ⟨some 8, _, _, _, _, _⟩) rfl (fun K hK => ?_) AllReadyH.nil)
          · go_simp
            refine hK.out _ _ (by first | exact hHeld.trans (hb5.mono hHeld.size) | exact Below.alloc hHeld hHeld.size _ | exact (Below.alloc hB5 hB5.size _).alloc (by have := hB5.size; simp; omega) _ | (have hh : Below wr.heap.size wr _ := hHeld; ((repeat (first | (with_reducible exact Below.refl _ _) | (with_reducible assumption) | ((with_reducible refine b_set ?_ ?_); · (first | omega | (simp; done) | (simp; omega))) | ((with_reducible refine b_alloc ?_ ?_); · (first | omega | (simp; done) | (simp; omega))) | (with_reducible refine Below.drew ?_) | (with_reducible refine b_drewN ?_) | ((with_reducible refine b_call (by assumption) ?_ ?_); · (first | omega | (simp; done) | (simp; omega))))); done))) (fun hHeld => ?_)
            clear hK K
            (try simp only [Act.put, List.setIfInBounds_toArray, List.set_cons_zero, List.set_cons_succ])
            refine wpAnyH_ready (rs := [15]) (by kernel_rfl) (by simp) ?_
            refine AllReadyH.cons (o := ⟨some 8, _, _, _, _, _⟩) rfl (fun K hK => ?_) AllReadyH.nil
            go_simp
            refine hK.out _ _ (by first | exact hHeld.trans (hb5.mono hHeld.size) | exact Below.alloc hHeld hHeld.size _ | exact (Below.alloc hB5 hB5.size _).alloc (by have := hB5.size; simp; omega) _ | (have hh : Below wr.heap.size wr _ := hHeld; ((repeat (first | (with_reducible exact Below.refl _ _) | (with_reducible assumption) | ((with_reducible refine b_set ?_ ?_); · (first | omega | (simp; done) | (simp; omega))) | ((with_reducible refine b_alloc ?_ ?_); · (first | omega | (simp; done) | (simp; omega))) | (with_reducible refine Below.drew ?_) | (with_reducible refine b_drewN ?_) | ((with_reducible refine b_call (by assumption) ?_ ?_); · (first | omega | (simp; done) | (simp; omega))))); done))) (fun hHeld => ?_)
            clear hK K
            (try simp only [Act.put, List.setIfInBounds_toArray, List.set_cons_zero, List.set_cons_succ])
            refine wpAnyH_ready (rs := [16]) (by kernel_rfl) (by simp) ?_
            refine AllReadyH.cons (o := ⟨none, _, _, _, _, _⟩) rfl (fun K hK => ?_) AllReadyH.nil
            go_simp
            refine hK.out _ _ (by first | exact hHeld.trans (hb5.mono hHeld.size) | exact Below.alloc hHeld hHeld.size _ | exact (Below.alloc hB5 hB5.size _).alloc (by have := hB5.size; simp; omega) _ | (have hh : Below wr.heap.size wr _ := hHeld; ((repeat (first | (with_reducible exact Below.refl _ _) | (with_reducible assumption) | ((with_reducible refine b_set ?_ ?_); · (first | omega | (simp; done) | (simp; omega))) | ((with_reducible refine b_alloc ?_ ?_); · (first | omega | (simp; done) | (simp; omega))) | (with_reducible refine Below.drew ?_) | (with_reducible refine b_drewN ?_) | ((with_reducible refine b_call (by assumption) ?_ ?_); · (first | omega | (simp; done) | (simp; omega))))); done))) (fun hHeld => ?_)
            clear hK K
            (try simp only [Act.put, List.setIfInBounds_toArray, List.set_cons_zero, List.set_cons_succ])
            refine wpAnyH_ready (rs := [17]) (by kernel_rfl) (by simp) ?_
            refine AllReadyH.cons (o := ⟨none, _, _, _, _, _⟩) rfl (fun K hK => ?_) AllReadyH.nil
            go_simp
            refine hK.out _ _ (by first | exact hHeld.trans (hb5.mono hHeld.size) | exact Below.alloc hHeld hHeld.size _ | exact (Below.alloc hB5 hB5.size _).alloc (by have := hB5.size; simp; omega) _ | (have hh : Below wr.heap.size wr _ := hHeld; ((repeat (first | (with_reducible exact Below.refl _ _) | (with_reducible assumption) | ((with_reducible refine b_set ?_ ?_); · (first | omega | (simp; done) | (simp; omega))) | ((with_reducible refine b_alloc ?_ ?_); · (first | omega | (simp; done) | (simp; omega))) | (with_reducible refine Below.drew ?_) | (with_reducible refine b_drewN ?_) | ((with_reducible refine b_call (by assumption) ?_ ?_); · (first | omega | (simp; done) | (simp; omega))))); done))) (fun hHeld => ?_)
            clear hK K
            (try simp only [Act.put, List.setIfInBounds_toArray, List.set_cons_zero, List.set_cons_succ])
            refine wpAnyH_take (i := 18) (oi := ⟨some 9, _, _, _, _, _⟩) (v := ?v18C_75) rfl (by kernel_rfl) (by kernel_rfl) (by kernel_rfl) (fun _ _ _ h => h) (Or.inl ⟨by rfl, ?y18C_75⟩) (by assumption) ?r18C_75
            case y18C_75 => (intro w hSw; (try dsimp only at hSw); (try go_split_ands); go_simp); (try with_reducible rfl)
            case r18C_75 =>
            (try simp only [Act.put, List.setIfInBounds_toArray, List.set_cons_zero, List.set_cons_succ])
            refine wpAnyH_done (by kernel_rfl) ?_ _
            go_wp2_with fail
            go_meet
            exact ⟨rfl, hHeld⟩
          · go_simp
            refine hK.out _ _ (by first | exact hHeld.trans (hb5.mono hHeld.size) | exact Below.alloc hHeld hHeld.size _ | exact (Below.alloc hB5 hB5.size _).alloc (by have := hB5.size; simp; omega) _ | (have hh : Below wr.heap.size wr _ := hHeld; ((repeat (first | (with_reducible exact Below.refl _ _) | (with_reducible assumption) | ((with_reducible refine b_set ?_ ?_); · (first | omega | (simp; done) | (simp; omega))) | ((with_reducible refine b_alloc ?_ ?_); · (first | omega | (simp; done) | (simp; omega))) | (with_reducible refine Below.drew ?_) | (with_reducible refine b_drewN ?_) | ((with_reducible refine b_call (by assumption) ?_ ?_); · (first | omega | (simp; done) | (simp; omega))))); done))) (fun hHeld => ?_)
            clear hK K
            (try simp only [Act.put, List.setIfInBounds_toArray, List.set_cons_zero, List.set_cons_succ])
            refine wpAnyH_ready (rs := [14]) (by kernel_rfl) (by simp) ?_
            refine AllReadyH.cons (o := ⟨some 7, _, _, _, _, _⟩) rfl (fun K hK => ?_) AllReadyH.nil
            go_simp
            refine hK.out _ _ (by first | exact hHeld.trans (hb5.mono hHeld.size) | exact Below.alloc hHeld hHeld.size _ | exact (Below.alloc hB5 hB5.size _).alloc (by have := hB5.size; simp; omega) _ | (have hh : Below wr.heap.size wr _ := hHeld; ((repeat (first | (with_reducible exact Below.refl _ _) | (with_reducible assumption) | ((with_reducible refine b_set ?_ ?_); · (first | omega | (simp; done) | (simp; omega))) | ((with_reducible refine b_alloc ?_ ?_); · (first | omega | (simp; done) | (simp; omega))) | (with_reducible refine Below.drew ?_) | (with_reducible refine b_drewN ?_) | ((with_reducible refine b_call (by assumption) ?_ ?_); · (first | omega | (simp; done) | (simp; omega))))); done))) (fun hHeld => ?_)
            clear hK K
            (try simp only [Act.put, List.setIfInBounds_toArray, List.set_cons_zero, List.set_cons_succ])
            refine wpAnyH_ready (rs := [16]) (by kernel_rfl) (by simp) ?_
            refine AllReadyH.cons (o := ⟨none, _, _, _, _, _⟩) rfl (fun K hK => ?_) AllReadyH.nil
            go_simp
            refine hK.out _ _ (by first | exact hHeld.trans (hb5.mono hHeld.size) | exact Below.alloc hHeld hHeld.size _ | exact (Below.alloc hB5 hB5.size _).alloc (by have := hB5.size; simp; omega) _ | (have hh : Below wr.heap.size wr _ := hHeld; ((repeat (first | (with_reducible exact Below.refl _ _) | (with_reducible assumption) | ((with_reducible refine b_set ?_ ?_); · (first | omega | (simp; done) | (simp; omega))) | ((with_reducible refine b_alloc ?_ ?_); · (first | omega | (simp; done) | (simp; omega))) | (with_reducible refine Below.drew ?_) | (with_reducible refine b_drewN ?_) | ((with_reducible refine b_call (by assumption) ?_ ?_); · (first | omega | (simp; done) | (simp; omega))))); done))) (fun hHeld => ?_)
            clear hK K
            (try simp only [Act.put, List.setIfInBounds_toArray, List.set_cons_zero, List.set_cons_succ])
            refine wpAnyH_ready (rs := [17]) (by kernel_rfl) (by simp) ?_
            refine AllReadyH.cons (o := ⟨none, _, _, _, _, _⟩) rfl (fun K hK => ?_) AllReadyH.nil
            go_simp
            refine hK.out _ _ (by first | exact hHeld.trans (hb5.mono hHeld.size) | exact Below.alloc hHeld hHeld.size _ | exact (Below.alloc hB5 hB5.size _).alloc (by have := hB5.size; simp; omega) _ | (have hh : Below wr.heap.size wr _ := hHeld; ((repeat (first | (with_reducible exact Below.refl _ _) | (with_reducible assumption) | ((with_reducible refine b_set ?_ ?_); · (first | omega | (simp; done) | (simp; omega))) | ((with_reducible refine b_alloc ?_ ?_); · (first | omega | (simp; done) | (simp; omega))) | (with_reducible refine Below.drew ?_) | (with_reducible refine b_drewN ?_) | ((with_reducible refine b_call (by assumption) ?_ ?_); · (first | omega | (simp; done) | (simp; omega))))); done))) (fun hHeld => ?_)
            clear hK K
            (try simp only [Act.put, List.setIfInBounds_toArray, List.set_cons_zero, List.set_cons_succ])
            refine wpAnyH_take (i := 18) (oi := ⟨some 9, _, _, _, _, _⟩) (v := ?v18C_104) rfl (by kernel_rfl) (by kernel_rfl) (by kernel_rfl) (fun _ _ _ h => h) (Or.inl ⟨by rfl, ?y18C_104⟩) (by assumption) ?r18C_104
            case y18C_104 => (intro w hSw; (try dsimp only at hSw); (try go_split_ands); go_simp); (try with_reducible rfl)
            case r18C_104 =>
            (try simp only [Act.put, List.setIfInBounds_toArray, List.set_cons_zero, List.set_cons_succ])
            refine wpAnyH_done (by kernel_rfl) ?_ _
            go_wp2_with fail
            go_meet
            exact ⟨rfl, hHeld⟩
        · go_simp
          refine hK.out _ _ (by first | exact hHeld.trans (hb5.mono hHeld.size) | exact Below.alloc hHeld hHeld.size _ | exact (Below.alloc hB5 hB5.size _).alloc (by have := hB5.size; simp; omega) _ | (have hh : Below wr.heap.size wr _ := hHeld; ((repeat (first | (with_reducible exact Below.refl _ _) | (with_reducible assumption) | ((with_reducible refine b_set ?_ ?_); · (first | omega | (simp; done) | (simp; omega))) | ((with_reducible refine b_alloc ?_ ?_); · (first | omega | (simp; done) | (simp; omega))) | (with_reducible refine Below.drew ?_) | (with_reducible refine b_drewN ?_) | ((with_reducible refine b_call (by assumption) ?_ ?_); · (first | omega | (simp; done) | (simp; omega))))); done))) (fun hHeld => ?_)
          clear hK K
          (try simp only [Act.put, List.setIfInBounds_toArray, List.set_cons_zero, List.set_cons_succ])
          refine wpAnyH_ready (rs := [9, 15]) (by kernel_rfl) (by simp) ?_
          refine AllReadyH.cons (o := ⟨some 36, _, _, _, _, _⟩) rfl (fun K hK => ?_) (AllReadyH.cons (o := ⟨some 8, _, _, _, _, _⟩) rfl (fun K hK => ?_) AllReadyH.nil)
          · go_simp
            refine (spanCutU p.z.fr p.z.tt p.mid _).mono ?_
            rintro e w5 ⟨f1, t1, f2, t2, rfl, hb5⟩
            have hb5 : Below (wr.drew.alloc (.cells #[.string ⟨#[]⟩, .string ⟨#[]⟩] 54)).heap.size (wr.drew.alloc (.cells #[.string ⟨#[]⟩, .string ⟨#[]⟩] 54)) w5 := hb5
            have hB5 : Below wr.heap.size wr w5 := Below.trans hHeld (hb5.mono hHeld.size)
            have gx := (Whl.new (w := wr.drew) (t := 54) (cs := #[.string ⟨#[]⟩, .string ⟨#[]⟩]) (n := wr.heap.size) (by simp)).below hb5 (by first | (simp; done) | (simp; omega))
            have x0 := gx.cell 0
            have x1 := gx.cell 1
            have xf := fun k => gx.free k
            have xl := gx.low
            simp only [List.getElem?_toArray, List.getElem?_cons_succ, List.getElem?_cons_zero] at x0 x1
            go_wp2_with fail
            refine hK.out _ _ (by first | exact hHeld.trans (hb5.mono hHeld.size) | exact Below.alloc hHeld hHeld.size _ | exact (Below.alloc hB5 hB5.size _).alloc (by have := hB5.size; simp; omega) _ | (have hh : Below wr.heap.size wr _ := hHeld; ((repeat (first | (with_reducible exact Below.refl _ _) | (with_reducible assumption) | ((with_reducible refine b_set ?_ ?_); · (first | omega | (simp; done) | (simp; omega))) | ((with_reducible refine b_alloc ?_ ?_); · (first | omega | (simp; done) | (simp; omega))) | (with_reducible refine Below.drew ?_) | (with_reducible refine b_drewN ?_) | ((with_reducible refine b_call (by assumption) ?_ ?_); · (first | omega | (simp; done) | (simp; omega))))); done))) (fun hHeld => ?_)
            clear hK K
            (try simp only [Act.put, List.setIfInBounds_toArray, List.set_cons_zero, List.set_cons_succ])
            refine wpAnyH_take (i := 10) (oi := ⟨some 26, _, _, _, _, _⟩) (v := ?v10C_132) rfl (by kernel_rfl) (by kernel_rfl) (by kernel_rfl) (fun _ _ _ h => h) (Or.inl ⟨by rfl, ?y10C_132⟩) (by assumption) ?r10C_132
            case y10C_132 => (intro w hSw; (try dsimp only at hSw); (try go_split_ands); go_simp); (try with_reducible rfl)
            case r10C_132 =>
            (try simp only [Act.put, List.setIfInBounds_toArray, List.set_cons_zero, List.set_cons_succ])
            refine wpAnyH_take (i := 11) (oi := ⟨some 37, _, _, _, _, _⟩) (v := ?v11C_135) rfl (by kernel_rfl) (by kernel_rfl) (by kernel_rfl) (fun _ _ _ h => h) (Or.inl ⟨by rfl, ?y11C_135⟩) (by assumption) ?r11C_135
            case y11C_135 => (intro w hSw; (try dsimp only at hSw); (try go_split_ands); go_simp); (try with_reducible rfl)
            case r11C_135 =>
            (try simp only [Act.put, List.setIfInBounds_toArray, List.set_cons_zero, List.set_cons_succ])
            refine wpAnyH_take (i := 12) (oi := ⟨some 38, _, _, _, _, _⟩) (v := ?v12C_138) rfl (by kernel_rfl) (by kernel_rfl) (by kernel_rfl) (fun _ _ _ h => h) (Or.inl ⟨by rfl, ?y12C_138⟩) (by assumption) ?r12C_138
            case y12C_138 => (intro w hSw; (try dsimp only at hSw); (try go_split_ands); go_simp); (try with_reducible rfl)
            case r12C_138 =>
            (try simp only [Act.put, List.setIfInBounds_toArray, List.set_cons_zero, List.set_cons_succ])
            refine wpAnyH_take (i := 13) (oi := ⟨some 39, _, _, _, _, _⟩) (v := ?v13C_141) rfl (by kernel_rfl) (by kernel_rfl) (by kernel_rfl) (fun _ _ _ h => h) (Or.inl ⟨by rfl, ?y13C_141⟩) (by assumption) ?r13C_141
            case y13C_141 => (intro w hSw; (try dsimp only at hSw); (try go_split_ands); go_simp); (try with_reducible rfl)
            case r13C_141 =>
            (try simp only [Act.put, List.setIfInBounds_toArray, List.set_cons_zero, List.set_cons_succ])
            refine wpAnyH_ready (rs := [15]) (by kernel_rfl) (by simp) ?_
            refine AllReadyH.cons (o := ⟨some 8, _, _, _, _, _⟩) rfl (fun K hK => ?_) AllReadyH.nil
            go_simp
            refine hK.out _ _ (by first | exact hHeld.trans (hb5.mono hHeld.size) | exact Below.alloc hHeld hHeld.size _ | exact (Below.alloc hB5 hB5.size _).alloc (by have := hB5.size; simp; omega) _ | (have hh : Below wr.heap.size wr _ := hHeld; ((repeat (first | (with_reducible exact Below.refl _ _) | (with_reducible assumption) | ((with_reducible refine b_set ?_ ?_); · (first | omega | (simp; done) | (simp; omega))) | ((with_reducible refine b_alloc ?_ ?_); · (first | omega | (simp; done) | (simp; omega))) | (with_reducible refine Below.drew ?_) | (with_reducible refine b_drewN ?_) | ((with_reducible refine b_call (by assumption) ?_ ?_); · (first | omega | (simp; done) | (simp; omega))))); done))) (fun hHeld => ?_)
            clear hK K
            (try simp only [Act.put, List.setIfInBounds_toArray, List.set_cons_zero, List.set_cons_succ])
            refine wpAnyH_ready (rs := [16]) (by kernel_rfl) (by simp) ?_
            refine AllReadyH.cons (o := ⟨none, _, _, _, _, _⟩) rfl (fun K hK => ?_) AllReadyH.nil
            go_simp
            refine hK.out _ _ (by first | exact hHeld.trans (hb5.mono hHeld.size) | exact Below.alloc hHeld hHeld.size _ | exact (Below.alloc hB5 hB5.size _).alloc (by have := hB5.size; simp; omega) _ | (have hh : Below wr.heap.size wr _ := hHeld; ((repeat (first | (with_reducible exact Below.refl _ _) | (with_reducible assumption) | ((with_reducible refine b_set ?_ ?_); · (first | omega | (simp; done) | (simp; omega))) | ((with_reducible refine b_alloc ?_ ?_); · (first | omega | (simp; done) | (simp; omega))) | (with_reducible refine Below.drew ?_) | (with_reducible refine b_drewN ?_) | ((with_reducible refine b_call (by assumption) ?_ ?_); · (first | omega | (simp; done) | (simp; omega))))); done))) (fun hHeld => ?_)
            clear hK K
            (try simp only [Act.put, List.setIfInBounds_toArray, List.set_cons_zero, List.set_cons_succ])
            refine wpAnyH_ready (rs := [17]) (by kernel_rfl) (by simp) ?_
            refine AllReadyH.cons (o := ⟨none, _, _, _, _, _⟩) rfl (fun K hK => ?_) AllReadyH.nil
            go_simp
            refine hK.out _ _ (by first | exact hHeld.trans (hb5.mono hHeld.size) | exact Below.alloc hHeld hHeld.size _ | exact (Below.alloc hB5 hB5.size _).alloc (by have := hB5.size; simp; omega) _ | (have hh : Below wr.heap.size wr _ := hHeld; ((repeat (first | (with_reducible exact Below.refl _ _) | (with_reducible assumption) | ((with_reducible refine b_set ?_ ?_); · (first | omega | (simp; done) | (simp; omega))) | ((with_reducible refine b_alloc ?_ ?_); · (first | omega | (simp; done) | (simp; omega))) | (with_reducible refine Below.drew ?_) | (with_reducible refine b_drewN ?_) | ((with_reducible refine b_call (by assumption) ?_ ?_); · (first | omega | (simp; done) | (simp; omega))))); done))) (fun hHeld => ?_)
            clear hK K
            (try simp only [Act.put, List.setIfInBounds_toArray, List.set_cons_zero, List.set_cons_succ])
            refine wpAnyH_take (i := 18) (oi := ⟨some 9, _, _, _, _, _⟩) (v := ?v18C_162) rfl (by kernel_rfl) (by kernel_rfl) (by kernel_rfl) (fun _ _ _ h => h) (Or.inl ⟨by rfl, ?y18C_162⟩) (by assumption) ?r18C_162
            case y18C_162 => (intro w hSw; (try dsimp only at hSw); (try go_split_ands); go_simp); (try with_reducible rfl)
            case r18C_162 =>
            (try simp only [Act.put, List.setIfInBounds_toArray, List.set_cons_zero, List.set_cons_succ])
            refine wpAnyH_done (by kernel_rfl) ?_ _
            go_wp2_with fail
            go_meet
            exact ⟨rfl, hHeld⟩
          · go_simp
            refine hK.out _ _ (by first | exact hHeld.trans (hb5.mono hHeld.size) | exact Below.alloc hHeld hHeld.size _ | exact (Below.alloc hB5 hB5.size _).alloc (by have := hB5.size; simp; omega) _ | (have hh : Below wr.heap.size wr _ := hHeld; ((repeat (first | (with_reducible exact Below.refl _ _) | (with_reducible assumption) | ((with_reducible refine b_set ?_ ?_); · (first | omega | (simp; done) | (simp; omega))) | ((with_reducible refine b_alloc ?_ ?_); · (first | omega | (simp; done) | (simp; omega))) | (with_reducible refine Below.drew ?_) | (with_reducible refine b_drewN ?_) | ((with_reducible refine b_call (by assumption) ?_ ?_); · (first | omega | (simp; done) | (simp; omega))))); done))) (fun hHeld => ?_)
            clear hK K
            (try simp only [Act.put, List.setIfInBounds_toArray, List.set_cons_zero, List.set_cons_succ])
            refine wpAnyH_ready (rs := [9]) (by kernel_rfl) (by simp) ?_
            refine AllReadyH.cons (o := ⟨some 36, _, _, _, _, _⟩) rfl (fun K hK => ?_) AllReadyH.nil
            go_simp
            refine (spanCutU p.z.fr p.z.tt p.mid _).mono ?_
            rintro e w5 ⟨f1, t1, f2, t2, rfl, hb5⟩
            have hb5 : Below ((wr.drew.alloc (.cells #[.string ⟨#[]⟩, .string ⟨#[]⟩] 54)).alloc (.cells #[.string ⟨#[]⟩, .string ⟨#[]⟩] 54)).heap.size ((wr.drew.alloc (.cells #[.string ⟨#[]⟩, .string ⟨#[]⟩] 54)).alloc (.cells #[.string ⟨#[]⟩, .string ⟨#[]⟩] 54)) w5 := hb5
            have hB5 : Below wr.heap.size wr w5 := Below.trans hHeld (hb5.mono hHeld.size)
            have gx := ((Whl.new (w := wr.drew) (t := 54) (cs := #[.string ⟨#[]⟩, .string ⟨#[]⟩]) (n := wr.heap.size) (by simp)).alloc (.cells #[.string ⟨#[]⟩, .string ⟨#[]⟩] 54)).below hb5 (by first | (simp; done) | (simp; omega))
            have x0 := gx.cell 0
            have x1 := gx.cell 1
            have xf := fun k => gx.free k
            have xl := gx.low
            simp only [List.getElem?_toArray, List.getElem?_cons_succ, List.getElem?_cons_zero] at x0 x1
            have gy := (Whl.new (w := (wr.drew.alloc (.cells #[.string ⟨#[]⟩, .string ⟨#[]⟩] 54))) (t := 54) (cs := #[.string ⟨#[]⟩, .string ⟨#[]⟩]) (n := wr.heap.size + 1) (by simp)).below hb5 (by first | (simp; done) | (simp; omega))
            have y0 := gy.cell 0
            have y1 := gy.cell 1
            have yf := fun k => gy.free k
            have yl := gy.low
            simp only [List.getElem?_toArray, List.getElem?_cons_succ, List.getElem?_cons_zero] at y0 y1
            go_wp2_with fail
            refine hK.out _ _ (by first | exact hHeld.trans (hb5.mono hHeld.size) | exact Below.alloc hHeld hHeld.size _ | exact (Below.alloc hB5 hB5.size _).alloc (by have := hB5.size; simp; omega) _ | (have hh : Below wr.heap.size wr _ := hHeld; ((repeat (first | (with_reducible exact Below.refl _ _) | (with_reducible assumption) | ((with_reducible refine b_set ?_ ?_); · (first | omega | (simp; done) | (simp; omega))) | ((with_reducible refine b_alloc ?_ ?_); · (first | omega | (simp; done) | (simp; omega))) | (with_reducible refine Below.drew ?_) | (with_reducible refine b_drewN ?_) | ((with_reducible refine b_call (by assumption) ?_ ?_); · (first | omega | (simp; done) | (simp; omega))))); done))) (fun hHeld => ?_)
            clear hK K
            (try simp only [Act.put, List.setIfInBounds_toArray, List.set_cons_zero, List.set_cons_succ])
            refine wpAnyH_take (i := 10) (oi := ⟨some 26, _, _, _, _, _⟩) (v := ?v10C_196) rfl (by kernel_rfl) (by kernel_rfl) (by kernel_rfl) (fun _ _ _ h => h) (Or.inl ⟨by rfl, ?y10C_196⟩) (by assumption) ?r10C_196
            case y10C_196 => (intro w hSw; (try dsimp only at hSw); (try go_split_ands); go_simp); (try with_reducible rfl)
            case r10C_196 =>
            (try simp only [Act.put, List.setIfInBounds_toArray, List.set_cons_zero, List.set_cons_succ])
            refine wpAnyH_take (i := 11) (oi := ⟨some 37, _, _, _, _, _⟩) (v := ?v11C_199) rfl (by kernel_rfl) (by kernel_rfl) (by kernel_rfl) (fun _ _ _ h => h) (Or.inl ⟨by rfl, ?y11C_199⟩) (by assumption) ?r11C_199
            case y11C_199 => (intro w hSw; (try dsimp only at hSw); (try go_split_ands); go_simp); (try with_reducible rfl)
            case r11C_199 =>
            (try simp only [Act.put, List.setIfInBounds_toArray, List.set_cons_zero, List.set_cons_succ])
            refine wpAnyH_take (i := 12) (oi := ⟨some 38, _, _, _, _, _⟩) (v := ?v12C_202) rfl (by kernel_rfl) (by kernel_rfl) (by kernel_rfl) (fun _ _ _ h => h) (Or.inl ⟨by rfl, ?y12C_202⟩) (by assumption) ?r12C_202
            case y12C_202 => (intro w hSw; (try dsimp only at hSw); (try go_split_ands); go_simp); (try with_reducible rfl)
            case r12C_202 =>
            (try simp only [Act.put, List.setIfInBounds_toArray, List.set_cons_zero, List.set_cons_succ])
            refine wpAnyH_take (i := 13) (oi := ⟨some 39, _, _, _, _, _⟩) (v := ?v13C_205) rfl (by kernel_rfl) (by kernel_rfl) (by kernel_rfl) (fun _ _ _ h => h) (Or.inl ⟨by rfl, ?y13C_205⟩) (by assumption) ?r13C_205
            case y13C_205 => (intro w hSw; (try dsimp only at hSw); (try go_split_ands); go_simp); (try with_reducible rfl)
            case r13C_205 =>
            (try simp only [Act.put, List.setIfInBounds_toArray, List.set_cons_zero, List.set_cons_succ])
            refine wpAnyH_ready (rs := [16]) (by kernel_rfl) (by simp) ?_
            refine AllReadyH.cons (o := ⟨none, _, _, _, _, _⟩) rfl (fun K hK => ?_) AllReadyH.nil
            go_simp
            refine hK.out _ _ (by first | exact hHeld.trans (hb5.mono hHeld.size) | exact Below.alloc hHeld hHeld.size _ | exact (Below.alloc hB5 hB5.size _).alloc (by have := hB5.size; simp; omega) _ | (have hh : Below wr.heap.size wr _ := hHeld; ((repeat (first | (with_reducible exact Below.refl _ _) | (with_reducible assumption) | ((with_reducible refine b_set ?_ ?_); · (first | omega | (simp; done) | (simp; omega))) | ((with_reducible refine b_alloc ?_ ?_); · (first | omega | (simp; done) | (simp; omega))) | (with_reducible refine Below.drew ?_) | (with_reducible refine b_drewN ?_) | ((with_reducible refine b_call (by assumption) ?_ ?_); · (first | omega | (simp; done) | (simp; omega))))); done))) (fun hHeld => ?_)
            clear hK K
            (try simp only [Act.put, List.setIfInBounds_toArray, List.set_cons_zero, List.set_cons_succ])
            refine wpAnyH_ready (rs := [17]) (by kernel_rfl) (by simp) ?_
            refine AllReadyH.cons (o := ⟨none, _, _, _, _, _⟩) rfl (fun K hK => ?_) AllReadyH.nil
            go_simp
            refine hK.out _ _ (by first | exact hHeld.trans (hb5.mono hHeld.size) | exact Below.alloc hHeld hHeld.size _ | exact (Below.alloc hB5 hB5.size _).alloc (by have := hB5.size; simp; omega) _ | (have hh : Below wr.heap.size wr _ := hHeld; ((repeat (first | (with_reducible exact Below.refl _ _) | (with_reducible assumption) | ((with_reducible refine b_set ?_ ?_); · (first | omega | (simp; done) | (simp; omega))) | ((with_reducible refine b_alloc ?_ ?_); · (first | omega | (simp; done) | (simp; omega))) | (with_reducible refine Below.drew ?_) | (with_reducible refine b_drewN ?_) | ((with_reducible refine b_call (by assumption) ?_ ?_); · (first | omega | (simp; done) | (simp; omega))))); done))) (fun hHeld => ?_)
            clear hK K
            (try simp only [Act.put, List.setIfInBounds_toArray, List.set_cons_zero, List.set_cons_succ])
            refine wpAnyH_take (i := 18) (oi := ⟨some 9, _, _, _, _, _⟩) (v := ?v18C_220) rfl (by kernel_rfl) (by kernel_rfl) (by kernel_rfl) (fun _ _ _ h => h) (Or.inl ⟨by rfl, ?y18C_220⟩) (by assumption) ?r18C_220
            case y18C_220 => (intro w hSw; (try dsimp only at hSw); (try go_split_ands); go_simp); (try with_reducible rfl)
            case r18C_220 =>
            (try simp only [Act.put, List.setIfInBounds_toArray, List.set_cons_zero, List.set_cons_succ])
            refine wpAnyH_done (by kernel_rfl) ?_ _
            go_wp2_with fail
            go_meet
            exact ⟨rfl, hHeld⟩
        · go_simp
          refine hK.out _ _ (by first | exact hHeld.trans (hb5.mono hHeld.size) | exact Below.alloc hHeld hHeld.size _ | exact (Below.alloc hB5 hB5.size _).alloc (by have := hB5.size; simp; omega) _ | (have hh : Below wr.heap.size wr _ := hHeld; ((repeat (first | (with_reducible exact Below.refl _ _) | (with_reducible assumption) | ((with_reducible refine b_set ?_ ?_); · (first | omega | (simp; done) | (simp; omega))) | ((with_reducible refine b_alloc ?_ ?_); · (first | omega | (simp; done) | (simp; omega))) | (with_reducible refine Below.drew ?_) | (with_reducible refine b_drewN ?_) | ((with_reducible refine b_call (by assumption) ?_ ?_); · (first | omega | (simp; done) | (simp; omega))))); done))) (fun hHeld => ?_)
          clear hK K
          (try simp only [Act.put, List.setIfInBounds_toArray, List.set_cons_zero, List.set_cons_succ])
          refine wpAnyH_ready (rs := [9, 14]) (by kernel_rfl) (by simp) ?_
          refine AllReadyH.cons (o := ⟨some 36, _, _, _, _, _⟩) rfl (fun K hK => ?_) (AllReadyH.cons (o := ⟨some 7, _, _, _, _, _⟩) rfl (fun K hK => ?_) AllReadyH.nil)
          · go_simp
            refine (spanCutU p.z.fr p.z.tt p.mid _).mono ?_
            rintro e w5 ⟨f1, t1, f2, t2, rfl, hb5⟩
            have hb5 : Below (wr.drew.alloc (.cells #[.string ⟨#[]⟩, .string ⟨#[]⟩] 54)).heap.size (wr.drew.alloc (.cells #[.string ⟨#[]⟩, .string ⟨#[]⟩] 54)) w5 := hb5
            have hB5 : Below wr.heap.size wr w5 := Below.trans hHeld (hb5.mono hHeld.size)
            have gx := (Whl.new (w := wr.drew) (t := 54) (cs := #[.string ⟨#[]⟩, .string ⟨#[]⟩]) (n := wr.heap.size) (by simp)).below hb5 (by first | (simp; done) | (simp; omega))
            have x0 := gx.cell 0
            have x1 := gx.cell 1
            have xf := fun k => gx.free k
            have xl := gx.low
            simp only [List.getElem?_toArray, List.getElem?_cons_succ, List.getElem?_cons_zero] at x0 x1
            go_wp2_with fail
            refine hK.out _ _ (by first | exact hHeld.trans (hb5.mono hHeld.size) | exact Below.alloc hHeld hHeld.size _ | exact (Below.alloc hB5 hB5.size _).alloc (by have := hB5.size; simp; omega) _ | (have hh : Below wr.heap.size wr _ := hHeld; ((repeat (first | (with_reducible exact Below.refl _ _) | (with_reducible assumption) | ((with_reducible refine b_set ?_ ?_); · (first | omega | (simp; done) | (simp; omega))) | ((with_reducible refine b_alloc ?_ ?_); · (first | omega | (simp; done) | (simp; omega))) | (with_reducible refine Below.drew ?_) | (with_reducible refine b_drewN ?_) | ((with_reducible refine b_call (by assumption) ?_ ?_); · (first | omega | (simp; done) | (simp; omega))))); done))) (fun hHeld => ?_)
            clear hK K
            (try simp only [Act.put, List.setIfInBounds_toArray, List.set_cons_zero, List.set_cons_succ])
            refine wpAnyH_take (i := 10) (oi := ⟨some 26, _, _, _, _, _⟩) (v := ?v10C_248) rfl (by kernel_rfl) (by kernel_rfl) (by kernel_rfl) (fun _ _ _ h => h) (Or.inl ⟨by rfl, ?y10C_248⟩) (by assumption) ?r10C_248
            case y10C_248 => (intro w hSw; (try dsimp only at hSw); (try go_split_ands); go_simp); (try with_reducible rfl)
            case r10C_248 =>
            (try simp only [Act.put, List.setIfInBounds_toArray, List.set_cons_zero, List.set_cons_succ])
            refine wpAnyH_take (i := 11) (oi := ⟨some 37, _, _, _, _, _⟩) (v := ?v11C_251) rfl (by kernel_rfl) (by kernel_rfl) (by kernel_rfl) (fun _ _ _ h => h) (Or.inl ⟨by rfl, ?y11C_251⟩) (by assumption) ?r11C_251
            case y11C_251 => (intro w hSw; (try dsimp only at hSw); (try go_split_ands); go_simp); (try with_reducible rfl)
            case r11C_251 =>
            (try simp only [Act.put, List.setIfInBounds_toArray, List.set_cons_zero, List.set_cons_succ])
            refine wpAnyH_take (i := 12) (oi := ⟨some 38, _, _, _, _, _⟩) (v := ?v12C_254) rfl (by kernel_rfl) (by kernel_rfl) (by kernel_rfl) (fun _ _ _ h => h) (Or.inl ⟨by rfl, ?y12C_254⟩) (by assumption) ?r12C_254
            case y12C_254 => (intro w hSw; (try dsimp only at hSw); (try go_split_ands); go_simp); (try with_reducible rfl)
            case r12C_254 =>
            (try simp only [Act.put, List.setIfInBounds_toArray, List.set_cons_zero, List.set_cons_succ])
            refine wpAnyH_take (i := 13) (oi := ⟨some 39, _, _, _, _, _⟩) (v := ?v13C_257) rfl (by kernel_rfl) (by kernel_rfl) (by kernel_rfl) (fun _ _ _ h => h) (Or.inl ⟨by rfl, ?y13C_257⟩) (by assumption) ?r13C_257
            case y13C_257 => (intro w hSw; (try dsimp only at hSw); (try go_split_ands); go_simp); (try with_reducible rfl)
            case r13C_257 =>
            (try simp only [Act.put, List.setIfInBounds_toArray, List.set_cons_zero, List.set_cons_succ])
            refine wpAnyH_ready (rs := [14]) (by kernel_rfl) (by simp) ?_
            refine AllReadyH.cons (o := ⟨some 7, _, _, _, _, _⟩) rfl (fun K hK => ?_) AllReadyH.nil
            go_simp
            refine hK.out _ _ (by first | exact hHeld.trans (hb5.mono hHeld.size) | exact Below.alloc hHeld hHeld.size _ | exact (Below.alloc hB5 hB5.size _).alloc (by have := hB5.size; simp; omega) _ | (have hh : Below wr.heap.size wr _ := hHeld; ((repeat (first | (with_reducible exact Below.refl _ _) | (with_reducible assumption) | ((with_reducible refine b_set ?_ ?_); · (first | omega | (simp; done) | (simp; omega))) | ((with_reducible refine b_alloc ?_ ?_); · (first | omega | (simp; done) | (simp; omega))) | (with_reducible refine Below.drew ?_) | (with_reducible refine b_drewN ?_) | ((with_reducible refine b_call (by assumption) ?_ ?_); · (first | omega | (simp; done) | (simp; omega))))); done))) (fun hHeld => ?_)
            clear hK K
            (try simp only [Act.put, List.setIfInBounds_toArray, List.set_cons_zero, List.set_cons_succ])
            refine wpAnyH_ready (rs := [16]) (by kernel_rfl) (by simp) ?_
            refine AllReadyH.cons (o := ⟨none, _, _, _, _, _⟩) rfl (fun K hK => ?_) AllReadyH.nil
            go_simp
            refine hK.out _ _ (by first | exact hHeld.trans (hb5.mono hHeld.size) | exact Below.alloc hHeld hHeld.size _ | exact (Below.alloc hB5 hB5.size _).alloc (by have := hB5.size; simp; omega) _ | (have hh : Below wr.heap.size wr _ := hHeld; ((repeat (first | (with_reducible exact Below.refl _ _) | (with_reducible assumption) | ((with_reducible refine b_set ?_ ?_); · (first | omega | (simp; done) | (simp; omega))) | ((with_reducible refine b_alloc ?_ ?_); · (first | omega | (simp; done) | (simp; omega))) | (with_reducible refine Below.drew ?_) | (with_reducible refine b_drewN ?_) | ((with_reducible refine b_call (by assumption) ?_ ?_); · (first | omega | (simp; done) | (simp; omega))))); done))) (fun hHeld => ?_)
            clear hK K
            (try simp only [Act.put, List.setIfInBounds_toArray, List.set_cons_zero, List.set_cons_succ])
            refine wpAnyH_ready (rs := [17]) (by kernel_rfl) (by simp) ?_
            refine AllReadyH.cons (o := ⟨none, _, _, _, _, _⟩) rfl (fun K hK => ?_) AllReadyH.nil
            go_simp
            refine hK.out _ _ (by first | exact hHeld.trans (hb5.mono hHeld.size) | exact Below.alloc hHeld hHeld.size _ | exact (Below.alloc hB5 hB5.size _).alloc (by have := hB5.size; simp; omega) _ | (have hh : Below wr.heap.size wr _ := hHeld; ((repeat (first | (with_reducible exact Below.refl _ _) | (with_reducible assumption) | ((with_reducible refine b_set ?_ ?_); · (first | omega | (simp; done) | (simp; omega))) | ((with_reducible refine b_alloc ?_ ?_); · (first | omega | (simp; done) | (simp; omega))) | (with_reducible refine Below.drew ?_) | (with_reducible refine b_drewN ?_) | ((with_reducible refine b_call (by assumption) ?_ ?_); · (first | omega | (simp; done) | (simp; omega))))); done))) (fun hHeld => ?_)
            clear hK K
            (try simp only [Act.put, List.setIfInBounds_toArray, List.set_cons_zero, List.set_cons_succ])
            refine wpAnyH_take (i := 18) (oi := ⟨some 9, _, _, _, _, _⟩) (v := ?v18C_278) rfl (by kernel_rfl) (by kernel_rfl) (by kernel_rfl) (fun _ _ _ h => h) (Or.inl ⟨by rfl, ?y18C_278⟩) (by assumption) ?r18C_278
            case y18C_278 => (intro w hSw; (try dsimp only at hSw); (try go_split_ands); go_simp); (try with_reducible rfl)
            case r18C_278 =>
            (try simp only [Act.put, List.setIfInBounds_toArray, List.set_cons_zero, List.set_cons_succ])
            refine wpAnyH_done (by kernel_rfl) ?_ _
            go_wp2_with fail
            go_meet
            exact ⟨rfl, hHeld⟩
          · go_simp
            refine hK.out _ _ (by first | exact hHeld.trans (hb5.mono hHeld.size) | exact Below.alloc hHeld hHeld.size _ | exact (Below.alloc hB5 hB5.size _).alloc (by have := hB5.size; simp; omega) _ | (have hh : Below wr.heap.size wr _ := hHeld; ((repeat (first | (with_reducible exact Below.refl _ _) | (with_reducible assumption) | ((with_reducible refine b_set ?_ ?_); · (first | omega | (simp; done) | (simp; omega))) | ((with_reducible refine b_alloc ?_ ?_); · (first | omega | (simp; done) | (simp; omega))) | (with_reducible refine Below.drew ?_) | (with_reducible refine b_drewN ?_) | ((with_reducible refine b_call (by assumption) ?_ ?_); · (first | omega | (simp; done) | (simp; omega))))); done))) (fun hHeld => ?_)
            clear hK K
            (try simp only [Act.put, List.setIfInBounds_toArray, List.set_cons_zero, List.set_cons_succ])
            refine wpAnyH_ready (rs := [9]) (by kernel_rfl) (by simp) ?_
            refine AllReadyH.cons (o := ⟨some 36, _, _, _, _, _⟩) rfl (fun K hK => ?_) AllReadyH.nil
            go_simp
            refine (spanCutU p.z.fr p.z.tt p.mid _).mono ?_
            rintro e w5 ⟨f1, t1, f2, t2, rfl, hb5⟩
            have hb5 : Below ((wr.drew.alloc (.cells #[.string ⟨#[]⟩, .string ⟨#[]⟩] 54)).alloc (.cells #[.string ⟨#[]⟩, .string ⟨#[]⟩] 54)).heap.size ((wr.drew.alloc (.cells #[.string ⟨#[]⟩, .string ⟨#[]⟩] 54)).alloc (.cells #[.string ⟨#[]⟩, .string ⟨#[]⟩] 54)) w5 := hb5
            have hB5 : Below wr.heap.size wr w5 := Below.trans hHeld (hb5.mono hHeld.size)
            have gx := ((Whl.new (w := wr.drew) (t := 54) (cs := #[.string ⟨#[]⟩, .string ⟨#[]⟩]) (n := wr.heap.size) (by simp)).alloc (.cells #[.string ⟨#[]⟩, .string ⟨#[]⟩] 54)).below hb5 (by first | (simp; done) | (simp; omega))
            have x0 := gx.cell 0
            have x1 := gx.cell 1
            have xf := fun k => gx.free k
            have xl := gx.low
            simp only [List.getElem?_toArray, List.getElem?_cons_succ, List.getElem?_cons_zero] at x0 x1
            have gy := (Whl.new (w := (wr.drew.alloc (.cells #[.string ⟨#[]⟩, .string ⟨#[]⟩] 54))) (t := 54) (cs := #[.string ⟨#[]⟩, .string ⟨#[]⟩]) (n := wr.heap.size + 1) (by simp)).below hb5 (by first | (simp; done) | (simp; omega))
            have y0 := gy.cell 0
            have y1 := gy.cell 1
            have yf := fun k => gy.free k
            have yl := gy.low
            simp only [List.getElem?_toArray, List.getElem?_cons_succ, List.getElem?_cons_zero] at y0 y1
            go_wp2_with fail
            refine hK.out _ _ (by first | exact hHeld.trans (hb5.mono hHeld.size) | exact Below.alloc hHeld hHeld.size _ | exact (Below.alloc hB5 hB5.size _).alloc (by have := hB5.size; simp; omega) _ | (have hh : Below wr.heap.size wr _ := hHeld; ((repeat (first | (with_reducible exact Below.refl _ _) | (with_reducible assumption) | ((with_reducible refine b_set ?_ ?_); · (first | omega | (simp; done) | (simp; omega))) | ((with_reducible refine b_alloc ?_ ?_); · (first | omega | (simp; done) | (simp; omega))) | (with_reducible refine Below.drew ?_) | (with_reducible refine b_drewN ?_) | ((with_reducible refine b_call (by assumption) ?_ ?_); · (first | omega | (simp; done) | (simp; omega))))); done))) (fun hHeld => ?_)
            clear hK K
            (try simp only [Act.put, List.setIfInBounds_toArray, List.set_cons_zero, List.set_cons_succ])
            refine wpAnyH_take (i := 10) (oi := ⟨some 26, _, _, _, _, _⟩) (v := ?v10C_312) rfl (by kernel_rfl) (by kernel_rfl) (by kernel_rfl) (fun _ _ _ h => h) (Or.inl ⟨by rfl, ?y10C_312⟩) (by assumption) ?r10C_312
            case y10C_312 => (intro w hSw; (try dsimp only at hSw); (try go_split_ands); go_simp); (try with_reducible rfl)
            case r10C_312 =>
            (try simp only [Act.put, List.setIfInBounds_toArray, List.set_cons_zero, List.set_cons_succ])
            refine wpAnyH_take (i := 11) (oi := ⟨some 37, _, _, _, _, _⟩) (v := ?v11C_315) rfl (by kernel_rfl) (by kernel_rfl) (by kernel_rfl) (fun _ _ _ h => h) (Or.inl ⟨by rfl, ?y11C_315⟩) (by assumption) ?r11C_315
            case y11C_315 => (intro w hSw; (try dsimp only at hSw); (try go_split_ands); go_simp); (try with_reducible rfl)
            case r11C_315 =>
            (try simp only [Act.put, List.setIfInBounds_toArray, List.set_cons_zero, List.set_cons_succ])
            refine wpAnyH_take (i := 12) (oi := ⟨some 38, _, _, _, _, _⟩) (v := ?v12C_318) rfl (by kernel_rfl) (by kernel_rfl) (by kernel_rfl) (fun _ _ _ h => h) (Or.inl ⟨by rfl, ?y12C_318⟩) (by assumption) ?r12C_318
            case y12C_318 => (intro w hSw; (try dsimp only at hSw); (try go_split_ands); go_simp); (try with_reducible rfl)
            case r12C_318 =>
            (try simp only [Act.put, List.setIfInBounds_toArray, List.set_cons_zero, List.set_cons_succ])
            refine wpAnyH_take (i := 13) (oi := ⟨some 39, _, _, _, _, _⟩) (v := ?v13C_321) rfl (by kernel_rfl) (by kernel_rfl) (by kernel_rfl) (fun _ _ _ h => h) (Or.inl ⟨by rfl, ?y13C_321⟩) (by assumption) ?r13C_321
            case y13C_321 => (intro w hSw; (try dsimp only at hSw); (try go_split_ands); go_simp); (try with_reducible rfl)
            case r13C_321 =>
            (try simp only [Act.put, List.setIfInBounds_toArray, List.set_cons_zero, List.set_cons_succ])
            refine wpAnyH_ready (rs := [16]) (by kernel_rfl) (by simp) ?_
            refine AllReadyH.cons (o := ⟨none, _, _, _, _, _⟩) rfl (fun K hK => ?_) AllReadyH.nil
            go_simp
            refine hK.out _ _ (by first | exact hHeld.trans (hb5.mono hHeld.size) | exact Below.alloc hHeld hHeld.size _ | exact (Below.alloc hB5 hB5.size _).alloc (by have := hB5.size; simp; omega) _ | (have hh : Below wr.heap.size wr _ := hHeld; ((repeat (first | (with_reducible exact Below.refl _ _) | (with_reducible assumption) | ((with_reducible refine b_set ?_ ?_); · (first | omega | (simp; done) | (simp; omega))) | ((with_reducible refine b_alloc ?_ ?_); · (first | omega | (simp; done) | (simp; omega))) | (with_reducible refine Below.drew ?_) | (with_reducible refine b_drewN ?_) | ((with_reducible refine b_call (by assumption) ?_ ?_); · (first | omega | (simp; done) | (simp; omega))))); done))) (fun hHeld => ?_)
            clear hK K
            (try simp only [Act.put, List.setIfInBounds_toArray, List.set_cons_zero, List.set_cons_succ])
            refine wpAnyH_ready (rs := [17]) (by kernel_rfl) (by simp) ?_
            refine AllReadyH.cons (o := ⟨none, _, _, _, _, _⟩) rfl (fun K hK => ?_) AllReadyH.nil
            go_simp
            refine hK.out _ _ (by first | exact hHeld.trans (hb5.mono hHeld.size) | exact Below.alloc hHeld hHeld.size _ | exact (Below.alloc hB5 hB5.size _).alloc (by have := hB5.size; simp; omega) _ | (have hh : Below wr.heap.size wr _ := hHeld; ((repeat (first | (with_reducible exact Below.refl _ _) | (with_reducible assumption) | ((with_reducible refine b_set ?_ ?_); · (first | omega | (simp; done) | (simp; omega))) | ((with_reducible refine b_alloc ?_ ?_); · (first | omega | (simp; done) | (simp; omega))) | (with_reducible refine Below.drew ?_) | (with_reducible refine b_drewN ?_) | ((with_reducible refine b_call (by assumption) ?_ ?_); · (first | omega | (simp; done) | (simp; omega))))); done))) (fun hHeld => ?_)
            clear hK K
            (try simp only [Act.put, List.setIfInBounds_toArray, List.set_cons_zero, List.set_cons_succ])
            refine wpAnyH_take (i := 18) (oi := ⟨some 9, _, _, _, _, _⟩) (v := ?v18C_336) rfl (by kernel_rfl) (by kernel_rfl) (by kernel_rfl) (fun _ _ _ h => h) (Or.inl ⟨by rfl, ?y18C_336⟩) (by assumption) ?r18C_336
            case y18C_336 => (intro w hSw; (try dsimp only at hSw); (try go_split_ands); go_simp); (try with_reducible rfl)
            case r18C_336 =>
            (try simp only [Act.put, List.setIfInBounds_toArray, List.set_cons_zero, List.set_cons_succ])
            refine wpAnyH_done (by kernel_rfl) ?_ _
            go_wp2_with fail
            go_meet
            exact ⟨rfl, hHeld⟩

      case rest =>
        obtain ⟨rfl, hB4⟩ := hcut
        have HB4 := Lib.hid hB4
        have hs4 := hB4.size
        have y9 := bkeep hB4 a9 hgz
        have y11 := bkeep hB4 a11 hgz
        clear hB4 a0 a1 a2 a3 a4 a5 a6 a7 a8 a9 a10 a11 a12 v0
        by_cases hs : splitOk hot st.room p = true
        case neg =>
          have HS := Lib.hid hs
          have hs2 : st.room ≤ 0 ∨ p.fr = false ∨ p.hits ≤ hot ∨ cutsB p = false := by
            by_cases x1 : st.room ≤ 0
            · exact .inl x1
            cases x2 : p.fr with
            | false => exact .inr (.inl rfl)
            | true =>
              by_cases x3 : p.hits ≤ hot
              · exact .inr (.inr (.inl x3))
              cases x4 : cutsB p with
              | false => exact .inr (.inr (.inr rfl))
              | true =>
                refine absurd ?_ hs
                unfold splitOk
                rw [x2, x4, decide_eq_true (show 0 < st.room by omega), decide_eq_true (show hot < p.hits by omega)]
                rfl
          clear hs
          by_cases c1 : st.room ≤ 0
          · go_wp2_with fail
            exact ⟨⟨i + 1, cv1, st, hlt, by go_num, rfl, by rw [HSTEP.out, if_neg HS.out], HP3.out.below HB4.out, row_belowZ HO3.out HB4.out, HT3.out.trans (Touch.of_below' HB4.out) (fun x _ hd => hd), HF3.out, hgn, by omega, by omega, hr2⟩, measZ hlt⟩
          by_cases c2 : p.fr = false
          · rw [c2] at y11
            clear hs2
            go_wp2_with fail
            exact ⟨⟨i + 1, cv1, st, hlt, by go_num, rfl, by rw [HSTEP.out, if_neg HS.out], HP3.out.below HB4.out, row_belowZ HO3.out HB4.out, HT3.out.trans (Touch.of_below' HB4.out) (fun x _ hd => hd), HF3.out, hgn, by omega, by omega, hr2⟩, measZ hlt⟩
          have c2 : p.fr = true := by simpa using c2
          rw [c2] at y11
          by_cases c3 : p.hits ≤ hot
          · clear hs2
            go_wp2_with fail
            exact ⟨⟨i + 1, cv1, st, hlt, by go_num, rfl, by rw [HSTEP.out, if_neg HS.out], HP3.out.below HB4.out, row_belowZ HO3.out HB4.out, HT3.out.trans (Touch.of_below' HB4.out) (fun x _ hd => hd), HF3.out, hgn, by omega, by omega, hr2⟩, measZ hlt⟩
          have c4 : cutsB p = false := by
            rcases hs2 with h | h | h | h
            · omega
            · rw [c2] at h; cases h
            · omega
            · exact h
          clear hs2
          go_wp2_with fail
          exact ⟨⟨i + 1, cv1, st, hlt, by go_num, rfl, by rw [HSTEP.out, if_neg HS.out], HP3.out.below HB4.out, row_belowZ HO3.out HB4.out, HT3.out.trans (Touch.of_below' HB4.out) (fun x _ hd => hd), HF3.out, hgn, by omega, by omega, hr2⟩, measZ hlt⟩
        have HS := Lib.hid hs
        have hs2 := hs
        unfold splitOk at hs2
        simp only [Bool.and_eq_true, decide_eq_true_eq] at hs2
        obtain ⟨⟨⟨c1, c2⟩, c3⟩, c4⟩ := hs2
        rw [c2] at y11
        have f11 := rowP_free (HP3.out.below HB4.out).row (k * 13 + 11)
        have hrm1 : Value.int .i64 (IntKind.i64.wrap (st.room - 1)) = .int .i64 (st.room - 1) := by congr 1; rw [IntKind.wrap_i64]; omega
        clear hs
        go_upto_region 8 with fail
        obtain ⟨V8, hV8⟩ : ∃ V, V = wc.setCell ⟨gz, k * 13 + 11, none⟩ (.bool false) := ⟨_, rfl⟩
        rw [← hV8]
        have hP8 : PlH V8 B b (.slice (some ⟨gz, 0, none⟩) ps.length c) hv cv1 (st.ps.set k (taken p)) st.cs := by
          rw [hV8]
          exact (HP3.out.below HB4.out).setcell hkl2 (k := 11) (by decide) (by rw [← HPP.out]; rfl)
        have hT8 : Touch (Fp b (.slice (some ⟨gz, 0, none⟩) ps.length c) cv1) wr V8 := by
          rw [hV8]
          exact (Touch.of_below' HB4.out).set (fun _ => .inr (.inl rfl))
        have hkl3 : k < (st.ps.set k (taken p)).length := by simpa using hkl2
        obtain ⟨d0, d1, d2, d3, d4, d5, d6, d7, d8, d9, d10, d11, d12⟩ := rowP_at2 hP8.row hkl3
        rw [List.getElem_set_self] at d0 d10
        change V8.cell? ⟨gz, k * 13, none⟩ = some (.int .i64 p.z.id) at d0
        change V8.cell? ⟨gz, k * 13 + 10, none⟩ = some (.string p.mid) at d10
        have k0 := hP8.blk.cell 2
        simp only [List.getElem?_toArray, List.getElem?_cons_succ, List.getElem?_cons_zero] at k0
        obtain ⟨n, hn⟩ : ∃ n, n = st.cs.length := ⟨_, rfl⟩
        have HO := Lib.hid hP8.crow
        rw [← hn] at HO
        have HW := Lib.hid hP8.blk
        have hfarv := hP8.ca
        have hbl8 := hP8.blk.low
        have hbase : B ≤ V8.heap.size := by have := hP8.low; have := hP8.blk.low; omega
        have hn10 : n ≤ 10000 := by omega
        have HP8 := Lib.hid hP8
        have HT8 := Lib.hid hT8
        clear hV8 hP8 hT8 y9 y11 f11 d1 d2 d3 d4 d5 d6 d7 d8 d9 d11 d12
        refine wp_region_held_drew (S := (fun _ => True)) (by kernel_rfl) trivial (fun hHeld => ?_)
        refine wpAnyH_take (i := 0) (oi := ⟨some 66, _, _, _, _, _⟩) (v := ?v0B_1) rfl (by kernel_rfl) (by kernel_rfl) (by kernel_rfl) (fun _ _ _ h => h) (Or.inl ⟨by rfl, ?y0B_1⟩) (by assumption) ?r0B_1
        case y0B_1 => (intro w hSw; (try dsimp only at hSw); (try go_split_ands); go_simp); (try with_reducible rfl)
        case r0B_1 =>
        (try simp only [Act.put, List.setIfInBounds_toArray, List.set_cons_zero, List.set_cons_succ])
        refine wpAnyH_take (i := 1) (oi := ⟨some 67, _, _, _, _, _⟩) (v := ?v1B_4) rfl (by kernel_rfl) (by kernel_rfl) (by kernel_rfl) (fun _ _ _ h => h) (Or.inl ⟨by rfl, ?y1B_4⟩) (by assumption) ?r1B_4
        case y1B_4 => (intro w hSw; (try dsimp only at hSw); (try go_split_ands); go_simp); (try with_reducible rfl)
        case r1B_4 =>
        (try simp only [Act.put, List.setIfInBounds_toArray, List.set_cons_zero, List.set_cons_succ])
        refine wpAnyH_take (i := 2) (oi := ⟨some 68, _, _, _, _, _⟩) (v := ?v2B_7) rfl (by kernel_rfl) (by kernel_rfl) (by kernel_rfl) (fun _ _ _ h => h) (Or.inl ⟨by rfl, ?y2B_7⟩) (by assumption) ?r2B_7
        case y2B_7 => (intro w hSw; (try dsimp only at hSw); (try go_split_ands); go_simp); (try with_reducible rfl)
        case r2B_7 =>
        (try simp only [Act.put, List.setIfInBounds_toArray, List.set_cons_zero, List.set_cons_succ])
        refine wpAnyH_take (i := 3) (oi := ⟨some 69, _, _, _, _, _⟩) (v := ?v3B_10) rfl (by kernel_rfl) (by kernel_rfl) (by kernel_rfl) (fun _ _ _ h => h) (Or.inl ⟨by rfl, ?y3B_10⟩) (by assumption) ?r3B_10
        case y3B_10 => (intro w hSw; (try dsimp only at hSw); (try go_split_ands); go_simp); (try with_reducible rfl)
        case r3B_10 =>
        (try simp only [Act.put, List.setIfInBounds_toArray, List.set_cons_zero, List.set_cons_succ])
        refine wpAnyH_take (i := 5) (oi := ⟨some 71, _, _, _, _, _⟩) (v := ?v5B_13) rfl (by kernel_rfl) (by kernel_rfl) (by kernel_rfl) (fun _ _ _ h => h) (Or.inl ⟨by rfl, ?y5B_13⟩) (by assumption) ?r5B_13
        case y5B_13 => (intro w hSw; (try dsimp only at hSw); (try go_split_ands); go_simp); (try with_reducible rfl)
        case r5B_13 =>
        (try simp only [Act.put, List.setIfInBounds_toArray, List.set_cons_zero, List.set_cons_succ])
        refine wpAnyH_take (i := 6) (oi := ⟨some 72, _, _, _, _, _⟩) (v := ?v6B_16) rfl (by kernel_rfl) (by kernel_rfl) (by kernel_rfl) (fun _ _ _ h => h) (Or.inl ⟨by rfl, ?y6B_16⟩) (by assumption) ?r6B_16
        case y6B_16 => (intro w hSw; (try dsimp only at hSw); (try go_split_ands); go_simp); (try with_reducible rfl)
        case r6B_16 =>
        (try simp only [Act.put, List.setIfInBounds_toArray, List.set_cons_zero, List.set_cons_succ])
        refine wpAnyH_take (i := 7) (oi := ⟨some 73, _, _, _, _, _⟩) (v := ?v7B_19) rfl (by kernel_rfl) (by kernel_rfl) (by kernel_rfl) (fun _ _ _ h => h) (Or.inl ⟨by rfl, ?y7B_19⟩) (by assumption) ?r7B_19
        case y7B_19 => (intro w hSw; (try dsimp only at hSw); (try go_split_ands); go_simp); (try with_reducible rfl)
        case r7B_19 =>
        (try simp only [Act.put, List.setIfInBounds_toArray, List.set_cons_zero, List.set_cons_succ])
        refine wpAnyH_take (i := 8) (oi := ⟨some 74, _, _, _, _, _⟩) (v := ?v8B_22) rfl (by kernel_rfl) (by kernel_rfl) (by kernel_rfl) (fun _ _ _ h => h) (Or.inl ⟨by rfl, ?y8B_22⟩) (by assumption) ?r8B_22
        case y8B_22 => (intro w hSw; (try dsimp only at hSw); (try go_split_ands); go_simp); (try with_reducible rfl)
        case r8B_22 =>
        (try simp only [Act.put, List.setIfInBounds_toArray, List.set_cons_zero, List.set_cons_succ])
        refine wpAnyH_take (i := 10) (oi := ⟨some 76, _, _, _, _, _⟩) (v := ?v10B_25) rfl (by kernel_rfl) (by kernel_rfl) (by kernel_rfl) (fun _ _ _ h => h) (Or.inl ⟨by rfl, ?y10B_25⟩) (by assumption) ?r10B_25
        case y10B_25 => (intro w hSw; (try dsimp only at hSw); (try go_split_ands); go_simp); (try with_reducible rfl)
        case r10B_25 =>
        (try simp only [Act.put, List.setIfInBounds_toArray, List.set_cons_zero, List.set_cons_succ])
        refine wpAnyH_take (i := 11) (oi := ⟨some 77, _, _, _, _, _⟩) (v := ?v11B_28) rfl (by kernel_rfl) (by kernel_rfl) (by kernel_rfl) (fun _ _ _ h => h) (Or.inl ⟨by rfl, ?y11B_28⟩) (by assumption) ?r11B_28
        case y11B_28 => (intro w hSw; (try dsimp only at hSw); (try go_split_ands); go_simp); (try with_reducible rfl)
        case r11B_28 =>
        (try simp only [Act.put, List.setIfInBounds_toArray, List.set_cons_zero, List.set_cons_succ])
        refine wpAnyH_take (i := 12) (oi := ⟨some 78, _, _, _, _, _⟩) (v := ?v12B_31) rfl (by kernel_rfl) (by kernel_rfl) (by kernel_rfl) (fun _ _ _ h => h) (Or.inl ⟨by rfl, ?y12B_31⟩) (by assumption) ?r12B_31
        case y12B_31 => (intro w hSw; (try dsimp only at hSw); (try go_split_ands); go_simp); (try with_reducible rfl)
        case r12B_31 =>
        (try simp only [Act.put, List.setIfInBounds_toArray, List.set_cons_zero, List.set_cons_succ])
        refine wpAnyH_ready (rs := [4, 9, 13]) (by kernel_rfl) (by simp) ?_
        refine AllReadyH.cons (o := ⟨some 70, _, _, _, _, _⟩) rfl (fun K hK => ?_) (AllReadyH.cons (o := ⟨some 75, _, _, _, _, _⟩) rfl (fun K hK => ?_) (AllReadyH.cons (o := ⟨some 79, _, _, _, _, _⟩) rfl (fun K hK => ?_) AllReadyH.nil))
        · have k9 : V8.drew.cell? ⟨b, 2, none⟩ = some cv1 := k0
          go_simp
          refine hK.out _ _ trivial (fun hHeld => ?_)
          clear hK K
          (try simp only [Act.put, List.setIfInBounds_toArray, List.set_cons_zero, List.set_cons_succ])
          refine wpAnyH_ready (rs := [9, 13]) (by kernel_rfl) (by simp) ?_
          refine AllReadyH.cons (o := ⟨some 75, _, _, _, _, _⟩) rfl (fun K hK => ?_) (AllReadyH.cons (o := ⟨some 79, _, _, _, _, _⟩) rfl (fun K hK => ?_) AllReadyH.nil)
          · have e0 : V8.drew.cell? ⟨gz, k * 13, none⟩ = _ := d0
            go_simp
            refine hK.out _ _ trivial (fun hHeld => ?_)
            clear hK K
            (try simp only [Act.put, List.setIfInBounds_toArray, List.set_cons_zero, List.set_cons_succ])
            refine wpAnyH_ready (rs := [13]) (by kernel_rfl) (by simp) ?_
            refine AllReadyH.cons (o := ⟨some 79, _, _, _, _, _⟩) rfl (fun K hK => ?_) AllReadyH.nil
            have e0 : V8.drew.cell? ⟨gz, k * 13 + 10, none⟩ = _ := d10
            go_simp
            refine hK.out _ _ trivial (fun hHeld => ?_)
            clear hK K
            (try simp only [Act.put, List.setIfInBounds_toArray, List.set_cons_zero, List.set_cons_succ])
            refine wpAnyH_take (i := 14) (oi := ⟨some 80, _, _, _, _, _⟩) (v := ?v14B_55) rfl (by kernel_rfl) (by kernel_rfl) (by kernel_rfl) (fun _ _ _ h => h) (Or.inl ⟨by rfl, ?y14B_55⟩) (by assumption) ?r14B_55
            case y14B_55 => (intro w hSw; (try dsimp only at hSw); (try go_split_ands); go_simp); (try with_reducible rfl)
            case r14B_55 =>
            (try simp only [Act.put, List.setIfInBounds_toArray, List.set_cons_zero, List.set_cons_succ])
            refine wpAnyH_ready (rs := [15]) (by kernel_rfl) (by simp) ?_
            refine AllReadyH.cons (o := ⟨some 81, _, _, _, _, _⟩) rfl (fun K hK => ?_) AllReadyH.nil
            go_simp
            have hb3 : Below V8.heap.size V8 (V8.drew.alloc (.cells #[.int .i64 1, .int .i64 p.z.id, .int .i64 0, .int .i64 0, .string p.mid] 58)) := (Below.refl _ _).drew.alloc (Nat.le_refl _) _
            have hbase6 : B ≤ (V8.drew.alloc (.cells #[.int .i64 1, .int .i64 p.z.id, .int .i64 0, .int .i64 0, .string p.mid] 58)).heap.size := by simp; omega
            have ho3 : (V8.drew.alloc (.cells #[.int .i64 1, .int .i64 p.z.id, .int .i64 0, .int .i64 0, .string p.mid] 58)).ownsRow B 58 5 cv1 n (st.cs.flatMap chV) := (Touch.of_below hb3).own HO.out (fun g hg hd => by have := (HO.out.lt g hg).2; omega)
            refine hK.out _ _ trivial (fun hHeld => ?_)
            clear hK K
            (try simp only [Act.put, List.setIfInBounds_toArray, List.set_cons_zero, List.set_cons_succ])
            refine wpAnyH_ready (rs := [16]) (by kernel_rfl) (by simp) ?_
            refine AllReadyH.cons (o := ⟨some 82, _, _, _, _, _⟩) rfl (fun K hK => ?_) AllReadyH.nil
            refine step_append_cells rfl (.tmp 70) (.tmp 81) 31 rfl B 58 i0 (.agg #[.int .i64 0, .int .i64 0, .int .i64 0, .int .i64 0, .string ⟨#[]⟩]) 5 48 Tryz.underlying31 hi hz0 hz1 hz2 rfl (by decide) (cv1) n (st.cs.flatMap chV) rfl ho3 _ _ 1 1 [.int .i64 1, .int .i64 p.z.id, .int .i64 0, .int .i64 0, .string p.mid] rfl (cells_new (w := V8.drew) (e := 58) rfl rfl) (chV_one ⟨1, p.z.id, 0, 0, p.mid⟩) (by unfold maxLen; omega) (by omega) hbase6 ?_
            intro v5 w5 hown5 ht5 hb5
            have hT5 : Touch (fun x => (cv1).ownBlock = some x) V8 w5 := ((Touch.refl _ _).trans (Touch.of_below hb3) (fun x hx hd => absurd hd (by omega))).trans ht5 (fun x _ hx => hx)
            have hs5 := hT5.size
            have hW5 : Whl w5 (b) 52 #[.slice (some ⟨gz, 0, none⟩) ps.length c, hv, cv1] := (hT5.block (b) HW.out.low (fun e => hfarv e)).trans HW.out
            have hb5' : v5.ownBlock = (cv1).ownBlock ∨ v5.ownBlock = some (V8.heap.size + 1) := by simpa using hb5
            clear hb5
            obtain ⟨g5, c5, rfl, _, _, _, _⟩ := own_form hown5 (Nat.succ_pos _)
            have HO5 := Lib.hid hown5
            have HT5 := Lib.hid hT5
            have HW5 := Lib.hid hW5
            
            clear hown5 ht5 hT5 hW5
            refine hK.out _ _ trivial (fun hHeld => ?_)
            clear hK K
            (try simp only [Act.put, List.setIfInBounds_toArray, List.set_cons_zero, List.set_cons_succ])
            refine wpAnyH_take (i := 17) (oi := ⟨some 83, _, _, _, _, _⟩) (v := ?v17B_85) rfl (by kernel_rfl) (by kernel_rfl) (by kernel_rfl) (fun _ _ _ h => h) (Or.inl ⟨by rfl, ?y17B_85⟩) (by assumption) ?r17B_85
            case y17B_85 => (intro w hSw; (try dsimp only at hSw); (try go_split_ands); go_simp); (try with_reducible rfl)
            case r17B_85 =>
            (try simp only [Act.put, List.setIfInBounds_toArray, List.set_cons_zero, List.set_cons_succ])
            refine wpAnyH_take (i := 18) (oi := ⟨some 84, _, _, _, _, _⟩) (v := ?v18B_88) rfl (by kernel_rfl) (by kernel_rfl) (by kernel_rfl) (fun _ _ _ h => h) (Or.inl ⟨by rfl, ?y18B_88⟩) (by assumption) ?r18B_88
            case y18B_88 => (intro w hSw; (try dsimp only at hSw); (try go_split_ands); go_simp); (try with_reducible rfl)
            case r18B_88 =>
            (try simp only [Act.put, List.setIfInBounds_toArray, List.set_cons_zero, List.set_cons_succ])
            refine wpAnyH_ready (rs := [19]) (by kernel_rfl) (by simp) ?_
            refine AllReadyH.cons (o := ⟨none, _, _, _, _, _⟩) rfl (fun K hK => ?_) AllReadyH.nil
            have k7 : w5.cell? ⟨b, 2, none⟩ = some (cv1) := (HW5.out.cell 2).trans rfl
            have f7 := HW5.out.free 2
            go_simp
            refine hK.out _ _ trivial (fun hHeld => ?_)
            clear hK K
            (try simp only [Act.put, List.setIfInBounds_toArray, List.set_cons_zero, List.set_cons_succ])
            refine wpAnyH_done (by kernel_rfl) ?_ _
            go_wp2_with fail
            subst hn
            obtain ⟨hF, hTF, hFF⟩ := HP8.out.pushedC (c := ⟨1, p.z.id, 0, 0, p.mid⟩) HO5.out rfl HT5.out (hb5'.imp_right fun e => ⟨_, e, Nat.le_succ _⟩)
            have hTT := HT8.out.trans hTF (fun x _ hx => hx)
            have hs8 := HT8.out.size
            refine ⟨⟨i + 1, _, ⟨st.ps.set k (taken p), st.cs ++ [⟨1, p.z.id, 0, 0, p.mid⟩], st.room - 1⟩, hlt, by go_num, rfl, ?_, hF, hTT.own HO3.out (fun q hq hx => by injection hq with hq; subst hq; exact hgn hx), HT3.out.trans hTT (fun x hx hd => (HF3.out x hd).elim (fun h => h) (fun h => by omega)), ?_, ?_, ?_, ?_, ?_⟩, measZ hlt⟩
            · rw [HSTEP.out, if_pos HS.out]
            · exact fun x hx => (hFF x hx).elim (fun h => HF3.out x h) (fun h => .inr (by omega))
            · exact fun hx => (hFF gv hx).elim hgn (fun h => by have := (HO3.out.lt gv rfl).2; omega)
            · show (st.cs ++ [_]).length ≤ _; rw [List.length_append, List.length_singleton]; omega
            · show -40 ≤ st.room - 1 - ((ps.length : Int) - ((i + 1 : Nat) : Int)); omega
            · show st.room - 1 ≤ 20; omega
          · have e0 : V8.drew.cell? ⟨gz, k * 13 + 10, none⟩ = _ := d10
            go_simp
            refine hK.out _ _ trivial (fun hHeld => ?_)
            clear hK K
            (try simp only [Act.put, List.setIfInBounds_toArray, List.set_cons_zero, List.set_cons_succ])
            refine wpAnyH_ready (rs := [9]) (by kernel_rfl) (by simp) ?_
            refine AllReadyH.cons (o := ⟨some 75, _, _, _, _, _⟩) rfl (fun K hK => ?_) AllReadyH.nil
            have e0 : V8.drew.cell? ⟨gz, k * 13, none⟩ = _ := d0
            go_simp
            refine hK.out _ _ trivial (fun hHeld => ?_)
            clear hK K
            (try simp only [Act.put, List.setIfInBounds_toArray, List.set_cons_zero, List.set_cons_succ])
            refine wpAnyH_take (i := 14) (oi := ⟨some 80, _, _, _, _, _⟩) (v := ?v14B_124) rfl (by kernel_rfl) (by kernel_rfl) (by kernel_rfl) (fun _ _ _ h => h) (Or.inl ⟨by rfl, ?y14B_124⟩) (by assumption) ?r14B_124
            case y14B_124 => (intro w hSw; (try dsimp only at hSw); (try go_split_ands); go_simp); (try with_reducible rfl)
            case r14B_124 =>
            (try simp only [Act.put, List.setIfInBounds_toArray, List.set_cons_zero, List.set_cons_succ])
            refine wpAnyH_ready (rs := [15]) (by kernel_rfl) (by simp) ?_
            refine AllReadyH.cons (o := ⟨some 81, _, _, _, _, _⟩) rfl (fun K hK => ?_) AllReadyH.nil
            go_simp
            have hb3 : Below V8.heap.size V8 (V8.drew.alloc (.cells #[.int .i64 1, .int .i64 p.z.id, .int .i64 0, .int .i64 0, .string p.mid] 58)) := (Below.refl _ _).drew.alloc (Nat.le_refl _) _
            have hbase6 : B ≤ (V8.drew.alloc (.cells #[.int .i64 1, .int .i64 p.z.id, .int .i64 0, .int .i64 0, .string p.mid] 58)).heap.size := by simp; omega
            have ho3 : (V8.drew.alloc (.cells #[.int .i64 1, .int .i64 p.z.id, .int .i64 0, .int .i64 0, .string p.mid] 58)).ownsRow B 58 5 cv1 n (st.cs.flatMap chV) := (Touch.of_below hb3).own HO.out (fun g hg hd => by have := (HO.out.lt g hg).2; omega)
            refine hK.out _ _ trivial (fun hHeld => ?_)
            clear hK K
            (try simp only [Act.put, List.setIfInBounds_toArray, List.set_cons_zero, List.set_cons_succ])
            refine wpAnyH_ready (rs := [16]) (by kernel_rfl) (by simp) ?_
            refine AllReadyH.cons (o := ⟨some 82, _, _, _, _, _⟩) rfl (fun K hK => ?_) AllReadyH.nil
            refine step_append_cells rfl (.tmp 70) (.tmp 81) 31 rfl B 58 i0 (.agg #[.int .i64 0, .int .i64 0, .int .i64 0, .int .i64 0, .string ⟨#[]⟩]) 5 48 Tryz.underlying31 hi hz0 hz1 hz2 rfl (by decide) (cv1) n (st.cs.flatMap chV) rfl ho3 _ _ 1 1 [.int .i64 1, .int .i64 p.z.id, .int .i64 0, .int .i64 0, .string p.mid] rfl (cells_new (w := V8.drew) (e := 58) rfl rfl) (chV_one ⟨1, p.z.id, 0, 0, p.mid⟩) (by unfold maxLen; omega) (by omega) hbase6 ?_
            intro v5 w5 hown5 ht5 hb5
            have hT5 : Touch (fun x => (cv1).ownBlock = some x) V8 w5 := ((Touch.refl _ _).trans (Touch.of_below hb3) (fun x hx hd => absurd hd (by omega))).trans ht5 (fun x _ hx => hx)
            have hs5 := hT5.size
            have hW5 : Whl w5 (b) 52 #[.slice (some ⟨gz, 0, none⟩) ps.length c, hv, cv1] := (hT5.block (b) HW.out.low (fun e => hfarv e)).trans HW.out
            have hb5' : v5.ownBlock = (cv1).ownBlock ∨ v5.ownBlock = some (V8.heap.size + 1) := by simpa using hb5
            clear hb5
            obtain ⟨g5, c5, rfl, _, _, _, _⟩ := own_form hown5 (Nat.succ_pos _)
            have HO5 := Lib.hid hown5
            have HT5 := Lib.hid hT5
            have HW5 := Lib.hid hW5
            
            clear hown5 ht5 hT5 hW5
            refine hK.out _ _ trivial (fun hHeld => ?_)
            clear hK K
            (try simp only [Act.put, List.setIfInBounds_toArray, List.set_cons_zero, List.set_cons_succ])
            refine wpAnyH_take (i := 17) (oi := ⟨some 83, _, _, _, _, _⟩) (v := ?v17B_154) rfl (by kernel_rfl) (by kernel_rfl) (by kernel_rfl) (fun _ _ _ h => h) (Or.inl ⟨by rfl, ?y17B_154⟩) (by assumption) ?r17B_154
            case y17B_154 => (intro w hSw; (try dsimp only at hSw); (try go_split_ands); go_simp); (try with_reducible rfl)
            case r17B_154 =>
            (try simp only [Act.put, List.setIfInBounds_toArray, List.set_cons_zero, List.set_cons_succ])
            refine wpAnyH_take (i := 18) (oi := ⟨some 84, _, _, _, _, _⟩) (v := ?v18B_157) rfl (by kernel_rfl) (by kernel_rfl) (by kernel_rfl) (fun _ _ _ h => h) (Or.inl ⟨by rfl, ?y18B_157⟩) (by assumption) ?r18B_157
            case y18B_157 => (intro w hSw; (try dsimp only at hSw); (try go_split_ands); go_simp); (try with_reducible rfl)
            case r18B_157 =>
            (try simp only [Act.put, List.setIfInBounds_toArray, List.set_cons_zero, List.set_cons_succ])
            refine wpAnyH_ready (rs := [19]) (by kernel_rfl) (by simp) ?_
            refine AllReadyH.cons (o := ⟨none, _, _, _, _, _⟩) rfl (fun K hK => ?_) AllReadyH.nil
            have k7 : w5.cell? ⟨b, 2, none⟩ = some (cv1) := (HW5.out.cell 2).trans rfl
            have f7 := HW5.out.free 2
            go_simp
            refine hK.out _ _ trivial (fun hHeld => ?_)
            clear hK K
            (try simp only [Act.put, List.setIfInBounds_toArray, List.set_cons_zero, List.set_cons_succ])
            refine wpAnyH_done (by kernel_rfl) ?_ _
            go_wp2_with fail
            subst hn
            obtain ⟨hF, hTF, hFF⟩ := HP8.out.pushedC (c := ⟨1, p.z.id, 0, 0, p.mid⟩) HO5.out rfl HT5.out (hb5'.imp_right fun e => ⟨_, e, Nat.le_succ _⟩)
            have hTT := HT8.out.trans hTF (fun x _ hx => hx)
            have hs8 := HT8.out.size
            refine ⟨⟨i + 1, _, ⟨st.ps.set k (taken p), st.cs ++ [⟨1, p.z.id, 0, 0, p.mid⟩], st.room - 1⟩, hlt, by go_num, rfl, ?_, hF, hTT.own HO3.out (fun q hq hx => by injection hq with hq; subst hq; exact hgn hx), HT3.out.trans hTT (fun x hx hd => (HF3.out x hd).elim (fun h => h) (fun h => by omega)), ?_, ?_, ?_, ?_, ?_⟩, measZ hlt⟩
            · rw [HSTEP.out, if_pos HS.out]
            · exact fun x hx => (hFF x hx).elim (fun h => HF3.out x h) (fun h => .inr (by omega))
            · exact fun hx => (hFF gv hx).elim hgn (fun h => by have := (HO3.out.lt gv rfl).2; omega)
            · show (st.cs ++ [_]).length ≤ _; rw [List.length_append, List.length_singleton]; omega
            · show -40 ≤ st.room - 1 - ((ps.length : Int) - ((i + 1 : Nat) : Int)); omega
            · show st.room - 1 ≤ 20; omega
        · have e0 : V8.drew.cell? ⟨gz, k * 13, none⟩ = _ := d0
          go_simp
          refine hK.out _ _ trivial (fun hHeld => ?_)
          clear hK K
          (try simp only [Act.put, List.setIfInBounds_toArray, List.set_cons_zero, List.set_cons_succ])
          refine wpAnyH_ready (rs := [4, 13]) (by kernel_rfl) (by simp) ?_
          refine AllReadyH.cons (o := ⟨some 70, _, _, _, _, _⟩) rfl (fun K hK => ?_) (AllReadyH.cons (o := ⟨some 79, _, _, _, _, _⟩) rfl (fun K hK => ?_) AllReadyH.nil)
          · have k9 : V8.drew.cell? ⟨b, 2, none⟩ = some cv1 := k0
            go_simp
            refine hK.out _ _ trivial (fun hHeld => ?_)
            clear hK K
            (try simp only [Act.put, List.setIfInBounds_toArray, List.set_cons_zero, List.set_cons_succ])
            refine wpAnyH_ready (rs := [13]) (by kernel_rfl) (by simp) ?_
            refine AllReadyH.cons (o := ⟨some 79, _, _, _, _, _⟩) rfl (fun K hK => ?_) AllReadyH.nil
            have e0 : V8.drew.cell? ⟨gz, k * 13 + 10, none⟩ = _ := d10
            go_simp
            refine hK.out _ _ trivial (fun hHeld => ?_)
            clear hK K
            (try simp only [Act.put, List.setIfInBounds_toArray, List.set_cons_zero, List.set_cons_succ])
            refine wpAnyH_take (i := 14) (oi := ⟨some 80, _, _, _, _, _⟩) (v := ?v14B_200) rfl (by kernel_rfl) (by kernel_rfl) (by kernel_rfl) (fun _ _ _ h => h) (Or.inl ⟨by rfl, ?y14B_200⟩) (by assumption) ?r14B_200
            case y14B_200 => (intro w hSw; (try dsimp only at hSw); (try go_split_ands); go_simp); (try with_reducible rfl)
            case r14B_200 =>
            (try simp only [Act.put, List.setIfInBounds_toArray, List.set_cons_zero, List.set_cons_succ])
            refine wpAnyH_ready (rs := [15]) (by kernel_rfl) (by simp) ?_
            refine AllReadyH.cons (o := ⟨some 81, _, _, _, _, _⟩) rfl (fun K hK => ?_) AllReadyH.nil
            go_simp
            have hb3 : Below V8.heap.size V8 (V8.drew.alloc (.cells #[.int .i64 1, .int .i64 p.z.id, .int .i64 0, .int .i64 0, .string p.mid] 58)) := (Below.refl _ _).drew.alloc (Nat.le_refl _) _
            have hbase6 : B ≤ (V8.drew.alloc (.cells #[.int .i64 1, .int .i64 p.z.id, .int .i64 0, .int .i64 0, .string p.mid] 58)).heap.size := by simp; omega
            have ho3 : (V8.drew.alloc (.cells #[.int .i64 1, .int .i64 p.z.id, .int .i64 0, .int .i64 0, .string p.mid] 58)).ownsRow B 58 5 cv1 n (st.cs.flatMap chV) := (Touch.of_below hb3).own HO.out (fun g hg hd => by have := (HO.out.lt g hg).2; omega)
            refine hK.out _ _ trivial (fun hHeld => ?_)
            clear hK K
            (try simp only [Act.put, List.setIfInBounds_toArray, List.set_cons_zero, List.set_cons_succ])
            refine wpAnyH_ready (rs := [16]) (by kernel_rfl) (by simp) ?_
            refine AllReadyH.cons (o := ⟨some 82, _, _, _, _, _⟩) rfl (fun K hK => ?_) AllReadyH.nil
            refine step_append_cells rfl (.tmp 70) (.tmp 81) 31 rfl B 58 i0 (.agg #[.int .i64 0, .int .i64 0, .int .i64 0, .int .i64 0, .string ⟨#[]⟩]) 5 48 Tryz.underlying31 hi hz0 hz1 hz2 rfl (by decide) (cv1) n (st.cs.flatMap chV) rfl ho3 _ _ 1 1 [.int .i64 1, .int .i64 p.z.id, .int .i64 0, .int .i64 0, .string p.mid] rfl (cells_new (w := V8.drew) (e := 58) rfl rfl) (chV_one ⟨1, p.z.id, 0, 0, p.mid⟩) (by unfold maxLen; omega) (by omega) hbase6 ?_
            intro v5 w5 hown5 ht5 hb5
            have hT5 : Touch (fun x => (cv1).ownBlock = some x) V8 w5 := ((Touch.refl _ _).trans (Touch.of_below hb3) (fun x hx hd => absurd hd (by omega))).trans ht5 (fun x _ hx => hx)
            have hs5 := hT5.size
            have hW5 : Whl w5 (b) 52 #[.slice (some ⟨gz, 0, none⟩) ps.length c, hv, cv1] := (hT5.block (b) HW.out.low (fun e => hfarv e)).trans HW.out
            have hb5' : v5.ownBlock = (cv1).ownBlock ∨ v5.ownBlock = some (V8.heap.size + 1) := by simpa using hb5
            clear hb5
            obtain ⟨g5, c5, rfl, _, _, _, _⟩ := own_form hown5 (Nat.succ_pos _)
            have HO5 := Lib.hid hown5
            have HT5 := Lib.hid hT5
            have HW5 := Lib.hid hW5
            
            clear hown5 ht5 hT5 hW5
            refine hK.out _ _ trivial (fun hHeld => ?_)
            clear hK K
            (try simp only [Act.put, List.setIfInBounds_toArray, List.set_cons_zero, List.set_cons_succ])
            refine wpAnyH_take (i := 17) (oi := ⟨some 83, _, _, _, _, _⟩) (v := ?v17B_230) rfl (by kernel_rfl) (by kernel_rfl) (by kernel_rfl) (fun _ _ _ h => h) (Or.inl ⟨by rfl, ?y17B_230⟩) (by assumption) ?r17B_230
            case y17B_230 => (intro w hSw; (try dsimp only at hSw); (try go_split_ands); go_simp); (try with_reducible rfl)
            case r17B_230 =>
            (try simp only [Act.put, List.setIfInBounds_toArray, List.set_cons_zero, List.set_cons_succ])
            refine wpAnyH_take (i := 18) (oi := ⟨some 84, _, _, _, _, _⟩) (v := ?v18B_233) rfl (by kernel_rfl) (by kernel_rfl) (by kernel_rfl) (fun _ _ _ h => h) (Or.inl ⟨by rfl, ?y18B_233⟩) (by assumption) ?r18B_233
            case y18B_233 => (intro w hSw; (try dsimp only at hSw); (try go_split_ands); go_simp); (try with_reducible rfl)
            case r18B_233 =>
            (try simp only [Act.put, List.setIfInBounds_toArray, List.set_cons_zero, List.set_cons_succ])
            refine wpAnyH_ready (rs := [19]) (by kernel_rfl) (by simp) ?_
            refine AllReadyH.cons (o := ⟨none, _, _, _, _, _⟩) rfl (fun K hK => ?_) AllReadyH.nil
            have k7 : w5.cell? ⟨b, 2, none⟩ = some (cv1) := (HW5.out.cell 2).trans rfl
            have f7 := HW5.out.free 2
            go_simp
            refine hK.out _ _ trivial (fun hHeld => ?_)
            clear hK K
            (try simp only [Act.put, List.setIfInBounds_toArray, List.set_cons_zero, List.set_cons_succ])
            refine wpAnyH_done (by kernel_rfl) ?_ _
            go_wp2_with fail
            subst hn
            obtain ⟨hF, hTF, hFF⟩ := HP8.out.pushedC (c := ⟨1, p.z.id, 0, 0, p.mid⟩) HO5.out rfl HT5.out (hb5'.imp_right fun e => ⟨_, e, Nat.le_succ _⟩)
            have hTT := HT8.out.trans hTF (fun x _ hx => hx)
            have hs8 := HT8.out.size
            refine ⟨⟨i + 1, _, ⟨st.ps.set k (taken p), st.cs ++ [⟨1, p.z.id, 0, 0, p.mid⟩], st.room - 1⟩, hlt, by go_num, rfl, ?_, hF, hTT.own HO3.out (fun q hq hx => by injection hq with hq; subst hq; exact hgn hx), HT3.out.trans hTT (fun x hx hd => (HF3.out x hd).elim (fun h => h) (fun h => by omega)), ?_, ?_, ?_, ?_, ?_⟩, measZ hlt⟩
            · rw [HSTEP.out, if_pos HS.out]
            · exact fun x hx => (hFF x hx).elim (fun h => HF3.out x h) (fun h => .inr (by omega))
            · exact fun hx => (hFF gv hx).elim hgn (fun h => by have := (HO3.out.lt gv rfl).2; omega)
            · show (st.cs ++ [_]).length ≤ _; rw [List.length_append, List.length_singleton]; omega
            · show -40 ≤ st.room - 1 - ((ps.length : Int) - ((i + 1 : Nat) : Int)); omega
            · show st.room - 1 ≤ 20; omega
          · have e0 : V8.drew.cell? ⟨gz, k * 13 + 10, none⟩ = _ := d10
            go_simp
            refine hK.out _ _ trivial (fun hHeld => ?_)
            clear hK K
            (try simp only [Act.put, List.setIfInBounds_toArray, List.set_cons_zero, List.set_cons_succ])
            refine wpAnyH_take (i := 14) (oi := ⟨some 80, _, _, _, _, _⟩) (v := ?v14B_262) rfl (by kernel_rfl) (by kernel_rfl) (by kernel_rfl) (fun _ _ _ h => h) (Or.inl ⟨by rfl, ?y14B_262⟩) (by assumption) ?r14B_262
            case y14B_262 => (intro w hSw; (try dsimp only at hSw); (try go_split_ands); go_simp); (try with_reducible rfl)
            case r14B_262 =>
            (try simp only [Act.put, List.setIfInBounds_toArray, List.set_cons_zero, List.set_cons_succ])
            refine wpAnyH_ready (rs := [4, 15]) (by kernel_rfl) (by simp) ?_
            refine AllReadyH.cons (o := ⟨some 70, _, _, _, _, _⟩) rfl (fun K hK => ?_) (AllReadyH.cons (o := ⟨some 81, _, _, _, _, _⟩) rfl (fun K hK => ?_) AllReadyH.nil)
            · have k9 : V8.drew.cell? ⟨b, 2, none⟩ = some cv1 := k0
              go_simp
              refine hK.out _ _ trivial (fun hHeld => ?_)
              clear hK K
              (try simp only [Act.put, List.setIfInBounds_toArray, List.set_cons_zero, List.set_cons_succ])
              refine wpAnyH_ready (rs := [15]) (by kernel_rfl) (by simp) ?_
              refine AllReadyH.cons (o := ⟨some 81, _, _, _, _, _⟩) rfl (fun K hK => ?_) AllReadyH.nil
              go_simp
              have hb3 : Below V8.heap.size V8 (V8.drew.alloc (.cells #[.int .i64 1, .int .i64 p.z.id, .int .i64 0, .int .i64 0, .string p.mid] 58)) := (Below.refl _ _).drew.alloc (Nat.le_refl _) _
              have hbase6 : B ≤ (V8.drew.alloc (.cells #[.int .i64 1, .int .i64 p.z.id, .int .i64 0, .int .i64 0, .string p.mid] 58)).heap.size := by simp; omega
              have ho3 : (V8.drew.alloc (.cells #[.int .i64 1, .int .i64 p.z.id, .int .i64 0, .int .i64 0, .string p.mid] 58)).ownsRow B 58 5 cv1 n (st.cs.flatMap chV) := (Touch.of_below hb3).own HO.out (fun g hg hd => by have := (HO.out.lt g hg).2; omega)
              refine hK.out _ _ trivial (fun hHeld => ?_)
              clear hK K
              (try simp only [Act.put, List.setIfInBounds_toArray, List.set_cons_zero, List.set_cons_succ])
              refine wpAnyH_ready (rs := [16]) (by kernel_rfl) (by simp) ?_
              refine AllReadyH.cons (o := ⟨some 82, _, _, _, _, _⟩) rfl (fun K hK => ?_) AllReadyH.nil
              refine step_append_cells rfl (.tmp 70) (.tmp 81) 31 rfl B 58 i0 (.agg #[.int .i64 0, .int .i64 0, .int .i64 0, .int .i64 0, .string ⟨#[]⟩]) 5 48 Tryz.underlying31 hi hz0 hz1 hz2 rfl (by decide) (cv1) n (st.cs.flatMap chV) rfl ho3 _ _ 1 1 [.int .i64 1, .int .i64 p.z.id, .int .i64 0, .int .i64 0, .string p.mid] rfl (cells_new (w := V8.drew) (e := 58) rfl rfl) (chV_one ⟨1, p.z.id, 0, 0, p.mid⟩) (by unfold maxLen; omega) (by omega) hbase6 ?_
              intro v5 w5 hown5 ht5 hb5
              have hT5 : Touch (fun x => (cv1).ownBlock = some x) V8 w5 := ((Touch.refl _ _).trans (Touch.of_below hb3) (fun x hx hd => absurd hd (by omega))).trans ht5 (fun x _ hx => hx)
              have hs5 := hT5.size
              have hW5 : Whl w5 (b) 52 #[.slice (some ⟨gz, 0, none⟩) ps.length c, hv, cv1] := (hT5.block (b) HW.out.low (fun e => hfarv e)).trans HW.out
              have hb5' : v5.ownBlock = (cv1).ownBlock ∨ v5.ownBlock = some (V8.heap.size + 1) := by simpa using hb5
              clear hb5
              obtain ⟨g5, c5, rfl, _, _, _, _⟩ := own_form hown5 (Nat.succ_pos _)
              have HO5 := Lib.hid hown5
              have HT5 := Lib.hid hT5
              have HW5 := Lib.hid hW5
              
              clear hown5 ht5 hT5 hW5
              refine hK.out _ _ trivial (fun hHeld => ?_)
              clear hK K
              (try simp only [Act.put, List.setIfInBounds_toArray, List.set_cons_zero, List.set_cons_succ])
              refine wpAnyH_take (i := 17) (oi := ⟨some 83, _, _, _, _, _⟩) (v := ?v17B_299) rfl (by kernel_rfl) (by kernel_rfl) (by kernel_rfl) (fun _ _ _ h => h) (Or.inl ⟨by rfl, ?y17B_299⟩) (by assumption) ?r17B_299
              case y17B_299 => (intro w hSw; (try dsimp only at hSw); (try go_split_ands); go_simp); (try with_reducible rfl)
              case r17B_299 =>
              (try simp only [Act.put, List.setIfInBounds_toArray, List.set_cons_zero, List.set_cons_succ])
              refine wpAnyH_take (i := 18) (oi := ⟨some 84, _, _, _, _, _⟩) (v := ?v18B_302) rfl (by kernel_rfl) (by kernel_rfl) (by kernel_rfl) (fun _ _ _ h => h) (Or.inl ⟨by rfl, ?y18B_302⟩) (by assumption) ?r18B_302
              case y18B_302 => (intro w hSw; (try dsimp only at hSw); (try go_split_ands); go_simp); (try with_reducible rfl)
              case r18B_302 =>
              (try simp only [Act.put, List.setIfInBounds_toArray, List.set_cons_zero, List.set_cons_succ])
              refine wpAnyH_ready (rs := [19]) (by kernel_rfl) (by simp) ?_
              refine AllReadyH.cons (o := ⟨none, _, _, _, _, _⟩) rfl (fun K hK => ?_) AllReadyH.nil
              have k7 : w5.cell? ⟨b, 2, none⟩ = some (cv1) := (HW5.out.cell 2).trans rfl
              have f7 := HW5.out.free 2
              go_simp
              refine hK.out _ _ trivial (fun hHeld => ?_)
              clear hK K
              (try simp only [Act.put, List.setIfInBounds_toArray, List.set_cons_zero, List.set_cons_succ])
              refine wpAnyH_done (by kernel_rfl) ?_ _
              go_wp2_with fail
              subst hn
              obtain ⟨hF, hTF, hFF⟩ := HP8.out.pushedC (c := ⟨1, p.z.id, 0, 0, p.mid⟩) HO5.out rfl HT5.out (hb5'.imp_right fun e => ⟨_, e, Nat.le_succ _⟩)
              have hTT := HT8.out.trans hTF (fun x _ hx => hx)
              have hs8 := HT8.out.size
              refine ⟨⟨i + 1, _, ⟨st.ps.set k (taken p), st.cs ++ [⟨1, p.z.id, 0, 0, p.mid⟩], st.room - 1⟩, hlt, by go_num, rfl, ?_, hF, hTT.own HO3.out (fun q hq hx => by injection hq with hq; subst hq; exact hgn hx), HT3.out.trans hTT (fun x hx hd => (HF3.out x hd).elim (fun h => h) (fun h => by omega)), ?_, ?_, ?_, ?_, ?_⟩, measZ hlt⟩
              · rw [HSTEP.out, if_pos HS.out]
              · exact fun x hx => (hFF x hx).elim (fun h => HF3.out x h) (fun h => .inr (by omega))
              · exact fun hx => (hFF gv hx).elim hgn (fun h => by have := (HO3.out.lt gv rfl).2; omega)
              · show (st.cs ++ [_]).length ≤ _; rw [List.length_append, List.length_singleton]; omega
              · show -40 ≤ st.room - 1 - ((ps.length : Int) - ((i + 1 : Nat) : Int)); omega
              · show st.room - 1 ≤ 20; omega
            · go_simp
              have hb3 : Below V8.heap.size V8 (V8.drew.alloc (.cells #[.int .i64 1, .int .i64 p.z.id, .int .i64 0, .int .i64 0, .string p.mid] 58)) := (Below.refl _ _).drew.alloc (Nat.le_refl _) _
              have hbase6 : B ≤ (V8.drew.alloc (.cells #[.int .i64 1, .int .i64 p.z.id, .int .i64 0, .int .i64 0, .string p.mid] 58)).heap.size := by simp; omega
              have ho3 : (V8.drew.alloc (.cells #[.int .i64 1, .int .i64 p.z.id, .int .i64 0, .int .i64 0, .string p.mid] 58)).ownsRow B 58 5 cv1 n (st.cs.flatMap chV) := (Touch.of_below hb3).own HO.out (fun g hg hd => by have := (HO.out.lt g hg).2; omega)
              refine hK.out _ _ trivial (fun hHeld => ?_)
              clear hK K
              (try simp only [Act.put, List.setIfInBounds_toArray, List.set_cons_zero, List.set_cons_succ])
              refine wpAnyH_ready (rs := [4]) (by kernel_rfl) (by simp) ?_
              refine AllReadyH.cons (o := ⟨some 70, _, _, _, _, _⟩) rfl (fun K hK => ?_) AllReadyH.nil
              have k9 := bkeep hb3 k0 (by have := HW.out.low; omega)
              have k10 : V8.cell? ⟨b, 2, none⟩ = some cv1 := k0
              go_simp
              refine hK.out _ _ trivial (fun hHeld => ?_)
              clear hK K
              (try simp only [Act.put, List.setIfInBounds_toArray, List.set_cons_zero, List.set_cons_succ])
              refine wpAnyH_ready (rs := [16]) (by kernel_rfl) (by simp) ?_
              refine AllReadyH.cons (o := ⟨some 82, _, _, _, _, _⟩) rfl (fun K hK => ?_) AllReadyH.nil
              refine step_append_cells rfl (.tmp 70) (.tmp 81) 31 rfl B 58 i0 (.agg #[.int .i64 0, .int .i64 0, .int .i64 0, .int .i64 0, .string ⟨#[]⟩]) 5 48 Tryz.underlying31 hi hz0 hz1 hz2 rfl (by decide) (cv1) n (st.cs.flatMap chV) rfl ho3 _ _ 1 1 [.int .i64 1, .int .i64 p.z.id, .int .i64 0, .int .i64 0, .string p.mid] rfl (cells_new (w := V8.drew) (e := 58) rfl rfl) (chV_one ⟨1, p.z.id, 0, 0, p.mid⟩) (by unfold maxLen; omega) (by omega) hbase6 ?_
              intro v5 w5 hown5 ht5 hb5
              have hT5 : Touch (fun x => (cv1).ownBlock = some x) V8 w5 := ((Touch.refl _ _).trans (Touch.of_below hb3) (fun x hx hd => absurd hd (by omega))).trans ht5 (fun x _ hx => hx)
              have hs5 := hT5.size
              have hW5 : Whl w5 (b) 52 #[.slice (some ⟨gz, 0, none⟩) ps.length c, hv, cv1] := (hT5.block (b) HW.out.low (fun e => hfarv e)).trans HW.out
              have hb5' : v5.ownBlock = (cv1).ownBlock ∨ v5.ownBlock = some (V8.heap.size + 1) := by simpa using hb5
              clear hb5
              obtain ⟨g5, c5, rfl, _, _, _, _⟩ := own_form hown5 (Nat.succ_pos _)
              have HO5 := Lib.hid hown5
              have HT5 := Lib.hid hT5
              have HW5 := Lib.hid hW5
              
              clear hown5 ht5 hT5 hW5
              refine hK.out _ _ trivial (fun hHeld => ?_)
              clear hK K
              (try simp only [Act.put, List.setIfInBounds_toArray, List.set_cons_zero, List.set_cons_succ])
              refine wpAnyH_take (i := 17) (oi := ⟨some 83, _, _, _, _, _⟩) (v := ?v17B_359) rfl (by kernel_rfl) (by kernel_rfl) (by kernel_rfl) (fun _ _ _ h => h) (Or.inl ⟨by rfl, ?y17B_359⟩) (by assumption) ?r17B_359
              case y17B_359 => (intro w hSw; (try dsimp only at hSw); (try go_split_ands); go_simp); (try with_reducible rfl)
              case r17B_359 =>
              (try simp only [Act.put, List.setIfInBounds_toArray, List.set_cons_zero, List.set_cons_succ])
              refine wpAnyH_take (i := 18) (oi := ⟨some 84, _, _, _, _, _⟩) (v := ?v18B_362) rfl (by kernel_rfl) (by kernel_rfl) (by kernel_rfl) (fun _ _ _ h => h) (Or.inl ⟨by rfl, ?y18B_362⟩) (by assumption) ?r18B_362
              case y18B_362 => (intro w hSw; (try dsimp only at hSw); (try go_split_ands); go_simp); (try with_reducible rfl)
              case r18B_362 =>
              (try simp only [Act.put, List.setIfInBounds_toArray, List.set_cons_zero, List.set_cons_succ])
              refine wpAnyH_ready (rs := [19]) (by kernel_rfl) (by simp) ?_
              refine AllReadyH.cons (o := ⟨none, _, _, _, _, _⟩) rfl (fun K hK => ?_) AllReadyH.nil
              have k7 : w5.cell? ⟨b, 2, none⟩ = some (cv1) := (HW5.out.cell 2).trans rfl
              have f7 := HW5.out.free 2
              go_simp
              refine hK.out _ _ trivial (fun hHeld => ?_)
              clear hK K
              (try simp only [Act.put, List.setIfInBounds_toArray, List.set_cons_zero, List.set_cons_succ])
              refine wpAnyH_done (by kernel_rfl) ?_ _
              go_wp2_with fail
              subst hn
              obtain ⟨hF, hTF, hFF⟩ := HP8.out.pushedC (c := ⟨1, p.z.id, 0, 0, p.mid⟩) HO5.out rfl HT5.out (hb5'.imp_right fun e => ⟨_, e, Nat.le_succ _⟩)
              have hTT := HT8.out.trans hTF (fun x _ hx => hx)
              have hs8 := HT8.out.size
              refine ⟨⟨i + 1, _, ⟨st.ps.set k (taken p), st.cs ++ [⟨1, p.z.id, 0, 0, p.mid⟩], st.room - 1⟩, hlt, by go_num, rfl, ?_, hF, hTT.own HO3.out (fun q hq hx => by injection hq with hq; subst hq; exact hgn hx), HT3.out.trans hTT (fun x hx hd => (HF3.out x hd).elim (fun h => h) (fun h => by omega)), ?_, ?_, ?_, ?_, ?_⟩, measZ hlt⟩
              · rw [HSTEP.out, if_pos HS.out]
              · exact fun x hx => (hFF x hx).elim (fun h => HF3.out x h) (fun h => .inr (by omega))
              · exact fun hx => (hFF gv hx).elim hgn (fun h => by have := (HO3.out.lt gv rfl).2; omega)
              · show (st.cs ++ [_]).length ≤ _; rw [List.length_append, List.length_singleton]; omega
              · show -40 ≤ st.room - 1 - ((ps.length : Int) - ((i + 1 : Nat) : Int)); omega
              · show st.room - 1 ≤ 20; omega
        · have e0 : V8.drew.cell? ⟨gz, k * 13 + 10, none⟩ = _ := d10
          go_simp
          refine hK.out _ _ trivial (fun hHeld => ?_)
          clear hK K
          (try simp only [Act.put, List.setIfInBounds_toArray, List.set_cons_zero, List.set_cons_succ])
          refine wpAnyH_ready (rs := [4, 9]) (by kernel_rfl) (by simp) ?_
          refine AllReadyH.cons (o := ⟨some 70, _, _, _, _, _⟩) rfl (fun K hK => ?_) (AllReadyH.cons (o := ⟨some 75, _, _, _, _, _⟩) rfl (fun K hK => ?_) AllReadyH.nil)
          · have k9 : V8.drew.cell? ⟨b, 2, none⟩ = some cv1 := k0
            go_simp
            refine hK.out _ _ trivial (fun hHeld => ?_)
            clear hK K
            (try simp only [Act.put, List.setIfInBounds_toArray, List.set_cons_zero, List.set_cons_succ])
            refine wpAnyH_ready (rs := [9]) (by kernel_rfl) (by simp) ?_
            refine AllReadyH.cons (o := ⟨some 75, _, _, _, _, _⟩) rfl (fun K hK => ?_) AllReadyH.nil
            have e0 : V8.drew.cell? ⟨gz, k * 13, none⟩ = _ := d0
            go_simp
            refine hK.out _ _ trivial (fun hHeld => ?_)
            clear hK K
            (try simp only [Act.put, List.setIfInBounds_toArray, List.set_cons_zero, List.set_cons_succ])
            refine wpAnyH_take (i := 14) (oi := ⟨some 80, _, _, _, _, _⟩) (v := ?v14B_405) rfl (by kernel_rfl) (by kernel_rfl) (by kernel_rfl) (fun _ _ _ h => h) (Or.inl ⟨by rfl, ?y14B_405⟩) (by assumption) ?r14B_405
            case y14B_405 => (intro w hSw; (try dsimp only at hSw); (try go_split_ands); go_simp); (try with_reducible rfl)
            case r14B_405 =>
            (try simp only [Act.put, List.setIfInBounds_toArray, List.set_cons_zero, List.set_cons_succ])
            refine wpAnyH_ready (rs := [15]) (by kernel_rfl) (by simp) ?_
            refine AllReadyH.cons (o := ⟨some 81, _, _, _, _, _⟩) rfl (fun K hK => ?_) AllReadyH.nil
            go_simp
            have hb3 : Below V8.heap.size V8 (V8.drew.alloc (.cells #[.int .i64 1, .int .i64 p.z.id, .int .i64 0, .int .i64 0, .string p.mid] 58)) := (Below.refl _ _).drew.alloc (Nat.le_refl _) _
            have hbase6 : B ≤ (V8.drew.alloc (.cells #[.int .i64 1, .int .i64 p.z.id, .int .i64 0, .int .i64 0, .string p.mid] 58)).heap.size := by simp; omega
            have ho3 : (V8.drew.alloc (.cells #[.int .i64 1, .int .i64 p.z.id, .int .i64 0, .int .i64 0, .string p.mid] 58)).ownsRow B 58 5 cv1 n (st.cs.flatMap chV) := (Touch.of_below hb3).own HO.out (fun g hg hd => by have := (HO.out.lt g hg).2; omega)
            refine hK.out _ _ trivial (fun hHeld => ?_)
            clear hK K
            (try simp only [Act.put, List.setIfInBounds_toArray, List.set_cons_zero, List.set_cons_succ])
            refine wpAnyH_ready (rs := [16]) (by kernel_rfl) (by simp) ?_
            refine AllReadyH.cons (o := ⟨some 82, _, _, _, _, _⟩) rfl (fun K hK => ?_) AllReadyH.nil
            refine step_append_cells rfl (.tmp 70) (.tmp 81) 31 rfl B 58 i0 (.agg #[.int .i64 0, .int .i64 0, .int .i64 0, .int .i64 0, .string ⟨#[]⟩]) 5 48 Tryz.underlying31 hi hz0 hz1 hz2 rfl (by decide) (cv1) n (st.cs.flatMap chV) rfl ho3 _ _ 1 1 [.int .i64 1, .int .i64 p.z.id, .int .i64 0, .int .i64 0, .string p.mid] rfl (cells_new (w := V8.drew) (e := 58) rfl rfl) (chV_one ⟨1, p.z.id, 0, 0, p.mid⟩) (by unfold maxLen; omega) (by omega) hbase6 ?_
            intro v5 w5 hown5 ht5 hb5
            have hT5 : Touch (fun x => (cv1).ownBlock = some x) V8 w5 := ((Touch.refl _ _).trans (Touch.of_below hb3) (fun x hx hd => absurd hd (by omega))).trans ht5 (fun x _ hx => hx)
            have hs5 := hT5.size
            have hW5 : Whl w5 (b) 52 #[.slice (some ⟨gz, 0, none⟩) ps.length c, hv, cv1] := (hT5.block (b) HW.out.low (fun e => hfarv e)).trans HW.out
            have hb5' : v5.ownBlock = (cv1).ownBlock ∨ v5.ownBlock = some (V8.heap.size + 1) := by simpa using hb5
            clear hb5
            obtain ⟨g5, c5, rfl, _, _, _, _⟩ := own_form hown5 (Nat.succ_pos _)
            have HO5 := Lib.hid hown5
            have HT5 := Lib.hid hT5
            have HW5 := Lib.hid hW5
            
            clear hown5 ht5 hT5 hW5
            refine hK.out _ _ trivial (fun hHeld => ?_)
            clear hK K
            (try simp only [Act.put, List.setIfInBounds_toArray, List.set_cons_zero, List.set_cons_succ])
            refine wpAnyH_take (i := 17) (oi := ⟨some 83, _, _, _, _, _⟩) (v := ?v17B_435) rfl (by kernel_rfl) (by kernel_rfl) (by kernel_rfl) (fun _ _ _ h => h) (Or.inl ⟨by rfl, ?y17B_435⟩) (by assumption) ?r17B_435
            case y17B_435 => (intro w hSw; (try dsimp only at hSw); (try go_split_ands); go_simp); (try with_reducible rfl)
            case r17B_435 =>
            (try simp only [Act.put, List.setIfInBounds_toArray, List.set_cons_zero, List.set_cons_succ])
            refine wpAnyH_take (i := 18) (oi := ⟨some 84, _, _, _, _, _⟩) (v := ?v18B_438) rfl (by kernel_rfl) (by kernel_rfl) (by kernel_rfl) (fun _ _ _ h => h) (Or.inl ⟨by rfl, ?y18B_438⟩) (by assumption) ?r18B_438
            case y18B_438 => (intro w hSw; (try dsimp only at hSw); (try go_split_ands); go_simp); (try with_reducible rfl)
            case r18B_438 =>
            (try simp only [Act.put, List.setIfInBounds_toArray, List.set_cons_zero, List.set_cons_succ])
            refine wpAnyH_ready (rs := [19]) (by kernel_rfl) (by simp) ?_
            refine AllReadyH.cons (o := ⟨none, _, _, _, _, _⟩) rfl (fun K hK => ?_) AllReadyH.nil
            have k7 : w5.cell? ⟨b, 2, none⟩ = some (cv1) := (HW5.out.cell 2).trans rfl
            have f7 := HW5.out.free 2
            go_simp
            refine hK.out _ _ trivial (fun hHeld => ?_)
            clear hK K
            (try simp only [Act.put, List.setIfInBounds_toArray, List.set_cons_zero, List.set_cons_succ])
            refine wpAnyH_done (by kernel_rfl) ?_ _
            go_wp2_with fail
            subst hn
            obtain ⟨hF, hTF, hFF⟩ := HP8.out.pushedC (c := ⟨1, p.z.id, 0, 0, p.mid⟩) HO5.out rfl HT5.out (hb5'.imp_right fun e => ⟨_, e, Nat.le_succ _⟩)
            have hTT := HT8.out.trans hTF (fun x _ hx => hx)
            have hs8 := HT8.out.size
            refine ⟨⟨i + 1, _, ⟨st.ps.set k (taken p), st.cs ++ [⟨1, p.z.id, 0, 0, p.mid⟩], st.room - 1⟩, hlt, by go_num, rfl, ?_, hF, hTT.own HO3.out (fun q hq hx => by injection hq with hq; subst hq; exact hgn hx), HT3.out.trans hTT (fun x hx hd => (HF3.out x hd).elim (fun h => h) (fun h => by omega)), ?_, ?_, ?_, ?_, ?_⟩, measZ hlt⟩
            · rw [HSTEP.out, if_pos HS.out]
            · exact fun x hx => (hFF x hx).elim (fun h => HF3.out x h) (fun h => .inr (by omega))
            · exact fun hx => (hFF gv hx).elim hgn (fun h => by have := (HO3.out.lt gv rfl).2; omega)
            · show (st.cs ++ [_]).length ≤ _; rw [List.length_append, List.length_singleton]; omega
            · show -40 ≤ st.room - 1 - ((ps.length : Int) - ((i + 1 : Nat) : Int)); omega
            · show st.room - 1 ≤ 20; omega
          · have e0 : V8.drew.cell? ⟨gz, k * 13, none⟩ = _ := d0
            go_simp
            refine hK.out _ _ trivial (fun hHeld => ?_)
            clear hK K
            (try simp only [Act.put, List.setIfInBounds_toArray, List.set_cons_zero, List.set_cons_succ])
            refine wpAnyH_take (i := 14) (oi := ⟨some 80, _, _, _, _, _⟩) (v := ?v14B_467) rfl (by kernel_rfl) (by kernel_rfl) (by kernel_rfl) (fun _ _ _ h => h) (Or.inl ⟨by rfl, ?y14B_467⟩) (by assumption) ?r14B_467
            case y14B_467 => (intro w hSw; (try dsimp only at hSw); (try go_split_ands); go_simp); (try with_reducible rfl)
            case r14B_467 =>
            (try simp only [Act.put, List.setIfInBounds_toArray, List.set_cons_zero, List.set_cons_succ])
            refine wpAnyH_ready (rs := [4, 15]) (by kernel_rfl) (by simp) ?_
            refine AllReadyH.cons (o := ⟨some 70, _, _, _, _, _⟩) rfl (fun K hK => ?_) (AllReadyH.cons (o := ⟨some 81, _, _, _, _, _⟩) rfl (fun K hK => ?_) AllReadyH.nil)
            · have k9 : V8.drew.cell? ⟨b, 2, none⟩ = some cv1 := k0
              go_simp
              refine hK.out _ _ trivial (fun hHeld => ?_)
              clear hK K
              (try simp only [Act.put, List.setIfInBounds_toArray, List.set_cons_zero, List.set_cons_succ])
              refine wpAnyH_ready (rs := [15]) (by kernel_rfl) (by simp) ?_
              refine AllReadyH.cons (o := ⟨some 81, _, _, _, _, _⟩) rfl (fun K hK => ?_) AllReadyH.nil
              go_simp
              have hb3 : Below V8.heap.size V8 (V8.drew.alloc (.cells #[.int .i64 1, .int .i64 p.z.id, .int .i64 0, .int .i64 0, .string p.mid] 58)) := (Below.refl _ _).drew.alloc (Nat.le_refl _) _
              have hbase6 : B ≤ (V8.drew.alloc (.cells #[.int .i64 1, .int .i64 p.z.id, .int .i64 0, .int .i64 0, .string p.mid] 58)).heap.size := by simp; omega
              have ho3 : (V8.drew.alloc (.cells #[.int .i64 1, .int .i64 p.z.id, .int .i64 0, .int .i64 0, .string p.mid] 58)).ownsRow B 58 5 cv1 n (st.cs.flatMap chV) := (Touch.of_below hb3).own HO.out (fun g hg hd => by have := (HO.out.lt g hg).2; omega)
              refine hK.out _ _ trivial (fun hHeld => ?_)
              clear hK K
              (try simp only [Act.put, List.setIfInBounds_toArray, List.set_cons_zero, List.set_cons_succ])
              refine wpAnyH_ready (rs := [16]) (by kernel_rfl) (by simp) ?_
              refine AllReadyH.cons (o := ⟨some 82, _, _, _, _, _⟩) rfl (fun K hK => ?_) AllReadyH.nil
              refine step_append_cells rfl (.tmp 70) (.tmp 81) 31 rfl B 58 i0 (.agg #[.int .i64 0, .int .i64 0, .int .i64 0, .int .i64 0, .string ⟨#[]⟩]) 5 48 Tryz.underlying31 hi hz0 hz1 hz2 rfl (by decide) (cv1) n (st.cs.flatMap chV) rfl ho3 _ _ 1 1 [.int .i64 1, .int .i64 p.z.id, .int .i64 0, .int .i64 0, .string p.mid] rfl (cells_new (w := V8.drew) (e := 58) rfl rfl) (chV_one ⟨1, p.z.id, 0, 0, p.mid⟩) (by unfold maxLen; omega) (by omega) hbase6 ?_
              intro v5 w5 hown5 ht5 hb5
              have hT5 : Touch (fun x => (cv1).ownBlock = some x) V8 w5 := ((Touch.refl _ _).trans (Touch.of_below hb3) (fun x hx hd => absurd hd (by omega))).trans ht5 (fun x _ hx => hx)
              have hs5 := hT5.size
              have hW5 : Whl w5 (b) 52 #[.slice (some ⟨gz, 0, none⟩) ps.length c, hv, cv1] := (hT5.block (b) HW.out.low (fun e => hfarv e)).trans HW.out
              have hb5' : v5.ownBlock = (cv1).ownBlock ∨ v5.ownBlock = some (V8.heap.size + 1) := by simpa using hb5
              clear hb5
              obtain ⟨g5, c5, rfl, _, _, _, _⟩ := own_form hown5 (Nat.succ_pos _)
              have HO5 := Lib.hid hown5
              have HT5 := Lib.hid hT5
              have HW5 := Lib.hid hW5
              
              clear hown5 ht5 hT5 hW5
              refine hK.out _ _ trivial (fun hHeld => ?_)
              clear hK K
              (try simp only [Act.put, List.setIfInBounds_toArray, List.set_cons_zero, List.set_cons_succ])
              refine wpAnyH_take (i := 17) (oi := ⟨some 83, _, _, _, _, _⟩) (v := ?v17B_504) rfl (by kernel_rfl) (by kernel_rfl) (by kernel_rfl) (fun _ _ _ h => h) (Or.inl ⟨by rfl, ?y17B_504⟩) (by assumption) ?r17B_504
              case y17B_504 => (intro w hSw; (try dsimp only at hSw); (try go_split_ands); go_simp); (try with_reducible rfl)
              case r17B_504 =>
              (try simp only [Act.put, List.setIfInBounds_toArray, List.set_cons_zero, List.set_cons_succ])
              refine wpAnyH_take (i := 18) (oi := ⟨some 84, _, _, _, _, _⟩) (v := ?v18B_507) rfl (by kernel_rfl) (by kernel_rfl) (by kernel_rfl) (fun _ _ _ h => h) (Or.inl ⟨by rfl, ?y18B_507⟩) (by assumption) ?r18B_507
              case y18B_507 => (intro w hSw; (try dsimp only at hSw); (try go_split_ands); go_simp); (try with_reducible rfl)
              case r18B_507 =>
              (try simp only [Act.put, List.setIfInBounds_toArray, List.set_cons_zero, List.set_cons_succ])
              refine wpAnyH_ready (rs := [19]) (by kernel_rfl) (by simp) ?_
              refine AllReadyH.cons (o := ⟨none, _, _, _, _, _⟩) rfl (fun K hK => ?_) AllReadyH.nil
              have k7 : w5.cell? ⟨b, 2, none⟩ = some (cv1) := (HW5.out.cell 2).trans rfl
              have f7 := HW5.out.free 2
              go_simp
              refine hK.out _ _ trivial (fun hHeld => ?_)
              clear hK K
              (try simp only [Act.put, List.setIfInBounds_toArray, List.set_cons_zero, List.set_cons_succ])
              refine wpAnyH_done (by kernel_rfl) ?_ _
              go_wp2_with fail
              subst hn
              obtain ⟨hF, hTF, hFF⟩ := HP8.out.pushedC (c := ⟨1, p.z.id, 0, 0, p.mid⟩) HO5.out rfl HT5.out (hb5'.imp_right fun e => ⟨_, e, Nat.le_succ _⟩)
              have hTT := HT8.out.trans hTF (fun x _ hx => hx)
              have hs8 := HT8.out.size
              refine ⟨⟨i + 1, _, ⟨st.ps.set k (taken p), st.cs ++ [⟨1, p.z.id, 0, 0, p.mid⟩], st.room - 1⟩, hlt, by go_num, rfl, ?_, hF, hTT.own HO3.out (fun q hq hx => by injection hq with hq; subst hq; exact hgn hx), HT3.out.trans hTT (fun x hx hd => (HF3.out x hd).elim (fun h => h) (fun h => by omega)), ?_, ?_, ?_, ?_, ?_⟩, measZ hlt⟩
              · rw [HSTEP.out, if_pos HS.out]
              · exact fun x hx => (hFF x hx).elim (fun h => HF3.out x h) (fun h => .inr (by omega))
              · exact fun hx => (hFF gv hx).elim hgn (fun h => by have := (HO3.out.lt gv rfl).2; omega)
              · show (st.cs ++ [_]).length ≤ _; rw [List.length_append, List.length_singleton]; omega
              · show -40 ≤ st.room - 1 - ((ps.length : Int) - ((i + 1 : Nat) : Int)); omega
              · show st.room - 1 ≤ 20; omega
            · go_simp
              have hb3 : Below V8.heap.size V8 (V8.drew.alloc (.cells #[.int .i64 1, .int .i64 p.z.id, .int .i64 0, .int .i64 0, .string p.mid] 58)) := (Below.refl _ _).drew.alloc (Nat.le_refl _) _
              have hbase6 : B ≤ (V8.drew.alloc (.cells #[.int .i64 1, .int .i64 p.z.id, .int .i64 0, .int .i64 0, .string p.mid] 58)).heap.size := by simp; omega
              have ho3 : (V8.drew.alloc (.cells #[.int .i64 1, .int .i64 p.z.id, .int .i64 0, .int .i64 0, .string p.mid] 58)).ownsRow B 58 5 cv1 n (st.cs.flatMap chV) := (Touch.of_below hb3).own HO.out (fun g hg hd => by have := (HO.out.lt g hg).2; omega)
              refine hK.out _ _ trivial (fun hHeld => ?_)
              clear hK K
              (try simp only [Act.put, List.setIfInBounds_toArray, List.set_cons_zero, List.set_cons_succ])
              refine wpAnyH_ready (rs := [4]) (by kernel_rfl) (by simp) ?_
              refine AllReadyH.cons (o := ⟨some 70, _, _, _, _, _⟩) rfl (fun K hK => ?_) AllReadyH.nil
              have k9 := bkeep hb3 k0 (by have := HW.out.low; omega)
              have k10 : V8.cell? ⟨b, 2, none⟩ = some cv1 := k0
              go_simp
              refine hK.out _ _ trivial (fun hHeld => ?_)
              clear hK K
              (try simp only [Act.put, List.setIfInBounds_toArray, List.set_cons_zero, List.set_cons_succ])
              refine wpAnyH_ready (rs := [16]) (by kernel_rfl) (by simp) ?_
              refine AllReadyH.cons (o := ⟨some 82, _, _, _, _, _⟩) rfl (fun K hK => ?_) AllReadyH.nil
              refine step_append_cells rfl (.tmp 70) (.tmp 81) 31 rfl B 58 i0 (.agg #[.int .i64 0, .int .i64 0, .int .i64 0, .int .i64 0, .string ⟨#[]⟩]) 5 48 Tryz.underlying31 hi hz0 hz1 hz2 rfl (by decide) (cv1) n (st.cs.flatMap chV) rfl ho3 _ _ 1 1 [.int .i64 1, .int .i64 p.z.id, .int .i64 0, .int .i64 0, .string p.mid] rfl (cells_new (w := V8.drew) (e := 58) rfl rfl) (chV_one ⟨1, p.z.id, 0, 0, p.mid⟩) (by unfold maxLen; omega) (by omega) hbase6 ?_
              intro v5 w5 hown5 ht5 hb5
              have hT5 : Touch (fun x => (cv1).ownBlock = some x) V8 w5 := ((Touch.refl _ _).trans (Touch.of_below hb3) (fun x hx hd => absurd hd (by omega))).trans ht5 (fun x _ hx => hx)
              have hs5 := hT5.size
              have hW5 : Whl w5 (b) 52 #[.slice (some ⟨gz, 0, none⟩) ps.length c, hv, cv1] := (hT5.block (b) HW.out.low (fun e => hfarv e)).trans HW.out
              have hb5' : v5.ownBlock = (cv1).ownBlock ∨ v5.ownBlock = some (V8.heap.size + 1) := by simpa using hb5
              clear hb5
              obtain ⟨g5, c5, rfl, _, _, _, _⟩ := own_form hown5 (Nat.succ_pos _)
              have HO5 := Lib.hid hown5
              have HT5 := Lib.hid hT5
              have HW5 := Lib.hid hW5
              
              clear hown5 ht5 hT5 hW5
              refine hK.out _ _ trivial (fun hHeld => ?_)
              clear hK K
              (try simp only [Act.put, List.setIfInBounds_toArray, List.set_cons_zero, List.set_cons_succ])
              refine wpAnyH_take (i := 17) (oi := ⟨some 83, _, _, _, _, _⟩) (v := ?v17B_564) rfl (by kernel_rfl) (by kernel_rfl) (by kernel_rfl) (fun _ _ _ h => h) (Or.inl ⟨by rfl, ?y17B_564⟩) (by assumption) ?r17B_564
              case y17B_564 => (intro w hSw; (try dsimp only at hSw); (try go_split_ands); go_simp); (try with_reducible rfl)
              case r17B_564 =>
              (try simp only [Act.put, List.setIfInBounds_toArray, List.set_cons_zero, List.set_cons_succ])
              refine wpAnyH_take (i := 18) (oi := ⟨some 84, _, _, _, _, _⟩) (v := ?v18B_567) rfl (by kernel_rfl) (by kernel_rfl) (by kernel_rfl) (fun _ _ _ h => h) (Or.inl ⟨by rfl, ?y18B_567⟩) (by assumption) ?r18B_567
              case y18B_567 => (intro w hSw; (try dsimp only at hSw); (try go_split_ands); go_simp); (try with_reducible rfl)
              case r18B_567 =>
              (try simp only [Act.put, List.setIfInBounds_toArray, List.set_cons_zero, List.set_cons_succ])
              refine wpAnyH_ready (rs := [19]) (by kernel_rfl) (by simp) ?_
              refine AllReadyH.cons (o := ⟨none, _, _, _, _, _⟩) rfl (fun K hK => ?_) AllReadyH.nil
              have k7 : w5.cell? ⟨b, 2, none⟩ = some (cv1) := (HW5.out.cell 2).trans rfl
              have f7 := HW5.out.free 2
              go_simp
              refine hK.out _ _ trivial (fun hHeld => ?_)
              clear hK K
              (try simp only [Act.put, List.setIfInBounds_toArray, List.set_cons_zero, List.set_cons_succ])
              refine wpAnyH_done (by kernel_rfl) ?_ _
              go_wp2_with fail
              subst hn
              obtain ⟨hF, hTF, hFF⟩ := HP8.out.pushedC (c := ⟨1, p.z.id, 0, 0, p.mid⟩) HO5.out rfl HT5.out (hb5'.imp_right fun e => ⟨_, e, Nat.le_succ _⟩)
              have hTT := HT8.out.trans hTF (fun x _ hx => hx)
              have hs8 := HT8.out.size
              refine ⟨⟨i + 1, _, ⟨st.ps.set k (taken p), st.cs ++ [⟨1, p.z.id, 0, 0, p.mid⟩], st.room - 1⟩, hlt, by go_num, rfl, ?_, hF, hTT.own HO3.out (fun q hq hx => by injection hq with hq; subst hq; exact hgn hx), HT3.out.trans hTT (fun x hx hd => (HF3.out x hd).elim (fun h => h) (fun h => by omega)), ?_, ?_, ?_, ?_, ?_⟩, measZ hlt⟩
              · rw [HSTEP.out, if_pos HS.out]
              · exact fun x hx => (hFF x hx).elim (fun h => HF3.out x h) (fun h => .inr (by omega))
              · exact fun hx => (hFF gv hx).elim hgn (fun h => by have := (HO3.out.lt gv rfl).2; omega)
              · show (st.cs ++ [_]).length ≤ _; rw [List.length_append, List.length_singleton]; omega
              · show -40 ≤ st.room - 1 - ((ps.length : Int) - ((i + 1 : Nat) : Int)); omega
              · show st.room - 1 ≤ 20; omega
end Go.Proofs.YtepjehcmiofehaaGreat
