/- the document's plan: move. -/
import Derived.Test.YtepjehcmiofehaaGreatPmE
import Derived.Test.YtepjehcmiofehaaGreatPmG
namespace Go.Proofs.YtepjehcmiofehaaGreat
open Go.RowKit
set_option linter.unusedVariables false
set_option linter.unusedSimpArgs false

/-- the place of the best by now -/
def optI (r : Option Nat) : Int := match r with
  | none => -1
  | some k => k
theorem BestP.skip {f t : Rk} {ps : List Pz} {i : Nat} {r : Option Nat} (h : BestP f t ps (fun j => j < i) r) (hi : i < ps.length) (hx : bestOk f t ps[i] = false ∨ ∃ k, r = some k ∧ ∃ hk : k < ps.length, ps[i].hits < ps[k].hits ∨ (ps[i].hits = ps[k].hits ∧ ps[k].z.id ≤ ps[i].z.id)) : BestP f t ps (fun j => j < i + 1) r := by
  cases r with
  | none =>
    intro j hj hji
    by_cases e : j = i
    · subst e
      rcases hx with hx | ⟨k, e, _⟩
      · exact hx
      · cases e
    · exact h j hj (by omega)
  | some k =>
    obtain ⟨hk, hki, ok, hm⟩ := h
    refine ⟨hk, by omega, ok, fun j hj hji hok => ?_⟩
    by_cases e : j = i
    · subst e
      rcases hx with hx | ⟨k2, e2, hk2, hx⟩
      · rw [hx] at hok; cases hok
      · injection e2 with e2
        subst e2
        exact hx
    · exact hm j hj (by omega) hok
theorem BestP.take {f t : Rk} {ps : List Pz} {i : Nat} {r : Option Nat} (h : BestP f t ps (fun j => j < i) r) (hi : i < ps.length) (ok : bestOk f t ps[i] = true) (hx : r = none ∨ ∃ k, r = some k ∧ ∃ hk : k < ps.length, ps[k].hits < ps[i].hits ∨ (ps[k].hits = ps[i].hits ∧ ps[i].z.id ≤ ps[k].z.id)) : BestP f t ps (fun j => j < i + 1) (some i) := by
  refine ⟨hi, by omega, ok, fun j hj hji hok => ?_⟩
  by_cases e : j = i
  · subst e; exact .inr ⟨rfl, Int.le_refl _⟩
  · rcases hx with rfl | ⟨k, rfl, hk, hx⟩
    · rw [h j hj (by omega)] at hok; cases hok
    · obtain ⟨hk2, _, _, hm⟩ := h
      have := hm j hj (by omega) hok
      omega
theorem RsH.bw0 {w : World} {B x : Nat} {c : Rc} {nv ov tv : Value} {nm : List Bool} {ps : List Pz} {cs : List Ch} {mv : Int} (h : RsH w B x c nv ov tv nm ps cs mv) : B ≤ w.heap.size := h.bw
set_option maxHeartbeats 4000000 in
set_option maxRecDepth 10000 in
theorem rsMove0 (B x gn cn gt ct : Nat) (c : Rc) (ov : Value) (nm : List Bool) (ps : List Pz) (cs : List Ch) (mv : Int) (w : World) (h : RsH w B x c (.slice (some ⟨gn, 0, none⟩) c.m.zs.length cn) ov (.slice (some ⟨gt, 0, none⟩) c.m.zs.length ct) nm ps cs mv) (h2 : 2 ≤ mv) :
    Calls Tryz.prog 22 #[.pointer (some ⟨x, 0, none⟩)] w fun e w' => e = .returned (.bool false) ∧ Below w.heap.size w w' := by
  have k8 := h.cells.2.2.2.2.2.2
  clear h
  go_enter Tryz.func22, Tryz.ntmps22
  go_wp2_with fail
  go_ret
  exact ⟨rfl, Below.refl _ _⟩
/-- what move answers -/
def MvA (B x gn cn gt ct : Nat) (c : Rc) (ps : List Pz) (cs : List Ch) (mv : Int) (g2 : Int) (r : Option Nat) (ov : Value) (nm : List Bool) (w : World) (e : Ending) (w' : World) : Prop := match r with
  | none => e = .returned (.bool false) ∧ RsH w' B x c (.slice (some ⟨gn, 0, none⟩) c.m.zs.length cn) ov (.slice (some ⟨gt, 0, none⟩) c.m.zs.length ct) nm ps cs mv ∧ Below B w w'
  | some k => ∃ (hk : k < ps.length) (ov' : Value) (nm' : List Bool), e = .returned (.bool true) ∧ RsH w' B x c (.slice (some ⟨gn, 0, none⟩) c.m.zs.length cn) ov' (.slice (some ⟨gt, 0, none⟩) c.m.zs.length ct) nm' (ps.set k (gone ps[k] g2)) (cs ++ [⟨3, ps[k].z.id, 0, g2, ⟨#[]⟩⟩]) (mv + 1) ∧ Below B w w'
theorem MvA.yes {B x gn cn gt ct : Nat} {c : Rc} {ps : List Pz} {cs : List Ch} {mv g2 : Int} {k : Nat} {ov : Value} {nm : List Bool} {w w' : World} {ov' : Value} {nm' : List Bool} (hk : k < ps.length) (h1 : RsH w' B x c (.slice (some ⟨gn, 0, none⟩) c.m.zs.length cn) ov' (.slice (some ⟨gt, 0, none⟩) c.m.zs.length ct) nm' (ps.set k (gone ps[k] g2)) (cs ++ [⟨3, ps[k].z.id, 0, g2, ⟨#[]⟩⟩]) (mv + 1)) (h2 : Below B w w') : MvA B x gn cn gt ct c ps cs mv g2 (some k) ov nm w (.returned (.bool true)) w' := ⟨hk, ov', nm', rfl, h1, h2⟩
theorem RsH.goneTo {w : World} {B x gn cn gt ct : Nat} {c : Rc} {ov : Value} {nm : List Bool} {ps : List Pz} {cs : List Ch} {mv : Int} (h : RsH w B x c (.slice (some ⟨gn, 0, none⟩) c.m.zs.length cn) ov (.slice (some ⟨gt, 0, none⟩) c.m.zs.length ct) nm ps cs mv) {k : Nat} {p : Pz} (hp : ps[k]? = some p) (g : Int) : RsH (w.setCell ⟨gt, k, none⟩ (.int .i64 g)) B x c (.slice (some ⟨gn, 0, none⟩) c.m.zs.length cn) ov (.slice (some ⟨gt, 0, none⟩) c.m.zs.length ct) nm (ps.set k ⟨p.z, p.hits, p.mid, p.fr, g⟩) cs mv := by
  have hBs : Below B w (w.setCell ⟨gt, k, none⟩ (.int .i64 g)) := (Below.refl _ _).setCell (h.tr.lt gt rfl).1 _
  obtain ⟨hk, e⟩ := List.getElem?_eq_some_iff.1 hp
  refine ⟨h.blk.far (a := ⟨gt, k, none⟩) (fun e => h.ta gt rfl e.symm), cells_keep h.zr hBs (Nat.le_refl _), cells_keep h.hr hBs (Nat.le_refl _), cells_keep h.lr hBs (Nat.le_refl _), own_set_ne h.nr (fun q hq e => h.nt q hq (by rw [e]; rfl)), own_set_ne h.orow (fun q hq e => h.ot q hq (by rw [e]; rfl)), ?_, h.na, h.oa, h.ta, h.no, h.nt, h.ot, h.low, ?_, h.ok⟩
  · rw [List.map_set]
    have e2 : intsV ((ps.map fun p => p.nd).set k g) = (intsV (ps.map fun p => p.nd)).set k (.int .i64 g) := by simp [intsV, List.map_set]
    show World.ownsRow _ _ _ _ _ _ (intsV ((ps.map fun p => p.nd).set k g))
    rw [e2]
    exact (h.tr.stored k (.int .i64 g)).1
  · refine ⟨by rw [List.length_set]; exact h.lk.ln, h.lk.lb, fun j hj hj2 => ?_, fun j hj hj2 => ?_⟩
    · rw [List.getElem_set]
      split
      · rename_i ej
        subst ej
        have := h.lk.z k hk hj2
        rw [e] at this
        exact this
      · exact h.lk.z j (by simpa using hj) hj2
    · rw [List.getElem_set]
      split
      · rename_i ej
        subst ej
        have := h.lk.f k hk hj2
        rw [e] at this
        exact this
      · exact h.lk.f j (by simpa using hj) hj2
theorem RsH.setMv {w : World} {B x : Nat} {c : Rc} {nv ov tv : Value} {nm : List Bool} {ps : List Pz} {cs : List Ch} {mv : Int} (h : RsH w B x c nv ov tv nm ps cs mv) (n : Int) : RsH (w.setCell ⟨x, 8, none⟩ (.int .i64 n)) B x c nv ov tv nm ps cs n := by
  have hBs : Below B w (w.setCell ⟨x, 8, none⟩ (.int .i64 n)) := (Below.refl _ _).setCell h.low _
  exact ⟨h.blk.set 8 _, cells_keep h.zr hBs (Nat.le_refl _), cells_keep h.hr hBs (Nat.le_refl _), cells_keep h.lr hBs (Nat.le_refl _), own_set_ne h.nr (fun q hq => h.na q hq), own_set_ne h.orow (fun q hq => h.oa q hq), own_set_ne h.tr (fun q hq => h.ta q hq), h.na, h.oa, h.ta, h.no, h.nt, h.ot, h.low, h.lk, h.ok⟩
set_option maxHeartbeats 16000000 in
set_option maxRecDepth 10000 in
theorem rsMoveG (B x gn cn gt ct : Nat) (c : Rc) (ov : Value) (nm : List Bool) (ps : List Pz) (cs : List Ch) (mv : Int) (g1 g2 : Int) (r : Option Nat) (w : World) (h : RsH w B x c (.slice (some ⟨gn, 0, none⟩) c.m.zs.length cn) ov (.slice (some ⟨gt, 0, none⟩) c.m.zs.length ct) nm ps cs mv) (h2 : mv < 2) (h0 : 0 ≤ mv) (hG : Goes c.hs ps g1 g2 r) (hnd : (ps.map fun p => p.z.id).Nodup) (hcl : cs.length ≤ 900) :
    Calls Tryz.prog 22 #[.pointer (some ⟨x, 0, none⟩)] w fun e w' => MvA B x gn cn gt ct c ps cs mv g2 r ov nm w e w' := by
  have HR := Lib.hid h
  have hxw := h.blk.low
  obtain ⟨hl1, hl16, hps, -⟩ := h.len
  obtain ⟨gz, oz, hA, hgB⟩ := h.form
  have k8 := h.cells.2.2.2.2.2.2
  have HA := Lib.hid hA
  obtain ⟨hmost, π, hπ, hr⟩ := hG
  have HMO := Lib.hid hmost
  have HRB : Hid (BestP (rankOf ps g1) (rankOf ps g2) ps (fun j => j < ps.length) r) := Lib.hid (by rw [hr]; exact best_is hπ)
  have HND := Lib.hid hnd
  have HHO := Lib.hid (hosts_ok h.ok.hb).2
  obtain ⟨ld1, hl1e⟩ : ∃ l, l = loadP ps g1 := ⟨_, rfl⟩
  obtain ⟨ld2, hl2e⟩ : ∃ l, l = loadP ps g2 := ⟨_, rfl⟩
  have b1 := loadP_bound ps g1 h.lk.hits
  have b2 := loadP_bound ps g2 h.lk.hits
  rw [← hl1e] at b1
  rw [← hl2e] at b2
  have HL1 := Lib.hid hl1e
  have HL2 := Lib.hid hl2e
  have hb1 : 0 ≤ ld1 ∧ ld1 ≤ 17592186044416 := by omega
  have hb2 : 0 ≤ ld2 ∧ ld2 ≤ 17592186044416 := by omega
  clear h hA hmost hπ hr hl1e hl2e hnd b1 b2
  go_enter Tryz.func22, Tryz.ntmps22
  go_wp2_with (first
    | (go_at_call 43; go_loud (refine (rsEnds B x c (.slice (some ⟨gn, 0, none⟩) c.m.zs.length cn) ov (.slice (some ⟨gt, 0, none⟩) c.m.zs.length ct) nm ps cs mv _ HR.out).mono ?_; rintro e w2 ⟨a, b, rfl, hm, hb2⟩; obtain ⟨rfl, rfl⟩ := HMO.out.one HHO.out hm.out; have HB2 := Lib.hid hb2; have HR2 := Lib.hid (HR.out.below hb2); clear hb2 hm))
    | fail)
  clear k8
  go_loopw [5, 6] (fun kv iv wr => ∃ (i : Nat) (acc : Option Nat), i ≤ c.m.zs.length ∧ iv = .int .i64 i ∧ kv = .int .i64 (optI acc) ∧ Hid (BestP (rankOf ps g1) (rankOf ps g2) ps (fun j => j < i) acc) ∧ Below w2.heap.size w2 wr) (fun _ iv _ => c.m.zs.length - (intOf iv).toNat)
  case atStart => exact ⟨0, none, Nat.zero_le _, rfl, rfl, Lib.hid (fun j _ h => absurd h (Nat.not_lt_zero _)), Below.refl _ _⟩
  case round =>
    obtain ⟨i, acc, hil, rfl, rfl, HBP, hBw⟩ := hrel
    have HBR := Lib.hid hBw
    have HS := Lib.hid (HR2.out.below hBw)
    have hbw := HS.out.bw
    have k20 := HS.out.k2 HA.out
    have k2 := k20
    have hxw2 := HS.out.blk.low
    have hgw : gz < wr.heap.size := Nat.lt_of_lt_of_le hgB hbw
    have hszR := hBw.size
    clear hBw
    by_cases hlt : i < c.m.zs.length
    case neg =>
      have hi2 : i = ps.length := by omega
      have hacc : acc = r := by
        have h := HBP.out
        rw [hi2] at h
        exact h.one HND.out HRB.out
      subst hacc
      have q3 : ¬ ((i : Int) < (c.m.zs.length : Int)) := by omega
      clear hi2
      cases acc with
      | none =>
        rw [show optI none = -1 from rfl]
        go_wp2_with fail
        go_ret
        exact ⟨rfl, HS.out, HB2.out.mono HR.out.bw |>.trans (HBR.out.mono HR2.out.bw)⟩
      | some k =>
        obtain ⟨hkp, -, -, -⟩ := HBP.out
        obtain ⟨p, hp⟩ : ∃ p, p = ps[k] := ⟨_, rfl⟩
        have hpq : ps[k]? = some p := by rw [hp]; exact List.getElem?_eq_getElem hkp
        have hkz : k < c.m.zs.length := by omega
        have q5 : (k : Int) < (c.m.zs.length : Int) := by omega
        have q6 : ¬ ((k : Int) < 0) := by omega
        have HPQ := Lib.hid hpq
        have HPP := Lib.hid hp
        have hwm : IntKind.i64.wrap (mv + 1) = mv + 1 := by rw [IntKind.wrap_i64]; omega
        rw [show optI (some k) = (k : Int) from rfl]
        clear hp hpq
        go_wp2_with (first
          | (go_at_call 42; go_loud (refine (rsName B x gn cn k c ov (.slice (some ⟨gt, 0, none⟩) c.m.zs.length ct) nm ps cs mv 3 0 0 g2 ⟨#[]⟩ p _ HS.out HPQ.out (by omega)).mono ?_; rintro e w7 ⟨rfl, ov7, hs7, hb7⟩; have HS7 := Lib.hid hs7; have HB7 := Lib.hid hb7; obtain ⟨-, -, -, -, -, f7, f8⟩ := hs7.cells; have hnl : k < ((ps.set k (taken p)).map fun p => p.nd).length := (by simpa using hkp); have n1 := own_int hs7.tr hnl; obtain ⟨b1, hb1⟩ : ∃ b, b = ((ps.set k (taken p)).map fun p => p.nd)[k] := ⟨_, rfl⟩; rw [← hb1] at n1; have nf := hs7.tr.frozenAt k; have xf := hs7.blk.free 8; have hgtx : gt ≠ x := hs7.ta gt rfl; clear hs7 hb7 hb1))
          | fail)
        go_ret
        have hp2 : (ps.set k (taken p))[k]? = some (taken p) := by rw [List.getElem?_set_self (by omega)]
        have hfin := (HS7.out.goneTo hp2 g2).setMv (mv + 1)
        rw [List.set_set] at hfin
        rw [HPP.out] at hfin
        exact MvA.yes hkp hfin ((HB2.out.mono HR.out.bw).trans ((HBR.out.mono HR2.out.bw).trans (HB7.out.trans (((Below.refl _ _).setCell (HS7.out.tr.lt gt rfl).1 _).setCell HS7.out.low _))))
    have q3 : (i : Int) < (c.m.zs.length : Int) := by omega
    have hiz := hlt
    have hip : i < ps.length := by omega
    obtain ⟨pi, hpi⟩ : ∃ p, p = ps[i] := ⟨_, rfl⟩
    have hpq : ps[i]? = some pi := by rw [hpi]; exact List.getElem?_eq_getElem hip
    have hph := HR.out.lk.hits _ (List.getElem_mem hip)
    rw [← hpi] at hph
    obtain ⟨u00, -, -, u30, -⟩ := HS.out.zn HA.out hiz
    rw [← (HR.out.lk.z i hip hiz).1, ← hpi] at u00 u30
    have u3 := u30
    have HFR : Hid (freeAt ps i = pi.fr) := Lib.hid (by unfold freeAt; rw [hpq]; rfl)
    have HHI : Hid (hitsAt ps i = pi.hits) := Lib.hid (by unfold hitsAt; rw [hpq]; rfl)
    have HOKB : Hid (bestOk (rankOf ps g1) (rankOf ps g2) ps[i] = (pi.fr && decide (pi.z.ow = g1) && decide (0 < pi.hits) && decide (ld2 + pi.hits < ld1))) := Lib.hid (by rw [← hpi, HL1.out, HL2.out]; rfl)
    have HPI := Lib.hid hpi
    have hws : IntKind.i64.wrap (ld2 + pi.hits) = ld2 + pi.hits := by rw [IntKind.wrap_i64]; omega
    have hws2 : wrap64 (ld2 + pi.hits) = ld2 + pi.hits := wrap_small (by omega) (by omega)
    clear hpi hpq
    cases c1 : pi.fr with
    | false =>
      rw [c1] at HFR HOKB
      go_wp2_with (first
        | (go_at_call 41; go_loud (refine (rsFree B x c (.slice (some ⟨gn, 0, none⟩) c.m.zs.length cn) ov (.slice (some ⟨gt, 0, none⟩) c.m.zs.length ct) nm ps cs mv i hiz _ (HS.out.below HB4.out)).mono ?_; rintro e w5 ⟨rfl, hb5⟩; rw [HFR.out]; have HB5 := Lib.hid (HB4.out.trans (hb5.mono HB4.out.size)); have k2 := bkeep HB5.out k20 hxw2; have u3 := bkeep HB5.out u30 hgw; clear hb5))
        | (go_at_call 44; go_loud (refine (rsHits B x c (.slice (some ⟨gn, 0, none⟩) c.m.zs.length cn) ov (.slice (some ⟨gt, 0, none⟩) c.m.zs.length ct) nm ps cs mv i hiz _ HS.out).mono ?_; rintro e w4 ⟨rfl, hb4⟩; rw [HHI.out]; have HB4 := Lib.hid hb4; clear hb4))
        | fail)
      exact ⟨⟨i + 1, acc, by omega, by go_num, rfl, Lib.hid (HBP.out.skip hip (.inl (by rw [HOKB.out]; rfl))), HBR.out.trans (HB5.out.mono HBR.out.size)⟩, by simp [intOf]; omega⟩
    | true =>
    rw [c1] at HFR HOKB
    by_cases c2 : pi.z.ow = g1
    case neg =>
      have c2b : (pi.z.ow != g1) = true := by simpa using c2
      have HC := Lib.hid c2
      clear c2
      go_wp2_with (first
        | (go_at_call 41; go_loud (refine (rsFree B x c (.slice (some ⟨gn, 0, none⟩) c.m.zs.length cn) ov (.slice (some ⟨gt, 0, none⟩) c.m.zs.length ct) nm ps cs mv i hiz _ (HS.out.below HB4.out)).mono ?_; rintro e w5 ⟨rfl, hb5⟩; rw [HFR.out]; have HB5 := Lib.hid (HB4.out.trans (hb5.mono HB4.out.size)); have k2 := bkeep HB5.out k20 hxw2; have u3 := bkeep HB5.out u30 hgw; clear hb5))
        | (go_at_call 44; go_loud (refine (rsHits B x c (.slice (some ⟨gn, 0, none⟩) c.m.zs.length cn) ov (.slice (some ⟨gt, 0, none⟩) c.m.zs.length ct) nm ps cs mv i hiz _ HS.out).mono ?_; rintro e w4 ⟨rfl, hb4⟩; rw [HHI.out]; have HB4 := Lib.hid hb4; clear hb4))
        | fail)
      exact ⟨⟨i + 1, acc, by omega, by go_num, rfl, Lib.hid (HBP.out.skip hip (.inl (by rw [HOKB.out]; rw [decide_eq_false HC.out]; simp))), HBR.out.trans (HB5.out.mono HBR.out.size)⟩, by simp [intOf]; omega⟩
    have c2b : (pi.z.ow != g1) = false := by simpa using c2
    by_cases c3 : 0 < pi.hits
    case neg =>
      have HC := Lib.hid c3
      have c3b : pi.hits < 1 := by omega
      have HC2 := Lib.hid c2
      clear c2 c3
      go_wp2_with (first
        | (go_at_call 41; go_loud (refine (rsFree B x c (.slice (some ⟨gn, 0, none⟩) c.m.zs.length cn) ov (.slice (some ⟨gt, 0, none⟩) c.m.zs.length ct) nm ps cs mv i hiz _ (HS.out.below HB4.out)).mono ?_; rintro e w5 ⟨rfl, hb5⟩; rw [HFR.out]; have HB5 := Lib.hid (HB4.out.trans (hb5.mono HB4.out.size)); have k2 := bkeep HB5.out k20 hxw2; have u3 := bkeep HB5.out u30 hgw; clear hb5))
        | (go_at_call 44; go_loud (refine (rsHits B x c (.slice (some ⟨gn, 0, none⟩) c.m.zs.length cn) ov (.slice (some ⟨gt, 0, none⟩) c.m.zs.length ct) nm ps cs mv i hiz _ HS.out).mono ?_; rintro e w4 ⟨rfl, hb4⟩; rw [HHI.out]; have HB4 := Lib.hid hb4; clear hb4))
        | fail)
      exact ⟨⟨i + 1, acc, by omega, by go_num, rfl, Lib.hid (HBP.out.skip hip (.inl (by rw [HOKB.out]; rw [decide_eq_false (show ¬ 0 < pi.hits by have := HC.out; omega)]; simp))), HBR.out.trans (HB5.out.mono HBR.out.size)⟩, by simp [intOf]; omega⟩
    have c3b : ¬ (pi.hits < 1) := by omega
    by_cases c4 : ld2 + pi.hits < ld1
    case neg =>
      have HC := Lib.hid c4
      have c4b : ld1 ≤ ld2 + pi.hits := by omega
      have HC2 := Lib.hid c2
      clear c2 c4
      go_wp2_with (first
        | (go_at_call 45; have hgg := HB6; clear hgg; go_loud (refine (rsLoad B x c (.slice (some ⟨gn, 0, none⟩) c.m.zs.length cn) ov (.slice (some ⟨gt, 0, none⟩) c.m.zs.length ct) nm ps cs mv g1 _ (HS.out.below HB6.out)).mono ?_; rintro e w7 ⟨rfl, hb7⟩; rw [← HL1.out]; have HB7 := Lib.hid (HB6.out.trans (hb7.mono HB6.out.size)); clear hb7))
        | (go_at_call 45; have hgg := HB5; clear hgg; go_loud (refine (rsLoad B x c (.slice (some ⟨gn, 0, none⟩) c.m.zs.length cn) ov (.slice (some ⟨gt, 0, none⟩) c.m.zs.length ct) nm ps cs mv g2 _ (HS.out.below HB5.out)).mono ?_; rintro e w6 ⟨rfl, hb6⟩; rw [← HL2.out]; have HB6 := Lib.hid (HB5.out.trans (hb6.mono HB5.out.size)); clear hb6))
        | (go_at_call 41; go_loud (refine (rsFree B x c (.slice (some ⟨gn, 0, none⟩) c.m.zs.length cn) ov (.slice (some ⟨gt, 0, none⟩) c.m.zs.length ct) nm ps cs mv i hiz _ (HS.out.below HB4.out)).mono ?_; rintro e w5 ⟨rfl, hb5⟩; rw [HFR.out]; have HB5 := Lib.hid (HB4.out.trans (hb5.mono HB4.out.size)); have k2 := bkeep HB5.out k20 hxw2; have u3 := bkeep HB5.out u30 hgw; clear hb5))
        | (go_at_call 44; go_loud (refine (rsHits B x c (.slice (some ⟨gn, 0, none⟩) c.m.zs.length cn) ov (.slice (some ⟨gt, 0, none⟩) c.m.zs.length ct) nm ps cs mv i hiz _ HS.out).mono ?_; rintro e w4 ⟨rfl, hb4⟩; rw [HHI.out]; have HB4 := Lib.hid hb4; clear hb4))
        | fail)
      exact ⟨⟨i + 1, acc, by omega, by go_num, rfl, Lib.hid (HBP.out.skip hip (.inl (by rw [HOKB.out]; rw [decide_eq_false (show ¬ ld2 + pi.hits < ld1 by have := HC.out; omega)]; simp))), HBR.out.trans (HB7.out.mono HBR.out.size)⟩, by simp [intOf]; omega⟩
    have c4b : ¬ (ld1 ≤ ld2 + pi.hits) := by omega
    have HOKT : Hid ((true && decide (pi.z.ow = g1) && decide (0 < pi.hits) && decide (ld2 + pi.hits < ld1)) = true) := Lib.hid (by rw [decide_eq_true c2, decide_eq_true c3, decide_eq_true c4]; rfl)
    clear c2
    go_upto_region 10 with (first
      | (go_at_call 45; have hgg := HB6; clear hgg; go_loud (refine (rsLoad B x c (.slice (some ⟨gn, 0, none⟩) c.m.zs.length cn) ov (.slice (some ⟨gt, 0, none⟩) c.m.zs.length ct) nm ps cs mv g1 _ (HS.out.below HB6.out)).mono ?_; rintro e w7 ⟨rfl, hb7⟩; rw [← HL1.out]; have HB7 := Lib.hid (HB6.out.trans (hb7.mono HB6.out.size)); clear hb7))
      | (go_at_call 45; have hgg := HB5; clear hgg; go_loud (refine (rsLoad B x c (.slice (some ⟨gn, 0, none⟩) c.m.zs.length cn) ov (.slice (some ⟨gt, 0, none⟩) c.m.zs.length ct) nm ps cs mv g2 _ (HS.out.below HB5.out)).mono ?_; rintro e w6 ⟨rfl, hb6⟩; rw [← HL2.out]; have HB6 := Lib.hid (HB5.out.trans (hb6.mono HB5.out.size)); clear hb6))
      | (go_at_call 41; go_loud (refine (rsFree B x c (.slice (some ⟨gn, 0, none⟩) c.m.zs.length cn) ov (.slice (some ⟨gt, 0, none⟩) c.m.zs.length ct) nm ps cs mv i hiz _ (HS.out.below HB4.out)).mono ?_; rintro e w5 ⟨rfl, hb5⟩; rw [HFR.out]; have HB5 := Lib.hid (HB4.out.trans (hb5.mono HB4.out.size)); have k2 := bkeep HB5.out k20 hxw2; have u3 := bkeep HB5.out u30 hgw; clear hb5))
      | (go_at_call 44; go_loud (refine (rsHits B x c (.slice (some ⟨gn, 0, none⟩) c.m.zs.length cn) ov (.slice (some ⟨gt, 0, none⟩) c.m.zs.length ct) nm ps cs mv i hiz _ HS.out).mono ?_; rintro e w4 ⟨rfl, hb4⟩; rw [HHI.out]; have HB4 := Lib.hid hb4; clear hb4))
      | fail)
    clear k2 u3
    cases acc with
    | none =>
      rw [show optI none = -1 from rfl]
      refine wp_region_held_drew (S := (fun W => Below wr.heap.size wr W)) (by kernel_rfl) HB7.out.drew (fun hHeld => ?_)
      refine tk (i := 0) (oi := ⟨some 63, _, _, _, _, _⟩) (?v0n) rfl (by rfl) ?y0n ?r0n
      case y0n => (intro w hSw; (try dsimp only at hSw); (try go_split_ands); go_simp); (try with_reducible rfl)
      case r0n =>
      (try simp only [Act.put, sA, sB, sC])
      refine tk (i := 1) (oi := ⟨some 64, _, _, _, _, _⟩) (.bool true) rfl (by rfl) ?y1n ?r1n
      case y1n => (intro w hSw; (try dsimp only at hSw); (try go_split_ands); (go_simp <;> omega))
      case r1n =>
      (try simp only [Act.put, sA, sB, sC])
      refine tk (i := 2) (oi := ⟨some 65, _, _, _, _, _⟩) (.bool true) rfl (by rfl) ?y2n ?r2n
      case y2n => (intro w hSw; (try dsimp only at hSw); (try go_split_ands); (go_simp <;> omega))
      case r2n =>
      (try simp only [Act.put, sA, sB, sC])
      refine tn (i := 3) (oi := ⟨some 66, _, _, _, _, _⟩) rfl (by rfl) ?_
      (try simp only [Act.put, sA, sB, sC])
      refine tn (i := 4) (oi := ⟨some 67, _, _, _, _, _⟩) rfl (by rfl) ?_
      (try simp only [Act.put, sA, sB, sC])
      refine tn (i := 5) (oi := ⟨some 68, _, _, _, _, _⟩) rfl (by rfl) ?_
      (try simp only [Act.put, sA, sB, sC])
      refine tn (i := 6) (oi := ⟨some 69, _, _, _, _, _⟩) rfl (by rfl) ?_
      (try simp only [Act.put, sA, sB, sC])
      refine tn (i := 7) (oi := ⟨some 70, _, _, _, _, _⟩) rfl (by rfl) ?_
      (try simp only [Act.put, sA, sB, sC])
      refine tk (i := 8) (oi := ⟨some 71, _, _, _, _, _⟩) (.bool true) rfl (by rfl) ?y8n ?r8n
      case y8n => (intro w hSw; (try dsimp only at hSw); (try go_split_ands); (go_simp <;> omega))
      case r8n =>
      (try simp only [Act.put, sA, sB, sC])
      refine tk (i := 9) (oi := ⟨some 72, _, _, _, _, _⟩) (.bool true) rfl (by rfl) ?y9n ?r9n
      case y9n => (intro w hSw; (try dsimp only at hSw); (try go_split_ands); (go_simp <;> omega))
      case r9n =>
      (try simp only [Act.put, sA, sB, sC])
      refine tn (i := 10) (oi := ⟨some 73, _, _, _, _, _⟩) rfl (by rfl) ?_
      (try simp only [Act.put, sA, sB, sC])
      refine tn (i := 11) (oi := ⟨some 74, _, _, _, _, _⟩) rfl (by rfl) ?_
      (try simp only [Act.put, sA, sB, sC])
      refine tn (i := 12) (oi := ⟨some 75, _, _, _, _, _⟩) rfl (by rfl) ?_
      (try simp only [Act.put, sA, sB, sC])
      refine tn (i := 13) (oi := ⟨some 76, _, _, _, _, _⟩) rfl (by rfl) ?_
      (try simp only [Act.put, sA, sB, sC])
      refine tn (i := 14) (oi := ⟨some 77, _, _, _, _, _⟩) rfl (by rfl) ?_
      (try simp only [Act.put, sA, sB, sC])
      refine tn (i := 15) (oi := ⟨some 78, _, _, _, _, _⟩) rfl (by rfl) ?_
      (try simp only [Act.put, sA, sB, sC])
      refine tn (i := 16) (oi := ⟨some 79, _, _, _, _, _⟩) rfl (by rfl) ?_
      (try simp only [Act.put, sA, sB, sC])
      refine tn (i := 17) (oi := ⟨some 80, _, _, _, _, _⟩) rfl (by rfl) ?_
      (try simp only [Act.put, sA, sB, sC])
      refine tn (i := 18) (oi := ⟨some 81, _, _, _, _, _⟩) rfl (by rfl) ?_
      (try simp only [Act.put, sA, sB, sC])
      refine tn (i := 19) (oi := ⟨some 82, _, _, _, _, _⟩) rfl (by rfl) ?_
      (try simp only [Act.put, sA, sB, sC])
      refine tn (i := 20) (oi := ⟨some 83, _, _, _, _, _⟩) rfl (by rfl) ?_
      (try simp only [Act.put, sA, sB, sC])
      refine tn (i := 21) (oi := ⟨some 84, _, _, _, _, _⟩) rfl (by rfl) ?_
      (try simp only [Act.put, sA, sB, sC])
      refine tn (i := 22) (oi := ⟨some 85, _, _, _, _, _⟩) rfl (by rfl) ?_
      (try simp only [Act.put, sA, sB, sC])
      refine tn (i := 23) (oi := ⟨some 86, _, _, _, _, _⟩) rfl (by rfl) ?_
      (try simp only [Act.put, sA, sB, sC])
      refine tn (i := 24) (oi := ⟨some 87, _, _, _, _, _⟩) rfl (by rfl) ?_
      (try simp only [Act.put, sA, sB, sC])
      refine tn (i := 25) (oi := ⟨some 88, _, _, _, _, _⟩) rfl (by rfl) ?_
      (try simp only [Act.put, sA, sB, sC])
      refine tn (i := 26) (oi := ⟨some 89, _, _, _, _, _⟩) rfl (by rfl) ?_
      (try simp only [Act.put, sA, sB, sC])
      refine tn (i := 27) (oi := ⟨some 90, _, _, _, _, _⟩) rfl (by rfl) ?_
      (try simp only [Act.put, sA, sB, sC])
      refine tn (i := 28) (oi := ⟨some 91, _, _, _, _, _⟩) rfl (by rfl) ?_
      (try simp only [Act.put, sA, sB, sC])
      refine tn (i := 29) (oi := ⟨some 92, _, _, _, _, _⟩) rfl (by rfl) ?_
      (try simp only [Act.put, sA, sB, sC])
      refine tn (i := 30) (oi := ⟨some 93, _, _, _, _, _⟩) rfl (by rfl) ?_
      (try simp only [Act.put, sA, sB, sC])
      refine tn (i := 31) (oi := ⟨some 94, _, _, _, _, _⟩) rfl (by rfl) ?_
      (try simp only [Act.put, sA, sB, sC])
      refine tn (i := 32) (oi := ⟨some 95, _, _, _, _, _⟩) rfl (by rfl) ?_
      (try simp only [Act.put, sA, sB, sC])
      refine tn (i := 33) (oi := ⟨some 96, _, _, _, _, _⟩) rfl (by rfl) ?_
      (try simp only [Act.put, sA, sB, sC])
      refine tn (i := 34) (oi := ⟨some 97, _, _, _, _, _⟩) rfl (by rfl) ?_
      (try simp only [Act.put, sA, sB, sC])
      refine tn (i := 35) (oi := ⟨some 98, _, _, _, _, _⟩) rfl (by rfl) ?_
      (try simp only [Act.put, sA, sB, sC])
      refine tk (i := 36) (oi := ⟨some 99, _, _, _, _, _⟩) (.bool true) rfl (by rfl) ?y36n ?r36n
      case y36n => (intro w hSw; (try dsimp only at hSw); (try go_split_ands); (go_simp <;> omega))
      case r36n =>
      (try simp only [Act.put, sA, sB, sC])
      refine wpAnyH_done (by kernel_rfl) ?_ _

      go_wp2_with fail
      exact ⟨⟨i + 1, some i, by omega, by go_num, rfl, Lib.hid (HBP.out.take hip (by rw [HOKB.out]; exact HOKT.out) (.inl rfl)), HBR.out.trans (hHeld.mono HBR.out.size)⟩, by simp [intOf]; omega⟩
    | some k =>
      obtain ⟨hkp, hki, -, -⟩ := HBP.out
      obtain ⟨pk, hpk⟩ : ∃ p, p = ps[k] := ⟨_, rfl⟩
      have hkq : ps[k]? = some pk := by rw [hpk]; exact List.getElem?_eq_getElem hkp
      have hkz : k < c.m.zs.length := by omega
      have q5 : (k : Int) < (c.m.zs.length : Int) := by omega
      have q6 : ¬ ((k : Int) < 0) := by omega
      obtain ⟨v00, -, -, -, -⟩ := HS.out.zn HA.out hkz
      rw [← (HR.out.lk.z k hkp hkz).1, ← hpk] at v00
      have HHK : Hid (hitsAt ps k = pk.hits) := Lib.hid (by unfold hitsAt; rw [hkq]; rfl)
      have HPK := Lib.hid hpk
      rw [show optI (some k) = (k : Int) from rfl]
      clear hpk hkq
      by_cases d1 : pk.hits < pi.hits
      · have HD := Lib.hid d1
        refine wp_region_held_drew (S := (fun W => Below wr.heap.size wr W ∧ W.cell? ⟨x, 2, none⟩ = some (.slice (some ⟨gz, oz, none⟩) c.m.zs.length c.cp) ∧ W.cell? ⟨gz, oz + i * 9, none⟩ = some (.int .i64 pi.z.id) ∧ W.cell? ⟨gz, oz + k * 9, none⟩ = some (.int .i64 pk.z.id))) (by kernel_rfl) ⟨HB7.out.drew, bkeep HB7.out.drew k20 hxw2, bkeep HB7.out.drew u00 hgw, bkeep HB7.out.drew v00 hgw⟩ (fun hHeld => ?_)
        refine tk (i := 0) (oi := ⟨some 63, _, _, _, _, _⟩) (?v0a) rfl (by rfl) ?y0a ?r0a
        case y0a => (intro w hSw; (try dsimp only at hSw); (try go_split_ands); go_simp); (try with_reducible rfl)
        case r0a =>
        (try simp only [Act.put, sA, sB, sC])
        refine tk (i := 1) (oi := ⟨some 64, _, _, _, _, _⟩) (.bool false) rfl (by rfl) ?y1a ?r1a
        case y1a => (intro w hSw; (try dsimp only at hSw); (try go_split_ands); (go_simp <;> omega))
        case r1a =>
        (try simp only [Act.put, sA, sB, sC])
        refine tk (i := 2) (oi := ⟨some 65, _, _, _, _, _⟩) (.bool false) rfl (by rfl) ?y2a ?r2a
        case y2a => (intro w hSw; (try dsimp only at hSw); (try go_split_ands); (go_simp <;> omega))
        case r2a =>
        (try simp only [Act.put, sA, sB, sC])
        refine tk (i := 3) (oi := ⟨some 66, _, _, _, _, _⟩) (?v3a) rfl (by rfl) ?y3a ?r3a
        case y3a => (intro w hSw; (try dsimp only at hSw); (try go_split_ands); go_simp); (try with_reducible rfl)
        case r3a =>
        (try simp only [Act.put, sA, sB, sC])
        refine tk (i := 4) (oi := ⟨some 67, _, _, _, _, _⟩) (?v4a) rfl (by rfl) ?y4a ?r4a
        case y4a => (intro w hSw; (try dsimp only at hSw); (try go_split_ands); go_simp); (try with_reducible rfl)
        case r4a =>
        (try simp only [Act.put, sA, sB, sC])
        refine tk (i := 5) (oi := ⟨some 68, _, _, _, _, _⟩) (?v5a) rfl (by rfl) ?y5a ?r5a
        case y5a => (intro w hSw; (try dsimp only at hSw); (try go_split_ands); go_simp); (try with_reducible rfl)
        case r5a =>
        (try simp only [Act.put, sA, sB, sC])
        refine wpAnyH_ready (rs := [6]) (by kernel_rfl) (by simp) ?_
        refine AllReadyH.cons (o := ⟨some 69, _, _, _, _, _⟩) rfl (fun K hK => ?_) AllReadyH.nil
        go_simp
        refine (rsHits B x c (.slice (some ⟨gn, 0, none⟩) c.m.zs.length cn) ov (.slice (some ⟨gt, 0, none⟩) c.m.zs.length ct) nm ps cs mv k hkz _ (HS.out.below hHeld.1)).mono ?_; rintro e w3 ⟨rfl, hb3⟩; rw [HHK.out]
        go_wp2_with fail
        refine hK.out _ _ (by have hh := Below.trans hHeld.1 (Below.mono hb3 (Below.size hHeld.1)); exact ⟨hh, bkeep hh k20 hxw2, bkeep hh u00 hgw, bkeep hh v00 hgw⟩) (fun hHeld => ?_)
        clear hK K
        (try simp only [Act.put, sA, sB, sC])
        refine tk (i := 7) (oi := ⟨some 70, _, _, _, _, _⟩) (.bool true) rfl (by rfl) ?y7a ?r7a
        case y7a => (intro w hSw; (try dsimp only at hSw); (try go_split_ands); (go_simp <;> omega))
        case r7a =>
        (try simp only [Act.put, sA, sB, sC])
        refine tk (i := 8) (oi := ⟨some 71, _, _, _, _, _⟩) (.bool true) rfl (by rfl) ?y8a ?r8a
        case y8a => (intro w hSw; (try dsimp only at hSw); (try go_split_ands); (go_simp <;> omega))
        case r8a =>
        (try simp only [Act.put, sA, sB, sC])
        refine tk (i := 9) (oi := ⟨some 72, _, _, _, _, _⟩) (.bool true) rfl (by rfl) ?y9a ?r9a
        case y9a => (intro w hSw; (try dsimp only at hSw); (try go_split_ands); (go_simp <;> omega))
        case r9a =>
        (try simp only [Act.put, sA, sB, sC])
        refine tn (i := 10) (oi := ⟨some 73, _, _, _, _, _⟩) rfl (by rfl) ?_
        (try simp only [Act.put, sA, sB, sC])
        refine tn (i := 11) (oi := ⟨some 74, _, _, _, _, _⟩) rfl (by rfl) ?_
        (try simp only [Act.put, sA, sB, sC])
        refine tn (i := 12) (oi := ⟨some 75, _, _, _, _, _⟩) rfl (by rfl) ?_
        (try simp only [Act.put, sA, sB, sC])
        refine tn (i := 13) (oi := ⟨some 76, _, _, _, _, _⟩) rfl (by rfl) ?_
        (try simp only [Act.put, sA, sB, sC])
        refine tn (i := 14) (oi := ⟨some 77, _, _, _, _, _⟩) rfl (by rfl) ?_
        (try simp only [Act.put, sA, sB, sC])
        refine tn (i := 15) (oi := ⟨some 78, _, _, _, _, _⟩) rfl (by rfl) ?_
        (try simp only [Act.put, sA, sB, sC])
        refine tn (i := 16) (oi := ⟨some 79, _, _, _, _, _⟩) rfl (by rfl) ?_
        (try simp only [Act.put, sA, sB, sC])
        refine tn (i := 17) (oi := ⟨some 80, _, _, _, _, _⟩) rfl (by rfl) ?_
        (try simp only [Act.put, sA, sB, sC])
        refine tn (i := 18) (oi := ⟨some 81, _, _, _, _, _⟩) rfl (by rfl) ?_
        (try simp only [Act.put, sA, sB, sC])
        refine tn (i := 19) (oi := ⟨some 82, _, _, _, _, _⟩) rfl (by rfl) ?_
        (try simp only [Act.put, sA, sB, sC])
        refine tn (i := 20) (oi := ⟨some 83, _, _, _, _, _⟩) rfl (by rfl) ?_
        (try simp only [Act.put, sA, sB, sC])
        refine tn (i := 21) (oi := ⟨some 84, _, _, _, _, _⟩) rfl (by rfl) ?_
        (try simp only [Act.put, sA, sB, sC])
        refine tn (i := 22) (oi := ⟨some 85, _, _, _, _, _⟩) rfl (by rfl) ?_
        (try simp only [Act.put, sA, sB, sC])
        refine tn (i := 23) (oi := ⟨some 86, _, _, _, _, _⟩) rfl (by rfl) ?_
        (try simp only [Act.put, sA, sB, sC])
        refine tn (i := 24) (oi := ⟨some 87, _, _, _, _, _⟩) rfl (by rfl) ?_
        (try simp only [Act.put, sA, sB, sC])
        refine tn (i := 25) (oi := ⟨some 88, _, _, _, _, _⟩) rfl (by rfl) ?_
        (try simp only [Act.put, sA, sB, sC])
        refine tn (i := 26) (oi := ⟨some 89, _, _, _, _, _⟩) rfl (by rfl) ?_
        (try simp only [Act.put, sA, sB, sC])
        refine tn (i := 27) (oi := ⟨some 90, _, _, _, _, _⟩) rfl (by rfl) ?_
        (try simp only [Act.put, sA, sB, sC])
        refine tn (i := 28) (oi := ⟨some 91, _, _, _, _, _⟩) rfl (by rfl) ?_
        (try simp only [Act.put, sA, sB, sC])
        refine tn (i := 29) (oi := ⟨some 92, _, _, _, _, _⟩) rfl (by rfl) ?_
        (try simp only [Act.put, sA, sB, sC])
        refine tn (i := 30) (oi := ⟨some 93, _, _, _, _, _⟩) rfl (by rfl) ?_
        (try simp only [Act.put, sA, sB, sC])
        refine tn (i := 31) (oi := ⟨some 94, _, _, _, _, _⟩) rfl (by rfl) ?_
        (try simp only [Act.put, sA, sB, sC])
        refine tn (i := 32) (oi := ⟨some 95, _, _, _, _, _⟩) rfl (by rfl) ?_
        (try simp only [Act.put, sA, sB, sC])
        refine tn (i := 33) (oi := ⟨some 96, _, _, _, _, _⟩) rfl (by rfl) ?_
        (try simp only [Act.put, sA, sB, sC])
        refine tn (i := 34) (oi := ⟨some 97, _, _, _, _, _⟩) rfl (by rfl) ?_
        (try simp only [Act.put, sA, sB, sC])
        refine tn (i := 35) (oi := ⟨some 98, _, _, _, _, _⟩) rfl (by rfl) ?_
        (try simp only [Act.put, sA, sB, sC])
        refine tk (i := 36) (oi := ⟨some 99, _, _, _, _, _⟩) (.bool true) rfl (by rfl) ?y36a ?r36a
        case y36a => (intro w hSw; (try dsimp only at hSw); (try go_split_ands); (go_simp <;> omega))
        case r36a =>
        (try simp only [Act.put, sA, sB, sC])
        refine wpAnyH_done (by kernel_rfl) ?_ _

        go_wp2_with fail
        exact ⟨⟨i + 1, some i, by omega, by go_num, rfl, Lib.hid (HBP.out.take hip (by rw [HOKB.out]; exact HOKT.out) (.inr ⟨k, rfl, hkp, by rw [← HPK.out, ← HPI.out]; exact .inl HD.out⟩)), HBR.out.trans (hHeld.1.mono HBR.out.size)⟩, by simp [intOf]; omega⟩
      by_cases d2 : pi.hits = pk.hits
      · have d2b : (pi.hits == pk.hits) = true := by simpa using d2
        have HD := Lib.hid d2
        by_cases d3 : pi.z.id < pk.z.id
        · clear d2
          have HD3 := Lib.hid d3
          refine wp_region_held_drew (S := (fun W => Below wr.heap.size wr W ∧ W.cell? ⟨x, 2, none⟩ = some (.slice (some ⟨gz, oz, none⟩) c.m.zs.length c.cp) ∧ W.cell? ⟨gz, oz + i * 9, none⟩ = some (.int .i64 pi.z.id) ∧ W.cell? ⟨gz, oz + k * 9, none⟩ = some (.int .i64 pk.z.id))) (by kernel_rfl) ⟨HB7.out.drew, bkeep HB7.out.drew k20 hxw2, bkeep HB7.out.drew u00 hgw, bkeep HB7.out.drew v00 hgw⟩ (fun hHeld => ?_)
          refine tk (i := 0) (oi := ⟨some 63, _, _, _, _, _⟩) (?v0b) rfl (by rfl) ?y0b ?r0b
          case y0b => (intro w hSw; (try dsimp only at hSw); (try go_split_ands); go_simp); (try with_reducible rfl)
          case r0b =>
          (try simp only [Act.put, sA, sB, sC])
          refine tk (i := 1) (oi := ⟨some 64, _, _, _, _, _⟩) (.bool false) rfl (by rfl) ?y1b ?r1b
          case y1b => (intro w hSw; (try dsimp only at hSw); (try go_split_ands); (go_simp <;> omega))
          case r1b =>
          (try simp only [Act.put, sA, sB, sC])
          refine tk (i := 2) (oi := ⟨some 65, _, _, _, _, _⟩) (.bool false) rfl (by rfl) ?y2b ?r2b
          case y2b => (intro w hSw; (try dsimp only at hSw); (try go_split_ands); (go_simp <;> omega))
          case r2b =>
          (try simp only [Act.put, sA, sB, sC])
          refine tk (i := 3) (oi := ⟨some 66, _, _, _, _, _⟩) (?v3b) rfl (by rfl) ?y3b ?r3b
          case y3b => (intro w hSw; (try dsimp only at hSw); (try go_split_ands); go_simp); (try with_reducible rfl)
          case r3b =>
          (try simp only [Act.put, sA, sB, sC])
          refine tk (i := 4) (oi := ⟨some 67, _, _, _, _, _⟩) (?v4b) rfl (by rfl) ?y4b ?r4b
          case y4b => (intro w hSw; (try dsimp only at hSw); (try go_split_ands); go_simp); (try with_reducible rfl)
          case r4b =>
          (try simp only [Act.put, sA, sB, sC])
          refine tk (i := 5) (oi := ⟨some 68, _, _, _, _, _⟩) (?v5b) rfl (by rfl) ?y5b ?r5b
          case y5b => (intro w hSw; (try dsimp only at hSw); (try go_split_ands); go_simp); (try with_reducible rfl)
          case r5b =>
          (try simp only [Act.put, sA, sB, sC])
          refine wpAnyH_ready (rs := [6]) (by kernel_rfl) (by simp) ?_
          refine AllReadyH.cons (o := ⟨some 69, _, _, _, _, _⟩) rfl (fun K hK => ?_) AllReadyH.nil
          go_simp
          refine (rsHits B x c (.slice (some ⟨gn, 0, none⟩) c.m.zs.length cn) ov (.slice (some ⟨gt, 0, none⟩) c.m.zs.length ct) nm ps cs mv k hkz _ (HS.out.below hHeld.1)).mono ?_; rintro e w3 ⟨rfl, hb3⟩; rw [HHK.out]
          go_wp2_with fail
          refine hK.out _ _ (by have hh := Below.trans hHeld.1 (Below.mono hb3 (Below.size hHeld.1)); exact ⟨hh, bkeep hh k20 hxw2, bkeep hh u00 hgw, bkeep hh v00 hgw⟩) (fun hHeld => ?_)
          clear hK K
          (try simp only [Act.put, sA, sB, sC])
          refine tk (i := 7) (oi := ⟨some 70, _, _, _, _, _⟩) (.bool false) rfl (by rfl) ?y7b ?r7b
          case y7b => (intro w hSw; (try dsimp only at hSw); (try go_split_ands); (go_simp <;> omega))
          case r7b =>
          (try simp only [Act.put, sA, sB, sC])
          refine tk (i := 8) (oi := ⟨some 71, _, _, _, _, _⟩) (.bool false) rfl (by rfl) ?y8b ?r8b
          case y8b => (intro w hSw; (try dsimp only at hSw); (try go_split_ands); (go_simp <;> omega))
          case r8b =>
          (try simp only [Act.put, sA, sB, sC])
          refine tk (i := 9) (oi := ⟨some 72, _, _, _, _, _⟩) (.bool false) rfl (by rfl) ?y9b ?r9b
          case y9b => (intro w hSw; (try dsimp only at hSw); (try go_split_ands); (go_simp <;> omega))
          case r9b =>
          (try simp only [Act.put, sA, sB, sC])
          refine tk (i := 10) (oi := ⟨some 73, _, _, _, _, _⟩) (?v10b) rfl (by rfl) ?y10b ?r10b
          case y10b => (intro w hSw; (try dsimp only at hSw); (try go_split_ands); go_simp); (try with_reducible rfl)
          case r10b =>
          (try simp only [Act.put, sA, sB, sC])
          refine tk (i := 11) (oi := ⟨some 74, _, _, _, _, _⟩) (?v11b) rfl (by rfl) ?y11b ?r11b
          case y11b => (intro w hSw; (try dsimp only at hSw); (try go_split_ands); go_simp); (try with_reducible rfl)
          case r11b =>
          (try simp only [Act.put, sA, sB, sC])
          refine tk (i := 12) (oi := ⟨some 75, _, _, _, _, _⟩) (?v12b) rfl (by rfl) ?y12b ?r12b
          case y12b => (intro w hSw; (try dsimp only at hSw); (try go_split_ands); go_simp); (try with_reducible rfl)
          case r12b =>
          (try simp only [Act.put, sA, sB, sC])
          refine wpAnyH_ready (rs := [13]) (by kernel_rfl) (by simp) ?_
          refine AllReadyH.cons (o := ⟨some 76, _, _, _, _, _⟩) rfl (fun K hK => ?_) AllReadyH.nil
          go_simp
          refine (rsHits B x c (.slice (some ⟨gn, 0, none⟩) c.m.zs.length cn) ov (.slice (some ⟨gt, 0, none⟩) c.m.zs.length ct) nm ps cs mv k hkz _ (HS.out.below hHeld.1)).mono ?_; rintro e w3 ⟨rfl, hb3⟩; rw [HHK.out]
          go_wp2_with fail
          refine hK.out _ _ (by have hh := Below.trans hHeld.1 (Below.mono hb3 (Below.size hHeld.1)); exact ⟨hh, bkeep hh k20 hxw2, bkeep hh u00 hgw, bkeep hh v00 hgw⟩) (fun hHeld => ?_)
          clear hK K
          (try simp only [Act.put, sA, sB, sC])
          refine tk (i := 14) (oi := ⟨some 77, _, _, _, _, _⟩) (.bool true) rfl (by rfl) ?y14b ?r14b
          case y14b => (intro w hSw; (try dsimp only at hSw); (try go_split_ands); (go_simp <;> omega))
          case r14b =>
          (try simp only [Act.put, sA, sB, sC])
          refine tk (i := 15) (oi := ⟨some 78, _, _, _, _, _⟩) (.bool true) rfl (by rfl) ?y15b ?r15b
          case y15b => (intro w hSw; (try dsimp only at hSw); (try go_split_ands); (go_simp <;> omega))
          case r15b =>
          (try simp only [Act.put, sA, sB, sC])
          refine tk (i := 16) (oi := ⟨some 79, _, _, _, _, _⟩) (?v16b) rfl (by rfl) ?y16b ?r16b
          case y16b => (intro w hSw; (try dsimp only at hSw); (try go_split_ands); go_simp); (try with_reducible rfl)
          case r16b =>
          (try simp only [Act.put, sA, sB, sC])
          refine tk (i := 17) (oi := ⟨some 80, _, _, _, _, _⟩) (?v17b) rfl (by rfl) ?y17b ?r17b
          case y17b => (intro w hSw; (try dsimp only at hSw); (try go_split_ands); go_simp); (try with_reducible rfl)
          case r17b =>
          (try simp only [Act.put, sA, sB, sC])
          refine tk (i := 18) (oi := ⟨some 81, _, _, _, _, _⟩) (?v18b) rfl (by rfl) ?y18b ?r18b
          case y18b => (intro w hSw; (try dsimp only at hSw); (try go_split_ands); go_simp); (try with_reducible rfl)
          case r18b =>
          (try simp only [Act.put, sA, sB, sC])
          refine tk (i := 19) (oi := ⟨some 82, _, _, _, _, _⟩) (?v19b) rfl (by rfl) ?y19b ?r19b
          case y19b => (intro w hSw; (try dsimp only at hSw); (try go_split_ands); go_simp); (try with_reducible rfl)
          case r19b =>
          (try simp only [Act.put, sA, sB, sC])
          refine tk (i := 20) (oi := ⟨some 83, _, _, _, _, _⟩) (?v20b) rfl (by rfl) ?y20b ?r20b
          case y20b => (intro w hSw; (try dsimp only at hSw); (try go_split_ands); go_simp); (try with_reducible rfl)
          case r20b =>
          (try simp only [Act.put, sA, sB, sC])
          refine tk (i := 21) (oi := ⟨some 84, _, _, _, _, _⟩) (?v21b) rfl (by rfl) ?y21b ?r21b
          case y21b => (intro w hSw; (try dsimp only at hSw); (try go_split_ands); go_simp); (try with_reducible rfl)
          case r21b =>
          (try simp only [Act.put, sA, sB, sC])
          refine tk (i := 22) (oi := ⟨some 85, _, _, _, _, _⟩) (?v22b) rfl (by rfl) ?y22b ?r22b
          case y22b => (intro w hSw; (try dsimp only at hSw); (try go_split_ands); go_simp); (try with_reducible rfl)
          case r22b =>
          (try simp only [Act.put, sA, sB, sC])
          refine tk (i := 23) (oi := ⟨some 86, _, _, _, _, _⟩) (?v23b) rfl (by rfl) ?y23b ?r23b
          case y23b => (intro w hSw; (try dsimp only at hSw); (try go_split_ands); go_simp); (try with_reducible rfl)
          case r23b =>
          (try simp only [Act.put, sA, sB, sC])
          refine tk (i := 24) (oi := ⟨some 87, _, _, _, _, _⟩) (?v24b) rfl (by rfl) ?y24b ?r24b
          case y24b => (intro w hSw; (try dsimp only at hSw); (try go_split_ands); go_simp); (try with_reducible rfl)
          case r24b =>
          (try simp only [Act.put, sA, sB, sC])
          refine tk (i := 25) (oi := ⟨some 88, _, _, _, _, _⟩) (?v25b) rfl (by rfl) ?y25b ?r25b
          case y25b => (intro w hSw; (try dsimp only at hSw); (try go_split_ands); go_simp); (try with_reducible rfl)
          case r25b =>
          (try simp only [Act.put, sA, sB, sC])
          refine tk (i := 26) (oi := ⟨some 89, _, _, _, _, _⟩) (?v26b) rfl (by rfl) ?y26b ?r26b
          case y26b => (intro w hSw; (try dsimp only at hSw); (try go_split_ands); go_simp); (try with_reducible rfl)
          case r26b =>
          (try simp only [Act.put, sA, sB, sC])
          refine tk (i := 27) (oi := ⟨some 90, _, _, _, _, _⟩) (?v27b) rfl (by rfl) ?y27b ?r27b
          case y27b => (intro w hSw; (try dsimp only at hSw); (try go_split_ands); go_simp); (try with_reducible rfl)
          case r27b =>
          (try simp only [Act.put, sA, sB, sC])
          refine tk (i := 28) (oi := ⟨some 91, _, _, _, _, _⟩) (?v28b) rfl (by rfl) ?y28b ?r28b
          case y28b => (intro w hSw; (try dsimp only at hSw); (try go_split_ands); go_simp); (try with_reducible rfl)
          case r28b =>
          (try simp only [Act.put, sA, sB, sC])
          refine tk (i := 29) (oi := ⟨some 92, _, _, _, _, _⟩) (?v29b) rfl (by rfl) ?y29b ?r29b
          case y29b => (intro w hSw; (try dsimp only at hSw); (try go_split_ands); go_simp); (try with_reducible rfl)
          case r29b =>
          (try simp only [Act.put, sA, sB, sC])
          refine tk (i := 30) (oi := ⟨some 93, _, _, _, _, _⟩) (?v30b) rfl (by rfl) ?y30b ?r30b
          case y30b => (intro w hSw; (try dsimp only at hSw); (try go_split_ands); go_simp); (try with_reducible rfl)
          case r30b =>
          (try simp only [Act.put, sA, sB, sC])
          refine tk (i := 31) (oi := ⟨some 94, _, _, _, _, _⟩) (?v31b) rfl (by rfl) ?y31b ?r31b
          case y31b => (intro w hSw; (try dsimp only at hSw); (try go_split_ands); go_simp); (try with_reducible rfl)
          case r31b =>
          (try simp only [Act.put, sA, sB, sC])
          refine tk (i := 32) (oi := ⟨some 95, _, _, _, _, _⟩) (?v32b) rfl (by rfl) ?y32b ?r32b
          case y32b => (intro w hSw; (try dsimp only at hSw); (try go_split_ands); go_simp); (try with_reducible rfl)
          case r32b =>
          (try simp only [Act.put, sA, sB, sC])
          refine tk (i := 33) (oi := ⟨some 96, _, _, _, _, _⟩) (?v33b) rfl (by rfl) ?y33b ?r33b
          case y33b => (intro w hSw; (try dsimp only at hSw); (try go_split_ands); go_simp); (try with_reducible rfl)
          case r33b =>
          (try simp only [Act.put, sA, sB, sC])
          refine tk (i := 34) (oi := ⟨some 97, _, _, _, _, _⟩) (.bool true) rfl (by rfl) ?y34b ?r34b
          case y34b => (intro w hSw; (try dsimp only at hSw); (try go_split_ands); (go_simp <;> omega))
          case r34b =>
          (try simp only [Act.put, sA, sB, sC])
          refine tk (i := 35) (oi := ⟨some 98, _, _, _, _, _⟩) (.bool true) rfl (by rfl) ?y35b ?r35b
          case y35b => (intro w hSw; (try dsimp only at hSw); (try go_split_ands); (go_simp <;> omega))
          case r35b =>
          (try simp only [Act.put, sA, sB, sC])
          refine tk (i := 36) (oi := ⟨some 99, _, _, _, _, _⟩) (.bool true) rfl (by rfl) ?y36b ?r36b
          case y36b => (intro w hSw; (try dsimp only at hSw); (try go_split_ands); (go_simp <;> omega))
          case r36b =>
          (try simp only [Act.put, sA, sB, sC])
          refine wpAnyH_done (by kernel_rfl) ?_ _

          go_wp2_with fail
          exact ⟨⟨i + 1, some i, by omega, by go_num, rfl, Lib.hid (HBP.out.take hip (by rw [HOKB.out]; exact HOKT.out) (.inr ⟨k, rfl, hkp, by rw [← HPK.out, ← HPI.out]; have := HD.out; have := HD3.out; omega⟩)), HBR.out.trans (hHeld.1.mono HBR.out.size)⟩, by simp [intOf]; omega⟩
        · clear d2
          have HD3 := Lib.hid d3
          refine wp_region_held_drew (S := (fun W => Below wr.heap.size wr W ∧ W.cell? ⟨x, 2, none⟩ = some (.slice (some ⟨gz, oz, none⟩) c.m.zs.length c.cp) ∧ W.cell? ⟨gz, oz + i * 9, none⟩ = some (.int .i64 pi.z.id) ∧ W.cell? ⟨gz, oz + k * 9, none⟩ = some (.int .i64 pk.z.id))) (by kernel_rfl) ⟨HB7.out.drew, bkeep HB7.out.drew k20 hxw2, bkeep HB7.out.drew u00 hgw, bkeep HB7.out.drew v00 hgw⟩ (fun hHeld => ?_)
          refine tk (i := 0) (oi := ⟨some 63, _, _, _, _, _⟩) (?v0c) rfl (by rfl) ?y0c ?r0c
          case y0c => (intro w hSw; (try dsimp only at hSw); (try go_split_ands); go_simp); (try with_reducible rfl)
          case r0c =>
          (try simp only [Act.put, sA, sB, sC])
          refine tk (i := 1) (oi := ⟨some 64, _, _, _, _, _⟩) (.bool false) rfl (by rfl) ?y1c ?r1c
          case y1c => (intro w hSw; (try dsimp only at hSw); (try go_split_ands); (go_simp <;> omega))
          case r1c =>
          (try simp only [Act.put, sA, sB, sC])
          refine tk (i := 2) (oi := ⟨some 65, _, _, _, _, _⟩) (.bool false) rfl (by rfl) ?y2c ?r2c
          case y2c => (intro w hSw; (try dsimp only at hSw); (try go_split_ands); (go_simp <;> omega))
          case r2c =>
          (try simp only [Act.put, sA, sB, sC])
          refine tk (i := 3) (oi := ⟨some 66, _, _, _, _, _⟩) (?v3c) rfl (by rfl) ?y3c ?r3c
          case y3c => (intro w hSw; (try dsimp only at hSw); (try go_split_ands); go_simp); (try with_reducible rfl)
          case r3c =>
          (try simp only [Act.put, sA, sB, sC])
          refine tk (i := 4) (oi := ⟨some 67, _, _, _, _, _⟩) (?v4c) rfl (by rfl) ?y4c ?r4c
          case y4c => (intro w hSw; (try dsimp only at hSw); (try go_split_ands); go_simp); (try with_reducible rfl)
          case r4c =>
          (try simp only [Act.put, sA, sB, sC])
          refine tk (i := 5) (oi := ⟨some 68, _, _, _, _, _⟩) (?v5c) rfl (by rfl) ?y5c ?r5c
          case y5c => (intro w hSw; (try dsimp only at hSw); (try go_split_ands); go_simp); (try with_reducible rfl)
          case r5c =>
          (try simp only [Act.put, sA, sB, sC])
          refine wpAnyH_ready (rs := [6]) (by kernel_rfl) (by simp) ?_
          refine AllReadyH.cons (o := ⟨some 69, _, _, _, _, _⟩) rfl (fun K hK => ?_) AllReadyH.nil
          go_simp
          refine (rsHits B x c (.slice (some ⟨gn, 0, none⟩) c.m.zs.length cn) ov (.slice (some ⟨gt, 0, none⟩) c.m.zs.length ct) nm ps cs mv k hkz _ (HS.out.below hHeld.1)).mono ?_; rintro e w3 ⟨rfl, hb3⟩; rw [HHK.out]
          go_wp2_with fail
          refine hK.out _ _ (by have hh := Below.trans hHeld.1 (Below.mono hb3 (Below.size hHeld.1)); exact ⟨hh, bkeep hh k20 hxw2, bkeep hh u00 hgw, bkeep hh v00 hgw⟩) (fun hHeld => ?_)
          clear hK K
          (try simp only [Act.put, sA, sB, sC])
          refine tk (i := 7) (oi := ⟨some 70, _, _, _, _, _⟩) (.bool false) rfl (by rfl) ?y7c ?r7c
          case y7c => (intro w hSw; (try dsimp only at hSw); (try go_split_ands); (go_simp <;> omega))
          case r7c =>
          (try simp only [Act.put, sA, sB, sC])
          refine tk (i := 8) (oi := ⟨some 71, _, _, _, _, _⟩) (.bool false) rfl (by rfl) ?y8c ?r8c
          case y8c => (intro w hSw; (try dsimp only at hSw); (try go_split_ands); (go_simp <;> omega))
          case r8c =>
          (try simp only [Act.put, sA, sB, sC])
          refine tk (i := 9) (oi := ⟨some 72, _, _, _, _, _⟩) (.bool false) rfl (by rfl) ?y9c ?r9c
          case y9c => (intro w hSw; (try dsimp only at hSw); (try go_split_ands); (go_simp <;> omega))
          case r9c =>
          (try simp only [Act.put, sA, sB, sC])
          refine tk (i := 10) (oi := ⟨some 73, _, _, _, _, _⟩) (?v10c) rfl (by rfl) ?y10c ?r10c
          case y10c => (intro w hSw; (try dsimp only at hSw); (try go_split_ands); go_simp); (try with_reducible rfl)
          case r10c =>
          (try simp only [Act.put, sA, sB, sC])
          refine tk (i := 11) (oi := ⟨some 74, _, _, _, _, _⟩) (?v11c) rfl (by rfl) ?y11c ?r11c
          case y11c => (intro w hSw; (try dsimp only at hSw); (try go_split_ands); go_simp); (try with_reducible rfl)
          case r11c =>
          (try simp only [Act.put, sA, sB, sC])
          refine tk (i := 12) (oi := ⟨some 75, _, _, _, _, _⟩) (?v12c) rfl (by rfl) ?y12c ?r12c
          case y12c => (intro w hSw; (try dsimp only at hSw); (try go_split_ands); go_simp); (try with_reducible rfl)
          case r12c =>
          (try simp only [Act.put, sA, sB, sC])
          refine wpAnyH_ready (rs := [13]) (by kernel_rfl) (by simp) ?_
          refine AllReadyH.cons (o := ⟨some 76, _, _, _, _, _⟩) rfl (fun K hK => ?_) AllReadyH.nil
          go_simp
          refine (rsHits B x c (.slice (some ⟨gn, 0, none⟩) c.m.zs.length cn) ov (.slice (some ⟨gt, 0, none⟩) c.m.zs.length ct) nm ps cs mv k hkz _ (HS.out.below hHeld.1)).mono ?_; rintro e w3 ⟨rfl, hb3⟩; rw [HHK.out]
          go_wp2_with fail
          refine hK.out _ _ (by have hh := Below.trans hHeld.1 (Below.mono hb3 (Below.size hHeld.1)); exact ⟨hh, bkeep hh k20 hxw2, bkeep hh u00 hgw, bkeep hh v00 hgw⟩) (fun hHeld => ?_)
          clear hK K
          (try simp only [Act.put, sA, sB, sC])
          refine tk (i := 14) (oi := ⟨some 77, _, _, _, _, _⟩) (.bool true) rfl (by rfl) ?y14c ?r14c
          case y14c => (intro w hSw; (try dsimp only at hSw); (try go_split_ands); (go_simp <;> omega))
          case r14c =>
          (try simp only [Act.put, sA, sB, sC])
          refine tk (i := 15) (oi := ⟨some 78, _, _, _, _, _⟩) (.bool true) rfl (by rfl) ?y15c ?r15c
          case y15c => (intro w hSw; (try dsimp only at hSw); (try go_split_ands); (go_simp <;> omega))
          case r15c =>
          (try simp only [Act.put, sA, sB, sC])
          refine tk (i := 16) (oi := ⟨some 79, _, _, _, _, _⟩) (?v16c) rfl (by rfl) ?y16c ?r16c
          case y16c => (intro w hSw; (try dsimp only at hSw); (try go_split_ands); go_simp); (try with_reducible rfl)
          case r16c =>
          (try simp only [Act.put, sA, sB, sC])
          refine tk (i := 17) (oi := ⟨some 80, _, _, _, _, _⟩) (?v17c) rfl (by rfl) ?y17c ?r17c
          case y17c => (intro w hSw; (try dsimp only at hSw); (try go_split_ands); go_simp); (try with_reducible rfl)
          case r17c =>
          (try simp only [Act.put, sA, sB, sC])
          refine tk (i := 18) (oi := ⟨some 81, _, _, _, _, _⟩) (?v18c) rfl (by rfl) ?y18c ?r18c
          case y18c => (intro w hSw; (try dsimp only at hSw); (try go_split_ands); go_simp); (try with_reducible rfl)
          case r18c =>
          (try simp only [Act.put, sA, sB, sC])
          refine tk (i := 19) (oi := ⟨some 82, _, _, _, _, _⟩) (?v19c) rfl (by rfl) ?y19c ?r19c
          case y19c => (intro w hSw; (try dsimp only at hSw); (try go_split_ands); go_simp); (try with_reducible rfl)
          case r19c =>
          (try simp only [Act.put, sA, sB, sC])
          refine tk (i := 20) (oi := ⟨some 83, _, _, _, _, _⟩) (?v20c) rfl (by rfl) ?y20c ?r20c
          case y20c => (intro w hSw; (try dsimp only at hSw); (try go_split_ands); go_simp); (try with_reducible rfl)
          case r20c =>
          (try simp only [Act.put, sA, sB, sC])
          refine tk (i := 21) (oi := ⟨some 84, _, _, _, _, _⟩) (?v21c) rfl (by rfl) ?y21c ?r21c
          case y21c => (intro w hSw; (try dsimp only at hSw); (try go_split_ands); go_simp); (try with_reducible rfl)
          case r21c =>
          (try simp only [Act.put, sA, sB, sC])
          refine tk (i := 22) (oi := ⟨some 85, _, _, _, _, _⟩) (?v22c) rfl (by rfl) ?y22c ?r22c
          case y22c => (intro w hSw; (try dsimp only at hSw); (try go_split_ands); go_simp); (try with_reducible rfl)
          case r22c =>
          (try simp only [Act.put, sA, sB, sC])
          refine tk (i := 23) (oi := ⟨some 86, _, _, _, _, _⟩) (?v23c) rfl (by rfl) ?y23c ?r23c
          case y23c => (intro w hSw; (try dsimp only at hSw); (try go_split_ands); go_simp); (try with_reducible rfl)
          case r23c =>
          (try simp only [Act.put, sA, sB, sC])
          refine tk (i := 24) (oi := ⟨some 87, _, _, _, _, _⟩) (?v24c) rfl (by rfl) ?y24c ?r24c
          case y24c => (intro w hSw; (try dsimp only at hSw); (try go_split_ands); go_simp); (try with_reducible rfl)
          case r24c =>
          (try simp only [Act.put, sA, sB, sC])
          refine tk (i := 25) (oi := ⟨some 88, _, _, _, _, _⟩) (?v25c) rfl (by rfl) ?y25c ?r25c
          case y25c => (intro w hSw; (try dsimp only at hSw); (try go_split_ands); go_simp); (try with_reducible rfl)
          case r25c =>
          (try simp only [Act.put, sA, sB, sC])
          refine tk (i := 26) (oi := ⟨some 89, _, _, _, _, _⟩) (?v26c) rfl (by rfl) ?y26c ?r26c
          case y26c => (intro w hSw; (try dsimp only at hSw); (try go_split_ands); go_simp); (try with_reducible rfl)
          case r26c =>
          (try simp only [Act.put, sA, sB, sC])
          refine tk (i := 27) (oi := ⟨some 90, _, _, _, _, _⟩) (?v27c) rfl (by rfl) ?y27c ?r27c
          case y27c => (intro w hSw; (try dsimp only at hSw); (try go_split_ands); go_simp); (try with_reducible rfl)
          case r27c =>
          (try simp only [Act.put, sA, sB, sC])
          refine tk (i := 28) (oi := ⟨some 91, _, _, _, _, _⟩) (?v28c) rfl (by rfl) ?y28c ?r28c
          case y28c => (intro w hSw; (try dsimp only at hSw); (try go_split_ands); go_simp); (try with_reducible rfl)
          case r28c =>
          (try simp only [Act.put, sA, sB, sC])
          refine tk (i := 29) (oi := ⟨some 92, _, _, _, _, _⟩) (?v29c) rfl (by rfl) ?y29c ?r29c
          case y29c => (intro w hSw; (try dsimp only at hSw); (try go_split_ands); go_simp); (try with_reducible rfl)
          case r29c =>
          (try simp only [Act.put, sA, sB, sC])
          refine tk (i := 30) (oi := ⟨some 93, _, _, _, _, _⟩) (?v30c) rfl (by rfl) ?y30c ?r30c
          case y30c => (intro w hSw; (try dsimp only at hSw); (try go_split_ands); go_simp); (try with_reducible rfl)
          case r30c =>
          (try simp only [Act.put, sA, sB, sC])
          refine tk (i := 31) (oi := ⟨some 94, _, _, _, _, _⟩) (?v31c) rfl (by rfl) ?y31c ?r31c
          case y31c => (intro w hSw; (try dsimp only at hSw); (try go_split_ands); go_simp); (try with_reducible rfl)
          case r31c =>
          (try simp only [Act.put, sA, sB, sC])
          refine tk (i := 32) (oi := ⟨some 95, _, _, _, _, _⟩) (?v32c) rfl (by rfl) ?y32c ?r32c
          case y32c => (intro w hSw; (try dsimp only at hSw); (try go_split_ands); go_simp); (try with_reducible rfl)
          case r32c =>
          (try simp only [Act.put, sA, sB, sC])
          refine tk (i := 33) (oi := ⟨some 96, _, _, _, _, _⟩) (?v33c) rfl (by rfl) ?y33c ?r33c
          case y33c => (intro w hSw; (try dsimp only at hSw); (try go_split_ands); go_simp); (try with_reducible rfl)
          case r33c =>
          (try simp only [Act.put, sA, sB, sC])
          refine tk (i := 34) (oi := ⟨some 97, _, _, _, _, _⟩) (.bool false) rfl (by rfl) ?y34c ?r34c
          case y34c => (intro w hSw; (try dsimp only at hSw); (try go_split_ands); (go_simp <;> omega))
          case r34c =>
          (try simp only [Act.put, sA, sB, sC])
          refine tk (i := 35) (oi := ⟨some 98, _, _, _, _, _⟩) (.bool false) rfl (by rfl) ?y35c ?r35c
          case y35c => (intro w hSw; (try dsimp only at hSw); (try go_split_ands); (go_simp <;> omega))
          case r35c =>
          (try simp only [Act.put, sA, sB, sC])
          refine tk (i := 36) (oi := ⟨some 99, _, _, _, _, _⟩) (.bool false) rfl (by rfl) ?y36c ?r36c
          case y36c => (intro w hSw; (try dsimp only at hSw); (try go_split_ands); (go_simp <;> omega))
          case r36c =>
          (try simp only [Act.put, sA, sB, sC])
          refine wpAnyH_done (by kernel_rfl) ?_ _

          go_wp2_with fail
          exact ⟨⟨i + 1, some k, by omega, by go_num, rfl, Lib.hid (HBP.out.skip hip (.inr ⟨k, rfl, hkp, by rw [← HPK.out, ← HPI.out]; have := HD.out; have := HD3.out; omega⟩)), HBR.out.trans (hHeld.1.mono HBR.out.size)⟩, by simp [intOf]; omega⟩
      · have d2b : (pi.hits == pk.hits) = false := by simpa using d2
        have HD := Lib.hid (show pi.hits < pk.hits by omega)
        clear d2
        refine wp_region_held_drew (S := (fun W => Below wr.heap.size wr W ∧ W.cell? ⟨x, 2, none⟩ = some (.slice (some ⟨gz, oz, none⟩) c.m.zs.length c.cp) ∧ W.cell? ⟨gz, oz + i * 9, none⟩ = some (.int .i64 pi.z.id) ∧ W.cell? ⟨gz, oz + k * 9, none⟩ = some (.int .i64 pk.z.id))) (by kernel_rfl) ⟨HB7.out.drew, bkeep HB7.out.drew k20 hxw2, bkeep HB7.out.drew u00 hgw, bkeep HB7.out.drew v00 hgw⟩ (fun hHeld => ?_)
        refine tk (i := 0) (oi := ⟨some 63, _, _, _, _, _⟩) (?v0d) rfl (by rfl) ?y0d ?r0d
        case y0d => (intro w hSw; (try dsimp only at hSw); (try go_split_ands); go_simp); (try with_reducible rfl)
        case r0d =>
        (try simp only [Act.put, sA, sB, sC])
        refine tk (i := 1) (oi := ⟨some 64, _, _, _, _, _⟩) (.bool false) rfl (by rfl) ?y1d ?r1d
        case y1d => (intro w hSw; (try dsimp only at hSw); (try go_split_ands); (go_simp <;> omega))
        case r1d =>
        (try simp only [Act.put, sA, sB, sC])
        refine tk (i := 2) (oi := ⟨some 65, _, _, _, _, _⟩) (.bool false) rfl (by rfl) ?y2d ?r2d
        case y2d => (intro w hSw; (try dsimp only at hSw); (try go_split_ands); (go_simp <;> omega))
        case r2d =>
        (try simp only [Act.put, sA, sB, sC])
        refine tk (i := 3) (oi := ⟨some 66, _, _, _, _, _⟩) (?v3d) rfl (by rfl) ?y3d ?r3d
        case y3d => (intro w hSw; (try dsimp only at hSw); (try go_split_ands); go_simp); (try with_reducible rfl)
        case r3d =>
        (try simp only [Act.put, sA, sB, sC])
        refine tk (i := 4) (oi := ⟨some 67, _, _, _, _, _⟩) (?v4d) rfl (by rfl) ?y4d ?r4d
        case y4d => (intro w hSw; (try dsimp only at hSw); (try go_split_ands); go_simp); (try with_reducible rfl)
        case r4d =>
        (try simp only [Act.put, sA, sB, sC])
        refine tk (i := 5) (oi := ⟨some 68, _, _, _, _, _⟩) (?v5d) rfl (by rfl) ?y5d ?r5d
        case y5d => (intro w hSw; (try dsimp only at hSw); (try go_split_ands); go_simp); (try with_reducible rfl)
        case r5d =>
        (try simp only [Act.put, sA, sB, sC])
        refine wpAnyH_ready (rs := [6]) (by kernel_rfl) (by simp) ?_
        refine AllReadyH.cons (o := ⟨some 69, _, _, _, _, _⟩) rfl (fun K hK => ?_) AllReadyH.nil
        go_simp
        refine (rsHits B x c (.slice (some ⟨gn, 0, none⟩) c.m.zs.length cn) ov (.slice (some ⟨gt, 0, none⟩) c.m.zs.length ct) nm ps cs mv k hkz _ (HS.out.below hHeld.1)).mono ?_; rintro e w3 ⟨rfl, hb3⟩; rw [HHK.out]
        go_wp2_with fail
        refine hK.out _ _ (by have hh := Below.trans hHeld.1 (Below.mono hb3 (Below.size hHeld.1)); exact ⟨hh, bkeep hh k20 hxw2, bkeep hh u00 hgw, bkeep hh v00 hgw⟩) (fun hHeld => ?_)
        clear hK K
        (try simp only [Act.put, sA, sB, sC])
        refine tk (i := 7) (oi := ⟨some 70, _, _, _, _, _⟩) (.bool false) rfl (by rfl) ?y7d ?r7d
        case y7d => (intro w hSw; (try dsimp only at hSw); (try go_split_ands); (go_simp <;> omega))
        case r7d =>
        (try simp only [Act.put, sA, sB, sC])
        refine tk (i := 8) (oi := ⟨some 71, _, _, _, _, _⟩) (.bool false) rfl (by rfl) ?y8d ?r8d
        case y8d => (intro w hSw; (try dsimp only at hSw); (try go_split_ands); (go_simp <;> omega))
        case r8d =>
        (try simp only [Act.put, sA, sB, sC])
        refine tk (i := 9) (oi := ⟨some 72, _, _, _, _, _⟩) (.bool false) rfl (by rfl) ?y9d ?r9d
        case y9d => (intro w hSw; (try dsimp only at hSw); (try go_split_ands); (go_simp <;> omega))
        case r9d =>
        (try simp only [Act.put, sA, sB, sC])
        refine tk (i := 10) (oi := ⟨some 73, _, _, _, _, _⟩) (?v10d) rfl (by rfl) ?y10d ?r10d
        case y10d => (intro w hSw; (try dsimp only at hSw); (try go_split_ands); go_simp); (try with_reducible rfl)
        case r10d =>
        (try simp only [Act.put, sA, sB, sC])
        refine tk (i := 11) (oi := ⟨some 74, _, _, _, _, _⟩) (?v11d) rfl (by rfl) ?y11d ?r11d
        case y11d => (intro w hSw; (try dsimp only at hSw); (try go_split_ands); go_simp); (try with_reducible rfl)
        case r11d =>
        (try simp only [Act.put, sA, sB, sC])
        refine tk (i := 12) (oi := ⟨some 75, _, _, _, _, _⟩) (?v12d) rfl (by rfl) ?y12d ?r12d
        case y12d => (intro w hSw; (try dsimp only at hSw); (try go_split_ands); go_simp); (try with_reducible rfl)
        case r12d =>
        (try simp only [Act.put, sA, sB, sC])
        refine wpAnyH_ready (rs := [13]) (by kernel_rfl) (by simp) ?_
        refine AllReadyH.cons (o := ⟨some 76, _, _, _, _, _⟩) rfl (fun K hK => ?_) AllReadyH.nil
        go_simp
        refine (rsHits B x c (.slice (some ⟨gn, 0, none⟩) c.m.zs.length cn) ov (.slice (some ⟨gt, 0, none⟩) c.m.zs.length ct) nm ps cs mv k hkz _ (HS.out.below hHeld.1)).mono ?_; rintro e w3 ⟨rfl, hb3⟩; rw [HHK.out]
        go_wp2_with fail
        refine hK.out _ _ (by have hh := Below.trans hHeld.1 (Below.mono hb3 (Below.size hHeld.1)); exact ⟨hh, bkeep hh k20 hxw2, bkeep hh u00 hgw, bkeep hh v00 hgw⟩) (fun hHeld => ?_)
        clear hK K
        (try simp only [Act.put, sA, sB, sC])
        refine tk (i := 14) (oi := ⟨some 77, _, _, _, _, _⟩) (.bool false) rfl (by rfl) ?y14d ?r14d
        case y14d => (intro w hSw; (try dsimp only at hSw); (try go_split_ands); (go_simp <;> omega))
        case r14d =>
        (try simp only [Act.put, sA, sB, sC])
        refine tk (i := 15) (oi := ⟨some 78, _, _, _, _, _⟩) (.bool false) rfl (by rfl) ?y15d ?r15d
        case y15d => (intro w hSw; (try dsimp only at hSw); (try go_split_ands); (go_simp <;> omega))
        case r15d =>
        (try simp only [Act.put, sA, sB, sC])
        refine tn (i := 16) (oi := ⟨some 79, _, _, _, _, _⟩) rfl (by rfl) ?_
        (try simp only [Act.put, sA, sB, sC])
        refine tn (i := 17) (oi := ⟨some 80, _, _, _, _, _⟩) rfl (by rfl) ?_
        (try simp only [Act.put, sA, sB, sC])
        refine tn (i := 18) (oi := ⟨some 81, _, _, _, _, _⟩) rfl (by rfl) ?_
        (try simp only [Act.put, sA, sB, sC])
        refine tn (i := 19) (oi := ⟨some 82, _, _, _, _, _⟩) rfl (by rfl) ?_
        (try simp only [Act.put, sA, sB, sC])
        refine tn (i := 20) (oi := ⟨some 83, _, _, _, _, _⟩) rfl (by rfl) ?_
        (try simp only [Act.put, sA, sB, sC])
        refine tn (i := 21) (oi := ⟨some 84, _, _, _, _, _⟩) rfl (by rfl) ?_
        (try simp only [Act.put, sA, sB, sC])
        refine tn (i := 22) (oi := ⟨some 85, _, _, _, _, _⟩) rfl (by rfl) ?_
        (try simp only [Act.put, sA, sB, sC])
        refine tn (i := 23) (oi := ⟨some 86, _, _, _, _, _⟩) rfl (by rfl) ?_
        (try simp only [Act.put, sA, sB, sC])
        refine tn (i := 24) (oi := ⟨some 87, _, _, _, _, _⟩) rfl (by rfl) ?_
        (try simp only [Act.put, sA, sB, sC])
        refine tn (i := 25) (oi := ⟨some 88, _, _, _, _, _⟩) rfl (by rfl) ?_
        (try simp only [Act.put, sA, sB, sC])
        refine tn (i := 26) (oi := ⟨some 89, _, _, _, _, _⟩) rfl (by rfl) ?_
        (try simp only [Act.put, sA, sB, sC])
        refine tn (i := 27) (oi := ⟨some 90, _, _, _, _, _⟩) rfl (by rfl) ?_
        (try simp only [Act.put, sA, sB, sC])
        refine tn (i := 28) (oi := ⟨some 91, _, _, _, _, _⟩) rfl (by rfl) ?_
        (try simp only [Act.put, sA, sB, sC])
        refine tn (i := 29) (oi := ⟨some 92, _, _, _, _, _⟩) rfl (by rfl) ?_
        (try simp only [Act.put, sA, sB, sC])
        refine tn (i := 30) (oi := ⟨some 93, _, _, _, _, _⟩) rfl (by rfl) ?_
        (try simp only [Act.put, sA, sB, sC])
        refine tn (i := 31) (oi := ⟨some 94, _, _, _, _, _⟩) rfl (by rfl) ?_
        (try simp only [Act.put, sA, sB, sC])
        refine tn (i := 32) (oi := ⟨some 95, _, _, _, _, _⟩) rfl (by rfl) ?_
        (try simp only [Act.put, sA, sB, sC])
        refine tn (i := 33) (oi := ⟨some 96, _, _, _, _, _⟩) rfl (by rfl) ?_
        (try simp only [Act.put, sA, sB, sC])
        refine tn (i := 34) (oi := ⟨some 97, _, _, _, _, _⟩) rfl (by rfl) ?_
        (try simp only [Act.put, sA, sB, sC])
        refine tk (i := 35) (oi := ⟨some 98, _, _, _, _, _⟩) (.bool false) rfl (by rfl) ?y35d ?r35d
        case y35d => (intro w hSw; (try dsimp only at hSw); (try go_split_ands); (go_simp <;> omega))
        case r35d =>
        (try simp only [Act.put, sA, sB, sC])
        refine tk (i := 36) (oi := ⟨some 99, _, _, _, _, _⟩) (.bool false) rfl (by rfl) ?y36d ?r36d
        case y36d => (intro w hSw; (try dsimp only at hSw); (try go_split_ands); (go_simp <;> omega))
        case r36d =>
        (try simp only [Act.put, sA, sB, sC])
        refine wpAnyH_done (by kernel_rfl) ?_ _

        go_wp2_with fail
        exact ⟨⟨i + 1, some k, by omega, by go_num, rfl, Lib.hid (HBP.out.skip hip (.inr ⟨k, rfl, hkp, by rw [← HPK.out, ← HPI.out]; exact .inl HD.out⟩)), HBR.out.trans (hHeld.1.mono HBR.out.size)⟩, by simp [intOf]; omega⟩
end Go.Proofs.YtepjehcmiofehaaGreat
