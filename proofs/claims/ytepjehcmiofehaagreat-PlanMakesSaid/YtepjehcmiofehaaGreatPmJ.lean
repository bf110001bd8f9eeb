/- the document's plan: Make. -/
import Derived.Test.YtepjehcmiofehaaGreatPmH
import Derived.Test.YtepjehcmiofehaaGreatPmI
import Derived.Deep.OwnRows
namespace Go.Proofs.YtepjehcmiofehaaGreat
open Go.RowKit
set_option linter.unusedVariables false
set_option linter.unusedSimpArgs false

theorem Touch.of_drewM (D : Nat → Prop) (w : World) : Touch D w w.drew := ⟨rfl, rfl, rfl, Nat.le_refl _, fun _ _ _ => rfl⟩
theorem madeB : ∀ n, (madeCells #[Value.bool false] n).toList = boolsV (List.replicate n false)
  | n => by
    refine List.ext_getElem (by simp [madeCells, boolsV]) fun i h1 h2 => ?_
    simp [madeCells, boolsV, Nat.mod_one]
theorem ByI.same {a b : List Pz} (h : SameZ a b) {π : List Nat} (hb : ByI b π) : ByI a π := by
  have e : ∀ k, idP a k = idP b k := fun k => by
    by_cases hk : k < a.length
    · have hk2 : k < b.length := by rw [← h.1]; exact hk
      rw [idP_at hk, idP_at hk2, (h.2 k hk hk2).1]
    · have hk2 : ¬ k < b.length := by rw [← h.1]; exact hk
      simp [idP, hk, hk2]
  refine ⟨by rw [h.1]; exact hb.perm, hb.up.imp fun {x y} hxy => by rw [e x, e y]; exact hxy⟩
theorem SameZ.map {a b : List Pz} (h : SameZ a b) : (a.map fun p => p.z) = b.map fun p => p.z := by
  refine List.ext_getElem (by simp [h.1]) fun i h1 h2 => ?_
  simp only [List.getElem_map]
  exact (h.2 i (by simpa using h1) (by simpa using h2)).1
theorem pdN_z (k : Int) (ps : List Pz) : pdN k ps = ((ps.map fun p => p.z).filter fun z => decide (z.pd = k)).length := by
  unfold pdN
  rw [List.filter_map, List.length_map]
  rfl
theorem SameZ.pdN {a b : List Pz} (h : SameZ a b) (k : Int) : pdN k a = pdN k b := by rw [pdN_z, pdN_z, h.map]
theorem most_ex {hs : List Int} (ps : List Pz) (h0 : 0 < hs.length) (hp : hs.Pairwise (· < ·)) (ho : ∀ g ∈ hs, HostOk g) : ∃ a b, Most hs ps a b := by
  have key : ∀ i, i + 1 ≤ hs.length → ∃ a b, Most (hs.take (i + 1)) ps a b := by
    intro i
    induction i with
    | zero => intro _; exact ⟨_, _, most_one h0⟩
    | succ i ih =>
      intro hi
      obtain ⟨a, b, h⟩ := ih (by omega)
      exact ⟨_, _, most_step h (by omega) hp ho⟩
  obtain ⟨a, b, h⟩ := key (hs.length - 1) (by omega)
  rw [List.take_of_length_le (by omega)] at h
  exact ⟨a, b, h⟩
theorem host_up {hs : List Int} (hb : hostsB hs = true) : hs.Pairwise (· < ·) := by
  unfold hostsB at hb
  simp only [Bool.and_eq_true] at hb
  exact okFrom_up _ _ hb.2
set_option maxRecDepth 100000 in
theorem Tryz.infoBool0 : (Tryz.prog.info? 4).map (fun i => (i.zero, i.size, i.bytes)) = some (some (.bool false), 1, 1) := by kernel_rfl
set_option maxRecDepth 100000 in
theorem Tryz.infoInt0 : (Tryz.prog.info? 3).map (fun i => (i.zero, i.size, i.bytes)) = some (some (.int .i64 0), 1, 8) := by kernel_rfl
/-- the state while it is made: where i zones will be -/
structure RsP (w : World) (B x : Nat) (c : Rc) (nv tv : Value) (i : Nat) (mv : Int) : Prop where
  blk : Whl w x 63 #[.int .i64 c.m.ver, .int .i64 c.m.nxt, .slice c.A c.m.zs.length c.cp, .slice c.Ah c.hs.length c.ch, .slice c.Al c.l.length c.cl, nv, .slice none 0 0, tv, .int .i64 mv]
  nr : w.ownsRow B 4 1 nv c.m.zs.length (boolsV (List.replicate c.m.zs.length false))
  tr : w.ownsRow B 3 1 tv i (intsV (((begP c.l c.m.zs).take i).map fun p => p.nd))
  na : ∀ g, nv.ownBlock = some g → g ≠ x
  ta : ∀ g, tv.ownBlock = some g → g ≠ x
  nt : ∀ q, nv.ownBlock = some q → tv.ownBlock ≠ some q
  low : B ≤ x
theorem RsP.setMv {w : World} {B x : Nat} {c : Rc} {nv tv : Value} {i : Nat} {mv : Int} (h : RsP w B x c nv tv i mv) (n : Int) : RsP (w.setCell ⟨x, 8, none⟩ (.int .i64 n)) B x c nv tv i n :=
  ⟨h.blk.set 8 _, own_set_ne h.nr (fun q hq => h.na q hq), own_set_ne h.tr (fun q hq => h.ta q hq), h.na, h.ta, h.nt, h.low⟩
theorem RsP.push {w w6 : World} {B x : Nat} {c : Rc} {nv tv v6 : Value} {i : Nat} {mv nd : Int} (h : RsP w B x c nv tv i mv) (ho : w6.ownsRow B 3 1 v6 (i + 1) (intsV (((begP c.l c.m.zs).take i).map fun p => p.nd) ++ [.int .i64 nd])) (ht : Touch (fun k => tv.ownBlock = some k) w w6) (hb : v6.ownBlock = tv.ownBlock ∨ ∃ q, v6.ownBlock = some q ∧ w.heap.size ≤ q) (hn : ((begP c.l c.m.zs).take (i + 1)).map (fun p => p.nd) = ((begP c.l c.m.zs).take i).map (fun p => p.nd) ++ [nd]) : RsP (w6.setCell ⟨x, 7, none⟩ v6) B x c nv v6 (i + 1) mv := by
  have hblk : Whl w6 x 63 #[.int .i64 c.m.ver, .int .i64 c.m.nxt, .slice c.A c.m.zs.length c.cp, .slice c.Ah c.hs.length c.ch, .slice c.Al c.l.length c.cl, nv, .slice none 0 0, tv, .int .i64 mv] := (ht.block x h.blk.low (fun e => h.ta x e rfl)).trans h.blk
  have hnr := ht.own h.nr (fun g hg e => h.nt g hg e)
  have ha : ∀ g, v6.ownBlock = some g → g ≠ x := fun g hg => by
    rcases hb with e | ⟨q, e, hq⟩
    · exact h.ta g (by rw [← e]; exact hg)
    · rw [e] at hg; injection hg with hg
      have := h.blk.low; omega
  refine ⟨hblk.set 7 v6, own_set_ne hnr (fun g hg => h.na g hg), ?_, h.na, ha, fun q hq e => ?_, h.low⟩
  · rw [hn]
    have e : intsV (((begP c.l c.m.zs).take i).map (fun p => p.nd) ++ [nd]) = intsV (((begP c.l c.m.zs).take i).map fun p => p.nd) ++ [.int .i64 nd] := by simp [intsV]
    rw [e]
    exact own_set_ne ho (fun g hg => ha g hg)
  · rcases hb with e2 | ⟨r, e2, hr⟩
    · exact h.nt q hq (by rw [← e2]; exact e)
    · rw [e2] at e; injection e with e
      have := (h.nr.lt q hq).2; omega
theorem RsP.full {w : World} {B x : Nat} {c : Rc} {nv tv : Value} {mv : Int} (h : RsP w B x c nv tv c.m.zs.length mv) (hz : Cells w B c.A c.m.zs.length c.cp 9 (flatZ c.m.zs)) (hh : Cells w B c.Ah c.hs.length c.ch 1 (intsV c.hs)) (hl : Cells w B c.Al c.l.length c.cl 3 (flatL c.l)) (ok : Ok c) : RsH w B x c nv (.slice none 0 0) tv (List.replicate c.m.zs.length false) (begP c.l c.m.zs) [] mv := by
  have htk : (begP c.l c.m.zs).take c.m.zs.length = begP c.l c.m.zs := List.take_of_length_le (by rw [begP_len]; exact Nat.le_refl _)
  have htr := h.tr
  rw [htk] at htr
  refine ⟨h.blk, hz, hh, hl, h.nr, World.ownsRow_nil _ _ _ _, htr, h.na, fun g hg => by simp [Value.ownBlock] at hg, h.ta, fun q _ e => by simp [Value.ownBlock] at e, h.nt, fun q e => by simp [Value.ownBlock] at e, h.low, ⟨begP_len _ _, by simp, fun i h1 h2 => ?_, fun i h1 h2 => ?_⟩, ok⟩
  · simp only [begP, List.getElem_map]
    exact ⟨rfl, rfl, rfl⟩
  · simp only [begP, List.getElem_map, List.getElem_replicate, pz0]
    simp
set_option maxHeartbeats 8000000 in
set_option maxRecDepth 10000 in
theorem rsMakeNo (A : Option Addr) (cp : Nat) (m : Mp) (Ah : Option Addr) (ch : Nat) (hs : List Int) (Al : Option Addr) (cl : Nat) (l : List Lr) (hot cold : Int) (w : World) (hz : RowZ w A cp m.zs) (hml : m.zs.length ≤ 1000) (hx : Cells w w.heap.size Ah hs.length ch 1 (intsV hs)) (hhl : hs.length ≤ 100000) (hno : ¬ (MayP m ∧ hostsB hs = true)) :
    Calls Tryz.prog 9 #[.agg #[.int .i64 m.ver, .int .i64 m.nxt, .slice A m.zs.length cp], .slice Ah hs.length ch, .slice Al l.length cl, .int .i64 hot, .int .i64 cold] w fun e w' => e = .returned (.slice none 0 0) ∧ Below w.heap.size w w' := by
  have hB : Below w.heap.size w (w.alloc (.cells #[.int .i64 m.ver, .int .i64 m.nxt, .slice A m.zs.length cp] 24)) := (Below.refl _ _).alloc (Nat.le_refl _) _
  have HB := Lib.hid hB
  have HZ := Lib.hid (hz.below hB)
  have HX := Lib.hid (cells_keep hx hB hB.size)
  clear hz hx hB
  by_cases hm : MayP m
  case neg =>
    have HN := Lib.hid hm
    clear hm hno
    go_enter Tryz.func9, Tryz.ntmps9
    go_wp2_with (first
      | (go_at_call 19; go_loud (refine (rdMayC A cp m _ HZ.out hml (b := false) ⟨fun h => (by cases h), fun h => absurd h HN.out⟩).mono ?_; rintro e w1 ⟨rfl, hb1⟩; have HB1 := Lib.hid (HB.out.trans (hb1.mono HB.out.size)); clear hb1))
      | fail)
    go_ret
    exact ⟨rfl, HB1.out⟩
  have HM := Lib.hid hm
  have HHB : Hid (hostsB hs = false) := Lib.hid (by simpa using (fun h => hno ⟨hm, h⟩ : ¬ hostsB hs = true))
  clear hm hno
  go_enter Tryz.func9, Tryz.ntmps9
  go_wp2_with (first
    | (go_at_call 19; go_loud (refine (rdMayC A cp m _ HZ.out hml (b := true) ⟨fun _ => HM.out, fun _ => rfl⟩).mono ?_; rintro e w1 ⟨rfl, hb1⟩; have HB1b := Lib.hid hb1; clear hb1))
    | (go_at_call 20; go_loud (refine (rdHostsC Ah ch hs _ (cells_keep HX.out HB1b.out HB1b.out.size) hhl).mono ?_; rintro e w2 ⟨rfl, hb2⟩; rw [HHB.out]; have HB2 := Lib.hid (HB.out.trans ((HB1b.out.trans (hb2.mono HB1b.out.size)).mono HB.out.size)); clear hb2))
    | fail)
  go_ret
  exact ⟨rfl, HB2.out⟩
set_option maxHeartbeats 16000000 in
set_option maxRecDepth 10000 in
theorem rsMakeYes (A : Option Addr) (cp : Nat) (m : Mp) (Ah : Option Addr) (ch : Nat) (hs : List Int) (Al : Option Addr) (cl : Nat) (l : List Lr) (hot cold : Int) (w : World) (hz : RowZ w A cp m.zs) (hml : m.zs.length ≤ 1000) (hx : Cells w w.heap.size Ah hs.length ch 1 (intsV hs)) (hhl : hs.length ≤ 100000) (hl : Cells w w.heap.size Al l.length cl 3 (flatL l)) (hll : l.length ≤ 100000) (hm : MayP m) (hb : hostsB hs = true) (π : List Nat) (hπ : ByI (begP l m.zs) π) :
    Calls Tryz.prog 9 #[.agg #[.int .i64 m.ver, .int .i64 m.nxt, .slice A m.zs.length cp], .slice Ah hs.length ch, .slice Al l.length cl, .int .i64 hot, .int .i64 cold] w fun e w' => ∃ v cs, e = .returned v ∧ Hid (PlanR m hs l hot cold cs) ∧ w'.ownsRow w.heap.size 58 5 v cs.length (cs.flatMap chV) ∧ Below w.heap.size w w' := by
  obtain ⟨i0, hi0, hz0, hz1, hz2⟩ := info_parts Tryz.infoInt0
  have hB : Below w.heap.size w (w.alloc (.cells #[.int .i64 m.ver, .int .i64 m.nxt, .slice A m.zs.length cp] 24)) := (Below.refl _ _).alloc (Nat.le_refl _) _
  have HB := Lib.hid hB
  have HZ := Lib.hid (hz.below hB)
  have HX := Lib.hid (cells_keep hx hB hB.size)
  have HZ0 := Lib.hid hz.cells
  have HX0 := Lib.hid hx
  have HL0 := Lib.hid hl
  have HP := Lib.hid (show Whl (w.alloc (.cells #[.int .i64 m.ver, .int .i64 m.nxt, .slice A m.zs.length cp] 24)) w.heap.size 24 #[.int .i64 m.ver, .int .i64 m.nxt, .slice A m.zs.length cp] from Whl.new rfl)
  have HM := Lib.hid hm
  have HHB := Lib.hid hb
  have HPI := Lib.hid hπ
  have hlen := hm.len
  have hlen0 := mayP_pos hm
  obtain ⟨gz, oz, hA, hgB, -⟩ := zn_at hz.cells (i := 0) hlen0
  subst hA
  have hmk := run_make_row' (P := Tryz.prog) 61 4 (.bool false) 1 Tryz.underlying61 Tryz.infoBool0 rfl .i64 .i64 m.zs.length (by omega) (by omega)
  clear hz hx hB hm hb hl hπ
  go_enter Tryz.func9, Tryz.ntmps9
  go_upto_region 3 with (first
    | (go_at_call 19; go_loud (refine (rdMayC _ cp m _ HZ.out hml (b := true) ⟨fun _ => HM.out, fun _ => rfl⟩).mono ?_; rintro e w1 ⟨rfl, hb1⟩; have HB1b := Lib.hid hb1; clear hb1))
    | (go_at_call 20; go_loud (refine (rdHostsC Ah ch hs _ (cells_keep HX.out HB1b.out HB1b.out.size) hhl).mono ?_; rintro e w2 ⟨rfl, hb2⟩; rw [HHB.out]; have HB2b := Lib.hid (HB1b.out.trans (hb2.mono HB1b.out.size)); clear hb2))
    | fail)
  have HP2 := HP.out.below HB2b.out HP.out.low
  have hp2 := HP2.low
  have x0 := HP2.cell 0
  have x1 := HP2.cell 1
  have x2 := HP2.cell 2
  simp only [List.getElem?_toArray, List.getElem?_cons_succ, List.getElem?_cons_zero] at x0 x1 x2
  have HP2h := Lib.hid HP2
  have HB2 := Lib.hid (HB.out.trans (HB2b.out.mono HB.out.size))
  clear HP2
  go_region
  obtain ⟨V, hV⟩ : ∃ V, V = ((w2.alloc (.cells (madeCells #[.bool false] m.zs.length) 4)).alloc (.cells #[.int .i64 m.ver, .int .i64 m.nxt, .slice (some ⟨gz, oz, none⟩) m.zs.length cp, .slice Ah hs.length ch, .slice Al l.length cl, .slice (some ⟨w2.heap.size, 0, none⟩) m.zs.length m.zs.length, .slice none 0 0, .slice none 0 0, .int .i64 0] 63)).drew := ⟨_, rfl⟩
  rw [← hV]
  have hbV : Below w2.heap.size w2 V := by rw [hV]; exact (((Below.refl _ _).alloc (Nat.le_refl _) _).alloc (by simp) _).drew
  have hnr : V.ownsRow w2.heap.size 4 1 (.slice (some ⟨w2.heap.size, 0, none⟩) m.zs.length m.zs.length) m.zs.length (boolsV (List.replicate m.zs.length false)) := by
    rw [hV, ← madeB]
    have h := World.ownsRow_lit (base := w2.heap.size) (e := 4) (size := 1) w2 (madeCells #[.bool false] m.zs.length) m.zs.length (Nat.le_refl _) (by unfold maxLen; omega) (by rw [size_madeCells]; omega)
    exact (Touch.of_drewM (fun _ => False) _).own (h.alloc _) (fun _ _ h => h)
  have hblk : Whl V (w2.heap.size + 1) 63 #[.int .i64 m.ver, .int .i64 m.nxt, .slice (some ⟨gz, oz, none⟩) m.zs.length cp, .slice Ah hs.length ch, .slice Al l.length cl, .slice (some ⟨w2.heap.size, 0, none⟩) m.zs.length m.zs.length, .slice none 0 0, .slice none 0 0, .int .i64 0] := by
    rw [hV]; exact (Whl.new (by simp)).drew
  obtain ⟨x, hx⟩ : ∃ x, x = w2.heap.size + 1 := ⟨_, rfl⟩
  rw [← hx] at hblk ⊢
  obtain ⟨gn, hgn⟩ : ∃ gn, gn = w2.heap.size := ⟨_, rfl⟩
  have hrp : RsP V w2.heap.size x ⟨some ⟨gz, oz, none⟩, cp, Ah, ch, Al, cl, m, hs, l⟩ (.slice (some ⟨w2.heap.size, 0, none⟩) m.zs.length m.zs.length) (.slice none 0 0) 0 0 :=
    ⟨hblk, hnr, World.ownsRow_nil _ _ _ _, fun g hg => by have : w2.heap.size = g := by simpa [Value.ownBlock] using hg
                                                          omega, fun g hg => by simp [Value.ownBlock] at hg, fun q _ e => by simp [Value.ownBlock] at e, by omega⟩
  obtain ⟨c, hc⟩ : ∃ c : Rc, c = ⟨some ⟨gz, oz, none⟩, cp, Ah, ch, Al, cl, m, hs, l⟩ := ⟨_, rfl⟩
  have hcl : c.m.zs.length = m.zs.length := by rw [hc]
  obtain ⟨cn, hcn⟩ : ∃ cn, cn = m.zs.length := ⟨_, rfl⟩
  have hrp2 : RsP V w2.heap.size x c (.slice (some ⟨gn, 0, none⟩) c.m.zs.length cn) (.slice none 0 0) 0 0 := by
    rw [hcl, hgn, hcn, hc]; exact hrp
  have hnvE : (Value.slice (some ⟨w2.heap.size, 0, none⟩) m.zs.length m.zs.length) = .slice (some ⟨gn, 0, none⟩) c.m.zs.length cn := by rw [hcl, hgn, hcn]
  have HRP0 := Lib.hid hrp2
  have HC := Lib.hid hc
  have HCL := Lib.hid hcl
  have HBV := Lib.hid hbV
  have HBEG : Hid (begP c.l c.m.zs = begP l m.zs) := Lib.hid (by rw [hc])
  have hxV := hblk.low
  have hxw2 : w2.heap.size < x := by omega
  clear hV hbV hnr hblk hrp hrp2 hc hcl hgn hcn hx hnvE hmk
  go_wp2_with fail
  go_loopw [12] (fun iv wr => ∃ (i : Nat) (tv : Value) (mv : Int), i ≤ m.zs.length ∧ iv = .int .i64 i ∧ RsP wr w2.heap.size x c (.slice (some ⟨gn, 0, none⟩) c.m.zs.length cn) tv i mv ∧ Hid (mv = pdN 3 ((begP l m.zs).take i)) ∧ Below w2.heap.size w2 wr) (fun iv _ => m.zs.length - (intOf iv).toNat)
  case atStart => exact ⟨0, .slice none 0 0, 0, Nat.zero_le _, rfl, HRP0.out, Lib.hid (by simp [pdN]), HBV.out⟩
  case round =>
    obtain ⟨i, tv, mv, hil, rfl, hP, HMV, hBr⟩ := hrel
    have HP1 := Lib.hid hP
    have HBR := Lib.hid hBr
    have hxr := hP.blk.low
    have x2 := bkeep hBr x2 hp2
    have hmvb : 0 ≤ mv ∧ mv ≤ 16 := by
      have := HMV.out
      have h2 := pdN_le 3 ((begP l m.zs).take i)
      rw [List.length_take] at h2
      omega
    by_cases hlt : i < m.zs.length
    · have q3 : (i : Int) < (m.zs.length : Int) := by omega
      obtain ⟨g2, o2, e2, -, -, -, -, u3, -, u5, u6, -, -⟩ := zn_at HZ0.out hlt
      injection e2 with e2
      injection e2 with e3 e4
      subst e3 e4
      have hB0r := HB2.out.trans (hBr.mono HB2.out.size)
      have u3 := bkeep hB0r u3 hgB
      have u5 := bkeep hB0r u5 hgB
      have u6 := bkeep hB0r u6 hgB
      obtain ⟨z, hz⟩ : ∃ z, z = m.zs[i] := ⟨_, rfl⟩
      rw [← hz] at u3 u5 u6
      have hib : i < (begP l m.zs).length := by rw [begP_len]; exact hlt
      have hbi : (begP l m.zs)[i] = pz0 l z := by rw [hz]; simp [begP]
      have hps := pdN_snoc 3 hib
      rw [hbi, show (pz0 l z).z = z from rfl] at hps
      have HPS := Lib.hid hps
      have hnx : ((begP c.l c.m.zs).take (i + 1)).map (fun p => p.nd) = ((begP c.l c.m.zs).take i).map (fun p => p.nd) ++ [if z.pd = 3 then z.mv else z.ow] := by
        rw [HBEG.out, List.take_add_one, List.getElem?_eq_getElem hib, List.map_append, hbi]
        rfl
      have HNX := Lib.hid hnx
      clear hz hbi hps hnx hP hBr hB0r
      by_cases hk : z.pd = 3
      · have q5 : (z.pd == 3) = true := by rw [beq_iff_eq]; exact hk
        have HK := Lib.hid hk
        have y8 : wr.cell? ⟨x, 8, none⟩ = some (.int .i64 mv) := (HP1.out.blk.cell 8).trans rfl
        have yf := HP1.out.blk.free 8
        have hwm : IntKind.i64.wrap (mv + 1) = mv + 1 := by rw [IntKind.wrap_i64]; omega
        clear hk
        go_upto_region 11 with fail
        obtain ⟨V, hV⟩ : ∃ V, V = wr.setCell ⟨x, 8, none⟩ (.int .i64 (mv + 1)) := ⟨_, rfl⟩
        rw [← hV]
        have HPV : Hid (RsP V w2.heap.size x c (.slice (some ⟨gn, 0, none⟩) c.m.zs.length cn) tv i (mv + 1)) := Lib.hid (by rw [hV]; exact HP1.out.setMv _)
        have HVB : Hid (Below w2.heap.size w2 V) := Lib.hid (by rw [hV]; exact HBR.out.setCell (by show w2.heap.size ≤ x; omega) _)
        clear hV y8 yf
        have y7 : V.cell? ⟨x, 7, none⟩ = some tv := (HPV.out.blk.cell 7).trans rfl
        have hVl := HPV.out.blk.low
        have hVs := HVB.out.size
        have HCC := Lib.hid (cells_new (w := V) (e := 3) (arr := #[.int .i64 z.mv]) (cs := [.int .i64 z.mv]) (size := 1) rfl rfl)
        go_wp2_with (first
          | (at_builtin; go_loud (refine wpList_append_touch rfl (.tmp 68) (.tmp 70) 25 rfl w2.heap.size 3 i0 (.int .i64 0) 1 8 Tryz.underlying25 hi0 hz0 hz1 hz2 rfl (by decide) tv i (intsV (((begP c.l c.m.zs).take i).map fun p => p.nd)) rfl (HPV.out.tr.alloc _) _ (some ⟨V.heap.size, 0, none⟩) 1 1 [.int .i64 z.mv] rfl HCC.out (by intro u hu; simp at hu; subst hu; rfl) (by unfold maxLen; omega) (by omega) (by simp; omega) ?_; intro v6 w6 hown6 ht6 hb6; obtain ⟨g6, c6, hv6, -, -, -, -⟩ := own_form hown6 (by omega); subst hv6; have hT6 : Touch (fun k => tv.ownBlock = some k) V w6 := ((Touch.refl _ _).alloc _).trans ht6 (fun _ _ h => h); have W6 : Whl w6 x 63 _ := (hT6.block x hVl (fun e => HPV.out.ta x e rfl)).trans HPV.out.blk; have y76 : w6.cell? ⟨x, 7, none⟩ = some tv := (W6.cell 7).trans rfl; have y7f := W6.free 7; have HPN := Lib.hid (HPV.out.push hown6 hT6 (hb6.imp_right fun e => ⟨_, e, by simp⟩) (by rw [HNX.out, if_pos HK.out])); have HB6 := Lib.hid (show Below w2.heap.size w2 (w6.setCell ⟨x, 7, none⟩ (.slice (some ⟨g6, 0, none⟩) (i + 1) c6)) from (HVB.out.trans (hT6.below hVs (fun k hk => (HPV.out.tr.lt k hk).1))).setCell (by show w2.heap.size ≤ x; omega) _); clear hown6 ht6 hT6 hb6 W6))
          | fail)
        exact ⟨⟨i + 1, _, mv + 1, hlt, by go_num, HPN.out, Lib.hid (by have h1 := HPS.out; rw [if_pos HK.out] at h1; have h2 := HMV.out; omega), HB6.out⟩, measZ hlt⟩
      · have q5 : (z.pd == 3) = false := by rw [beq_eq_false_iff_ne]; exact hk
        have HK := Lib.hid hk
        clear hk
        go_upto_region 11 with fail
        obtain ⟨V, hV⟩ : ∃ V, V = wr := ⟨_, rfl⟩
        rw [← hV]
        have HPV : Hid (RsP V w2.heap.size x c (.slice (some ⟨gn, 0, none⟩) c.m.zs.length cn) tv i mv) := Lib.hid (by rw [hV]; exact HP1.out)
        have HVB : Hid (Below w2.heap.size w2 V) := Lib.hid (by rw [hV]; exact HBR.out)
        clear hV
        have y7 : V.cell? ⟨x, 7, none⟩ = some tv := (HPV.out.blk.cell 7).trans rfl
        have hVl := HPV.out.blk.low
        have hVs := HVB.out.size
        have HCC := Lib.hid (cells_new (w := V) (e := 3) (arr := #[.int .i64 z.ow]) (cs := [.int .i64 z.ow]) (size := 1) rfl rfl)
        go_wp2_with (first
          | (at_builtin; go_loud (refine wpList_append_touch rfl (.tmp 68) (.tmp 70) 25 rfl w2.heap.size 3 i0 (.int .i64 0) 1 8 Tryz.underlying25 hi0 hz0 hz1 hz2 rfl (by decide) tv i (intsV (((begP c.l c.m.zs).take i).map fun p => p.nd)) rfl (HPV.out.tr.alloc _) _ (some ⟨V.heap.size, 0, none⟩) 1 1 [.int .i64 z.ow] rfl HCC.out (by intro u hu; simp at hu; subst hu; rfl) (by unfold maxLen; omega) (by omega) (by simp; omega) ?_; intro v6 w6 hown6 ht6 hb6; obtain ⟨g6, c6, hv6, -, -, -, -⟩ := own_form hown6 (by omega); subst hv6; have hT6 : Touch (fun k => tv.ownBlock = some k) V w6 := ((Touch.refl _ _).alloc _).trans ht6 (fun _ _ h => h); have W6 : Whl w6 x 63 _ := (hT6.block x hVl (fun e => HPV.out.ta x e rfl)).trans HPV.out.blk; have y76 : w6.cell? ⟨x, 7, none⟩ = some tv := (W6.cell 7).trans rfl; have y7f := W6.free 7; have HPN := Lib.hid (HPV.out.push hown6 hT6 (hb6.imp_right fun e => ⟨_, e, by simp⟩) (by rw [HNX.out, if_neg HK.out])); have HB6 := Lib.hid (show Below w2.heap.size w2 (w6.setCell ⟨x, 7, none⟩ (.slice (some ⟨g6, 0, none⟩) (i + 1) c6)) from (HVB.out.trans (hT6.below hVs (fun k hk => (HPV.out.tr.lt k hk).1))).setCell (by show w2.heap.size ≤ x; omega) _); clear hown6 ht6 hT6 hb6 W6))
          | fail)
        exact ⟨⟨i + 1, _, mv, hlt, by go_num, HPN.out, Lib.hid (by have h1 := HPS.out; rw [if_neg HK.out] at h1; have h2 := HMV.out; omega), HB6.out⟩, measZ hlt⟩
    · have hin : i = c.m.zs.length := by have := HCL.out; omega
      rw [hin] at hP
      have hB0r := HB2.out.trans (hBr.mono HB2.out.size)
      have hok : Ok c := ⟨by rw [HC.out]; exact HM.out, by rw [HC.out]; exact HHB.out, by rw [HC.out]; exact hll⟩
      have hfull := hP.full (by rw [HC.out]; exact cells_keep HZ0.out hB0r HB2.out.size) (by rw [HC.out]; exact cells_keep HX0.out hB0r HB2.out.size) (by rw [HC.out]; exact cells_keep HL0.out hB0r HB2.out.size) hok
      rw [HBEG.out] at hfull
      obtain ⟨gt, ct, htv, -, -, -, -⟩ := own_form hfull.tr (by have := HCL.out; omega)
      subst htv
      obtain ⟨mv0, hmv0⟩ : ∃ mv0 : Int, mv0 = mv := ⟨_, rfl⟩
      rw [← hmv0] at HMV hfull
      have HMV0 : Hid (mv0 = pdN 3 (begP l m.zs)) := Lib.hid (by
        have h := HMV.out
        rw [List.take_of_length_le (by rw [begP_len]; omega)] at h
        exact h)
      have HFU := Lib.hid hfull
      have HBH := Lib.hid (begP_hits l m.zs)
      have hnd : ((begP l m.zs).map fun p => p.z.id).Nodup := by rw [begP_ids]; exact HM.out.nodup.sublist (ids_sub _)
      have HND := Lib.hid hnd
      have HP1b : Hid (∀ p ∈ begP l m.zs, 1 ≤ p.z.id) := Lib.hid (fun p hp => by
        obtain ⟨z, hz, rfl⟩ := List.mem_map.1 hp
        exact (HM.out.rng z.id (id_mem hz)).1)
      have hpl : (begP l m.zs).length = m.zs.length := begP_len _ _
      have hmv0b : 0 ≤ mv0 := by omega
      clear hin hP hB0r hok hfull hnd hmv0 hmvb HMV
      go_wp2_with (first
        | (go_at_call 21; go_loud (refine (rsSplits w2.heap.size x gn cn c _ _ _ _ [] mv0 hot π _ HFU.out HPI.out HND.out HP1b.out (by simp)).mono ?_; rintro e w4 ⟨rfl, ov4, nm4, st, hst, hs4, hb4⟩; have HST := Lib.hid hst; have HS4 := Lib.hid hs4; have HB4 := Lib.hid (HBR.out.trans hb4); clear hst hs4 hb4))
        | fail)
      have hsm : SameZ st.ps (begP l m.zs) := by rw [HST.out]; exact splitFold_same hot _ _
      have hcs4 : st.cs.length ≤ 16 := by
        have h1 := split_cs hot π ⟨begP l m.zs, [], 16 - ((begP l m.zs).length : Int) - (pdN 1 (begP l m.zs) : Int)⟩
        rw [← HST.out] at h1
        have h2 := HPI.out.len
        simp only [List.length_nil] at h1
        omega
      have HSM4 := Lib.hid hsm
      have HMV4 : Hid (mv0 = pdN 3 st.ps) := Lib.hid (by rw [hsm.pdN 3]; exact HMV0.out)
      clear hsm
      go_loopw [] (fun wr => ∃ (k : Nat) (ovk : Value) (nmk : List Bool) (qs : List Pz) (ds : List Ch), MoveR hs st.ps st.cs qs ds k ∧ RsH wr w2.heap.size x c (.slice (some ⟨gn, 0, none⟩) c.m.zs.length cn) ovk (.slice (some ⟨gt, 0, none⟩) c.m.zs.length ct) nmk qs ds (mv0 + k) ∧ Below w2.heap.size w2 wr ∧ SameZ qs (begP l m.zs) ∧ ds.length ≤ st.cs.length + k ∧ (k = 0 ∨ mv0 + k ≤ 2)) (fun wr => (2 - intOf ((wr.cell? ⟨x, 8, none⟩).getD (.int .i64 0))).toNat)
      case atStart => exact ⟨0, ov4, nm4, st.ps, st.cs, .nil, by simpa using HS4.out, HB4.out, HSM4.out, by omega, .inl rfl⟩
      case round =>
        obtain ⟨k, ovk, nmk, qs, ds, hmvr, hS, hBk, hsq, hdl, hkb⟩ := hrel
        have HMR := Lib.hid hmvr
        have HS := Lib.hid hS
        have HBK := Lib.hid hBk
        have HSQ := Lib.hid hsq
        have c8 := hS.cells.2.2.2.2.2.2
        have HC8 := Lib.hid c8
        have hkb2 : (k : Int) ≤ 2 := by omega
        clear hmvr hS hBk hsq c8
        by_cases h2 : 2 ≤ mv0 + k
        · go_wp2_with (first
            | (go_at_call 22; go_loud (refine (rsMove0 w2.heap.size x gn cn gt ct c ovk nmk qs ds (mv0 + k) _ HS.out h2).mono ?_; rintro e w6 ⟨rfl, hb6⟩; have HS6 := Lib.hid (HS.out.below hb6); have HB6 := Lib.hid (HBK.out.trans (hb6.mono HS.out.bw)); clear hb6))
            | (go_at_call 23; go_loud (refine (rsMerges w2.heap.size x gn cn c ovk (.slice (some ⟨gt, 0, none⟩) c.m.zs.length ct) nmk qs ds (mv0 + k) cold _ HS6.out (HSQ.out.hits HBH.out) (by omega)).mono ?_; rintro e w7 ⟨rfl, hq7⟩; obtain ⟨ov7, nm7, hs7, hb7⟩ := hq7; have HS7 := Lib.hid hs7; have HB7 := Lib.hid (HB6.out.trans hb7); obtain ⟨-, -, -, -, f6, -, -⟩ := hs7.cells; clear hs7 hb7))
            | fail)
          go_ret
          exact ⟨ov7, (mergeF cold qs ds).cs, rfl, Lib.hid ⟨π, st, qs, ds, k, HPI.out, by rw [HST.out, hpl], HMR.out, .inl (by have := HMV4.out; omega), by have := HMV4.out; omega, rfl⟩, own_mono HS7.out.orow HB2.out.size, HB2.out.trans (HB7.out.mono HB2.out.size)⟩
        have h2' : mv0 + k < 2 := by omega
        obtain ⟨g1, g2, hmo⟩ := most_ex qs (by have := (hosts_ok HHB.out).1.1; omega) (host_up HHB.out) (hosts_ok HHB.out).2
        have hbq : ByI qs π := HPI.out.same HSQ.out
        obtain ⟨r, hr⟩ : ∃ r, r = π.foldl (bestStep (rankOf qs g1) (rankOf qs g2) qs) none := ⟨_, rfl⟩
        have hG : Goes hs qs g1 g2 r := ⟨hmo, π, hbq, hr⟩
        have HGO : Hid (Goes c.hs qs g1 g2 r) := Lib.hid (by rw [HC.out]; exact hG)
        have HG2 := Lib.hid hG
        have HNQ : Hid ((qs.map fun p => p.z.id).Nodup) := Lib.hid (by rw [HSQ.out.ids]; exact HND.out)
        clear hmo hbq hr hG
        cases r with
        | none =>
          go_wp2_with (first
            | (go_at_call 22; go_loud (refine (rsMoveG w2.heap.size x gn cn gt ct c ovk nmk qs ds (mv0 + k) g1 g2 none _ HS.out h2' (by omega) HGO.out HNQ.out (by omega)).mono ?_; intro e w6 hq; obtain ⟨rfl, hs6, hb6⟩ := hq; have HS6 := Lib.hid hs6; have HB6 := Lib.hid (HBK.out.trans hb6); clear hs6 hb6))
            | (go_at_call 23; go_loud (refine (rsMerges w2.heap.size x gn cn c ovk (.slice (some ⟨gt, 0, none⟩) c.m.zs.length ct) nmk qs ds (mv0 + k) cold _ HS6.out (HSQ.out.hits HBH.out) (by omega)).mono ?_; rintro e w7 ⟨rfl, hq7⟩; obtain ⟨ov7, nm7, hs7, hb7⟩ := hq7; have HS7 := Lib.hid hs7; have HB7 := Lib.hid (HB6.out.trans hb7); obtain ⟨-, -, -, -, f6, -, -⟩ := hs7.cells; clear hs7 hb7))
            | fail)
          go_ret
          exact ⟨ov7, (mergeF cold qs ds).cs, rfl, Lib.hid ⟨π, st, qs, ds, k, HPI.out, by rw [HST.out, hpl], HMR.out, .inr ⟨g1, g2, HG2.out⟩, by have := HMV4.out; omega, rfl⟩, own_mono HS7.out.orow HB2.out.size, HB2.out.trans (HB7.out.mono HB2.out.size)⟩
        | some j =>
          go_wp2_with (first
            | (go_at_call 22; go_loud (refine (rsMoveG w2.heap.size x gn cn gt ct c ovk nmk qs ds (mv0 + k) g1 g2 (some j) _ HS.out h2' (by omega) HGO.out HNQ.out (by omega)).mono ?_; intro e w6 hq; obtain ⟨hj, ov6, nm6, rfl, hs6, hb6⟩ := hq; have HJ := Lib.hid hj; have HS6 := Lib.hid hs6; have HB6 := Lib.hid (HBK.out.trans hb6); clear hs6 hb6))
            | fail)
          have hm6 := HS6.out.cells.2.2.2.2.2.2
          refine ⟨⟨k + 1, ov6, nm6, _, _, .snoc HMR.out HG2.out HJ.out, ?_, HB6.out, (SameZ.set (p := gone (qs[j]'HJ.out) g2) HJ.out ⟨rfl, rfl, rfl⟩).trans HSQ.out, ?_, .inr ?_⟩, ?_⟩
          · have h := HS6.out
            rw [show mv0 + (k : Int) + 1 = mv0 + ((k + 1 : Nat) : Int) by omega] at h
            exact h
          · rw [List.length_append, List.length_singleton]; omega
          · omega
          · rw [hm6, HC8.out]
            show (2 - (mv0 + (k : Int) + 1)).toNat < (2 - (mv0 + (k : Int))).toNat
            omega
end Go.Proofs.YtepjehcmiofehaaGreat
