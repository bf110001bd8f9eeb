/- the document's plan: name. -/
import Derived.Test.YtepjehcmiofehaaGreatPmC
namespace Go.Proofs.YtepjehcmiofehaaGreat
open Go.RowKit
set_option linter.unusedVariables false
set_option linter.unusedSimpArgs false

theorem sA {α : Type} (l : List α) (i : Nat) (a : α) : l.toArray.setIfInBounds i a = (l.set i a).toArray := by simp
theorem sB {α : Type} (l : List α) (a b : α) : (a :: l).set 0 b = b :: l := rfl
theorem sC {α : Type} (l : List α) (a b : α) (n : Nat) : (a :: l).set (n + 1) b = a :: l.set n b := rfl
/-- an operation that is wanted, taken first -/
theorem tk {P : Program} {md : Region.Mode} {ops : Array Oper} {Q : Exit → Act → World → Prop} {S : World → Prop} {i : Nat} {oi : Oper} {fuel : Nat} {listed : Array Bool} {a : Act} {w : World} (v : Value) (hi : ops[i]? = some oi) (hw : Region.wanted oi (yielded ops a.tmps) = true) (hy : ∀ w, S w → (execOp a.eval oi).run P w = .ok (.value v) w) (h : wpAnyH P md ops Q S fuel (listed.setIfInBounds i true) (a.put oi.dst v) w) (hf : (Region.noSelect ops && Region.free md ops listed i && (Region.ready md ops listed).contains i) = true := by kernel_rfl) (hQ : ∀ c a w, Q (.panic c) (a.put oi.dst v) w → Q (.panic c) a w := by exact fun _ _ _ h => h) (hS : S w := by assumption) : wpAnyH P md ops Q S (fuel + 1) listed a w := by
  simp only [Bool.and_eq_true] at hf
  exact wpAnyH_take hi hf.1.1 hf.1.2 hf.2 hQ (.inl ⟨hw, hy⟩) hS h
/-- .. that is not -/
theorem tn {P : Program} {md : Region.Mode} {ops : Array Oper} {Q : Exit → Act → World → Prop} {S : World → Prop} {i : Nat} {oi : Oper} {fuel : Nat} {listed : Array Bool} {a : Act} {w : World} (hi : ops[i]? = some oi) (hw : Region.wanted oi (yielded ops a.tmps) = false) (h : wpAnyH P md ops Q S fuel (listed.setIfInBounds i true) (a.put oi.dst undef) w) (hf : (Region.noSelect ops && Region.free md ops listed i && (Region.ready md ops listed).contains i) = true := by kernel_rfl) (hQ : ∀ c a w, Q (.panic c) (a.put oi.dst undef) w → Q (.panic c) a w := by exact fun _ _ _ h => h) (hS : S w := by assumption) : wpAnyH P md ops Q S (fuel + 1) listed a w := by
  simp only [Bool.and_eq_true] at hf
  exact wpAnyH_take hi hf.1.1 hf.1.2 hf.2 hQ (.inr ⟨hw, rfl⟩) hS h
theorem boolsV_set (l : List Bool) (i : Nat) (b : Bool) : boolsV (l.set i b) = (boolsV l).set i (.bool b) := by simp [boolsV, List.map_set]
theorem RsH.pushed {w w5 : World} {B x : Nat} {c : Rc} {nv ov tv v5 : Value} {nm : List Bool} {ps : List Pz} {cs : List Ch} {mv : Int} {cc : Ch} (h : RsH w B x c nv ov tv nm ps cs mv) (ho : w5.ownsRow B 58 5 v5 (cs.length + 1) (cs.flatMap chV ++ chV cc)) (ht : Touch (fun k => ov.ownBlock = some k) w w5) (hb : v5.ownBlock = ov.ownBlock ∨ ∃ q, v5.ownBlock = some q ∧ w.heap.size ≤ q) : RsH (w5.setCell ⟨x, 6, none⟩ v5) B x c nv v5 tv nm ps (cs ++ [cc]) mv ∧ Below B w (w5.setCell ⟨x, 6, none⟩ v5) := by
  have hB5 : Below B w w5 := ht.below h.bw (fun k hk => (h.orow.lt k hk).1)
  have hblk : Whl w5 x 63 #[.int .i64 c.m.ver, .int .i64 c.m.nxt, .slice c.A c.m.zs.length c.cp, .slice c.Ah c.hs.length c.ch, .slice c.Al c.l.length c.cl, nv, ov, tv, .int .i64 mv] := (ht.block x h.blk.low (fun e => h.oa x e rfl)).trans h.blk
  have hnr := ht.own h.nr (fun g hg e => h.no g hg e)
  have htr := ht.own h.tr (fun g hg e => h.ot g e hg)
  have ha : ∀ g, v5.ownBlock = some g → g ≠ x := fun g hg => by
    rcases hb with e | ⟨q, e, hq⟩
    · exact h.oa g (by rw [← e]; exact hg)
    · rw [e] at hg; injection hg with hg
      have := h.blk.low; omega
  have hno : ∀ q, nv.ownBlock = some q → v5.ownBlock ≠ some q := fun q hq e => by
    rcases hb with e2 | ⟨r, e2, hr⟩
    · exact h.no q hq (by rw [← e2]; exact e)
    · rw [e2] at e; injection e with e
      have := (h.nr.lt q hq).2; omega
  have hot : ∀ q, v5.ownBlock = some q → tv.ownBlock ≠ some q := fun q hq e => by
    rcases hb with e2 | ⟨r, e2, hr⟩
    · exact h.ot q (by rw [← e2]; exact hq) e
    · rw [e2] at hq; injection hq with hq
      have := (h.tr.lt q e).2; omega
  have hBs : Below B w (w5.setCell ⟨x, 6, none⟩ v5) := hB5.setCell h.low _
  have e : (cs ++ [cc]).flatMap chV = cs.flatMap chV ++ chV cc := by simp
  refine ⟨⟨hblk.set 6 v5, cells_keep h.zr hBs (Nat.le_refl _), cells_keep h.hr hBs (Nat.le_refl _), cells_keep h.lr hBs (Nat.le_refl _), own_set_ne hnr (fun g hg => h.na g hg), ?_, own_set_ne htr (fun g hg => h.ta g hg), h.na, ha, h.ta, hno, h.nt, hot, h.low, h.lk, h.ok⟩, hBs⟩
  rw [e, List.length_append, List.length_singleton]
  exact own_set_ne ho (fun g hg => ha g hg)
theorem Lk.named {m : Mp} {l : List Lr} {nm : List Bool} {ps : List Pz} (h : Lk m l nm ps) {i : Nat} {p : Pz} (hp : ps[i]? = some p) : Lk m l (nm.set i true) (ps.set i (taken p)) := by
  obtain ⟨hi, e⟩ := List.getElem?_eq_some_iff.1 hp
  refine ⟨by rw [List.length_set]; exact h.ln, by rw [List.length_set]; exact h.lb, fun j hj hj2 => ?_, fun j hj hj2 => ?_⟩
  · rw [List.getElem_set]
    split
    · rename_i ej
      subst ej
      have := h.z i hi hj2
      rw [e] at this
      exact this
    · exact h.z j (by simpa using hj) hj2
  · rw [List.getElem_set, List.getElem_set]
    split
    · show false = (_ && !true)
      simp
    · exact h.f j (by simpa using hj) (by simpa using hj2)
theorem RsH.named {w : World} {B x gn cn : Nat} {c : Rc} {ov tv : Value} {nm : List Bool} {ps : List Pz} {cs : List Ch} {mv : Int} (h : RsH w B x c (.slice (some ⟨gn, 0, none⟩) c.m.zs.length cn) ov tv nm ps cs mv) {i : Nat} {p : Pz} (hp : ps[i]? = some p) : RsH (w.setCell ⟨gn, i, none⟩ (.bool true)) B x c (.slice (some ⟨gn, 0, none⟩) c.m.zs.length cn) ov tv (nm.set i true) (ps.set i (taken p)) cs mv := by
  have hBs : Below B w (w.setCell ⟨gn, i, none⟩ (.bool true)) := (Below.refl _ _).setCell (h.nr.lt gn rfl).1 _
  obtain ⟨hi, e⟩ := List.getElem?_eq_some_iff.1 hp
  have e2 : (ps.set i (taken p)).map (fun p => p.nd) = ps.map fun p => p.nd := by
    rw [List.map_set]
    have : (taken p).nd = (ps.map fun p => p.nd)[i]'(by simpa using hi) := by rw [List.getElem_map, e]; rfl
    rw [this, List.set_getElem_self]
  refine ⟨h.blk.far (a := ⟨gn, i, none⟩) (fun e => h.na gn rfl e.symm), cells_keep h.zr hBs (Nat.le_refl _), cells_keep h.hr hBs (Nat.le_refl _), cells_keep h.lr hBs (Nat.le_refl _), ?_, own_set_ne h.orow (fun g hg e => h.no gn rfl (by rw [hg, e])), ?_, h.na, h.oa, h.ta, h.no, h.nt, h.ot, h.low, h.lk.named hp, h.ok⟩
  · rw [boolsV_set]
    exact (h.nr.stored i (.bool true)).1
  · rw [e2]
    exact own_set_ne h.tr (fun g hg e => h.nt gn rfl (by rw [hg, e]))
set_option maxHeartbeats 8000000 in
set_option maxRecDepth 10000 in
theorem rsName (B x gn cn i : Nat) (c : Rc) (ov tv : Value) (nm : List Bool) (ps : List Pz) (cs : List Ch) (mv kd zo ep tO : Int) (ky : ByteArray) (p : Pz) (w : World) (h : RsH w B x c (.slice (some ⟨gn, 0, none⟩) c.m.zs.length cn) ov tv nm ps cs mv) (hp : ps[i]? = some p) (hcl : cs.length ≤ 1000) :
    Calls Tryz.prog 42 #[.pointer (some ⟨x, 0, none⟩), .int .i64 i, .agg #[.int .i64 kd, .int .i64 zo, .int .i64 ep, .int .i64 tO, .string ky]] w fun e w' => e = .returned (.tuple #[]) ∧ ∃ ov', RsH w' B x c (.slice (some ⟨gn, 0, none⟩) c.m.zs.length cn) ov' tv (nm.set i true) (ps.set i (taken p)) (cs ++ [⟨kd, p.z.id, ep, tO, ky⟩]) mv ∧ Below B w w' := by
  obtain ⟨i0, hi, hz0, hz1, hz2⟩ := info_parts Tryz.infoPchange
  have HR := Lib.hid h
  have hxw := h.blk.low
  obtain ⟨hl1, hl16, hps, hnb⟩ := h.len
  obtain ⟨k2, -, -, k5, k6, -, -⟩ := h.cells
  obtain ⟨hip, hpe⟩ := List.getElem?_eq_some_iff.1 hp
  have hiz : i < c.m.zs.length := by omega
  have q3 : (i : Int) < (c.m.zs.length : Int) := by omega
  obtain ⟨gz, oz, hA, hgB, u0, -, -, -, -, -, -, -, -⟩ := zn_at h.zr hiz
  have hid : c.m.zs[i].id = p.z.id := by rw [← hpe, (h.lk.z i hip hiz).1]
  rw [hid] at u0
  rw [hA] at k2
  have hgw : gz < w.heap.size := Nat.lt_of_lt_of_le hgB h.bw
  obtain ⟨hgn, hgnl⟩ := h.nr.lt gn rfl
  have hni : i < nm.length := by omega
  have n00 := own_bool h.nr hni
  obtain ⟨b0, hb0⟩ : ∃ b0, b0 = nm[i] := ⟨_, rfl⟩
  rw [← hb0] at n00
  have nf0 : w.frozen? ⟨gn, i, none⟩ = false := h.nr.frozenAt i
  have hbase0 := h.bw
  clear h hps hnb hpe hid hb0
  go_enter Tryz.func42, Tryz.ntmps42
  go_upto_region 2 with fail
  obtain ⟨V, hV⟩ : ∃ V, V = (w.alloc (.cells #[.int .i64 kd, .int .i64 p.z.id, .int .i64 ep, .int .i64 tO, .string ky] 58)) := ⟨_, rfl⟩
  rw [← hV]
  have hbV : Below w.heap.size w V := by rw [hV]; exact (Below.refl _ _).alloc (Nat.le_refl _) _
  have HV := Lib.hid (HR.out.below hbV)
  have HBV := Lib.hid (hbV.mono hbase0)
  have hBX : Whl V w.heap.size 58 #[.int .i64 kd, .int .i64 p.z.id, .int .i64 ep, .int .i64 tO, .string ky] := by rw [hV]; exact Whl.new rfl
  have b0_ := hBX.cell 0
  have b1_ := hBX.cell 1
  have b2_ := hBX.cell 2
  have b3_ := hBX.cell 3
  have b4_ := hBX.cell 4
  simp only [List.getElem?_toArray, List.getElem?_cons_succ, List.getElem?_cons_zero] at b0_ b1_ b2_ b3_ b4_
  have HOV := Lib.hid HV.out.orow
  have HWV := Lib.hid HV.out.blk
  have k0 : V.cell? ⟨x, 6, none⟩ = some ov := (HV.out.blk.cell 6).trans rfl
  have n0 := bkeep hbV n00 hgnl
  have nf : V.frozen? ⟨gn, i, none⟩ = false := HV.out.nr.frozenAt i
  have hfarv : ov.ownBlock = some x → False := fun e => HV.out.oa x e rfl
  have hbase : B ≤ V.heap.size := HV.out.bw
  have hgnV : gn < V.heap.size := by have := hbV.size; omega
  have hxV := HV.out.blk.low
  have hwV := hBX.low
  clear hV hbV hBX u0 k2 k5 k6 n00 nf0
  refine wp_region_held_drew (S := (fun _ => True)) (by kernel_rfl) trivial (fun hHeld => ?_)
  refine tk (i := 0) (oi := ⟨some 16, _, _, _, _, _⟩) (?v0_1) rfl (by rfl) ?y0_1 ?r0_1
  case y0_1 => (intro w hSw; (try dsimp only at hSw); (try go_split_ands); go_simp); (try with_reducible rfl)
  case r0_1 =>
  (try simp only [Act.put, sA, sB, sC])
  refine tk (i := 1) (oi := ⟨some 17, _, _, _, _, _⟩) (?v1_4) rfl (by rfl) ?y1_4 ?r1_4
  case y1_4 => (intro w hSw; (try dsimp only at hSw); (try go_split_ands); go_simp); (try with_reducible rfl)
  case r1_4 =>
  (try simp only [Act.put, sA, sB, sC])
  refine tk (i := 2) (oi := ⟨some 18, _, _, _, _, _⟩) (?v2_7) rfl (by rfl) ?y2_7 ?r2_7
  case y2_7 => (intro w hSw; (try dsimp only at hSw); (try go_split_ands); go_simp); (try with_reducible rfl)
  case r2_7 =>
  (try simp only [Act.put, sA, sB, sC])
  refine tk (i := 3) (oi := ⟨some 19, _, _, _, _, _⟩) (?v3_10) rfl (by rfl) ?y3_10 ?r3_10
  case y3_10 => (intro w hSw; (try dsimp only at hSw); (try go_split_ands); go_simp); (try with_reducible rfl)
  case r3_10 =>
  (try simp only [Act.put, sA, sB, sC])
  refine wpAnyH_ready (rs := [4, 5]) (by kernel_rfl) (by simp) ?_
  refine AllReadyH.cons (o := ⟨some 20, _, _, _, _, _⟩) rfl (fun K hK => ?_) (AllReadyH.cons (o := ⟨some 21, _, _, _, _, _⟩) rfl (fun K hK => ?_) AllReadyH.nil)
  · have k9 : V.drew.cell? ⟨x, 6, none⟩ = some ov := k0
    go_simp
    refine hK.out _ _ trivial (fun hHeld => ?_)
    clear hK K
    (try simp only [Act.put, sA, sB, sC])
    refine wpAnyH_ready (rs := [5]) (by kernel_rfl) (by simp) ?_
    refine AllReadyH.cons (o := ⟨some 21, _, _, _, _, _⟩) rfl (fun K hK => ?_) AllReadyH.nil
    have e0 : V.drew.cell? ⟨w.heap.size, 0, none⟩ = _ := b0_
    have e1 : V.drew.cell? ⟨w.heap.size, 1, none⟩ = _ := b1_
    have e2 : V.drew.cell? ⟨w.heap.size, 2, none⟩ = _ := b2_
    have e3 : V.drew.cell? ⟨w.heap.size, 3, none⟩ = _ := b3_
    have e4 : V.drew.cell? ⟨w.heap.size, 4, none⟩ = _ := b4_
    go_simp
    refine hK.out _ _ trivial (fun hHeld => ?_)
    clear hK K
    (try simp only [Act.put, sA, sB, sC])
    refine wpAnyH_ready (rs := [6]) (by kernel_rfl) (by simp) ?_
    refine AllReadyH.cons (o := ⟨some 22, _, _, _, _, _⟩) rfl (fun K hK => ?_) AllReadyH.nil
    go_simp
    have hb3 : Below V.heap.size V (V.drew.alloc (.cells #[.int .i64 kd, .int .i64 p.z.id, .int .i64 ep, .int .i64 tO, .string ky] 58)) := (Below.refl _ _).drew.alloc (Nat.le_refl _) _
    have hbase6 : B ≤ (V.drew.alloc (.cells #[.int .i64 kd, .int .i64 p.z.id, .int .i64 ep, .int .i64 tO, .string ky] 58)).heap.size := by simp; omega
    have ho3 : (V.drew.alloc (.cells #[.int .i64 kd, .int .i64 p.z.id, .int .i64 ep, .int .i64 tO, .string ky] 58)).ownsRow B 58 5 ov cs.length (cs.flatMap chV) := (Touch.of_below hb3).own HOV.out (fun g hg hd => by have := (HOV.out.lt g hg).2; omega)
    refine hK.out _ _ trivial (fun hHeld => ?_)
    clear hK K
    (try simp only [Act.put, sA, sB, sC])
    refine wpAnyH_ready (rs := [7]) (by kernel_rfl) (by simp) ?_
    refine AllReadyH.cons (o := ⟨some 23, _, _, _, _, _⟩) rfl (fun K hK => ?_) AllReadyH.nil
    refine step_append_cells rfl (.tmp 20) (.tmp 22) 31 rfl B 58 i0 (.agg #[.int .i64 0, .int .i64 0, .int .i64 0, .int .i64 0, .string ⟨#[]⟩]) 5 48 Tryz.underlying31 hi hz0 hz1 hz2 rfl (by decide) (ov) cs.length (cs.flatMap chV) rfl ho3 _ _ 1 1 [.int .i64 kd, .int .i64 p.z.id, .int .i64 ep, .int .i64 tO, .string ky] rfl (cells_new (w := V.drew) (e := 58) rfl rfl) (chV_one ⟨kd, p.z.id, ep, tO, ky⟩) (by unfold maxLen; omega) (by omega) hbase6 ?_
    intro v5 w5 hown5 ht5 hb5
    have hT5 : Touch (fun x => (ov).ownBlock = some x) V w5 := ((Touch.refl _ _).trans (Touch.of_below hb3) (fun x hx hd => absurd hd (by omega))).trans ht5 (fun x _ hx => hx)
    have hs5 := hT5.size
    have hW5 : Whl w5 (x) 63 #[.int .i64 c.m.ver, .int .i64 c.m.nxt, .slice c.A c.m.zs.length c.cp, .slice c.Ah c.hs.length c.ch, .slice c.Al c.l.length c.cl, .slice (some ⟨gn, 0, none⟩) c.m.zs.length cn, ov, tv, .int .i64 mv] := (hT5.block (x) HWV.out.low (fun e => hfarv e)).trans HWV.out
    have hb5' : v5.ownBlock = (ov).ownBlock ∨ v5.ownBlock = some (V.heap.size + 1) := by simpa using hb5
    clear hb5
    obtain ⟨g5, c5, rfl, _, _, _, _⟩ := own_form hown5 (Nat.succ_pos _)
    have HO5 := Lib.hid hown5
    have HT5 := Lib.hid hT5
    have HW5 := Lib.hid hW5
    
    clear hown5 ht5 hT5 hW5
    refine hK.out _ _ trivial (fun hHeld => ?_)
    clear hK K
    (try simp only [Act.put, sA, sB, sC])
    refine tk (i := 8) (oi := ⟨some 24, _, _, _, _, _⟩) (?v8_58) rfl (by rfl) ?y8_58 ?r8_58
    case y8_58 => (intro w hSw; (try dsimp only at hSw); (try go_split_ands); go_simp); (try with_reducible rfl)
    case r8_58 =>
    (try simp only [Act.put, sA, sB, sC])
    refine tk (i := 9) (oi := ⟨some 25, _, _, _, _, _⟩) (?v9_61) rfl (by rfl) ?y9_61 ?r9_61
    case y9_61 => (intro w hSw; (try dsimp only at hSw); (try go_split_ands); go_simp); (try with_reducible rfl)
    case r9_61 =>
    (try simp only [Act.put, sA, sB, sC])
    refine wpAnyH_ready (rs := [10]) (by kernel_rfl) (by simp) ?_
    refine AllReadyH.cons (o := ⟨none, _, _, _, _, _⟩) rfl (fun K hK => ?_) AllReadyH.nil
    have k7 : w5.cell? ⟨x, 6, none⟩ = some (ov) := (HW5.out.cell 6).trans rfl
    have f7 := HW5.out.free 6
    go_simp
    refine hK.out _ _ trivial (fun hHeld => ?_)
    clear hK K
    (try simp only [Act.put, sA, sB, sC])
    refine wpAnyH_done (by kernel_rfl) ?_ _
    have f5 : w5.cell? ⟨x, 5, none⟩ = some (.slice (some ⟨gn, 0, none⟩) c.m.zs.length cn) := (HW5.out.cell 5).trans rfl
    have hgn5 : w5.cell? ⟨gn, i, none⟩ = some (.bool b0) := HT5.out.cell (show V.cell? ⟨gn, i, none⟩ = some (.bool b0) from n0) (fun e => HV.out.no gn rfl e)
    have hgf5 := HT5.out.frozen (show gn < V.heap.size by omega) (show V.frozen? ⟨gn, i, none⟩ = false from nf) (fun e => HV.out.no gn rfl e)
    have hP := HV.out.pushed (cc := ⟨kd, p.z.id, ep, tO, ky⟩) HO5.out HT5.out (hb5'.imp_right fun e => ⟨_, e, Nat.le_succ _⟩)
    have HPU := Lib.hid hP
    have hgnx : gn ≠ x := HV.out.na gn rfl
    clear hP n0 nf k0 b0_ b1_ b2_ b3_ b4_ hfarv
    go_wp2_with fail
    refine bodyPost_end (v := .tuple #[]) (by simp [results, Tryz.results42, go_sem]) rfl ⟨rfl, _, HPU.out.1.named hp, ?_⟩
    exact HBV.out.trans (HPU.out.2.setCell (by show B ≤ gn; have := HR.out.nr.lt gn rfl; omega) _)
  · have e0 : V.drew.cell? ⟨w.heap.size, 0, none⟩ = _ := b0_
    have e1 : V.drew.cell? ⟨w.heap.size, 1, none⟩ = _ := b1_
    have e2 : V.drew.cell? ⟨w.heap.size, 2, none⟩ = _ := b2_
    have e3 : V.drew.cell? ⟨w.heap.size, 3, none⟩ = _ := b3_
    have e4 : V.drew.cell? ⟨w.heap.size, 4, none⟩ = _ := b4_
    go_simp
    refine hK.out _ _ trivial (fun hHeld => ?_)
    clear hK K
    (try simp only [Act.put, sA, sB, sC])
    refine wpAnyH_ready (rs := [4, 6]) (by kernel_rfl) (by simp) ?_
    refine AllReadyH.cons (o := ⟨some 20, _, _, _, _, _⟩) rfl (fun K hK => ?_) (AllReadyH.cons (o := ⟨some 22, _, _, _, _, _⟩) rfl (fun K hK => ?_) AllReadyH.nil)
    · have k9 : V.drew.cell? ⟨x, 6, none⟩ = some ov := k0
      go_simp
      refine hK.out _ _ trivial (fun hHeld => ?_)
      clear hK K
      (try simp only [Act.put, sA, sB, sC])
      refine wpAnyH_ready (rs := [6]) (by kernel_rfl) (by simp) ?_
      refine AllReadyH.cons (o := ⟨some 22, _, _, _, _, _⟩) rfl (fun K hK => ?_) AllReadyH.nil
      go_simp
      have hb3 : Below V.heap.size V (V.drew.alloc (.cells #[.int .i64 kd, .int .i64 p.z.id, .int .i64 ep, .int .i64 tO, .string ky] 58)) := (Below.refl _ _).drew.alloc (Nat.le_refl _) _
      have hbase6 : B ≤ (V.drew.alloc (.cells #[.int .i64 kd, .int .i64 p.z.id, .int .i64 ep, .int .i64 tO, .string ky] 58)).heap.size := by simp; omega
      have ho3 : (V.drew.alloc (.cells #[.int .i64 kd, .int .i64 p.z.id, .int .i64 ep, .int .i64 tO, .string ky] 58)).ownsRow B 58 5 ov cs.length (cs.flatMap chV) := (Touch.of_below hb3).own HOV.out (fun g hg hd => by have := (HOV.out.lt g hg).2; omega)
      refine hK.out _ _ trivial (fun hHeld => ?_)
      clear hK K
      (try simp only [Act.put, sA, sB, sC])
      refine wpAnyH_ready (rs := [7]) (by kernel_rfl) (by simp) ?_
      refine AllReadyH.cons (o := ⟨some 23, _, _, _, _, _⟩) rfl (fun K hK => ?_) AllReadyH.nil
      refine step_append_cells rfl (.tmp 20) (.tmp 22) 31 rfl B 58 i0 (.agg #[.int .i64 0, .int .i64 0, .int .i64 0, .int .i64 0, .string ⟨#[]⟩]) 5 48 Tryz.underlying31 hi hz0 hz1 hz2 rfl (by decide) (ov) cs.length (cs.flatMap chV) rfl ho3 _ _ 1 1 [.int .i64 kd, .int .i64 p.z.id, .int .i64 ep, .int .i64 tO, .string ky] rfl (cells_new (w := V.drew) (e := 58) rfl rfl) (chV_one ⟨kd, p.z.id, ep, tO, ky⟩) (by unfold maxLen; omega) (by omega) hbase6 ?_
      intro v5 w5 hown5 ht5 hb5
      have hT5 : Touch (fun x => (ov).ownBlock = some x) V w5 := ((Touch.refl _ _).trans (Touch.of_below hb3) (fun x hx hd => absurd hd (by omega))).trans ht5 (fun x _ hx => hx)
      have hs5 := hT5.size
      have hW5 : Whl w5 (x) 63 #[.int .i64 c.m.ver, .int .i64 c.m.nxt, .slice c.A c.m.zs.length c.cp, .slice c.Ah c.hs.length c.ch, .slice c.Al c.l.length c.cl, .slice (some ⟨gn, 0, none⟩) c.m.zs.length cn, ov, tv, .int .i64 mv] := (hT5.block (x) HWV.out.low (fun e => hfarv e)).trans HWV.out
      have hb5' : v5.ownBlock = (ov).ownBlock ∨ v5.ownBlock = some (V.heap.size + 1) := by simpa using hb5
      clear hb5
      obtain ⟨g5, c5, rfl, _, _, _, _⟩ := own_form hown5 (Nat.succ_pos _)
      have HO5 := Lib.hid hown5
      have HT5 := Lib.hid hT5
      have HW5 := Lib.hid hW5
      
      clear hown5 ht5 hT5 hW5
      refine hK.out _ _ trivial (fun hHeld => ?_)
      clear hK K
      (try simp only [Act.put, sA, sB, sC])
      refine tk (i := 8) (oi := ⟨some 24, _, _, _, _, _⟩) (?v8_126) rfl (by rfl) ?y8_126 ?r8_126
      case y8_126 => (intro w hSw; (try dsimp only at hSw); (try go_split_ands); go_simp); (try with_reducible rfl)
      case r8_126 =>
      (try simp only [Act.put, sA, sB, sC])
      refine tk (i := 9) (oi := ⟨some 25, _, _, _, _, _⟩) (?v9_129) rfl (by rfl) ?y9_129 ?r9_129
      case y9_129 => (intro w hSw; (try dsimp only at hSw); (try go_split_ands); go_simp); (try with_reducible rfl)
      case r9_129 =>
      (try simp only [Act.put, sA, sB, sC])
      refine wpAnyH_ready (rs := [10]) (by kernel_rfl) (by simp) ?_
      refine AllReadyH.cons (o := ⟨none, _, _, _, _, _⟩) rfl (fun K hK => ?_) AllReadyH.nil
      have k7 : w5.cell? ⟨x, 6, none⟩ = some (ov) := (HW5.out.cell 6).trans rfl
      have f7 := HW5.out.free 6
      go_simp
      refine hK.out _ _ trivial (fun hHeld => ?_)
      clear hK K
      (try simp only [Act.put, sA, sB, sC])
      refine wpAnyH_done (by kernel_rfl) ?_ _
      have f5 : w5.cell? ⟨x, 5, none⟩ = some (.slice (some ⟨gn, 0, none⟩) c.m.zs.length cn) := (HW5.out.cell 5).trans rfl
      have hgn5 : w5.cell? ⟨gn, i, none⟩ = some (.bool b0) := HT5.out.cell (show V.cell? ⟨gn, i, none⟩ = some (.bool b0) from n0) (fun e => HV.out.no gn rfl e)
      have hgf5 := HT5.out.frozen (show gn < V.heap.size by omega) (show V.frozen? ⟨gn, i, none⟩ = false from nf) (fun e => HV.out.no gn rfl e)
      have hP := HV.out.pushed (cc := ⟨kd, p.z.id, ep, tO, ky⟩) HO5.out HT5.out (hb5'.imp_right fun e => ⟨_, e, Nat.le_succ _⟩)
      have HPU := Lib.hid hP
      have hgnx : gn ≠ x := HV.out.na gn rfl
      clear hP n0 nf k0 b0_ b1_ b2_ b3_ b4_ hfarv
      go_wp2_with fail
      refine bodyPost_end (v := .tuple #[]) (by simp [results, Tryz.results42, go_sem]) rfl ⟨rfl, _, HPU.out.1.named hp, ?_⟩
      exact HBV.out.trans (HPU.out.2.setCell (by show B ≤ gn; have := HR.out.nr.lt gn rfl; omega) _)
    · go_simp
      have hb3 : Below V.heap.size V (V.drew.alloc (.cells #[.int .i64 kd, .int .i64 p.z.id, .int .i64 ep, .int .i64 tO, .string ky] 58)) := (Below.refl _ _).drew.alloc (Nat.le_refl _) _
      have hbase6 : B ≤ (V.drew.alloc (.cells #[.int .i64 kd, .int .i64 p.z.id, .int .i64 ep, .int .i64 tO, .string ky] 58)).heap.size := by simp; omega
      have ho3 : (V.drew.alloc (.cells #[.int .i64 kd, .int .i64 p.z.id, .int .i64 ep, .int .i64 tO, .string ky] 58)).ownsRow B 58 5 ov cs.length (cs.flatMap chV) := (Touch.of_below hb3).own HOV.out (fun g hg hd => by have := (HOV.out.lt g hg).2; omega)
      refine hK.out _ _ trivial (fun hHeld => ?_)
      clear hK K
      (try simp only [Act.put, sA, sB, sC])
      refine wpAnyH_ready (rs := [4]) (by kernel_rfl) (by simp) ?_
      refine AllReadyH.cons (o := ⟨some 20, _, _, _, _, _⟩) rfl (fun K hK => ?_) AllReadyH.nil
      have k9 := bkeep hb3 k0 (by have := HWV.out.low; omega)
      have k10 : V.cell? ⟨x, 6, none⟩ = some ov := k0
      go_simp
      refine hK.out _ _ trivial (fun hHeld => ?_)
      clear hK K
      (try simp only [Act.put, sA, sB, sC])
      refine wpAnyH_ready (rs := [7]) (by kernel_rfl) (by simp) ?_
      refine AllReadyH.cons (o := ⟨some 23, _, _, _, _, _⟩) rfl (fun K hK => ?_) AllReadyH.nil
      refine step_append_cells rfl (.tmp 20) (.tmp 22) 31 rfl B 58 i0 (.agg #[.int .i64 0, .int .i64 0, .int .i64 0, .int .i64 0, .string ⟨#[]⟩]) 5 48 Tryz.underlying31 hi hz0 hz1 hz2 rfl (by decide) (ov) cs.length (cs.flatMap chV) rfl ho3 _ _ 1 1 [.int .i64 kd, .int .i64 p.z.id, .int .i64 ep, .int .i64 tO, .string ky] rfl (cells_new (w := V.drew) (e := 58) rfl rfl) (chV_one ⟨kd, p.z.id, ep, tO, ky⟩) (by unfold maxLen; omega) (by omega) hbase6 ?_
      intro v5 w5 hown5 ht5 hb5
      have hT5 : Touch (fun x => (ov).ownBlock = some x) V w5 := ((Touch.refl _ _).trans (Touch.of_below hb3) (fun x hx hd => absurd hd (by omega))).trans ht5 (fun x _ hx => hx)
      have hs5 := hT5.size
      have hW5 : Whl w5 (x) 63 #[.int .i64 c.m.ver, .int .i64 c.m.nxt, .slice c.A c.m.zs.length c.cp, .slice c.Ah c.hs.length c.ch, .slice c.Al c.l.length c.cl, .slice (some ⟨gn, 0, none⟩) c.m.zs.length cn, ov, tv, .int .i64 mv] := (hT5.block (x) HWV.out.low (fun e => hfarv e)).trans HWV.out
      have hb5' : v5.ownBlock = (ov).ownBlock ∨ v5.ownBlock = some (V.heap.size + 1) := by simpa using hb5
      clear hb5
      obtain ⟨g5, c5, rfl, _, _, _, _⟩ := own_form hown5 (Nat.succ_pos _)
      have HO5 := Lib.hid hown5
      have HT5 := Lib.hid hT5
      have HW5 := Lib.hid hW5
      
      clear hown5 ht5 hT5 hW5
      refine hK.out _ _ trivial (fun hHeld => ?_)
      clear hK K
      (try simp only [Act.put, sA, sB, sC])
      refine tk (i := 8) (oi := ⟨some 24, _, _, _, _, _⟩) (?v8_184) rfl (by rfl) ?y8_184 ?r8_184
      case y8_184 => (intro w hSw; (try dsimp only at hSw); (try go_split_ands); go_simp); (try with_reducible rfl)
      case r8_184 =>
      (try simp only [Act.put, sA, sB, sC])
      refine tk (i := 9) (oi := ⟨some 25, _, _, _, _, _⟩) (?v9_187) rfl (by rfl) ?y9_187 ?r9_187
      case y9_187 => (intro w hSw; (try dsimp only at hSw); (try go_split_ands); go_simp); (try with_reducible rfl)
      case r9_187 =>
      (try simp only [Act.put, sA, sB, sC])
      refine wpAnyH_ready (rs := [10]) (by kernel_rfl) (by simp) ?_
      refine AllReadyH.cons (o := ⟨none, _, _, _, _, _⟩) rfl (fun K hK => ?_) AllReadyH.nil
      have k7 : w5.cell? ⟨x, 6, none⟩ = some (ov) := (HW5.out.cell 6).trans rfl
      have f7 := HW5.out.free 6
      go_simp
      refine hK.out _ _ trivial (fun hHeld => ?_)
      clear hK K
      (try simp only [Act.put, sA, sB, sC])
      refine wpAnyH_done (by kernel_rfl) ?_ _
      have f5 : w5.cell? ⟨x, 5, none⟩ = some (.slice (some ⟨gn, 0, none⟩) c.m.zs.length cn) := (HW5.out.cell 5).trans rfl
      have hgn5 : w5.cell? ⟨gn, i, none⟩ = some (.bool b0) := HT5.out.cell (show V.cell? ⟨gn, i, none⟩ = some (.bool b0) from n0) (fun e => HV.out.no gn rfl e)
      have hgf5 := HT5.out.frozen (show gn < V.heap.size by omega) (show V.frozen? ⟨gn, i, none⟩ = false from nf) (fun e => HV.out.no gn rfl e)
      have hP := HV.out.pushed (cc := ⟨kd, p.z.id, ep, tO, ky⟩) HO5.out HT5.out (hb5'.imp_right fun e => ⟨_, e, Nat.le_succ _⟩)
      have HPU := Lib.hid hP
      have hgnx : gn ≠ x := HV.out.na gn rfl
      clear hP n0 nf k0 b0_ b1_ b2_ b3_ b4_ hfarv
      go_wp2_with fail
      refine bodyPost_end (v := .tuple #[]) (by simp [results, Tryz.results42, go_sem]) rfl ⟨rfl, _, HPU.out.1.named hp, ?_⟩
      exact HBV.out.trans (HPU.out.2.setCell (by show B ≤ gn; have := HR.out.nr.lt gn rfl; omega) _)

end Go.Proofs.YtepjehcmiofehaaGreat
