/- plan.begin. -/
import Derived.Test.YtepjehcmiofehaaGreatPq24
namespace Go.Proofs.YtepjehcmiofehaaGreat
open Go.RowKit
set_option linter.unusedVariables false
set_option linter.unusedSimpArgs false
theorem cells_new {w : World} {e : TypeId} {arr : Array Value} {cs : List Value} {size : Nat} (h : arr = cs.toArray) (hl : cs.length = size) : Cells (w.alloc (.cells arr e)) (w.alloc (.cells arr e)).heap.size (some ⟨w.heap.size, 0, none⟩) 1 1 size cs := by
  subst h
  refine ⟨by rw [hl, Nat.one_mul], (fun e => by cases e), ?_⟩
  intro j u hu
  refine ⟨w.heap.size, 0, rfl, by simp, ?_⟩
  rw [Nat.zero_add, cell_of_row _ _ _ _ _ _ (heap_alloc_new w _)]
  simpa using hu
theorem PlH.pushed {w w5 : World} {B b n : Nat} {zv hv cv v5 : Value} {ps : List Pz} {cs : List Ch} {p : Pz} (h : PlH w B b zv hv cv ps cs) (ho : w5.ownsRow B 74 13 v5 (n + 1) (flatP ps ++ pzV p)) (hn : n = ps.length) (ht : Touch (fun x => zv.ownBlock = some x) w w5) (hb : v5.ownBlock = zv.ownBlock ∨ ∃ g, v5.ownBlock = some g ∧ w.heap.size ≤ g) :
    PlH (w5.setCell ⟨b, 0, none⟩ v5) B b v5 hv cv (ps ++ [p]) cs ∧ Touch (Fp b zv cv) w (w5.setCell ⟨b, 0, none⟩ v5) ∧ (∀ k, Fp b v5 cv k → Fp b zv cv k ∨ w.heap.size ≤ k) := by
  have hl := h.blk.low
  have hvb : v5.ownBlock ≠ some b := by
    rcases hb with e | ⟨g, e, hg⟩
    · rw [e]; exact h.za
    · rw [e]; intro e2; injection e2 with e2; omega
  refine ⟨⟨Whl.set (show Whl w5 b 52 #[zv, hv, cv] from (ht.block b hl h.za).trans h.blk) 0 v5, ?_, own_set_ne (ht.own h.crow (fun q hq e => h.zc q e hq)) (fun q hq e => h.ca (by rw [hq]; exact congrArg some e)), hvb, h.ca, ?_, h.low⟩, ?_, ?_⟩
  · have e : flatP (ps ++ [p]) = flatP ps ++ pzV p := by rw [flatP_app]; simp [flatP]
    rw [e, List.length_append, List.length_singleton, ← hn]
    exact own_set_ne ho (fun q hq e => hvb (by rw [hq]; exact congrArg some e))
  · intro q hq hc
    rcases hb with e | ⟨g, e, hg⟩
    · exact h.zc q (by rw [← e]; exact hq) hc
    · rw [e] at hq; injection hq with hq
      have := (h.crow.lt q hc).2
      omega
  · exact (ht.mono (fun k hk => .inr (.inl hk))).set (fun _ => .inl rfl)
  · rintro k (rfl | hk | hk)
    · exact .inl (.inl rfl)
    · rcases hb with e | ⟨g, e, hg⟩
      · exact .inl (.inr (.inl (by rw [← e]; exact hk)))
      · rw [e] at hk; injection hk with hk; exact .inr (by omega)
    · exact .inl (.inr (.inr hk))
theorem PlH.pushedC {w w5 : World} {B b n : Nat} {zv hv cv v5 : Value} {ps : List Pz} {cs : List Ch} {c : Ch} (h : PlH w B b zv hv cv ps cs) (ho : w5.ownsRow B 58 5 v5 (n + 1) (cs.flatMap chV ++ chV c)) (hn : n = cs.length) (ht : Touch (fun x => cv.ownBlock = some x) w w5) (hb : v5.ownBlock = cv.ownBlock ∨ ∃ g, v5.ownBlock = some g ∧ w.heap.size ≤ g) :
    PlH (w5.setCell ⟨b, 2, none⟩ v5) B b zv hv v5 ps (cs ++ [c]) ∧ Touch (Fp b zv cv) w (w5.setCell ⟨b, 2, none⟩ v5) ∧ (∀ k, Fp b zv v5 k → Fp b zv cv k ∨ w.heap.size ≤ k) := by
  have hl := h.blk.low
  have hvb : v5.ownBlock ≠ some b := by
    rcases hb with e | ⟨g, e, hg⟩
    · rw [e]; exact h.ca
    · rw [e]; intro e2; injection e2 with e2; omega
  refine ⟨⟨Whl.set (show Whl w5 b 52 #[zv, hv, cv] from (ht.block b hl h.ca).trans h.blk) 2 v5, own_set_ne (ht.own h.row (fun q hq e => h.zc q hq e)) (fun q hq e => h.za (by rw [hq]; exact congrArg some e)), ?_, h.za, hvb, ?_, h.low⟩, ?_, ?_⟩
  · have e : (cs ++ [c]).flatMap chV = cs.flatMap chV ++ chV c := by simp
    rw [e, List.length_append, List.length_singleton, ← hn]
    exact own_set_ne ho (fun q hq e => hvb (by rw [hq]; exact congrArg some e))
  · intro q hq hc
    rcases hb with e | ⟨g, e, hg⟩
    · exact h.zc q hq (by rw [← e]; exact hc)
    · rw [e] at hc; injection hc with hc
      have := (h.row.lt q hq).2
      omega
  · exact (ht.mono (fun k hk => .inr (.inr hk))).set (fun _ => .inl rfl)
  · rintro k (rfl | hk | hk)
    · exact .inl (.inl rfl)
    · exact .inl (.inr (.inl hk))
    · rcases hb with e | ⟨g, e, hg⟩
      · exact .inl (.inr (.inr (by rw [← e]; exact hk)))
      · rw [e] at hk; injection hk with hk; exact .inr (by omega)
theorem Tryz.infoPzone : (Tryz.prog.info? 74).map (fun i => (i.zero, i.size, i.bytes)) = some (some (.agg #[.int .i64 0, .string ⟨#[]⟩, .string ⟨#[]⟩, .int .i64 0, .int .i64 0, .int .i64 0, .int .i64 0, .string ⟨#[]⟩, .int .i64 0, .int .i64 0, .string ⟨#[]⟩, .bool false, .int .i64 0]), 13, 136) := by kernel_rfl
theorem Tryz.infoPchange : (Tryz.prog.info? 58).map (fun i => (i.zero, i.size, i.bytes)) = some (some (.agg #[.int .i64 0, .int .i64 0, .int .i64 0, .int .i64 0, .string ⟨#[]⟩]), 5, 48) := by kernel_rfl
set_option maxHeartbeats 8000000 in
set_option maxRecDepth 10000 in
theorem plBegin (A : Option Addr) (cp : Nat) (m : Mp) (Ah : Option Addr) (nh ch : Nat) (Al : Option Addr) (cl : Nat) (l : List Lr) (w : World) (hz : RowZ w A cp m.zs) (hl : RowL w Al cl l) (hlz : m.zs.length ≤ 100000) (hll : l.length ≤ 100000) :
    Calls Tryz.prog 15 #[.agg #[.int .i64 m.ver, .int .i64 m.nxt, .slice A m.zs.length cp], .slice Ah nh ch, .slice Al l.length cl] w fun e w' => ∃ b zv, e = .returned (.pointer (some ⟨b, 0, none⟩)) ∧ PlH w' w.heap.size b zv (.slice Ah nh ch) (.slice none 0 0) (begP l m.zs) [] ∧ Below w.heap.size w w' := by
  obtain ⟨i0, hi, hz0, hz1, hz2⟩ := info_parts Tryz.infoPzone
  have HZ := Lib.hid hz
  have HL := Lib.hid hl
  have hnc := hz.le
  have hcm := hz.mx
  clear hz hl
  go_enter Tryz.func15, Tryz.ntmps15
  go_wp2_with fail
  have HV0 : Hid (Below w.heap.size w ((w.alloc (.cells #[.int .i64 m.ver, .int .i64 m.nxt, .slice A m.zs.length cp] 24)).alloc (.cells #[.slice none 0 0, .slice Ah nh ch, .slice none 0 0] 52))) := Lib.hid (((Below.refl _ _).alloc (Nat.le_refl _) _).alloc (by simp) _)
  have HP0 : Hid (PlH ((w.alloc (.cells #[.int .i64 m.ver, .int .i64 m.nxt, .slice A m.zs.length cp] 24)).alloc (.cells #[.slice none 0 0, .slice Ah nh ch, .slice none 0 0] 52)) w.heap.size (w.heap.size + 1) (.slice none 0 0) (.slice Ah nh ch) (.slice none 0 0) [] []) := Lib.hid ⟨Whl.new (by simp), World.ownsRow_nil _ _ _ _, World.ownsRow_nil _ _ _ _, (fun e => by cases e), (fun e => by cases e), (fun q e => by cases e), by omega⟩
  generalize ((w.alloc (.cells #[.int .i64 m.ver, .int .i64 m.nxt, .slice A m.zs.length cp] 24)).alloc (.cells #[.slice none 0 0, .slice Ah nh ch, .slice none 0 0] 52)) = V0 at *
  go_loopw [18] (fun iv wr => ∃ (i : Nat) (zv : Value), i ≤ m.zs.length ∧ iv = .int .i64 i ∧ PlH wr w.heap.size (w.heap.size + 1) zv (.slice Ah nh ch) (.slice none 0 0) (begP l (m.zs.take i)) [] ∧ Below w.heap.size w wr) (fun iv _ => m.zs.length - (intOf iv).toNat)
  case atStart => exact ⟨0, _, Nat.zero_le _, rfl, HP0.out, HV0.out⟩
  case round =>
    obtain ⟨i, zv, hil, rfl, hP, hBw⟩ := hrel
    have HP := Lib.hid hP
    have HBW := Lib.hid hBw
    clear hP
    by_cases hlt : i < m.zs.length
    case neg =>
      obtain rfl : m.zs.length = i := by omega
      have hfin := HP.out
      rw [List.take_length] at hfin
      have HF := Lib.hid hfin
      clear hfin
      go_wp2_with fail
      go_ret
      exact ⟨_, _, rfl, HF.out, HBW.out⟩
    have q3 : (i : Int) < (m.zs.length : Int) := by omega
    have hr := HZ.out.below hBw
    obtain ⟨g, p, hA, hg, -⟩ := zn_at hr.cells hlt
    subst hA
    obtain ⟨z, hzd⟩ : ∃ z, z = m.zs[i] := ⟨_, rfl⟩
    obtain ⟨a0, a1, a2, a3, a4, a5, a6, a7, a8⟩ := rowC_at hr hlt
    rw [← hzd] at a0 a1 a2 a3 a4 a5 a6 a7 a8
    have HZD := Lib.hid hzd
    have HL1 := Lib.hid (HL.out.below hBw)
    clear hr hzd hBw
    obtain ⟨fb, hfb⟩ : ∃ fb, (z.pd == 0) = fb := ⟨_, rfl⟩
    have HFB := Lib.hid hfb
    go_upto_if 31 with fail
    have hV : Below wr.heap.size wr ((wr.alloc (.cells #[.int .i64 z.id, .string z.fr, .string z.tt, .int .i64 z.ow, .int .i64 z.ep, .int .i64 z.pd, .int .i64 z.mv, .string z.ky, .int .i64 z.nw] 56)).alloc (.cells #[.int .i64 z.id, .string z.fr, .string z.tt, .int .i64 z.ow, .int .i64 z.ep, .int .i64 z.pd, .int .i64 z.mv, .string z.ky, .int .i64 z.nw, .int .i64 0, .string ⟨#[]⟩, .bool fb, .int .i64 z.ow] 74)) := ((Below.refl _ _).alloc (Nat.le_refl _) _).alloc (by simp) _
    have hN9 : Whl ((wr.alloc (.cells #[.int .i64 z.id, .string z.fr, .string z.tt, .int .i64 z.ow, .int .i64 z.ep, .int .i64 z.pd, .int .i64 z.mv, .string z.ky, .int .i64 z.nw] 56)).alloc (.cells #[.int .i64 z.id, .string z.fr, .string z.tt, .int .i64 z.ow, .int .i64 z.ep, .int .i64 z.pd, .int .i64 z.mv, .string z.ky, .int .i64 z.nw, .int .i64 0, .string ⟨#[]⟩, .bool fb, .int .i64 z.ow] 74)) wr.heap.size 56 #[.int .i64 z.id, .string z.fr, .string z.tt, .int .i64 z.ow, .int .i64 z.ep, .int .i64 z.pd, .int .i64 z.mv, .string z.ky, .int .i64 z.nw] := (Whl.new rfl).alloc _
    have hN10 : Whl ((wr.alloc (.cells #[.int .i64 z.id, .string z.fr, .string z.tt, .int .i64 z.ow, .int .i64 z.ep, .int .i64 z.pd, .int .i64 z.mv, .string z.ky, .int .i64 z.nw] 56)).alloc (.cells #[.int .i64 z.id, .string z.fr, .string z.tt, .int .i64 z.ow, .int .i64 z.ep, .int .i64 z.pd, .int .i64 z.mv, .string z.ky, .int .i64 z.nw, .int .i64 0, .string ⟨#[]⟩, .bool fb, .int .i64 z.ow] 74)) (wr.heap.size + 1) 74 #[.int .i64 z.id, .string z.fr, .string z.tt, .int .i64 z.ow, .int .i64 z.ep, .int .i64 z.pd, .int .i64 z.mv, .string z.ky, .int .i64 z.nw, .int .i64 0, .string ⟨#[]⟩, .bool fb, .int .i64 z.ow] := Whl.new (by simp)
    generalize ((wr.alloc (.cells #[.int .i64 z.id, .string z.fr, .string z.tt, .int .i64 z.ow, .int .i64 z.ep, .int .i64 z.pd, .int .i64 z.mv, .string z.ky, .int .i64 z.nw] 56)).alloc (.cells #[.int .i64 z.id, .string z.fr, .string z.tt, .int .i64 z.ow, .int .i64 z.ep, .int .i64 z.pd, .int .i64 z.mv, .string z.ky, .int .i64 z.nw, .int .i64 0, .string ⟨#[]⟩, .bool fb, .int .i64 z.ow] 74)) = V at *
    obtain ⟨nd, hnd⟩ : ∃ nd, nd = if z.pd = 3 then z.mv else z.ow := ⟨_, rfl⟩
    have HND := Lib.hid hnd
    have HV := Lib.hid hV
    have HN9 := Lib.hid hN9
    have HN10 := Lib.hid hN10
    clear hnd hV hN9 hN10 a0 a1 a2 a3 a4 a5 a6 a7 a8
    go_cut [] (fun wx => Below wr.heap.size wr wx ∧ Whl wx wr.heap.size 56 #[.int .i64 z.id, .string z.fr, .string z.tt, .int .i64 z.ow, .int .i64 z.ep, .int .i64 z.pd, .int .i64 z.mv, .string z.ky, .int .i64 z.nw] ∧ Whl wx (wr.heap.size + 1) 74 #[.int .i64 z.id, .string z.fr, .string z.tt, .int .i64 z.ow, .int .i64 z.ep, .int .i64 z.pd, .int .i64 z.mv, .string z.ky, .int .i64 z.nw, .int .i64 0, .string ⟨#[]⟩, .bool fb, .int .i64 nd])
    case first =>
      by_cases c3 : z.pd = 3
      · have q5 : (z.pd == 3) = true := by rw [beq_iff_eq]; exact c3
        have e5 := HND.out
        rw [if_pos c3] at e5
        subst e5
        have C3 := Lib.hid c3
        have x5 := HN9.out.cell 6
        have y5 := HN10.out.cell 12
        have f5 := HN10.out.free 12
        simp only [List.getElem?_toArray, List.getElem?_cons_succ, List.getElem?_cons_zero] at x5 y5
        clear c3
        go_wp2_with fail
        go_meet
        exact ⟨HV.out.setCell (by simp) _, HN9.out.far (by simp), HN10.out.set 12 _⟩
      · have q5 : (z.pd == 3) = false := by rw [beq_eq_false_iff_ne]; exact c3
        have e5 := HND.out
        rw [if_neg c3] at e5
        subst e5
        clear c3
        go_wp2_with fail
        go_meet
        exact ⟨HV.out, HN9.out, HN10.out⟩
    case rest =>
      obtain ⟨hV1, hN91, hN101⟩ := hcut
      have HV1 := Lib.hid hV1
      have HN91 := Lib.hid hN91
      have HN101 := Lib.hid hN101
      have hs1 := hV1.size
      have x0 := hN91.cell 0
      simp only [List.getElem?_toArray, List.getElem?_cons_succ, List.getElem?_cons_zero] at x0
      clear hV1 hN91 hN101
      go_upto_if 39 with (first
        | (go_at_call 29; go_loud (refine (plIndex wr.heap.size Al cl l z.id _ (HL1.out.below HV1.out) x0 hll).mono ?_; rintro e w2 ⟨k, rfl, hk, hb2⟩; have HK := Lib.hid hk; have HV2 := Lib.hid (HV1.out.trans (hb2.mono HV1.out.size)); have HN92 := Lib.hid (HN91.out.below hb2 HN91.out.low); have HN102 := Lib.hid (HN101.out.below hb2 HN101.out.low); have hs2 := hb2.size; clear hk hb2))
        | fail)
      obtain ⟨hh, hhh⟩ : ∃ hh, hh = (hm l z.id).1 := ⟨_, rfl⟩
      obtain ⟨mm, hmm⟩ : ∃ mm, mm = (hm l z.id).2 := ⟨_, rfl⟩
      have HHH := Lib.hid hhh
      have HMM := Lib.hid hmm
      clear hhh hmm
      go_cut [] (fun wx => Below wr.heap.size wr wx ∧ Whl wx (wr.heap.size + 1) 74 #[.int .i64 z.id, .string z.fr, .string z.tt, .int .i64 z.ow, .int .i64 z.ep, .int .i64 z.pd, .int .i64 z.mv, .string z.ky, .int .i64 z.nw, .int .i64 hh, .string mm, .bool fb, .int .i64 nd])
      case first =>
        rcases HK.out with ⟨rfl, hno⟩ | ⟨j, rfl, hj, he, hfirst⟩
        · have e1 := AtL.no hno
          have e2 := HHH.out
          have e3 := HMM.out
          rw [e1] at e2 e3
          simp only at e2 e3
          subst e2 e3
          clear hno e1
          go_wp2_with fail
          go_meet
          exact ⟨HV2.out, HN102.out⟩
        · have e1 := AtL.yes hj he hfirst
          have e2 := HHH.out
          have e3 := HMM.out
          rw [e1] at e2 e3
          simp only at e2 e3
          obtain ⟨gl, ol, hAl, hgl2, -, -, -⟩ := HL1.out.at_ hj
          subst hAl
          obtain ⟨gl3, ol3, hAl3, -, b0, b1, b2⟩ := (HL1.out.below HV2.out).at_ hj
          injection hAl3 with hAl3
          injection hAl3 with e8 e9
          subst e8 e9
          obtain ⟨rr, hrr⟩ : ∃ rr, rr = l[j] := ⟨_, rfl⟩
          rw [← hrr] at e2 e3 b0 b1 b2
          subst e3
          clear e1 he hfirst hrr
          have q6 : (j : Int) < (l.length : Int) := by omega
          have q7 : (0 : Int) ≤ (j : Int) := by omega
          have y9 := HN102.out.cell 9
          have y10 := HN102.out.cell 10
          simp only [List.getElem?_toArray, List.getElem?_cons_succ, List.getElem?_cons_zero] at y9 y10
          have f10 := fun k => HN102.out.free k
          have hne : gl ≠ wr.heap.size + 1 := by omega
          go_wp2_with fail
          go_region
          go_wp2_with fail
          all_goals
            go_meet
            first
              | (have ev : hh = 0 := (by omega); subst ev)
              | (have ev : hh = 1099511627776 := (by omega); subst ev)
              | (have ev : hh = rr.hits := (by omega); subst ev)
            exact ⟨((HV2.out.setCell (by simp) _).setCell (by simp) _).drew, ((HN102.out.set 9 _).set 10 _).drew⟩
      case rest =>
        obtain ⟨hV3, hN3⟩ := hcut
        have hz : PlH wc w.heap.size (w.heap.size + 1) zv (.slice Ah nh ch) (.slice none 0 0) (begP l (m.zs.take i)) [] := HP.out.below hV3
        have HZ3 := Lib.hid hz
        have HV3 := Lib.hid hV3
        have hs3 := hV3.size
        have HBC := Lib.hid (HBW.out.trans (hV3.mono HBW.out.size))
        have hpz : pz0 l z = ⟨z, hh, mm, fb, nd⟩ := by
          have e4 : decide (z.pd = 0) = fb := by
            rw [← HFB.out]
            by_cases c : z.pd = 0 <;> simp [c]
          unfold pz0
          rw [← HHH.out, ← HMM.out, ← HND.out, e4]
        have HPZ := Lib.hid hpz
        obtain ⟨n, hn⟩ : ∃ n, n = (begP l (m.zs.take i)).length := ⟨_, rfl⟩
        have hni : n = i := by rw [hn, begP, List.length_map, List.length_take]; omega
        have HO := Lib.hid hz.row
        rw [← hn] at HO
        have HW := Lib.hid hz.blk
        have k0 := hz.blk.cell 0
        simp only [List.getElem?_toArray, List.getElem?_cons_succ, List.getElem?_cons_zero] at k0
        have d0 := hN3.cell 0
        have d1 := hN3.cell 1
        have d2 := hN3.cell 2
        have d3 := hN3.cell 3
        have d4 := hN3.cell 4
        have d5 := hN3.cell 5
        have d6 := hN3.cell 6
        have d7 := hN3.cell 7
        have d8 := hN3.cell 8
        have d9 := hN3.cell 9
        have d10 := hN3.cell 10
        have d11 := hN3.cell 11
        have d12 := hN3.cell 12
        simp only [List.getElem?_toArray, List.getElem?_cons_succ, List.getElem?_cons_zero] at d0 d1 d2 d3 d4 d5 d6 d7 d8 d9 d10 d11 d12
        have hfarv := hz.za
        have hbl := hz.blk.low
        have hbase := HBC.out.size
        have hn10 : n ≤ 100000 := by omega
        clear hz hV3 hN3 hpz
        go_wp2_with fail
        refine wp_region_held_drew (S := (fun _ => True)) (by kernel_rfl) trivial (fun hHeld => ?_)
        refine wpAnyH_take (i := 0) (oi := ⟨some 54, _, _, _, _, _⟩) (v := ?v0A_1) rfl (by kernel_rfl) (by kernel_rfl) (by kernel_rfl) (fun _ _ _ h => h) (Or.inl ⟨by rfl, ?y0A_1⟩) (by assumption) ?r0A_1
        case y0A_1 => (intro w hSw; (try dsimp only at hSw); (try go_split_ands); go_simp); (try with_reducible rfl)
        case r0A_1 =>
        (try simp only [Act.put, List.setIfInBounds_toArray, List.set_cons_zero, List.set_cons_succ])
        refine wpAnyH_take (i := 1) (oi := ⟨some 55, _, _, _, _, _⟩) (v := ?v1A_4) rfl (by kernel_rfl) (by kernel_rfl) (by kernel_rfl) (fun _ _ _ h => h) (Or.inl ⟨by rfl, ?y1A_4⟩) (by assumption) ?r1A_4
        case y1A_4 => (intro w hSw; (try dsimp only at hSw); (try go_split_ands); go_simp); (try with_reducible rfl)
        case r1A_4 =>
        (try simp only [Act.put, List.setIfInBounds_toArray, List.set_cons_zero, List.set_cons_succ])
        refine wpAnyH_take (i := 2) (oi := ⟨some 56, _, _, _, _, _⟩) (v := ?v2A_7) rfl (by kernel_rfl) (by kernel_rfl) (by kernel_rfl) (fun _ _ _ h => h) (Or.inl ⟨by rfl, ?y2A_7⟩) (by assumption) ?r2A_7
        case y2A_7 => (intro w hSw; (try dsimp only at hSw); (try go_split_ands); go_simp); (try with_reducible rfl)
        case r2A_7 =>
        (try simp only [Act.put, List.setIfInBounds_toArray, List.set_cons_zero, List.set_cons_succ])
        refine wpAnyH_take (i := 3) (oi := ⟨some 57, _, _, _, _, _⟩) (v := ?v3A_10) rfl (by kernel_rfl) (by kernel_rfl) (by kernel_rfl) (fun _ _ _ h => h) (Or.inl ⟨by rfl, ?y3A_10⟩) (by assumption) ?r3A_10
        case y3A_10 => (intro w hSw; (try dsimp only at hSw); (try go_split_ands); go_simp); (try with_reducible rfl)
        case r3A_10 =>
        (try simp only [Act.put, List.setIfInBounds_toArray, List.set_cons_zero, List.set_cons_succ])
        refine wpAnyH_ready (rs := [4, 5]) (by kernel_rfl) (by simp) ?_
        refine AllReadyH.cons (o := ⟨some 58, _, _, _, _, _⟩) rfl (fun K hK => ?_) (AllReadyH.cons (o := ⟨some 59, _, _, _, _, _⟩) rfl (fun K hK => ?_) AllReadyH.nil)
        · have k9 : wc.drew.cell? ⟨w.heap.size + 1, 0, none⟩ = some zv := k0
          go_simp
          refine hK.out _ _ trivial (fun hHeld => ?_)
          clear hK K
          (try simp only [Act.put, List.setIfInBounds_toArray, List.set_cons_zero, List.set_cons_succ])
          refine wpAnyH_ready (rs := [5]) (by kernel_rfl) (by simp) ?_
          refine AllReadyH.cons (o := ⟨some 59, _, _, _, _, _⟩) rfl (fun K hK => ?_) AllReadyH.nil
          have e0 : wc.drew.cell? ⟨wr.heap.size + 1, 0, none⟩ = _ := d0
          have e1 : wc.drew.cell? ⟨wr.heap.size + 1, 1, none⟩ = _ := d1
          have e2 : wc.drew.cell? ⟨wr.heap.size + 1, 2, none⟩ = _ := d2
          have e3 : wc.drew.cell? ⟨wr.heap.size + 1, 3, none⟩ = _ := d3
          have e4 : wc.drew.cell? ⟨wr.heap.size + 1, 4, none⟩ = _ := d4
          have e5 : wc.drew.cell? ⟨wr.heap.size + 1, 5, none⟩ = _ := d5
          have e6 : wc.drew.cell? ⟨wr.heap.size + 1, 6, none⟩ = _ := d6
          have e7 : wc.drew.cell? ⟨wr.heap.size + 1, 7, none⟩ = _ := d7
          have e8 : wc.drew.cell? ⟨wr.heap.size + 1, 8, none⟩ = _ := d8
          have e9 : wc.drew.cell? ⟨wr.heap.size + 1, 9, none⟩ = _ := d9
          have e10 : wc.drew.cell? ⟨wr.heap.size + 1, 10, none⟩ = _ := d10
          have e11 : wc.drew.cell? ⟨wr.heap.size + 1, 11, none⟩ = _ := d11
          have e12 : wc.drew.cell? ⟨wr.heap.size + 1, 12, none⟩ = _ := d12
          go_simp
          refine hK.out _ _ trivial (fun hHeld => ?_)
          clear hK K
          (try simp only [Act.put, List.setIfInBounds_toArray, List.set_cons_zero, List.set_cons_succ])
          refine wpAnyH_ready (rs := [6]) (by kernel_rfl) (by simp) ?_
          refine AllReadyH.cons (o := ⟨some 60, _, _, _, _, _⟩) rfl (fun K hK => ?_) AllReadyH.nil
          go_simp
          have hb3 : Below wc.heap.size wc (wc.drew.alloc (.cells #[.int .i64 z.id, .string z.fr, .string z.tt, .int .i64 z.ow, .int .i64 z.ep, .int .i64 z.pd, .int .i64 z.mv, .string z.ky, .int .i64 z.nw, .int .i64 hh, .string mm, .bool fb, .int .i64 nd] 74)) := (Below.refl _ _).drew.alloc (Nat.le_refl _) _
          have hbase6 : w.heap.size ≤ (wc.drew.alloc (.cells #[.int .i64 z.id, .string z.fr, .string z.tt, .int .i64 z.ow, .int .i64 z.ep, .int .i64 z.pd, .int .i64 z.mv, .string z.ky, .int .i64 z.nw, .int .i64 hh, .string mm, .bool fb, .int .i64 nd] 74)).heap.size := by simp; omega
          have ho3 : (wc.drew.alloc (.cells #[.int .i64 z.id, .string z.fr, .string z.tt, .int .i64 z.ow, .int .i64 z.ep, .int .i64 z.pd, .int .i64 z.mv, .string z.ky, .int .i64 z.nw, .int .i64 hh, .string mm, .bool fb, .int .i64 nd] 74)).ownsRow w.heap.size 74 13 zv n (flatP (begP l (m.zs.take i))) := (Touch.of_below hb3).own HO.out (fun g hg hd => by have := (HO.out.lt g hg).2; omega)
          refine hK.out _ _ trivial (fun hHeld => ?_)
          clear hK K
          (try simp only [Act.put, List.setIfInBounds_toArray, List.set_cons_zero, List.set_cons_succ])
          refine wpAnyH_ready (rs := [7]) (by kernel_rfl) (by simp) ?_
          refine AllReadyH.cons (o := ⟨some 61, _, _, _, _, _⟩) rfl (fun K hK => ?_) AllReadyH.nil
          refine step_append_cells rfl (.tmp 58) (.tmp 60) 50 rfl w.heap.size 74 i0 (.agg #[.int .i64 0, .string ⟨#[]⟩, .string ⟨#[]⟩, .int .i64 0, .int .i64 0, .int .i64 0, .int .i64 0, .string ⟨#[]⟩, .int .i64 0, .int .i64 0, .string ⟨#[]⟩, .bool false, .int .i64 0]) 13 136 Tryz.underlying50 hi hz0 hz1 hz2 rfl (by decide) (zv) n (flatP (begP l (m.zs.take i))) rfl ho3 _ _ 1 1 [.int .i64 z.id, .string z.fr, .string z.tt, .int .i64 z.ow, .int .i64 z.ep, .int .i64 z.pd, .int .i64 z.mv, .string z.ky, .int .i64 z.nw, .int .i64 hh, .string mm, .bool fb, .int .i64 nd] rfl (cells_new (w := wc.drew) (e := 74) rfl rfl) (pzV_one ⟨z, hh, mm, fb, nd⟩) (by unfold maxLen; omega) (by omega) hbase6 ?_
          intro v5 w5 hown5 ht5 hb5
          have hT5 : Touch (fun x => (zv).ownBlock = some x) wc w5 := ((Touch.refl _ _).trans (Touch.of_below hb3) (fun x hx hd => absurd hd (by omega))).trans ht5 (fun x _ hx => hx)
          have hs5 := hT5.size
          have hW5 : Whl w5 (w.heap.size + 1) 52 #[zv, .slice Ah nh ch, .slice none 0 0] := (hT5.block (w.heap.size + 1) HW.out.low (fun e => hfarv e)).trans HW.out
          have hb5' : v5.ownBlock = (zv).ownBlock ∨ v5.ownBlock = some (wc.heap.size + 1) := by simpa using hb5
          clear hb5
          obtain ⟨g5, c5, rfl, _, _, _, _⟩ := own_form hown5 (Nat.succ_pos _)
          have HO5 := Lib.hid hown5
          have HT5 := Lib.hid hT5
          have HW5 := Lib.hid hW5
          
          clear hown5 ht5 hT5 hW5
          refine hK.out _ _ trivial (fun hHeld => ?_)
          clear hK K
          (try simp only [Act.put, List.setIfInBounds_toArray, List.set_cons_zero, List.set_cons_succ])
          refine wpAnyH_take (i := 8) (oi := ⟨some 62, _, _, _, _, _⟩) (v := ?v8A_66) rfl (by kernel_rfl) (by kernel_rfl) (by kernel_rfl) (fun _ _ _ h => h) (Or.inl ⟨by rfl, ?y8A_66⟩) (by assumption) ?r8A_66
          case y8A_66 => (intro w hSw; (try dsimp only at hSw); (try go_split_ands); go_simp); (try with_reducible rfl)
          case r8A_66 =>
          (try simp only [Act.put, List.setIfInBounds_toArray, List.set_cons_zero, List.set_cons_succ])
          refine wpAnyH_take (i := 9) (oi := ⟨some 63, _, _, _, _, _⟩) (v := ?v9A_69) rfl (by kernel_rfl) (by kernel_rfl) (by kernel_rfl) (fun _ _ _ h => h) (Or.inl ⟨by rfl, ?y9A_69⟩) (by assumption) ?r9A_69
          case y9A_69 => (intro w hSw; (try dsimp only at hSw); (try go_split_ands); go_simp); (try with_reducible rfl)
          case r9A_69 =>
          (try simp only [Act.put, List.setIfInBounds_toArray, List.set_cons_zero, List.set_cons_succ])
          refine wpAnyH_ready (rs := [10]) (by kernel_rfl) (by simp) ?_
          refine AllReadyH.cons (o := ⟨none, _, _, _, _, _⟩) rfl (fun K hK => ?_) AllReadyH.nil
          have k7 : w5.cell? ⟨w.heap.size + 1, 0, none⟩ = some (zv) := (HW5.out.cell 0).trans rfl
          have f7 := HW5.out.free 0
          go_simp
          refine hK.out _ _ trivial (fun hHeld => ?_)
          clear hK K
          (try simp only [Act.put, List.setIfInBounds_toArray, List.set_cons_zero, List.set_cons_succ])
          refine wpAnyH_done (by kernel_rfl) ?_ _
          go_wp2_with fail
          subst hn
          obtain ⟨hF, hTF, -⟩ := HZ3.out.pushed (p := ⟨z, hh, mm, fb, nd⟩) HO5.out rfl HT5.out (hb5'.imp_right fun e => ⟨_, e, Nat.le_succ _⟩)
          have e5 : begP l (m.zs.take (i + 1)) = begP l (m.zs.take i) ++ [⟨z, hh, mm, fb, nd⟩] := by rw [begP_snoc l hlt, ← HZD.out, HPZ.out]
          rw [← e5] at hF
          exact ⟨⟨i + 1, _, hlt, by go_num, hF, HBC.out.trans (hTF.below (by omega) (fun k hk => (HZ3.out.lows k hk).1))⟩, measZ hlt⟩
        · have e0 : wc.drew.cell? ⟨wr.heap.size + 1, 0, none⟩ = _ := d0
          have e1 : wc.drew.cell? ⟨wr.heap.size + 1, 1, none⟩ = _ := d1
          have e2 : wc.drew.cell? ⟨wr.heap.size + 1, 2, none⟩ = _ := d2
          have e3 : wc.drew.cell? ⟨wr.heap.size + 1, 3, none⟩ = _ := d3
          have e4 : wc.drew.cell? ⟨wr.heap.size + 1, 4, none⟩ = _ := d4
          have e5 : wc.drew.cell? ⟨wr.heap.size + 1, 5, none⟩ = _ := d5
          have e6 : wc.drew.cell? ⟨wr.heap.size + 1, 6, none⟩ = _ := d6
          have e7 : wc.drew.cell? ⟨wr.heap.size + 1, 7, none⟩ = _ := d7
          have e8 : wc.drew.cell? ⟨wr.heap.size + 1, 8, none⟩ = _ := d8
          have e9 : wc.drew.cell? ⟨wr.heap.size + 1, 9, none⟩ = _ := d9
          have e10 : wc.drew.cell? ⟨wr.heap.size + 1, 10, none⟩ = _ := d10
          have e11 : wc.drew.cell? ⟨wr.heap.size + 1, 11, none⟩ = _ := d11
          have e12 : wc.drew.cell? ⟨wr.heap.size + 1, 12, none⟩ = _ := d12
          go_simp
          refine hK.out _ _ trivial (fun hHeld => ?_)
          clear hK K
          (try simp only [Act.put, List.setIfInBounds_toArray, List.set_cons_zero, List.set_cons_succ])
          refine wpAnyH_ready (rs := [4, 6]) (by kernel_rfl) (by simp) ?_
          refine AllReadyH.cons (o := ⟨some 58, _, _, _, _, _⟩) rfl (fun K hK => ?_) (AllReadyH.cons (o := ⟨some 60, _, _, _, _, _⟩) rfl (fun K hK => ?_) AllReadyH.nil)
          · have k9 : wc.drew.cell? ⟨w.heap.size + 1, 0, none⟩ = some zv := k0
            go_simp
            refine hK.out _ _ trivial (fun hHeld => ?_)
            clear hK K
            (try simp only [Act.put, List.setIfInBounds_toArray, List.set_cons_zero, List.set_cons_succ])
            refine wpAnyH_ready (rs := [6]) (by kernel_rfl) (by simp) ?_
            refine AllReadyH.cons (o := ⟨some 60, _, _, _, _, _⟩) rfl (fun K hK => ?_) AllReadyH.nil
            go_simp
            have hb3 : Below wc.heap.size wc (wc.drew.alloc (.cells #[.int .i64 z.id, .string z.fr, .string z.tt, .int .i64 z.ow, .int .i64 z.ep, .int .i64 z.pd, .int .i64 z.mv, .string z.ky, .int .i64 z.nw, .int .i64 hh, .string mm, .bool fb, .int .i64 nd] 74)) := (Below.refl _ _).drew.alloc (Nat.le_refl _) _
            have hbase6 : w.heap.size ≤ (wc.drew.alloc (.cells #[.int .i64 z.id, .string z.fr, .string z.tt, .int .i64 z.ow, .int .i64 z.ep, .int .i64 z.pd, .int .i64 z.mv, .string z.ky, .int .i64 z.nw, .int .i64 hh, .string mm, .bool fb, .int .i64 nd] 74)).heap.size := by simp; omega
            have ho3 : (wc.drew.alloc (.cells #[.int .i64 z.id, .string z.fr, .string z.tt, .int .i64 z.ow, .int .i64 z.ep, .int .i64 z.pd, .int .i64 z.mv, .string z.ky, .int .i64 z.nw, .int .i64 hh, .string mm, .bool fb, .int .i64 nd] 74)).ownsRow w.heap.size 74 13 zv n (flatP (begP l (m.zs.take i))) := (Touch.of_below hb3).own HO.out (fun g hg hd => by have := (HO.out.lt g hg).2; omega)
            refine hK.out _ _ trivial (fun hHeld => ?_)
            clear hK K
            (try simp only [Act.put, List.setIfInBounds_toArray, List.set_cons_zero, List.set_cons_succ])
            refine wpAnyH_ready (rs := [7]) (by kernel_rfl) (by simp) ?_
            refine AllReadyH.cons (o := ⟨some 61, _, _, _, _, _⟩) rfl (fun K hK => ?_) AllReadyH.nil
            refine step_append_cells rfl (.tmp 58) (.tmp 60) 50 rfl w.heap.size 74 i0 (.agg #[.int .i64 0, .string ⟨#[]⟩, .string ⟨#[]⟩, .int .i64 0, .int .i64 0, .int .i64 0, .int .i64 0, .string ⟨#[]⟩, .int .i64 0, .int .i64 0, .string ⟨#[]⟩, .bool false, .int .i64 0]) 13 136 Tryz.underlying50 hi hz0 hz1 hz2 rfl (by decide) (zv) n (flatP (begP l (m.zs.take i))) rfl ho3 _ _ 1 1 [.int .i64 z.id, .string z.fr, .string z.tt, .int .i64 z.ow, .int .i64 z.ep, .int .i64 z.pd, .int .i64 z.mv, .string z.ky, .int .i64 z.nw, .int .i64 hh, .string mm, .bool fb, .int .i64 nd] rfl (cells_new (w := wc.drew) (e := 74) rfl rfl) (pzV_one ⟨z, hh, mm, fb, nd⟩) (by unfold maxLen; omega) (by omega) hbase6 ?_
            intro v5 w5 hown5 ht5 hb5
            have hT5 : Touch (fun x => (zv).ownBlock = some x) wc w5 := ((Touch.refl _ _).trans (Touch.of_below hb3) (fun x hx hd => absurd hd (by omega))).trans ht5 (fun x _ hx => hx)
            have hs5 := hT5.size
            have hW5 : Whl w5 (w.heap.size + 1) 52 #[zv, .slice Ah nh ch, .slice none 0 0] := (hT5.block (w.heap.size + 1) HW.out.low (fun e => hfarv e)).trans HW.out
            have hb5' : v5.ownBlock = (zv).ownBlock ∨ v5.ownBlock = some (wc.heap.size + 1) := by simpa using hb5
            clear hb5
            obtain ⟨g5, c5, rfl, _, _, _, _⟩ := own_form hown5 (Nat.succ_pos _)
            have HO5 := Lib.hid hown5
            have HT5 := Lib.hid hT5
            have HW5 := Lib.hid hW5
            
            clear hown5 ht5 hT5 hW5
            refine hK.out _ _ trivial (fun hHeld => ?_)
            clear hK K
            (try simp only [Act.put, List.setIfInBounds_toArray, List.set_cons_zero, List.set_cons_succ])
            refine wpAnyH_take (i := 8) (oi := ⟨some 62, _, _, _, _, _⟩) (v := ?v8A_138) rfl (by kernel_rfl) (by kernel_rfl) (by kernel_rfl) (fun _ _ _ h => h) (Or.inl ⟨by rfl, ?y8A_138⟩) (by assumption) ?r8A_138
            case y8A_138 => (intro w hSw; (try dsimp only at hSw); (try go_split_ands); go_simp); (try with_reducible rfl)
            case r8A_138 =>
            (try simp only [Act.put, List.setIfInBounds_toArray, List.set_cons_zero, List.set_cons_succ])
            refine wpAnyH_take (i := 9) (oi := ⟨some 63, _, _, _, _, _⟩) (v := ?v9A_141) rfl (by kernel_rfl) (by kernel_rfl) (by kernel_rfl) (fun _ _ _ h => h) (Or.inl ⟨by rfl, ?y9A_141⟩) (by assumption) ?r9A_141
            case y9A_141 => (intro w hSw; (try dsimp only at hSw); (try go_split_ands); go_simp); (try with_reducible rfl)
            case r9A_141 =>
            (try simp only [Act.put, List.setIfInBounds_toArray, List.set_cons_zero, List.set_cons_succ])
            refine wpAnyH_ready (rs := [10]) (by kernel_rfl) (by simp) ?_
            refine AllReadyH.cons (o := ⟨none, _, _, _, _, _⟩) rfl (fun K hK => ?_) AllReadyH.nil
            have k7 : w5.cell? ⟨w.heap.size + 1, 0, none⟩ = some (zv) := (HW5.out.cell 0).trans rfl
            have f7 := HW5.out.free 0
            go_simp
            refine hK.out _ _ trivial (fun hHeld => ?_)
            clear hK K
            (try simp only [Act.put, List.setIfInBounds_toArray, List.set_cons_zero, List.set_cons_succ])
            refine wpAnyH_done (by kernel_rfl) ?_ _
            go_wp2_with fail
            subst hn
            obtain ⟨hF, hTF, -⟩ := HZ3.out.pushed (p := ⟨z, hh, mm, fb, nd⟩) HO5.out rfl HT5.out (hb5'.imp_right fun e => ⟨_, e, Nat.le_succ _⟩)
            have e5 : begP l (m.zs.take (i + 1)) = begP l (m.zs.take i) ++ [⟨z, hh, mm, fb, nd⟩] := by rw [begP_snoc l hlt, ← HZD.out, HPZ.out]
            rw [← e5] at hF
            exact ⟨⟨i + 1, _, hlt, by go_num, hF, HBC.out.trans (hTF.below (by omega) (fun k hk => (HZ3.out.lows k hk).1))⟩, measZ hlt⟩
          · go_simp
            have hb3 : Below wc.heap.size wc (wc.drew.alloc (.cells #[.int .i64 z.id, .string z.fr, .string z.tt, .int .i64 z.ow, .int .i64 z.ep, .int .i64 z.pd, .int .i64 z.mv, .string z.ky, .int .i64 z.nw, .int .i64 hh, .string mm, .bool fb, .int .i64 nd] 74)) := (Below.refl _ _).drew.alloc (Nat.le_refl _) _
            have hbase6 : w.heap.size ≤ (wc.drew.alloc (.cells #[.int .i64 z.id, .string z.fr, .string z.tt, .int .i64 z.ow, .int .i64 z.ep, .int .i64 z.pd, .int .i64 z.mv, .string z.ky, .int .i64 z.nw, .int .i64 hh, .string mm, .bool fb, .int .i64 nd] 74)).heap.size := by simp; omega
            have ho3 : (wc.drew.alloc (.cells #[.int .i64 z.id, .string z.fr, .string z.tt, .int .i64 z.ow, .int .i64 z.ep, .int .i64 z.pd, .int .i64 z.mv, .string z.ky, .int .i64 z.nw, .int .i64 hh, .string mm, .bool fb, .int .i64 nd] 74)).ownsRow w.heap.size 74 13 zv n (flatP (begP l (m.zs.take i))) := (Touch.of_below hb3).own HO.out (fun g hg hd => by have := (HO.out.lt g hg).2; omega)
            refine hK.out _ _ trivial (fun hHeld => ?_)
            clear hK K
            (try simp only [Act.put, List.setIfInBounds_toArray, List.set_cons_zero, List.set_cons_succ])
            refine wpAnyH_ready (rs := [4]) (by kernel_rfl) (by simp) ?_
            refine AllReadyH.cons (o := ⟨some 58, _, _, _, _, _⟩) rfl (fun K hK => ?_) AllReadyH.nil
            have k9 := bkeep hb3 k0 (by have := HW.out.low; omega)
            have k10 : wc.cell? ⟨w.heap.size + 1, 0, none⟩ = some zv := k0
            go_simp
            refine hK.out _ _ trivial (fun hHeld => ?_)
            clear hK K
            (try simp only [Act.put, List.setIfInBounds_toArray, List.set_cons_zero, List.set_cons_succ])
            refine wpAnyH_ready (rs := [7]) (by kernel_rfl) (by simp) ?_
            refine AllReadyH.cons (o := ⟨some 61, _, _, _, _, _⟩) rfl (fun K hK => ?_) AllReadyH.nil
            refine step_append_cells rfl (.tmp 58) (.tmp 60) 50 rfl w.heap.size 74 i0 (.agg #[.int .i64 0, .string ⟨#[]⟩, .string ⟨#[]⟩, .int .i64 0, .int .i64 0, .int .i64 0, .int .i64 0, .string ⟨#[]⟩, .int .i64 0, .int .i64 0, .string ⟨#[]⟩, .bool false, .int .i64 0]) 13 136 Tryz.underlying50 hi hz0 hz1 hz2 rfl (by decide) (zv) n (flatP (begP l (m.zs.take i))) rfl ho3 _ _ 1 1 [.int .i64 z.id, .string z.fr, .string z.tt, .int .i64 z.ow, .int .i64 z.ep, .int .i64 z.pd, .int .i64 z.mv, .string z.ky, .int .i64 z.nw, .int .i64 hh, .string mm, .bool fb, .int .i64 nd] rfl (cells_new (w := wc.drew) (e := 74) rfl rfl) (pzV_one ⟨z, hh, mm, fb, nd⟩) (by unfold maxLen; omega) (by omega) hbase6 ?_
            intro v5 w5 hown5 ht5 hb5
            have hT5 : Touch (fun x => (zv).ownBlock = some x) wc w5 := ((Touch.refl _ _).trans (Touch.of_below hb3) (fun x hx hd => absurd hd (by omega))).trans ht5 (fun x _ hx => hx)
            have hs5 := hT5.size
            have hW5 : Whl w5 (w.heap.size + 1) 52 #[zv, .slice Ah nh ch, .slice none 0 0] := (hT5.block (w.heap.size + 1) HW.out.low (fun e => hfarv e)).trans HW.out
            have hb5' : v5.ownBlock = (zv).ownBlock ∨ v5.ownBlock = some (wc.heap.size + 1) := by simpa using hb5
            clear hb5
            obtain ⟨g5, c5, rfl, _, _, _, _⟩ := own_form hown5 (Nat.succ_pos _)
            have HO5 := Lib.hid hown5
            have HT5 := Lib.hid hT5
            have HW5 := Lib.hid hW5
            
            clear hown5 ht5 hT5 hW5
            refine hK.out _ _ trivial (fun hHeld => ?_)
            clear hK K
            (try simp only [Act.put, List.setIfInBounds_toArray, List.set_cons_zero, List.set_cons_succ])
            refine wpAnyH_take (i := 8) (oi := ⟨some 62, _, _, _, _, _⟩) (v := ?v8A_192) rfl (by kernel_rfl) (by kernel_rfl) (by kernel_rfl) (fun _ _ _ h => h) (Or.inl ⟨by rfl, ?y8A_192⟩) (by assumption) ?r8A_192
            case y8A_192 => (intro w hSw; (try dsimp only at hSw); (try go_split_ands); go_simp); (try with_reducible rfl)
            case r8A_192 =>
            (try simp only [Act.put, List.setIfInBounds_toArray, List.set_cons_zero, List.set_cons_succ])
            refine wpAnyH_take (i := 9) (oi := ⟨some 63, _, _, _, _, _⟩) (v := ?v9A_195) rfl (by kernel_rfl) (by kernel_rfl) (by kernel_rfl) (fun _ _ _ h => h) (Or.inl ⟨by rfl, ?y9A_195⟩) (by assumption) ?r9A_195
            case y9A_195 => (intro w hSw; (try dsimp only at hSw); (try go_split_ands); go_simp); (try with_reducible rfl)
            case r9A_195 =>
            (try simp only [Act.put, List.setIfInBounds_toArray, List.set_cons_zero, List.set_cons_succ])
            refine wpAnyH_ready (rs := [10]) (by kernel_rfl) (by simp) ?_
            refine AllReadyH.cons (o := ⟨none, _, _, _, _, _⟩) rfl (fun K hK => ?_) AllReadyH.nil
            have k7 : w5.cell? ⟨w.heap.size + 1, 0, none⟩ = some (zv) := (HW5.out.cell 0).trans rfl
            have f7 := HW5.out.free 0
            go_simp
            refine hK.out _ _ trivial (fun hHeld => ?_)
            clear hK K
            (try simp only [Act.put, List.setIfInBounds_toArray, List.set_cons_zero, List.set_cons_succ])
            refine wpAnyH_done (by kernel_rfl) ?_ _
            go_wp2_with fail
            subst hn
            obtain ⟨hF, hTF, -⟩ := HZ3.out.pushed (p := ⟨z, hh, mm, fb, nd⟩) HO5.out rfl HT5.out (hb5'.imp_right fun e => ⟨_, e, Nat.le_succ _⟩)
            have e5 : begP l (m.zs.take (i + 1)) = begP l (m.zs.take i) ++ [⟨z, hh, mm, fb, nd⟩] := by rw [begP_snoc l hlt, ← HZD.out, HPZ.out]
            rw [← e5] at hF
            exact ⟨⟨i + 1, _, hlt, by go_num, hF, HBC.out.trans (hTF.below (by omega) (fun k hk => (HZ3.out.lows k hk).1))⟩, measZ hlt⟩
end Go.Proofs.YtepjehcmiofehaaGreat
