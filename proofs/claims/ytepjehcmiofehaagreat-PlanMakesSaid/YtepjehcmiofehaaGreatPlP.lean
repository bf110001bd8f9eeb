/- plan.Make. -/
import Derived.Test.YtepjehcmiofehaaGreatPlO
namespace Go.Proofs.YtepjehcmiofehaaGreat
open Go.RowKit
set_option linter.unusedVariables false
set_option linter.unusedSimpArgs false

theorem ids_sub : ∀ (l : List Zn), (l.map fun z => z.id).Sublist (idsA l)
  | [] => List.Sublist.slnil
  | z :: r => by
    rw [idsA_cons, List.map_cons]
    unfold idsZ
    exact ((ids_sub r).trans (List.sublist_append_right _ _)).cons_cons z.id
theorem okFrom_all : ∀ (l : List Int) (a : Int), okFrom a l = true → ∀ g ∈ l, a < g ∧ g < 14
  | [], a, h, g, hg => by cases hg
  | x :: r, a, h, g, hg => by
    simp only [okFrom, Bool.and_eq_true, decide_eq_true_eq] at h
    rcases List.mem_cons.1 hg with rfl | hg
    · exact h.1
    · have := okFrom_all r x h.2 g hg; omega
theorem hosts_ok {hs : List Int} (h : hostsB hs = true) : (1 ≤ hs.length ∧ hs.length ≤ 6) ∧ ∀ g ∈ hs, HostOk g := by
  unfold hostsB at h
  simp only [Bool.and_eq_true, decide_eq_true_eq] at h
  exact ⟨h.1, fun g hg => by have := okFrom_all hs 7 h.2 g hg; unfold HostOk; omega⟩
theorem mayP_pos {m : Mp} (h : MayP m) : 0 < m.zs.length := by
  rcases hm : m.zs with _ | ⟨z, r⟩
  · have := h.spn
    rw [hm] at this
    exact absurd this (by decide)
  · simp
set_option maxHeartbeats 8000000 in
set_option maxRecDepth 10000 in
theorem plMakeNo (A : Option Addr) (cp : Nat) (m : Mp) (Ah : Option Addr) (ch : Nat) (hs : List Int) (Al : Option Addr) (cl : Nat) (l : List Lr) (hot cold : Int) (w : World) (hz : RowZ w A cp m.zs) (hsm : SmZ m) (hx : Cells w w.heap.size Ah hs.length ch 1 (intsV hs)) (hhl : hs.length ≤ 1000) (hno : ¬ (MayP m ∧ hostsB hs = true)) :
    Calls Tryz.prog 6 #[.agg #[.int .i64 m.ver, .int .i64 m.nxt, .slice A m.zs.length cp], .slice Ah hs.length ch, .slice Al l.length cl, .agg #[.int .i64 hot, .int .i64 cold]] w fun e w' => e = .returned (.slice none 0 0) ∧ Below w.heap.size w w' := by
  have HZ := Lib.hid (hz.alloc (.cells #[.int .i64 m.ver, .int .i64 m.nxt, .slice A m.zs.length cp] 24) |>.alloc (.cells #[.int .i64 hot, .int .i64 cold] 28))
  have HB := Lib.hid (show Below w.heap.size w ((w.alloc (.cells #[.int .i64 m.ver, .int .i64 m.nxt, .slice A m.zs.length cp] 24)).alloc (.cells #[.int .i64 hot, .int .i64 cold] 28)) from ((Below.refl _ _).alloc (Nat.le_refl _) _).alloc (by simp) _)
  have HX := Lib.hid (cells_keep hx HB.out HB.out.size)
  have HP := Lib.hid (show Whl ((w.alloc (.cells #[.int .i64 m.ver, .int .i64 m.nxt, .slice A m.zs.length cp] 24)).alloc (.cells #[.int .i64 hot, .int .i64 cold] 28)) w.heap.size 24 #[.int .i64 m.ver, .int .i64 m.nxt, .slice A m.zs.length cp] from (Whl.new rfl).alloc _)
  have HSM := Lib.hid hsm
  have HNO := Lib.hid hno
  clear hz hsm hx hno
  by_cases hb : hostsB hs = true
  case neg =>
    rw [Bool.not_eq_true] at hb
    have HHB := Lib.hid hb
    clear hb
    go_enter Tryz.func6, Tryz.ntmps6
    go_wp2_with (first
      | (go_at_call 13; go_loud (refine (drNewC0 Ah ch hs _ HX.out (by omega) HHB.out).mono ?_; rintro e w1 ⟨rfl, hb1⟩; have HB1 := Lib.hid (HB.out.trans (hb1.mono HB.out.size)); clear hb1))
      | fail)
    go_ret
    exact ⟨rfl, HB1.out⟩
  have HF : Hid (false = true ↔ MayP m) := Lib.hid ⟨fun h => (by cases h), fun h => absurd ⟨h, hb⟩ HNO.out⟩
  have HHB := Lib.hid hb
  clear hb
  go_enter Tryz.func6, Tryz.ntmps6
  go_wp2_with (first
    | (go_at_call 14; go_loud (refine (plMayMap A cp m _ (HZ.out.below HB1b.out) HSM.out HF.out).mono ?_; rintro e w2 ⟨rfl, hb2⟩; have HB2 := Lib.hid (HB1.out.trans (hb2.mono HB1.out.size)); clear hb2))
    | (go_at_call 13; go_loud (refine (drNewC1 Ah ch hs _ HX.out HHB.out).mono ?_; rintro e w1 ⟨d, rfl, hb1⟩; have HB1b := Lib.hid hb1; have HB1 := Lib.hid (HB.out.trans (hb1.mono HB.out.size)); have hP1 := HP.out.below hb1 HP.out.low; have x0 := hP1.cell 0; have x1 := hP1.cell 1; have x2 := hP1.cell 2; simp only [List.getElem?_toArray, List.getElem?_cons_succ, List.getElem?_cons_zero] at x0 x1 x2; clear hb1 hP1))
    | fail)
  go_ret
  exact ⟨rfl, HB2.out⟩
set_option maxHeartbeats 8000000 in
set_option maxRecDepth 10000 in
theorem plMakeYes (A : Option Addr) (cp : Nat) (m : Mp) (Ah : Option Addr) (ch : Nat) (hs : List Int) (Al : Option Addr) (cl : Nat) (l : List Lr) (hot cold : Int) (w : World) (hz : RowZ w A cp m.zs) (hsm : SmZ m) (hx : Cells w w.heap.size Ah hs.length ch 1 (intsV hs)) (hl : RowL w Al cl l) (hll : l.length ≤ 100000) (hm : MayP m) (hb : hostsB hs = true) :
    Calls Tryz.prog 6 #[.agg #[.int .i64 m.ver, .int .i64 m.nxt, .slice A m.zs.length cp], .slice Ah hs.length ch, .slice Al l.length cl, .agg #[.int .i64 hot, .int .i64 cold]] w fun e w' => ∃ v cs, e = .returned v ∧ PlanR m hs l hot cold cs ∧ w'.ownsRow w.heap.size 58 5 v cs.length (cs.flatMap chV) ∧ Below w.heap.size w w' := by
  have hB : Below w.heap.size w ((w.alloc (.cells #[.int .i64 m.ver, .int .i64 m.nxt, .slice A m.zs.length cp] 24)).alloc (.cells #[.int .i64 hot, .int .i64 cold] 28)) := ((Below.refl _ _).alloc (Nat.le_refl _) _).alloc (by simp) _
  have HB := Lib.hid hB
  have HZ := Lib.hid (hz.below hB)
  have HX := Lib.hid (cells_keep hx hB hB.size)
  have HL := Lib.hid (hl.below hB)
  have HP := Lib.hid (show Whl ((w.alloc (.cells #[.int .i64 m.ver, .int .i64 m.nxt, .slice A m.zs.length cp] 24)).alloc (.cells #[.int .i64 hot, .int .i64 cold] 28)) w.heap.size 24 #[.int .i64 m.ver, .int .i64 m.nxt, .slice A m.zs.length cp] from (Whl.new rfl).alloc _)
  have HQ := Lib.hid (show Whl ((w.alloc (.cells #[.int .i64 m.ver, .int .i64 m.nxt, .slice A m.zs.length cp] 24)).alloc (.cells #[.int .i64 hot, .int .i64 cold] 28)) (w.heap.size + 1) 28 #[.int .i64 hot, .int .i64 cold] from Whl.new (by simp))
  have HSM := Lib.hid hsm
  have HHB := Lib.hid hb
  have HM := Lib.hid hm
  have hm16 := hm.len
  have hm0 := mayP_pos hm
  obtain ⟨⟨hh1, hh6⟩, hho⟩ := hosts_ok hb
  have HHO := Lib.hid hho
  have hnd : ((begP l m.zs).map fun p => p.z.id).Nodup := by rw [begP_ids]; exact hm.nodup.sublist (ids_sub _)
  have HND := Lib.hid hnd
  obtain ⟨ps, hps⟩ : ∃ ps, ps = begP l m.zs := ⟨_, rfl⟩
  have hpl : ps.length = m.zs.length := by rw [hps]; exact begP_len l m.zs
  have hph : HitsOk ps := by rw [hps]; exact begP_hits l m.zs
  rw [← hps] at hnd
  have HPS := Lib.hid hps
  have HPH := Lib.hid hph
  have HND := Lib.hid hnd
  clear hz hsm hx hl hb hm hB hho hnd hps hph
  go_enter Tryz.func6, Tryz.ntmps6
  go_upto_region 5 with (first
    | (go_at_call 15; go_loud (refine (plBegin A cp m Ah hs.length ch Al cl l _ (HZ.out.below HB2b.out) (HL.out.below HB2b.out) (by omega) hll).mono ?_; rintro e w3 ⟨b, zv, rfl, hp3, hb3⟩; rw [← HPS.out] at hp3; have HP3 := Lib.hid hp3; have HB3b := Lib.hid (HB2b.out.trans (hb3.mono HB2b.out.size)); have hs3 := hb3.size; clear hb3 hp3))
    | (go_at_call 14; go_loud (refine (plMayMap A cp m _ (HZ.out.below HB1b.out) HSM.out ⟨fun _ => HM.out, fun _ => rfl⟩).mono ?_; rintro e w2 ⟨rfl, hb2⟩; have HB2b := Lib.hid (HB1b.out.trans (hb2.mono HB1b.out.size)); have hP1 := HP.out.below HB2b.out HP.out.low; have x0 := hP1.cell 0; have x1 := hP1.cell 1; have x2 := hP1.cell 2; simp only [List.getElem?_toArray, List.getElem?_cons_succ, List.getElem?_cons_zero] at x0 x1 x2; clear hb2 hP1))
    | (go_at_call 13; go_loud (refine (drNewC1 Ah ch hs _ HX.out HHB.out).mono ?_; rintro e w1 ⟨d, rfl, hb1⟩; have HB1b := Lib.hid hb1; have hP1 := HP.out.below hb1 HP.out.low; have x0 := hP1.cell 0; have x1 := hP1.cell 1; have x2 := hP1.cell 2; simp only [List.getElem?_toArray, List.getElem?_cons_succ, List.getElem?_cons_zero] at x0 x1 x2; clear hb1 hP1))
    | fail)
  obtain ⟨gz, c, hzv, _, hgz, _, _⟩ := own_form HP3.out.row (by omega)
  subst hzv
  have h13 := hgz
  have HQ3 := HQ.out.below HB3b.out HQ.out.low
  have y0 := HQ3.cell 0
  have y1 := HQ3.cell 1
  simp only [List.getElem?_toArray, List.getElem?_cons_succ, List.getElem?_cons_zero] at y0 y1
  clear HQ3
  have hb0 := HB1b.out.size
  have hb2 := HB2b.out.size
  have hb3 := HB3b.out.size
  obtain ⟨W0, hW0⟩ : ∃ W0, W0 = ((w.alloc (.cells #[.int .i64 m.ver, .int .i64 m.nxt, .slice A m.zs.length cp] 24)).alloc (.cells #[.int .i64 hot, .int .i64 cold] 28)) := ⟨_, rfl⟩
  have hW0s : W0.heap.size = w.heap.size + 2 := by rw [hW0]; simp
  simp only [← hW0] at HB HZ HX HL HP HQ HB1b HB2b HB3b hb0 hb2 hb3
  have hq0 := HQ.out.low
  go_upto_region 6 with (first
    | (go_at_call 16; go_loud (refine (plSplit w2.heap.size b gz c (.slice Ah hs.length ch) (.slice none 0 0) ps [] hot _ HP3.out (by omega) (by omega) HND.out (by simp)).mono ?_; rintro e w4 ⟨rfl, π, cv4, st, hby, hst, hp4, ht4, hf4⟩; have hss : SameZ st.ps ps := (by rw [hst]; exact splitFold_same hot _ _); have hsl := hss.1; have hcs4 : st.cs.length ≤ 16 := (by have h1 := split_cs hot π ⟨ps, [], 16 - (ps.length : Int) - (pdN 1 ps : Int)⟩; rw [← hst] at h1; have h2 := hby.len; simp only [List.length_nil] at h1; omega); have HSS := Lib.hid hss; have HBY := Lib.hid hby; have HST := Lib.hid hst; have HP4 := Lib.hid hp4; have HB4b := Lib.hid (HB3b.out.trans ((ht4.below hs3 (fun k hk => (HP3.out.lows k hk).1)).mono hb2)); have HQ4 := HQ.out.below HB4b.out HQ.out.low; have v0 := HQ4.cell 0; have v1 := HQ4.cell 1; simp only [List.getElem?_toArray, List.getElem?_cons_succ, List.getElem?_cons_zero] at v0 v1; have hs4 : w2.heap.size ≤ w4.heap.size := (by have := ht4.size; omega); clear hby hst hp4 ht4 hf4 HQ4 hss))
    | fail)
  go_wp2_with (first
    | (go_at_call 17; go_loud (refine (plMove w2.heap.size b gz c Ah ch cv4 st.ps st.cs hs _ (by rw [hsl]; exact HP4.out) hs4 (cells_keep HX.out HB4b.out hb2) (by omega) (by omega) (by omega) (by omega) (by rw [HSS.out.ids]; exact HND.out) (HSS.out.hits HPH.out) HHO.out (by omega)).mono ?_; rintro e w5 ⟨rfl, cv5, qs, ds, n, hmv, hend, hsz, hp5, hdl, ht5, hf5⟩; have hql := hsz.1; have HMV := Lib.hid hmv; have HEND := Lib.hid hend; have HSZ := Lib.hid hsz; have HP5 := Lib.hid hp5; have HB5b := Lib.hid (HB4b.out.trans ((ht5.below hs4 (fun k hk => (HP4.out.lows k (by rw [← hsl]; exact hk)).1)).mono hb2)); have hs5 : w2.heap.size ≤ w5.heap.size := (by have := ht5.size; omega); have HQ5 := HQ.out.below HB5b.out HQ.out.low; have u0 := HQ5.cell 0; have u1 := HQ5.cell 1; simp only [List.getElem?_toArray, List.getElem?_cons_succ, List.getElem?_cons_zero] at u0 u1; clear hmv hend hsz hp5 ht5 hf5 HQ5))
    | (go_at_call 18; go_loud (refine (plMerge w2.heap.size b gz c (.slice Ah hs.length ch) cv5 qs ds cold _ (by rw [hql]; exact HP5.out) (by omega) (by omega) (HSZ.out.hits (HSS.out.hits HPH.out)) (by omega)).mono ?_; rintro e w6 ⟨rfl, cv6, hp6, ht6, hf6⟩; have HP6 := Lib.hid hp6; have hb6 := hp6.blk.low; have k2 := hp6.blk.cell 2; simp only [List.getElem?_toArray, List.getElem?_cons_succ, List.getElem?_cons_zero] at k2; have HB6b := Lib.hid (HB5b.out.trans ((ht6.below hs5 (fun k hk => (HP5.out.lows k (by rw [← hql]; exact hk)).1)).mono hb2)); clear hp6 ht6 hf6))
    | fail)
  go_ret
  refine ⟨cv6, (mergeF cold qs ds).cs, rfl, ⟨⟨π, st, qs, ds, n, ?_, ?_, HMV.out, HEND.out, hdl.2, rfl⟩⟩, own_mono HP6.out.crow (by omega), HB.out.trans (HB6b.out.mono HB.out.size)⟩
  · rw [← HPS.out]; exact HBY.out
  · rw [← HPS.out, ← hpl]; exact HST.out
end Go.Proofs.YtepjehcmiofehaaGreat
