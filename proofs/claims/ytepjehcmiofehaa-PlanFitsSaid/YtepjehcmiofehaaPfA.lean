/- The document's Apply: a split, a merge, a move that applies, of any map that may be. -/
import Derived.Test.YtepjehcmiofehaaPlW
import Derived.Test.YtepjehcmiofehaaPlX
import Derived.Deep.DeepCutAuto
namespace Go.Proofs.Ytepjehcmiofehaa
open Go.RowKit
set_option linter.unusedVariables false
set_option linter.unusedSimpArgs false

theorem RdQ.isyes {B d : Nat} {hv zv : Value} {hosts : List Int} {m : Mp} {c : Ch} {i : Nat} {hi : i < m.zs.length} {w : World} {e : Ending} {w' : World} (h : RdQ B d hv zv hosts m c i hi w e w') (hx : ∃ m1, Deed hosts m c i hi m1) : ∃ (m1 : Mp) (zv' : Value), e = .returned (.bool true) ∧ Deed hosts m c i hi m1 ∧ RdH w' B d hv zv' hosts m1 ∧ Touch (Fz d zv) w w' ∧ (∀ k, zv'.ownBlock = some k → zv.ownBlock = some k ∨ w.heap.size ≤ k) := by
  rcases h with ⟨m1, zv', h1, h2, h3, h4, h5⟩ | ⟨h1, h2, h3⟩
  · exact ⟨m1, zv', h2, h1, h3, h4, h5⟩
  · obtain ⟨m1, hx⟩ := hx
    exact absurd hx (h1 m1)
theorem Deed.detK {hosts : List Int} {m m1 m2 : Mp} {c : Ch} {i : Nat} {h : i < m.zs.length} (h1 : Deed hosts m c i h m1) (h2 : Deed hosts m c i h m2) : m1 = m2 := by
  cases h1 <;> cases h2 <;> first | rfl | omega
theorem RdH.setverK {w : World} {B d : Nat} {hv zv : Value} {hosts : List Int} {m : Mp} (h : RdH w B d hv zv hosts m) (n : Int) : RdH (w.setCell ⟨d, 0, none⟩ (.int .i64 n)) B d hv zv hosts ⟨n, m.nxt, m.zs⟩ :=
  ⟨h.blk.set 0 _, own_set_ne h.hrow (fun g hg => h.ha g hg), own_set_ne h.row (fun g hg => h.za g hg), h.ha, h.za, h.hz, h.low⟩
theorem rdChangeK (B d i : Nat) (hv zv : Value) (hosts : List Int) (m : Mp) (c : Ch) (hi : i < m.zs.length) (w : World) (h : RdH w B d hv zv hosts m) (hB : B ≤ w.heap.size) (hlh : hosts.length ≤ 100000) (hok : OkCh c) (hk : c.kd ≤ 3) (hn : 0 ≤ m.nxt) (hl : m.zs.length ≤ 1000) :
    Calls Try.prog 24 #[.pointer (some ⟨d, 0, none⟩), .agg #[.int .i64 c.kd, .int .i64 c.zo, .int .i64 c.ep, .int .i64 c.mv, .string c.ky], .int .i64 i] w fun e w' => RdQ B d hv zv hosts m c i hi w e w' := by
  have hk1 := hok.kd
  by_cases h1 : c.kd = 1
  · exact rdChange1 B d i hv zv hosts m c hi w h hB hl h1 hn
  by_cases h2 : c.kd = 2
  · exact rdChange2 B d i hv zv hosts m c hi w h hB hl h2
  · exact rdChange3 B d i hv zv hosts m c hi w h hB hl hlh (by omega)
set_option maxHeartbeats 8000000 in
set_option maxRecDepth 10000 in
theorem rdApplyK (B d : Nat) (hv zv : Value) (hosts : List Int) (m m' : Mp) (c : Ch) (w : World) (h : RdH w B d hv zv hosts m) (hB : B ≤ w.heap.size) (hlh : hosts.length ≤ 100000) (hm : MayP m) (hk : c.kd ≤ 3) (ha : Applies hosts m c m') :
    Calls Try.prog 10 #[.pointer (some ⟨d, 0, none⟩), .agg #[.int .i64 c.kd, .int .i64 c.zo, .int .i64 c.ep, .int .i64 c.mv, .string c.ky]] w fun e w' => ∃ zv', e = .returned (.bool true) ∧ RdH w' B d hv zv' hosts m' ∧ Touch (Fz d zv) w w' ∧ (∀ k, zv'.ownBlock = some k → zv.ownBlock = some k ∨ w.heap.size ≤ k) := by
  have HD := Lib.hid h
  have hdl := h.blk.low
  have hl : m.zs.length ≤ 16 ∧ 1 ≤ m.zs.length := ⟨hm.len, mayP_pos hm⟩
  have HM := Lib.hid hm
  have hver : m.ver < 1099511627776 := ha.ver
  have hver1 : 1 ≤ m.ver := hm.v1
  have HN0 : Hid (0 ≤ m.nxt) := Lib.hid (by have := hm.n1; omega)
  have HA := Lib.hid ha
  have HK := Lib.hid hk
  have hok := ha.ok
  clear h hm ha hk
  have HOK := Lib.hid hok
  have HOKB : Hid (decide (OkCh c) = true) := Lib.hid (decide_eq_true hok)
  clear hok
  go_enter Try.func10, Try.ntmps10
  go_upto_region 1 with fail
  have hP : Whl (w.alloc (.cells #[.int .i64 c.kd, .int .i64 c.zo, .int .i64 c.ep, .int .i64 c.mv, .string c.ky] 42)) w.heap.size 42 #[.int .i64 c.kd, .int .i64 c.zo, .int .i64 c.ep, .int .i64 c.mv, .string c.ky] := Whl.new rfl
  have HBV : Hid (Below w.heap.size w (w.alloc (.cells #[.int .i64 c.kd, .int .i64 c.zo, .int .i64 c.ep, .int .i64 c.mv, .string c.ky] 42))) := Lib.hid ((Below.refl _ _).alloc (Nat.le_refl _) _)
  have HDV := Lib.hid (HD.out.below HBV.out)
  have HPV := Lib.hid hP
  have p1 := hP.cell 1
  have k2 := HDV.out.blk.cell 2
  simp only [List.getElem?_toArray, List.getElem?_cons_succ, List.getElem?_cons_zero] at p1 k2
  have hsv : w.heap.size < (w.alloc (.cells #[.int .i64 c.kd, .int .i64 c.zo, .int .i64 c.ep, .int .i64 c.mv, .string c.ky] 42)).heap.size := by simp
  clear hP
  generalize (w.alloc (.cells #[.int .i64 c.kd, .int .i64 c.zo, .int .i64 c.ep, .int .i64 c.mv, .string c.ky] 42)) = V at *
  refine wp_region_held_drew (S := (fun W => Below V.heap.size V W ∧ W.cell? ⟨d, 2, none⟩ = some zv ∧ W.cell? ⟨w.heap.size, 1, none⟩ = some (.int .i64 c.zo))) (by kernel_rfl) ⟨(Below.refl _ _).drew, k2, p1⟩ (fun hHeld => ?_)
  refine wpAnyH_take (i := 0) (oi := ⟨some 7, _, _, _, _, _⟩) (v := ?v0b) rfl (by kernel_rfl) (by kernel_rfl) (by kernel_rfl) (fun _ _ _ h => h) (Or.inl ⟨by rfl, ?y0b⟩) (by assumption) ?r0b
  case y0b => (intro w hSw; (try dsimp only at hSw); (try go_split_ands); go_simp); (try with_reducible rfl)
  case r0b =>
  (try simp only [Act.put, List.setIfInBounds_toArray, List.set_cons_zero, List.set_cons_succ])
  refine wpAnyH_take (i := 1) (oi := ⟨some 8, _, _, _, _, _⟩) (v := ?v1b) rfl (by kernel_rfl) (by kernel_rfl) (by kernel_rfl) (fun _ _ _ h => h) (Or.inl ⟨by rfl, ?y1b⟩) (by assumption) ?r1b
  case y1b => (intro w hSw; (try dsimp only at hSw); (try go_split_ands); go_simp); (try with_reducible rfl)
  case r1b =>
  (try simp only [Act.put, List.setIfInBounds_toArray, List.set_cons_zero, List.set_cons_succ])
  refine wpAnyH_take (i := 2) (oi := ⟨some 9, _, _, _, _, _⟩) (v := ?v2b) rfl (by kernel_rfl) (by kernel_rfl) (by kernel_rfl) (fun _ _ _ h => h) (Or.inl ⟨by rfl, ?y2b⟩) (by assumption) ?r2b
  case y2b => (intro w hSw; (try dsimp only at hSw); (try go_split_ands); go_simp); (try with_reducible rfl)
  case r2b =>
  (try simp only [Act.put, List.setIfInBounds_toArray, List.set_cons_zero, List.set_cons_succ])
  refine wpAnyH_take (i := 3) (oi := ⟨some 10, _, _, _, _, _⟩) (v := ?v3b) rfl (by kernel_rfl) (by kernel_rfl) (by kernel_rfl) (fun _ _ _ h => h) (Or.inl ⟨by rfl, ?y3b⟩) (by assumption) ?r3b
  case y3b => (intro w hSw; (try dsimp only at hSw); (try go_split_ands); go_simp); (try with_reducible rfl)
  case r3b =>
  (try simp only [Act.put, List.setIfInBounds_toArray, List.set_cons_zero, List.set_cons_succ])
  refine wpAnyH_take (i := 4) (oi := ⟨some 11, _, _, _, _, _⟩) (v := ?v4b) rfl (by kernel_rfl) (by kernel_rfl) (by kernel_rfl) (fun _ _ _ h => h) (Or.inl ⟨by rfl, ?y4b⟩) (by assumption) ?r4b
  case y4b => (intro w hSw; (try dsimp only at hSw); (try go_split_ands); go_simp); (try with_reducible rfl)
  case r4b =>
  (try simp only [Act.put, List.setIfInBounds_toArray, List.set_cons_zero, List.set_cons_succ])
  refine wpAnyH_take (i := 5) (oi := ⟨some 12, _, _, _, _, _⟩) (v := ?v5b) rfl (by kernel_rfl) (by kernel_rfl) (by kernel_rfl) (fun _ _ _ h => h) (Or.inl ⟨by rfl, ?y5b⟩) (by assumption) ?r5b
  case y5b => (intro w hSw; (try dsimp only at hSw); (try go_split_ands); go_simp); (try with_reducible rfl)
  case r5b =>
  (try simp only [Act.put, List.setIfInBounds_toArray, List.set_cons_zero, List.set_cons_succ])
  refine wpAnyH_take (i := 6) (oi := ⟨some 13, _, _, _, _, _⟩) (v := ?v6b) rfl (by kernel_rfl) (by kernel_rfl) (by kernel_rfl) (fun _ _ _ h => h) (Or.inl ⟨by rfl, ?y6b⟩) (by assumption) ?r6b
  case y6b => (intro w hSw; (try dsimp only at hSw); (try go_split_ands); go_simp); (try with_reducible rfl)
  case r6b =>
  (try simp only [Act.put, List.setIfInBounds_toArray, List.set_cons_zero, List.set_cons_succ])
  refine wpAnyH_ready (rs := [7]) (by kernel_rfl) (by simp) ?_
  refine AllReadyH.cons (o := ⟨some 14, _, _, _, _, _⟩) rfl (fun K hK => ?_) AllReadyH.nil
  go_simp
  refine (rdFind B zv m.zs c.zo _ (HDV.out.below hHeld.1).row (by omega)).mono ?_; rintro e w2 ⟨k, rfl, hat, hb3⟩
  go_wp2_with fail
  have HAT := Lib.hid hat
  clear hat
  refine hK.out _ _ (by have hh := Below.trans hHeld.1 (Below.mono hb3 (Below.size hHeld.1)); exact ⟨hh, bkeep hh k2 (by omega), bkeep hh p1 (by omega)⟩) (fun hHeld => ?_)
  clear hK K
  (try simp only [Act.put, List.setIfInBounds_toArray, List.set_cons_zero, List.set_cons_succ])
  refine wpAnyH_take (i := 8) (oi := ⟨some 5, _, _, _, _, _⟩) (v := ?v8b) rfl (by kernel_rfl) (by kernel_rfl) (by kernel_rfl) (fun _ _ _ h => h) (Or.inl ⟨by rfl, ?y8b⟩) (by assumption) ?r8b
  case y8b => (intro w hSw; (try dsimp only at hSw); (try go_split_ands); go_simp); (try with_reducible rfl)
  case r8b =>
  (try simp only [Act.put, List.setIfInBounds_toArray, List.set_cons_zero, List.set_cons_succ])
  refine wpAnyH_done (by kernel_rfl) ?_ _
  have HB2 : Hid (Below V.heap.size V w2) := Lib.hid hHeld.1
  have hs2 := HB2.out.size
  have HD2 := Lib.hid (HDV.out.below HB2.out)
  have HP2 := Lib.hid (HPV.out.below HB2.out hsv)
  have p0 := HP2.out.cell 0
  have p2 := HP2.out.cell 2
  have p3 := HP2.out.cell 3
  have p4 := HP2.out.cell 4
  have k0 := HD2.out.blk.cell 0
  have k1 := HD2.out.blk.cell 1
  have p1 := HP2.out.cell 1
  have k2 := HD2.out.blk.cell 2
  simp only [List.getElem?_toArray, List.getElem?_cons_succ, List.getElem?_cons_zero] at p0 p1 p2 p3 p4 k0 k1 k2
  have HBW2 := Lib.hid (HBV.out.trans (HB2.out.mono (Nat.le_of_lt hsv)))
  clear hHeld hb3
  obtain ⟨i, hk, hi, hid, hfi⟩ : ∃ (i : Nat), k = i ∧ ∃ (hi : i < m.zs.length), m.zs[i].id = c.zo ∧ ∀ j (hj : j < m.zs.length), j < i → m.zs[j].id ≠ c.zo := by
    rcases HAT.out with ⟨hk, hno⟩ | ⟨i, hk, hi, hid, hfi⟩
    · obtain ⟨j, hj, hjd, _⟩ := HA.out.deed
      exact absurd hjd (hno j hj hj)
    · exact ⟨i, hk, hi, hid, hfi⟩
  obtain ⟨m1, hde, hm1⟩ : ∃ m1, Deed hosts m c i hi m1 ∧ m' = ⟨m1.ver + 1, m1.nxt, m1.zs⟩ := by
    obtain ⟨j, hj, hjd, hjf, m1, h1, h2⟩ := HA.out.deed
    have hij : j = i := by
      rcases Nat.lt_trichotomy j i with h | h | h
      · exact absurd hjd (hfi j hj h)
      · exact h
      · exact absurd hid (hjf i hi h)
    subst hij
    exact ⟨m1, h1, h2⟩
  have HM1 := Lib.hid hm1
  have HDE0 := Lib.hid hde
  have hmay1 : MayP m1 := by
    have h1 := HA.out.mayP HK.out HM.out
    rw [hm1] at h1
    have hv := hde.ver
    exact ⟨by rw [hv]; exact HM.out.v1, by rw [hv]; exact HM.out.v2, h1.n1, h1.n2, h1.len, h1.nodup, h1.rng, h1.core, h1.spn⟩
  have HMAY1 := Lib.hid hmay1
  have hlen1 := hmay1.len
  clear hde hm1 hmay1
  subst hk
  have HID := Lib.hid hid
  have HFI := Lib.hid hfi
  have q4 : ¬ ((i : Int) < 0) := by omega
  have q5 : ¬ ((1099511627776 : Int) ≤ m.ver) := by omega
  obtain ⟨gz, cc, hzv, _, hgz, hnc, hcm⟩ := own_form HD.out.row (by omega)
  subst hzv
  clear hid hfi
  go_upto_region 5 with (first
    | (go_at_call 23; go_loud (refine (rdMayChange c _).mono ?_; rintro e w3 ⟨rfl, hb3⟩; rw [HOKB.out]; have HB3 := Lib.hid hb3; have hs3 := hb3.size; have k0 := bkeep hb3 k0 (by omega); have k1 := bkeep hb3 k1 (by omega); have k2 := bkeep hb3 k2 (by omega); have p0 := bkeep hb3 p0 (by omega); have p1 := bkeep hb3 p1 (by omega); have p2 := bkeep hb3 p2 (by omega); have p3 := bkeep hb3 p3 (by omega); have p4 := bkeep hb3 p4 (by omega); clear hb3))
    | (go_at_call 15; go_loud (refine (rdOwn B _ m _ (HD2.out.below HB3.out).row (by omega) (by omega)).mono ?_; rintro e w4 ⟨v4, rfl, ho4, hb4⟩; obtain ⟨g4, c4, hv4, hg4, hg4l, hn4, hc4⟩ := own_form ho4 (by omega); subst hv4; have HO4 := Lib.hid ho4; have HB4 := Lib.hid hb4; clear ho4 hb4))
    | fail)
  obtain ⟨V5, hV5⟩ : ∃ V, V = (w4.alloc (.cells #[.int .i64 m.ver, .int .i64 m.nxt, .slice (some ⟨g4, 0, none⟩) m.zs.length c4] 24)) := ⟨_, rfl⟩
  obtain ⟨N, hN⟩ : ∃ n, n = w4.heap.size := ⟨_, rfl⟩
  have hB3 := HB3.out
  have hB4 := HB4.out
  have hs4 := hB4.size
  have hW5 : Whl V5 N 24 #[.int .i64 m.ver, .int .i64 m.nxt, .slice (some ⟨g4, 0, none⟩) m.zs.length c4] := by rw [hV5, hN]; exact Whl.new rfl
  have hB25 : Below w2.heap.size w2 V5 := by rw [hV5]; exact (hB3.trans (hB4.mono hB3.size)).alloc (by omega) _
  have hBV5 : Below w.heap.size w V5 := HBW2.out.trans (hB25.mono (by omega))
  have hO5 : V5.ownsRow w3.heap.size 37 9 (.slice (some ⟨g4, 0, none⟩) m.zs.length c4) m.zs.length (flatZ m.zs) := by rw [hV5]; exact HO4.out.alloc _
  have hV5s : w4.heap.size < V5.heap.size := by rw [hV5]; simp
  rw [← hN, ← hV5]
  have HW5 := Lib.hid hW5
  have HBV5 := Lib.hid hBV5
  have HO5 := Lib.hid hO5
  have HD5 := Lib.hid (HD2.out.below hB25)
  have hP5 := HP2.out.below hB25 (by omega)
  have hNV := hW5.low
  have hNl : w2.heap.size ≤ N := by omega
  have hg3 : w3.heap.size ≤ g4 := by omega
  clear p0 p1 p2 p3 p4 k0 k1 k2
  have p0 := hP5.cell 0
  have p1 := hP5.cell 1
  have p2 := hP5.cell 2
  have p3 := hP5.cell 3
  have p4 := hP5.cell 4
  simp only [List.getElem?_toArray, List.getElem?_cons_succ, List.getElem?_cons_zero] at p0 p1 p2 p3 p4
  clear hV5 hN hB3 hB4 hW5 hB25 hBV5 hO5 hP5
  go_wp2_with (first
    | (go_at_call 24; go_loud (refine (rdChangeK B d i hv _ hosts m c hi _ HD5.out (by omega) hlh HOK.out HK.out HN0.out (by omega)).mono ?_; rintro e w6 hq; obtain ⟨m2, zv6, rfl, hd6, hr6, ht6, hw6⟩ := hq.isyes ⟨m1, HDE0.out⟩; have e21 := hd6.detK HDE0.out; subst e21; have HDE := Lib.hid hd6; have HR6 := Lib.hid hr6; have HT6 := Lib.hid ht6; have HW6 := Lib.hid hw6; have u0 := hr6.blk.cell 0; have u1 := hr6.blk.cell 1; have u2 := hr6.blk.cell 2; simp only [List.getElem?_toArray, List.getElem?_cons_succ, List.getElem?_cons_zero] at u0 u1 u2; have hd6s := hr6.blk.low; have hmv : m2.ver = m.ver := hd6.ver; rw [hmv] at u0; have HMV := Lib.hid hmv; clear hq hd6 hr6 ht6 hw6 hmv))
    | (go_at_call 11; go_loud (obtain ⟨A6, c6, e6, hz6⟩ := RowZ.of (n := m2.zs.length) HR6.out.row; subst e6; have hMM := rdMayC A6 c6 m2 _ hz6 (by omega) (b := true) ⟨fun _ => HMAY1.out, fun _ => rfl⟩; rw [HMV.out] at hMM; refine hMM.mono ?_; clear hz6; rintro e w7 ⟨rfl, hb7⟩; have HB7 := Lib.hid hb7; have hs7 := hb7.size; have u0 := bkeep hb7 u0 (by omega); have HR7 := Lib.hid (HR6.out.below hb7); have uf := fun k => HR7.out.blk.free k; clear hb7 hMM))
    | fail)
  have hw5 := HBV5.out.size
  have hw6 := HT6.out.size
  have hfin := HR7.out.setverK (m.ver + 1)
  have hT := ((((Touch.of_below HBV5.out).mono'' (D' := Fz d (.slice (some ⟨gz, 0, none⟩) m.zs.length cc)) (fun k h1 h2 => absurd h2 (by omega))).trans HT6.out (fun _ _ h => h)).trans (Touch.of_below HB7.out) (fun k h1 h2 => absurd h2 (by omega))).set (a := ⟨d, 0, none⟩) (v := .int .i64 (m.ver + 1)) (fun _ => .inl rfl)
  refine bodyPost_ret (v := .bool true) (by simp [results, Try.results10, go_sem]) rfl ⟨.slice A6 m2.zs.length c6, rfl, ?_, hT, ?_⟩
  · rw [HM1.out, HMV.out]; exact hfin
  · intro k hk
    rcases HW6.out k hk with h | h
    · exact .inl h
    · exact .inr (by omega)
end Go.Proofs.Ytepjehcmiofehaa
