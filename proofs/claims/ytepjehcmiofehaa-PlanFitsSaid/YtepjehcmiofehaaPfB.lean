/- PlanFits: the law's walk. -/
import Derived.Test.YtepjehcmiofehaaPfA
import Derived.Test.YtepjehcmiofehaaPlV
import Derived.Test.YtepjehcmiofehaaPlZ
import Derived.Test.YtepjehcmiofehaaPlR
import Derived.Test.YtepjehcmiofehaaPlS
namespace Go.Proofs.Ytepjehcmiofehaa
open Go.RowKit
set_option linter.unusedVariables false
set_option linter.unusedSimpArgs false

theorem pendN_tk (k : Int) {l : List Zn} {i : Nat} (h : i < l.length) : pendN k (l.take (i + 1)) = pendN k (l.take i) + if l[i].pd = k then 1 else 0 := by
  unfold pendN
  rw [List.take_add_one, List.getElem?_eq_getElem h, List.filter_append, List.length_append]
  by_cases e : l[i].pd = k <;> simp [e]
theorem pendN_tl (k : Int) (l : List Zn) : pendN k l ≤ l.length := List.length_filter_le _ _
theorem run_may {hs : List Int} {cs : List Ch} {ms : Nat → Mp} (h0 : MayP (ms 0)) (ha : ∀ i (hi : i < cs.length), Applies hs (ms i) cs[i] (ms (i + 1))) (hk : ∀ c ∈ cs, c.kd ≤ 3) : ∀ i, i ≤ cs.length → MayP (ms i)
  | 0, _ => h0
  | i + 1, h => (ha i h).mayP (hk _ (List.getElem_mem h)) (run_may h0 ha hk i (by omega))
theorem DirP.rd {w : World} {B x : Nat} {hv zv : Value} {hosts : List Int} {m : Mp} (h : DirP w B x hv zv hosts m) : RdH w B x hv zv hosts m := ⟨h.blk, h.hrow, h.row, h.ha, h.za, h.hz, h.low⟩
theorem ch_own {w : World} {B g n c : Nat} {l : List Ch} (h : w.ownsRow B 42 5 (.slice (some ⟨g, 0, none⟩) n c) l.length (l.flatMap chV)) {i : Nat} (hi : i < l.length) :
    w.cell? ⟨g, i * 5, none⟩ = some (.int .i64 l[i].kd) ∧ w.cell? ⟨g, i * 5 + 1, none⟩ = some (.int .i64 l[i].zo) ∧ w.cell? ⟨g, i * 5 + 2, none⟩ = some (.int .i64 l[i].ep) ∧ w.cell? ⟨g, i * 5 + 3, none⟩ = some (.int .i64 l[i].mv) ∧ w.cell? ⟨g, i * 5 + 4, none⟩ = some (.string l[i].ky) := by
  have hc := fun k (hk : k < 5) (v : Value) (hv : (chV l[i])[k]? = some v) => h.cells (g := g) rfl (i * 5 + k) v (by rw [flat_get chV 5 (fun _ => rfl) l i k hk, List.getElem?_eq_getElem hi]; exact hv)
  refine ⟨?_, ?_, ?_, ?_, ?_⟩
  · have := hc 0 (by omega) _ rfl; rw [add_none] at this; simpa using this
  · have := hc 1 (by omega) _ rfl; rw [add_none] at this; simpa using this
  · have := hc 2 (by omega) _ rfl; rw [add_none] at this; simpa using this
  · have := hc 3 (by omega) _ rfl; rw [add_none] at this; simpa using this
  · have := hc 4 (by omega) _ rfl; rw [add_none] at this; simpa using this
theorem rdOfNo (A : Option Addr) (cp : Nat) (m : Mp) (Ah : Option Addr) (ch : Nat) (hs : List Int) (w : World) (hz : RowZ w A cp m.zs) (hml : m.zs.length ≤ 1000) (hx : Cells w w.heap.size Ah hs.length ch 1 (intsV hs)) (hhl : hs.length ≤ 100000) (hno : ¬ (hostsB hs = true ∧ MayP m ∧ ∀ z ∈ m.zs, InZ hs z)) :
    Calls Try.prog 7 #[.agg #[.int .i64 m.ver, .int .i64 m.nxt, .slice A m.zs.length cp], .slice Ah hs.length ch] w fun e w' => ∃ k : Int, e = .returned (.tuple #[.pointer none, .int .i64 k]) ∧ Hid (k ≠ 0) ∧ Below w.heap.size w w' := by
  by_cases h1 : hostsB hs = true ∧ MayP m
  · refine (rdOfLoop A cp m Ah ch hs w hz hml hx hhl h1.1 h1.2 (fun h => hno ⟨h1.1, h1.2, h⟩)).mono fun e w' h => ⟨3, h.1, Lib.hid (by decide), h.2⟩
  · refine (rdOf0 A cp m Ah ch hs w hz hml hx hhl h1).mono fun e w' h => ?_
    rcases h.1 with e | e
    · exact ⟨1, e, Lib.hid (by decide), h.2⟩
    · exact ⟨3, e, Lib.hid (by decide), h.2⟩
theorem lt60_smf {m : Mp} (h : Lt60 m) : SmZ m := ⟨h.len, fun z hz => by obtain ⟨i, hi, rfl⟩ := List.getElem_of_mem hz; have := h.txt i hi; omega⟩
set_option maxHeartbeats 8000000 in
set_option maxRecDepth 10000 in
theorem plFitsWalk (A : Option Addr) (cp : Nat) (m : Mp) (Ah : Option Addr) (ch : Nat) (hs : List Int) (Al : Option Addr) (cl : Nat) (l : List Lr) (hot cold : Int) (w : World) (hz : RowZ w A cp m.zs) (hx : Cells w w.heap.size Ah hs.length ch 1 (intsV hs)) (hl : RowL w Al cl l) :
    Calls Try.prog 3 #[.agg #[.int .i64 m.ver, .int .i64 m.nxt, .slice A m.zs.length cp], .slice Ah hs.length ch, .slice Al l.length cl, .agg #[.int .i64 hot, .int .i64 cold]] w fun e w' => e = .returned (.bool true) ∧ Below w.heap.size w w' := by
  have hB : Below w.heap.size w ((w.alloc (.cells #[.int .i64 m.ver, .int .i64 m.nxt, .slice A m.zs.length cp] 24)).alloc (.cells #[.int .i64 hot, .int .i64 cold] 28)) := ((Below.refl _ _).alloc (Nat.le_refl _) _).alloc (by simp) _
  have HB := Lib.hid hB
  have HZ := Lib.hid (hz.below hB)
  have HX := Lib.hid (cells_keep hx hB hB.size)
  have HL := Lib.hid (hl.below hB)
  have HP := Lib.hid (show Whl ((w.alloc (.cells #[.int .i64 m.ver, .int .i64 m.nxt, .slice A m.zs.length cp] 24)).alloc (.cells #[.int .i64 hot, .int .i64 cold] 28)) w.heap.size 24 #[.int .i64 m.ver, .int .i64 m.nxt, .slice A m.zs.length cp] from (Whl.new rfl).alloc _)
  have HQ := Lib.hid (show Whl ((w.alloc (.cells #[.int .i64 m.ver, .int .i64 m.nxt, .slice A m.zs.length cp] 24)).alloc (.cells #[.int .i64 hot, .int .i64 cold] 28)) (w.heap.size + 1) 28 #[.int .i64 hot, .int .i64 cold] from Whl.new (by simp))
  clear hz hx hl hB
  by_cases hof : hostsB hs = true ∧ MayP m ∧ ∀ z ∈ m.zs, InZ hs z
  case neg =>
    have HNO := Lib.hid hof
    clear hof
    go_enter Try.func3, Try.ntmps3
    go_wp2_with (first
      | (go_at_call 6; go_loud (refine (plHeavy A cp m Ah ch hs Al cl l _ HZ.out HL.out).mono ?_; rintro e w1 ⟨b, rfl, hq, hb1⟩; have HQ1 := Lib.hid hq; have HB1b := Lib.hid hb1; have hP1 := HP.out.below HB1b.out HP.out.low; have x10 := hP1.cell 0; have x11 := hP1.cell 1; have x12 := hP1.cell 2; simp only [List.getElem?_toArray, List.getElem?_cons_succ, List.getElem?_cons_zero] at x10 x11 x12; clear hP1; clear hb1 hq))
      | (go_at_call 7; go_loud (obtain ⟨h60, hh20, hl60⟩ := HQ1.out (by first | assumption | simp_all); have hm60 := h60.len; refine (rdOfNo A cp m Ah ch hs _ (HZ.out.below HB1b.out) (by omega) (cells_keep HX.out HB1b.out HB1b.out.size) (by omega) HNO.out).mono ?_; rintro e w2 ⟨k, rfl, hk0, hb2⟩; have hkb : (k != 0) = true := (by simpa using hk0.out); have HB2b := Lib.hid (HB1b.out.trans (hb2.mono HB1b.out.size)); clear h60 hb2 hk0))
      | (go_at_call 8; go_loud (refine (plKnown _).mono ?_; rintro e w5 ⟨rfl, hb5⟩; have HB5b := Lib.hid (HB2b.out.trans (hb5.mono HB2b.out.size)); clear hb5))
      | fail)
    · go_ret
      exact ⟨rfl, HB.out.trans (HB1b.out.mono HB.out.size)⟩
    · go_ret
      exact ⟨rfl, HB.out.trans (HB5b.out.mono HB.out.size)⟩
  obtain ⟨hh, hm, hin⟩ := hof
  have HM := Lib.hid hm
  have HHB := Lib.hid hh
  have HIN := Lib.hid hin
  clear hm hh hin
  by_cases hbig : m.ver ≤ 1099511627712 ∧ m.nxt ≤ 1099511627712
  case neg =>
    have hbg := Lib.hid hbig
    clear hbig
    go_enter Try.func3, Try.ntmps3
    by_cases hv : m.ver ≤ 1099511627712
    · have hv2 : ¬ (1099511627712 < m.ver) := by omega
      have hx2 : 1099511627712 < m.nxt := by have := hbg.out; omega
      go_wp2_with (first
        | (go_at_call 6; go_loud (refine (plHeavy A cp m Ah ch hs Al cl l _ HZ.out HL.out).mono ?_; rintro e w1 ⟨b, rfl, hq, hb1⟩; have HQ1 := Lib.hid hq; have HB1b := Lib.hid hb1; have hP1 := HP.out.below HB1b.out HP.out.low; have x10 := hP1.cell 0; have x11 := hP1.cell 1; have x12 := hP1.cell 2; simp only [List.getElem?_toArray, List.getElem?_cons_succ, List.getElem?_cons_zero] at x10 x11 x12; clear hP1; clear hb1 hq))
        | (go_at_call 7; go_loud (obtain ⟨h60, hh20, hl60⟩ := HQ1.out (by first | assumption | simp_all); have hm60 := h60.len; refine (rdOf1 A cp m Ah ch hs _ (HZ.out.below HB1b.out) (by omega) (cells_keep HX.out HB1b.out HB1b.out.size) (by omega) HHB.out HM.out HIN.out).mono ?_; rintro e w2 ⟨d, hv0, zv0, rfl, hd2, hb2⟩; have HB2b := Lib.hid (HB1b.out.trans (hb2.mono HB1b.out.size)); have hP2 := HP.out.below HB2b.out HP.out.low; have x20 := hP2.cell 0; have x21 := hP2.cell 1; have x22 := hP2.cell 2; simp only [List.getElem?_toArray, List.getElem?_cons_succ, List.getElem?_cons_zero] at x20 x21 x22; clear h60 hb2 hd2 hP2))
        | (go_at_call 8; go_loud (refine (plKnown _).mono ?_; rintro e w5 ⟨rfl, hb5⟩; have HB5b := Lib.hid (HB2b.out.trans (hb5.mono HB2b.out.size)); clear hb5))
        | fail)
      · go_ret
        exact ⟨rfl, HB.out.trans (HB1b.out.mono HB.out.size)⟩
      · go_ret
        exact ⟨rfl, HB.out.trans (HB5b.out.mono HB.out.size)⟩
    · have hv2 : 1099511627712 < m.ver := by omega
      go_wp2_with (first
        | (go_at_call 6; go_loud (refine (plHeavy A cp m Ah ch hs Al cl l _ HZ.out HL.out).mono ?_; rintro e w1 ⟨b, rfl, hq, hb1⟩; have HQ1 := Lib.hid hq; have HB1b := Lib.hid hb1; have hP1 := HP.out.below HB1b.out HP.out.low; have x10 := hP1.cell 0; have x11 := hP1.cell 1; have x12 := hP1.cell 2; simp only [List.getElem?_toArray, List.getElem?_cons_succ, List.getElem?_cons_zero] at x10 x11 x12; clear hP1; clear hb1 hq))
        | (go_at_call 7; go_loud (obtain ⟨h60, hh20, hl60⟩ := HQ1.out (by first | assumption | simp_all); have hm60 := h60.len; refine (rdOf1 A cp m Ah ch hs _ (HZ.out.below HB1b.out) (by omega) (cells_keep HX.out HB1b.out HB1b.out.size) (by omega) HHB.out HM.out HIN.out).mono ?_; rintro e w2 ⟨d, hv0, zv0, rfl, hd2, hb2⟩; have HB2b := Lib.hid (HB1b.out.trans (hb2.mono HB1b.out.size)); have hP2 := HP.out.below HB2b.out HP.out.low; have x20 := hP2.cell 0; have x21 := hP2.cell 1; have x22 := hP2.cell 2; simp only [List.getElem?_toArray, List.getElem?_cons_succ, List.getElem?_cons_zero] at x20 x21 x22; clear h60 hb2 hd2 hP2))
        | (go_at_call 8; go_loud (refine (plKnown _).mono ?_; rintro e w5 ⟨rfl, hb5⟩; have HB5b := Lib.hid (HB2b.out.trans (hb5.mono HB2b.out.size)); clear hb5))
        | fail)
      · go_ret
        exact ⟨rfl, HB.out.trans (HB1b.out.mono HB.out.size)⟩
      · go_ret
        exact ⟨rfl, HB.out.trans (HB5b.out.mono HB.out.size)⟩
  obtain ⟨hv, hn⟩ := hbig
  have hv2 : ¬ (1099511627712 < m.ver) := by omega
  have hx2 : ¬ (1099511627712 < m.nxt) := by omega
  have HV64 := Lib.hid (show m.ver + 64 ≤ topN by unfold topN; omega)
  have HN64 := Lib.hid (show m.nxt + 64 ≤ topN by unfold topN; omega)
  have hm16 := HM.out.len
  clear hv hn
  go_enter Try.func3, Try.ntmps3
  go_wp2_with (first
    | (go_at_call 6; go_loud (refine (plHeavy A cp m Ah ch hs Al cl l _ HZ.out HL.out).mono ?_; rintro e w1 ⟨b, rfl, hq, hb1⟩; have HQ1 := Lib.hid hq; have HB1b := Lib.hid hb1; have hP1 := HP.out.below HB1b.out HP.out.low; have x10 := hP1.cell 0; have x11 := hP1.cell 1; have x12 := hP1.cell 2; simp only [List.getElem?_toArray, List.getElem?_cons_succ, List.getElem?_cons_zero] at x10 x11 x12; clear hP1; clear hb1 hq))
    | (go_at_call 7; go_loud (obtain ⟨h60, hh20, hl60⟩ := HQ1.out (by first | assumption | simp_all); have H60 := Lib.hid h60; have hm60 := h60.len; refine (rdOf1 A cp m Ah ch hs _ (HZ.out.below HB1b.out) (by omega) (cells_keep HX.out HB1b.out HB1b.out.size) (by omega) HHB.out HM.out HIN.out).mono ?_; rintro e w2 ⟨d, hv0, zv0, rfl, hd2, hb2⟩; have HD2 := Lib.hid hd2.rd; have hs2 := hb2.size; have HB2b := Lib.hid (HB1b.out.trans (hb2.mono HB1b.out.size)); have hP2 := HP.out.below HB2b.out HP.out.low; have x20 := hP2.cell 0; have x21 := hP2.cell 1; have x22 := hP2.cell 2; simp only [List.getElem?_toArray, List.getElem?_cons_succ, List.getElem?_cons_zero] at x20 x21 x22; clear h60 hb2 hd2 hP2))
    | fail)
  · go_ret
    exact ⟨rfl, HB.out.trans (HB1b.out.mono HB.out.size)⟩
  go_loopw [11, 12] (fun nv iv wr => ∃ i : Nat, i ≤ m.zs.length ∧ iv = .int .i64 i ∧ nv = .int .i64 (pendN 3 (m.zs.take i)) ∧ Below w2.heap.size w2 wr) (fun _ iv _ => m.zs.length - (intOf iv).toNat)
  case atStart => exact ⟨0, Nat.zero_le _, rfl, rfl, Below.refl _ _⟩
  case round =>
    obtain ⟨i, hil, rfl, rfl, hBr⟩ := hrel
    have HBR := Lib.hid hBr
    have HBW := Lib.hid (HB2b.out.trans (hBr.mono HB2b.out.size))
    have hPr := HP.out.below HBW.out HP.out.low
    have p0 := hPr.cell 0
    have p1 := hPr.cell 1
    have p2 := hPr.cell 2
    have hQr := HQ.out.below HBW.out HQ.out.low
    have z0 := hQr.cell 0
    have z1 := hQr.cell 1
    simp only [List.getElem?_toArray, List.getElem?_cons_succ, List.getElem?_cons_zero] at p0 p1 p2 z0 z1
    clear hBr hPr hQr
    by_cases hlt : i < m.zs.length
    · have q3 : (i : Int) < (m.zs.length : Int) := by omega
      obtain ⟨gz, oz, rfl, hgz, u0, u1, u2, u3, u4, u5, u6, u7, u8⟩ := zn_at (HZ.out.below HBW.out).cells hlt
      have hsn := pendN_tk 3 hlt
      have hcn := pendN_tl 3 (m.zs.take i)
      rw [List.length_take] at hcn
      obtain ⟨z, hz⟩ : ∃ z, z = m.zs[i] := ⟨_, rfl⟩
      rw [← hz] at u5 hsn
      obtain ⟨n, hn⟩ : ∃ n, n = pendN 3 (m.zs.take i) := ⟨_, rfl⟩
      rw [← hn] at hsn hcn
      rw [← hn]
      have HSN := Lib.hid hsn
      clear hz hsn u0 u1 u2 u3 u4 u6 u7 u8
      by_cases hk : z.pd = 3
      · have q5 : (z.pd == 3) = true := by rw [beq_iff_eq]; exact hk
        have HK := Lib.hid hk
        clear hk
        go_wp2_with fail
        refine ⟨⟨i + 1, hlt, by go_num, ?_, HBR.out⟩, measZ hlt⟩
        rw [HSN.out, if_pos HK.out]
        go_num
      · have q5 : (z.pd == 3) = false := by rw [beq_eq_false_iff_ne]; exact hk
        have HK := Lib.hid hk
        clear hk
        go_wp2_with fail
        refine ⟨⟨i + 1, hlt, by go_num, ?_, HBR.out⟩, measZ hlt⟩
        rw [HSN.out, if_neg HK.out]
        go_num
    · obtain rfl : i = m.zs.length := by omega
      rw [List.take_length]
      obtain ⟨was, hwas⟩ : ∃ n, n = pendN 3 m.zs := ⟨_, rfl⟩
      rw [← hwas]
      have HWAS := Lib.hid hwas
      have hwb : was ≤ 16 := by rw [hwas]; exact Nat.le_trans (pendN_tl 3 m.zs) hm16
      have HBR2 := Lib.hid (HD2.out.below HBR.out)
      clear hwas
      go_wp2_with (first
        | (go_at_call 9; go_loud (refine (plMakeYes A cp m Ah ch hs Al cl l hot cold _ (HZ.out.below HBW.out) (lt60_smf H60.out) (cells_keep HX.out HBW.out HBW.out.size) (HL.out.below HBW.out) (by omega) HM.out HHB.out).mono ?_; rintro e w3 ⟨v, cs, rfl, hR, ho, hb3⟩; obtain ⟨m2, hrun, hcl, hpd⟩ := plan_fits hR HM.out HHB.out HV64.out HN64.out; obtain ⟨ms, e0, e1, hst⟩ := hrun.states; have HPD := Lib.hid hpd; have HE0 := Lib.hid e0; have HE1 := Lib.hid e1; have HST := Lib.hid hst; have HKD := Lib.hid (plan_kinds hR); have HO3 := Lib.hid ho; have HD3 := Lib.hid (HBR2.out.below hb3); have HB3b := Lib.hid (HBW.out.trans (hb3.mono HBW.out.size)); have hs3 := hb3.size; have hs2r := HBR.out.size; clear hR ho hb3 hrun hpd e0 e1 hst))
        | fail)
      have HMA := Lib.hid (run_may (by rw [HE0.out]; exact HM.out) HST.out HKD.out)
      have hh6 : hs.length ≤ 6 := (hosts_ok HHB.out).1.2
      obtain ⟨Av, cv, hv', _, hncv, hcmv⟩ := own_slice HO3.out
      subst hv'
      have HAP : Hid (∀ k, Fz d zv0 k → (Value.slice Av cs.length cv).ownBlock ≠ some k) := Lib.hid (fun k hk e => by
        have h1 := (HD2.out.lows k (hk.elim .inl (fun h => .inr (.inr h)))).2
        have h2 := (HO3.out.lt k e).1
        omega)
      go_loopw [14] (fun iv wj => ∃ (i : Nat) (zvi : Value), i ≤ cs.length ∧ iv = .int .i64 i ∧ RdH wj w1.heap.size d hv0 zvi hs (ms i) ∧ wj.ownsRow w2.heap.size 42 5 (.slice Av cs.length cv) cs.length (cs.flatMap chV) ∧ (∀ k, Fz d zvi k → (Value.slice Av cs.length cv).ownBlock ≠ some k) ∧ Below w1.heap.size w3 wj) (fun iv _ => cs.length - (intOf iv).toNat)
      case atStart => exact ⟨0, zv0, Nat.zero_le _, rfl, by rw [HE0.out]; exact HD3.out, own_mono HO3.out hs2r, HAP.out, Below.refl _ _⟩
      case round =>
        obtain ⟨j, zvj, hjl, rfl, hDj, hOj, hAj, hBj⟩ := hrel
        have HBJ := Lib.hid hBj
        have HAJ := Lib.hid hAj
        clear hBj hAj
        by_cases hjt : j < cs.length
        · have q7 : (j : Int) < (cs.length : Int) := by omega
          have HDJ := Lib.hid hDj
          have HOJ := Lib.hid hOj
          obtain ⟨gv, cv2, ev, _, hgv, _, _⟩ := own_form hOj (by omega)
          injection ev with ev1 ev2 ev3
          subst ev1 ev3
          obtain ⟨c0, c1, c2, c3, c4⟩ := ch_own hOj hjt
          obtain ⟨c, hc⟩ : ∃ c, c = cs[j] := ⟨_, rfl⟩
          have HAJ2 : Hid (Applies hs (ms j) c (ms (j + 1))) := Lib.hid (by rw [hc]; exact HST.out j hjt)
          have HKJ : Hid (c.kd ≤ 3) := Lib.hid (by rw [hc]; exact HKD.out _ (List.getElem_mem hjt))
          have HMJ := Lib.hid (HMA.out j (by omega))
          rw [← hc] at c0 c1 c2 c3 c4
          have hjs := HBJ.out.size
          clear hDj hOj hc
          go_wp2_with (first
            | (go_at_call 10; go_loud (refine (rdApplyK w1.heap.size d hv0 zvj hs (ms j) (ms (j + 1)) c _ HDJ.out (by have := HDJ.out.blk.low; have := HDJ.out.low; omega) (by omega) HMJ.out HKJ.out HAJ2.out).mono ?_; rintro e w4 ⟨zv4, rfl, hd4, ht4, hf4⟩; have HD4 := Lib.hid hd4; have HT4 := Lib.hid ht4; have HF4 := Lib.hid hf4; clear hd4 ht4 hf4))
            | fail)
          refine ⟨⟨j + 1, zv4, hjt, by go_num, HD4.out, HT4.out.own HOJ.out (fun g hg hf => HAJ.out g hf hg), fun k hk e => ?_, HBJ.out.trans (HT4.out.below (by have := HDJ.out.blk.low; have := HDJ.out.low; omega) (fun k hk => (HDJ.out.lows k (hk.elim .inl (fun h => .inr (.inr h)))).1))⟩, measZ hjt⟩
          rcases hk with hk | hk
          · exact HAJ.out k (.inl hk) e
          · rcases HF4.out k hk with h | h
            · exact HAJ.out k (.inr h) e
            · have := (HOJ.out.lt k e).2
              omega
        · obtain rfl : j = cs.length := by omega
          rw [HE1.out] at hDj
          obtain ⟨Az, cz, hzv, _, hncz, hcmz⟩ := own_slice hDj.row
          subst hzv
          have HDJ := Lib.hid hDj
          clear hDj hOj
          go_wp2_with fail
          have hm2l : m2.zs.length ≤ 16 := by
            have h := (HMA.out cs.length (Nat.le_refl _)).len
            rw [HE1.out] at h
            exact h
          go_loopw [15, 16] (fun nv iv wk => ∃ k : Nat, k ≤ m2.zs.length ∧ iv = .int .i64 k ∧ nv = .int .i64 (pendN 3 (m2.zs.take k)) ∧ RdH wk w1.heap.size d hv0 (.slice Az m2.zs.length cz) hs m2 ∧ Below w1.heap.size w3 wk) (fun _ iv _ => m2.zs.length - (intOf iv).toNat)
          case atStart => exact ⟨0, Nat.zero_le _, rfl, rfl, HDJ.out, HBJ.out⟩
          case round =>
            obtain ⟨k, hkl, rfl, rfl, hDk, hBk⟩ := hrel
            have HDK := Lib.hid hDk
            have HBK := Lib.hid hBk
            have k2 := hDk.blk.cell 2
            simp only [List.getElem?_toArray, List.getElem?_cons_succ, List.getElem?_cons_zero] at k2
            have hcn := pendN_tl 3 (m2.zs.take k)
            rw [List.length_take] at hcn
            by_cases hkt : k < m2.zs.length
            · have q8 : (k : Int) < (m2.zs.length : Int) := by omega
              obtain ⟨gz, cz2, ez, _, hgz, _, _⟩ := own_form hDk.row (by omega)
              injection ez with ez1 ez2 ez3
              subst ez1 ez3
              obtain ⟨u0, u1, u2, u3, u4, u5, u6, u7, u8⟩ := rowZ_at hDk.row hkt
              have hsn := pendN_tk 3 hkt
              obtain ⟨z, hz⟩ : ∃ z, z = m2.zs[k] := ⟨_, rfl⟩
              rw [← hz] at u5 hsn
              obtain ⟨n, hn⟩ : ∃ n, n = pendN 3 (m2.zs.take k) := ⟨_, rfl⟩
              rw [← hn] at hsn hcn
              rw [← hn]
              have HSN := Lib.hid hsn
              clear hz hsn u0 u1 u2 u3 u4 u6 u7 u8 hDk hBk
              by_cases hk : z.pd = 3
              · have q5 : (z.pd == 3) = true := by rw [beq_iff_eq]; exact hk
                have HK := Lib.hid hk
                clear hk
                go_wp2_with fail
                refine ⟨⟨k + 1, hkt, by go_num, ?_, HDK.out, HBK.out⟩, measZ hkt⟩
                rw [HSN.out, if_pos HK.out]
                go_num
              · have q5 : (z.pd == 3) = false := by rw [beq_eq_false_iff_ne]; exact hk
                have HK := Lib.hid hk
                clear hk
                go_wp2_with fail
                refine ⟨⟨k + 1, hkt, by go_num, ?_, HDK.out, HBK.out⟩, measZ hkt⟩
                rw [HSN.out, if_neg HK.out]
                go_num
            · obtain rfl : k = m2.zs.length := by omega
              rw [List.take_length]
              obtain ⟨n2, hn2⟩ : ∃ n, n = pendN 3 m2.zs := ⟨_, rfl⟩
              have q9 : (n2 : Int) ≤ max 2 (was : Int) := by
                have := HPD.out
                rw [← hn2, ← HWAS.out] at this
                omega
              rw [← hn2]
              clear hn2 hDk hBk
              go_wp2_with (first
                | (go_at_call 8; go_loud (refine (plKnown _).mono ?_; rintro e w5 ⟨rfl, hb5⟩; have HB5 := Lib.hid (HBK.out.trans (hb5.mono (by have := HDK.out.blk.low; have := HDK.out.low; omega))); clear hb5))
                | fail)
              go_ret
              exact ⟨rfl, HB.out.trans ((HB3b.out.mono HB.out.size).trans (HB5.out.mono (by have := HB1b.out.size; have := HB.out.size; omega)))⟩
end Go.Proofs.Ytepjehcmiofehaa
