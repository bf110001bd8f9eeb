/- the document's Of: a directory. -/
import Derived.Test.YtepjehcmiofehaaPlY
namespace Go.Proofs.Ytepjehcmiofehaa
open Go.RowKit
set_option linter.unusedVariables false
set_option linter.unusedSimpArgs false

/-- a directory of the document's in memory -/
structure DirP (w : World) (B x : Nat) (hv zv : Value) (hosts : List Int) (m : Mp) : Prop where
  blk : Whl w x 44 #[.int .i64 m.ver, .int .i64 m.nxt, zv, hv]
  hrow : w.ownsRow B 3 1 hv hosts.length (intsV hosts)
  row : w.ownsRow B 37 9 zv m.zs.length (flatZ m.zs)
  ha : ∀ g, hv.ownBlock = some g → g ≠ x
  za : ∀ g, zv.ownBlock = some g → g ≠ x
  hz : ∀ g, hv.ownBlock = some g → zv.ownBlock ≠ some g
  low : B ≤ x
set_option maxHeartbeats 8000000 in
set_option maxRecDepth 10000 in
theorem rdOf1 (A : Option Addr) (cp : Nat) (m : Mp) (Ah : Option Addr) (ch : Nat) (hs : List Int) (w : World) (hz : RowZ w A cp m.zs) (hml : m.zs.length ≤ 1000) (hx : Cells w w.heap.size Ah hs.length ch 1 (intsV hs)) (hhl : hs.length ≤ 100000) (hh : hostsB hs = true) (hm : MayP m) (hno : ∀ z ∈ m.zs, InZ hs z) :
    Calls Try.prog 7 #[.agg #[.int .i64 m.ver, .int .i64 m.nxt, .slice A m.zs.length cp], .slice Ah hs.length ch] w fun e w' => ∃ (d : Nat) (hv zv : Value), e = .returned (.tuple #[.pointer (some ⟨d, 0, none⟩), .int .i64 0]) ∧ DirP w' w.heap.size d hv zv hs m ∧ Below w.heap.size w w' := by
  have hm0 := mayP_pos hm
  obtain ⟨⟨hh1, hh6⟩, _⟩ := hosts_ok hh
  obtain ⟨i0, hi0, hz0, hz1, hz2⟩ := info_parts Try.infoI64
  have hB : Below w.heap.size w (w.alloc (.cells #[.int .i64 m.ver, .int .i64 m.nxt, .slice A m.zs.length cp] 24)) := (Below.refl _ _).alloc (Nat.le_refl _) _
  have HB := Lib.hid hB
  have HZ := Lib.hid (hz.below hB)
  have HX := Lib.hid (cells_keep hx hB hB.size)
  have HP := Lib.hid (show Whl (w.alloc (.cells #[.int .i64 m.ver, .int .i64 m.nxt, .slice A m.zs.length cp] 24)) w.heap.size 24 #[.int .i64 m.ver, .int .i64 m.nxt, .slice A m.zs.length cp] from Whl.new rfl)
  have HM := Lib.hid hm
  have HHB := Lib.hid hh
  have HNO := Lib.hid hno
  clear hz hx hB hm hh hno
  go_enter Try.func7, Try.ntmps7
  go_wp2_with (first
    | (go_at_call 12; go_loud (refine (rdHostsC Ah ch hs _ HX.out hhl).mono ?_; rintro e w1 ⟨rfl, hb1⟩; have HB1 := Lib.hid hb1; rw [HHB.out]; have hP1 := HP.out.below hb1 HP.out.low; have x10 := hP1.cell 0; have x11 := hP1.cell 1; have x12 := hP1.cell 2; simp only [List.getElem?_toArray, List.getElem?_cons_succ, List.getElem?_cons_zero] at x10 x11 x12; clear hb1 hP1))
    | (go_at_call 11; go_loud (refine (rdMayC A cp m _ (HZ.out.below HB1.out) (by omega) (b := true) ⟨fun _ => HM.out, fun _ => rfl⟩).mono ?_; rintro e w2 ⟨rfl, hb2⟩; have HB2 := Lib.hid (HB1.out.trans (hb2.mono HB1.out.size)); have hP2 := HP.out.below HB2.out HP.out.low; have x20 := hP2.cell 0; have x21 := hP2.cell 1; have x22 := hP2.cell 2; simp only [List.getElem?_toArray, List.getElem?_cons_succ, List.getElem?_cons_zero] at x20 x21 x22; clear hb2 hP2))
    | fail)
  go_loopw [6] (fun iv wr => ∃ i : Nat, i ≤ m.zs.length ∧ iv = .int .i64 i ∧ (∀ j (hj : j < m.zs.length), j < i → InZ hs m.zs[j]) ∧ Below w2.heap.size w2 wr) (fun iv _ => m.zs.length - (intOf iv).toNat)
  case atStart => exact ⟨0, Nat.zero_le _, rfl, fun j hj h => by omega, Below.refl _ _⟩
  case round =>
    obtain ⟨i, hil, rfl, hok, hBr⟩ := hrel
    have HOK := Lib.hid hok
    have HBR := Lib.hid hBr
    have HBW := Lib.hid (HB2.out.trans (hBr.mono HB2.out.size))
    have hPr := HP.out.below HBW.out HP.out.low
    have p2 := hPr.cell 2
    simp only [List.getElem?_toArray, List.getElem?_cons_succ, List.getElem?_cons_zero] at p2
    clear hBr hPr hok
    by_cases hlt : i < m.zs.length
    · have q5 : (i : Int) < (m.zs.length : Int) := by omega
      have hwi : IntKind.i64.wrap ((i : Int) + 1) = (i : Int) + 1 := by rw [IntKind.wrap_i64]; omega
      obtain ⟨z, hz⟩ : ∃ z, z = m.zs[i] := ⟨_, rfl⟩
      obtain ⟨ga, oa, rfl, hga, u0, u1, u2, u3, u4, u5, u6, u7, u8⟩ := zn_at (HZ.out.below HBW.out).cells hlt
      rw [← hz] at u0 u1 u2 u3 u4 u5 u6 u7 u8
      have HZZ := Lib.hid hz
      clear hz
      go_upto_region 9 with fail
      have hPz : Whl (wr.alloc (.cells #[.int .i64 z.id, .string z.fr, .string z.tt, .int .i64 z.ow, .int .i64 z.ep, .int .i64 z.pd, .int .i64 z.mv, .string z.ky, .int .i64 z.nw] 37)) wr.heap.size 37 #[.int .i64 z.id, .string z.fr, .string z.tt, .int .i64 z.ow, .int .i64 z.ep, .int .i64 z.pd, .int .i64 z.mv, .string z.ky, .int .i64 z.nw] := Whl.new rfl
      have hbv : Below w2.heap.size w2 (wr.alloc (.cells #[.int .i64 z.id, .string z.fr, .string z.tt, .int .i64 z.ow, .int .i64 z.ep, .int .i64 z.pd, .int .i64 z.mv, .string z.ky, .int .i64 z.nw] 37)) := HBR.out.alloc HBR.out.size _
      generalize (wr.alloc (.cells #[.int .i64 z.id, .string z.fr, .string z.tt, .int .i64 z.ow, .int .i64 z.ep, .int .i64 z.pd, .int .i64 z.mv, .string z.ky, .int .i64 z.nw] 37)) = V at *
      have HPZ := Lib.hid hPz
      have HBRV := Lib.hid hbv
      have HBV := Lib.hid (HB2.out.trans (hbv.mono HB2.out.size))
      have d3 := hPz.cell 3
      have d5 := hPz.cell 5
      have d6 := hPz.cell 6
      simp only [List.getElem?_toArray, List.getElem?_cons_succ, List.getElem?_cons_zero] at d3 d5 d6
      clear hPz hbv u0 u1 u2 u3 u4 u5 u6 u7 u8
      have hin : InZ hs z := HNO.out z (by rw [HZZ.out]; exact List.getElem_mem hlt)
      have ho := hin.1
      have HO := Lib.hid ho
      have HOB := Lib.hid (decide_eq_true ho)
      clear ho
      by_cases hp : z.pd = 3
      case neg =>
        have hp2 : (z.pd == 3) = false := by simpa using hp
        go_wp2_with (first | (go_at_call 14; go_loud (refine (rdInC Ah ch hs z.ow _ (cells_keep HX.out HBV.out HBV.out.size) hhl).mono ?_; rintro e w3 ⟨rfl, hb3⟩; rw [HOB.out]; have HB3 := Lib.hid (HBV.out.trans (hb3.mono HBV.out.size)); have HBR3 := Lib.hid (HBRV.out.trans (hb3.mono HBRV.out.size)); have hP3 := HPZ.out.below hb3 HPZ.out.low; have e5 := hP3.cell 5; have e6 := hP3.cell 6; simp only [List.getElem?_toArray, List.getElem?_cons_succ, List.getElem?_cons_zero] at e5 e6; clear hb3 hP3)) | fail)
        exact ⟨⟨i + 1, hlt, by go_num, fun j hj hji => (by
          rcases Nat.lt_or_ge j i with h | h
          · exact HOK.out j hj h
          · obtain rfl : j = i := by omega
            rw [← HZZ.out]; exact ⟨HO.out, fun h => absurd h hp⟩), HBR3.out⟩, measZ hlt⟩
      have hp2 : (z.pd == 3) = true := by simpa using hp
      have hv := hin.2 hp
      have HV := Lib.hid hv
      have HMB := Lib.hid (decide_eq_true hv)
      clear hv
      go_wp2_with (first | (go_at_call 14; go_loud (refine (rdInC Ah ch hs z.mv _ (cells_keep HX.out HB3.out HB3.out.size) hhl).mono ?_; rintro e w4 ⟨rfl, hb4⟩; rw [HMB.out]; have HB4 := Lib.hid (HB3.out.trans (hb4.mono HB3.out.size)); have HBR4 := Lib.hid (HBR3.out.trans (hb4.mono HBR3.out.size)); clear hb4)) | (go_at_call 14; go_loud (refine (rdInC Ah ch hs z.ow _ (cells_keep HX.out HBV.out HBV.out.size) hhl).mono ?_; rintro e w3 ⟨rfl, hb3⟩; rw [HOB.out]; have HB3 := Lib.hid (HBV.out.trans (hb3.mono HBV.out.size)); have HBR3 := Lib.hid (HBRV.out.trans (hb3.mono HBRV.out.size)); have hP3 := HPZ.out.below hb3 HPZ.out.low; have e5 := hP3.cell 5; have e6 := hP3.cell 6; simp only [List.getElem?_toArray, List.getElem?_cons_succ, List.getElem?_cons_zero] at e5 e6; clear hb3 hP3)) | fail)
      exact ⟨⟨i + 1, hlt, by go_num, fun j hj hji => (by
        rcases Nat.lt_or_ge j i with h | h
        · exact HOK.out j hj h
        · obtain rfl : j = i := by omega
          rw [← HZZ.out]; exact ⟨HO.out, fun _ => HV.out⟩), HBR4.out⟩, measZ hlt⟩
    · have q5 : ¬ (i : Int) < (m.zs.length : Int) := by omega
      have hPr := HP.out.below HBW.out HP.out.low
      have p0 := hPr.cell 0
      have p1 := hPr.cell 1
      simp only [List.getElem?_toArray, List.getElem?_cons_succ, List.getElem?_cons_zero] at p0 p1
      clear hPr
      go_wp2_with (first
        | (go_at_call 15; go_loud (refine (rdOwnC A cp m _ (HZ.out.below HBW.out) hml hm0).mono ?_; rintro e w5 ⟨v5, rfl, ho5, hb5⟩; obtain ⟨g5, c5, ev5, hg5, hgl5, _, _⟩ := own_form ho5 hm0; subst ev5; have HO5 := Lib.hid ho5; have HB5 := Lib.hid (HBW.out.trans (hb5.mono HBW.out.size)); clear ho5 hb5))
        | (at_builtin; go_loud (refine wpList_append_row rfl (.tmp 45) (.tmp 46) 25 rfl w5.heap.size 3 i0 _ 1 8 Try.underlying25 hi0 hz0 hz1 hz2 rfl (by decide) (.slice (some ⟨w5.heap.size, 0, none⟩) 0 0) 0 [] rfl (owns_lit0 rfl (Nat.le_refl _)) _ Ah hs.length ch (intsV hs) rfl (cells_keep HX.out (HB5.out.alloc HB5.out.size _) (Nat.le_refl _)) (intsV_one hs) (by unfold maxLen; omega) (by omega) (by simp) ?_; intro v6 w6 ho6 hb6; obtain ⟨g6, c6, ev6, hg6, hgl6, _, _⟩ := own_form ho6 (by omega); subst ev6; have HO6 := Lib.hid ho6; have HB6 := Lib.hid hb6; clear ho6 hb6))
        | fail)
      refine bodyPost_ret (v := .tuple #[.pointer (some ⟨w6.heap.size, 0, none⟩), .int .i64 0]) (by simp [results, Try.results7, go_sem]) rfl ?_
      have h6 := HO6.out
      rw [Nat.zero_add, List.nil_append] at h6
      have hsr := HBW.out.size
      have hs1 : w.heap.size < (w.alloc (.cells #[.int .i64 m.ver, .int .i64 m.nxt, .slice A m.zs.length cp] 24)).heap.size := by simp
      have hs5 := HB5.out.size
      have hs6 := HB6.out.size
      have hs7 : (w5.alloc (.cells #[] 3)).heap.size = w5.heap.size + 1 := by simp
      have h5 := own_mono HO5.out (show w.heap.size ≤ wr.heap.size by omega)
      have hA6 : Below w5.heap.size w5 w6 := ((Below.refl _ _).alloc (Nat.le_refl _) _).trans HB6.out
      have hbA : Below w6.heap.size w6 (w6.alloc (.cells #[.int .i64 m.ver, .int .i64 m.nxt, .slice (some ⟨g5, 0, none⟩) m.zs.length c5, .slice (some ⟨g6, 0, none⟩) hs.length c6] 44)) := (Below.refl _ _).alloc (Nat.le_refl _) _
      have h5x := row_belowZ (row_belowZ h5 hA6) hbA
      have h6x := row_belowZ (own_mono h6 (show w.heap.size ≤ w5.heap.size by omega)) hbA
      have hall : Below w.heap.size w w6 := HB.out.trans ((HB5.out.trans (hA6.mono hs5)).mono HB.out.size)
      refine ⟨w6.heap.size, _, _, rfl, ⟨Whl.new rfl, h6x, h5x, fun g hg => ?_, fun g hg => ?_, fun g hg hg2 => ?_, by omega⟩, hall.trans (hbA.mono (by omega))⟩
      · have : g6 = g := by simpa [Value.ownBlock] using hg
        omega
      · have : g5 = g := by simpa [Value.ownBlock] using hg
        omega
      · have : g6 = g := by simpa [Value.ownBlock] using hg
        have : g5 = g := by simpa [Value.ownBlock] using hg2
        omega
/-- the maps between -/
theorem Run.states {hs : List Int} {m m2 : Mp} {cs : List Ch} (h : Run hs m cs m2) : ∃ ms : Nat → Mp, ms 0 = m ∧ ms cs.length = m2 ∧ ∀ i (hi : i < cs.length), Applies hs (ms i) cs[i] (ms (i + 1)) := by
  induction h with
  | nil => exact ⟨fun _ => m, rfl, rfl, fun i hi => absurd hi (Nat.not_lt_zero _)⟩
  | @snoc cs m1 m2 c h ha ih =>
    obtain ⟨ms, e0, e1, hs⟩ := ih
    refine ⟨fun i => if i ≤ cs.length then ms i else m2, by simpa using e0, (by simp only [List.length_append, List.length_singleton]; rw [if_neg (by omega)]), fun i hi => ?_⟩
    show Applies _ (if i ≤ cs.length then ms i else m2) _ (if i + 1 ≤ cs.length then ms (i + 1) else m2)
    simp only [List.length_append, List.length_singleton] at hi
    by_cases e : i < cs.length
    · rw [if_pos (by omega), if_pos (by omega), List.getElem_append_left e]
      exact hs i e
    · obtain rfl : i = cs.length := by omega
      rw [if_pos (Nat.le_refl _), if_neg (by omega), e1]
      simpa using ha
theorem MoveR.kinds {hs : List Int} {ps qs : List Pz} {cs ds : List Ch} {n : Nat} (h : MoveR hs ps cs qs ds n) (hc : ∀ c ∈ cs, c.kd ≤ 3) : ∀ c ∈ ds, c.kd ≤ 3 := by
  induction h with
  | nil => exact hc
  | snoc h hg hk ih =>
    intro c hcm
    rcases List.mem_append.1 hcm with hcm | hcm
    · exact ih c hcm
    · obtain rfl := List.mem_singleton.1 hcm
      exact (by decide : (3 : Int) ≤ 3)
theorem split_kinds (hot : Int) : ∀ (l : List Nat) (st : PS), (∀ c ∈ st.cs, c.kd ≤ 3) → ∀ c ∈ (l.foldl (splitStep hot) st).cs, c.kd ≤ 3
  | [], st, h => h
  | i :: l, st, h => by
    refine split_kinds hot l (splitStep hot st i) ?_
    unfold splitStep
    split
    · exact h
    · split
      · intro c hcm
        rcases List.mem_append.1 hcm with hcm | hcm
        · exact h c hcm
        · obtain rfl := List.mem_singleton.1 hcm
          exact (by decide : (1 : Int) ≤ 3)
      · exact h
theorem merge_kinds (cold : Int) : ∀ (l : List Nat) (st : MS), (∀ c ∈ st.cs, c.kd ≤ 3) → ∀ c ∈ (l.foldl (mergeStep cold) st).cs, c.kd ≤ 3
  | [], st, h => h
  | i :: l, st, h => by
    refine merge_kinds cold l (mergeStep cold st i) ?_
    unfold mergeStep
    split
    · split
      · intro c hcm
        rcases List.mem_append.1 hcm with hcm | hcm
        · exact h c hcm
        · obtain rfl := List.mem_singleton.1 hcm
          exact (by decide : (2 : Int) ≤ 3)
      · exact h
    · exact h
theorem plan_kinds {m : Mp} {hs : List Int} {l : List Lr} {hot cold : Int} {cs : List Ch} (h : PlanR m hs l hot cold cs) : ∀ c ∈ cs, c.kd ≤ 3 := by
  obtain ⟨π, st, qs, ds, n, _, hst, hmv, _, _, rfl⟩ := h.run
  have h1 : ∀ c ∈ st.cs, c.kd ≤ 3 := by rw [hst]; exact split_kinds hot π _ (fun c hc => by cases hc)
  exact merge_kinds cold _ ⟨qs, ds⟩ (hmv.kinds h1)
end Go.Proofs.Ytepjehcmiofehaa
