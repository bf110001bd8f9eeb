/- the document's Of, over arguments. -/
import Derived.Test.YtepjehcmiofehaaPlX
namespace Go.Proofs.Ytepjehcmiofehaa
open Go.RowKit
set_option linter.unusedVariables false
set_option linter.unusedSimpArgs false

/-- a zone's hosts are there -/
def InZ (hs : List Int) (z : Zn) : Prop := z.ow ∈ hs ∧ (z.pd = 3 → z.mv ∈ hs)
set_option maxHeartbeats 8000000 in
set_option maxRecDepth 10000 in
theorem rdOf0 (A : Option Addr) (cp : Nat) (m : Mp) (Ah : Option Addr) (ch : Nat) (hs : List Int) (w : World) (hz : RowZ w A cp m.zs) (hml : m.zs.length ≤ 1000) (hx : Cells w w.heap.size Ah hs.length ch 1 (intsV hs)) (hhl : hs.length ≤ 100000) (hno : ¬ (hostsB hs = true ∧ MayP m)) :
    Calls Try.prog 7 #[.agg #[.int .i64 m.ver, .int .i64 m.nxt, .slice A m.zs.length cp], .slice Ah hs.length ch] w fun e w' => (e = .returned (.tuple #[.pointer none, .int .i64 1]) ∨ e = .returned (.tuple #[.pointer none, .int .i64 3])) ∧ Below w.heap.size w w' := by
  have hB : Below w.heap.size w (w.alloc (.cells #[.int .i64 m.ver, .int .i64 m.nxt, .slice A m.zs.length cp] 24)) := (Below.refl _ _).alloc (Nat.le_refl _) _
  have HB := Lib.hid hB
  have HZ := Lib.hid (hz.below hB)
  have HX := Lib.hid (cells_keep hx hB hB.size)
  have HP := Lib.hid (show Whl (w.alloc (.cells #[.int .i64 m.ver, .int .i64 m.nxt, .slice A m.zs.length cp] 24)) w.heap.size 24 #[.int .i64 m.ver, .int .i64 m.nxt, .slice A m.zs.length cp] from Whl.new rfl)
  clear hz hx hB
  by_cases hh : hostsB hs = true
  case neg =>
    have HHB := Lib.hid (by simpa using hh : hostsB hs = false)
    clear hh hno
    go_enter Try.func7, Try.ntmps7
    go_wp2_with (first
      | (go_at_call 12; go_loud (refine (rdHostsC Ah ch hs _ HX.out hhl).mono ?_; rintro e w1 ⟨rfl, hb1⟩; have HB1 := Lib.hid hb1; rw [HHB.out]; have hP1 := HP.out.below hb1 HP.out.low; have x10 := hP1.cell 0; have x11 := hP1.cell 1; have x12 := hP1.cell 2; simp only [List.getElem?_toArray, List.getElem?_cons_succ, List.getElem?_cons_zero] at x10 x11 x12; clear hb1 hP1))
      | fail)
    refine bodyPost_ret (v := .tuple #[.pointer none, .int .i64 1]) (by simp [results, Try.results7, go_sem]) rfl ?_
    exact ⟨.inl rfl, HB.out.trans (HB1.out.mono HB.out.size)⟩
  have HN := Lib.hid (fun hm => hno ⟨hh, hm⟩ : ¬ MayP m)
  have HHB := Lib.hid hh
  clear hh hno
  go_enter Try.func7, Try.ntmps7
  go_wp2_with (first
    | (go_at_call 12; go_loud (refine (rdHostsC Ah ch hs _ HX.out hhl).mono ?_; rintro e w1 ⟨rfl, hb1⟩; have HB1 := Lib.hid hb1; rw [HHB.out]; have hP1 := HP.out.below hb1 HP.out.low; have x10 := hP1.cell 0; have x11 := hP1.cell 1; have x12 := hP1.cell 2; simp only [List.getElem?_toArray, List.getElem?_cons_succ, List.getElem?_cons_zero] at x10 x11 x12; clear hb1 hP1))
    | (go_at_call 11; go_loud (refine (rdMayC A cp m _ (HZ.out.below HB1.out) (by omega) (b := false) ⟨fun h => (by cases h), fun h => absurd h HN.out⟩).mono ?_; rintro e w2 ⟨rfl, hb2⟩; have HB2 := Lib.hid (HB1.out.trans (hb2.mono HB1.out.size)); have hP2 := HP.out.below HB2.out HP.out.low; have x20 := hP2.cell 0; have x21 := hP2.cell 1; have x22 := hP2.cell 2; simp only [List.getElem?_toArray, List.getElem?_cons_succ, List.getElem?_cons_zero] at x20 x21 x22; clear hb2 hP2))
    | fail)
  refine bodyPost_ret (v := .tuple #[.pointer none, .int .i64 3]) (by simp [results, Try.results7, go_sem]) rfl ?_
  exact ⟨.inr rfl, HB.out.trans (HB2.out.mono HB.out.size)⟩
set_option maxHeartbeats 8000000 in
set_option maxRecDepth 10000 in
theorem rdOfLoop (A : Option Addr) (cp : Nat) (m : Mp) (Ah : Option Addr) (ch : Nat) (hs : List Int) (w : World) (hz : RowZ w A cp m.zs) (hml : m.zs.length ≤ 1000) (hx : Cells w w.heap.size Ah hs.length ch 1 (intsV hs)) (hhl : hs.length ≤ 100000) (hh : hostsB hs = true) (hm : MayP m) (hno : ¬ ∀ z ∈ m.zs, InZ hs z) :
    Calls Try.prog 7 #[.agg #[.int .i64 m.ver, .int .i64 m.nxt, .slice A m.zs.length cp], .slice Ah hs.length ch] w fun e w' => e = .returned (.tuple #[.pointer none, .int .i64 3]) ∧ Below w.heap.size w w' := by
  have hB : Below w.heap.size w (w.alloc (.cells #[.int .i64 m.ver, .int .i64 m.nxt, .slice A m.zs.length cp] 24)) := (Below.refl _ _).alloc (Nat.le_refl _) _
  have HB := Lib.hid hB
  have HZ := Lib.hid (hz.below hB)
  have HX := Lib.hid (cells_keep hx hB hB.size)
  have HP := Lib.hid (show Whl (w.alloc (.cells #[.int .i64 m.ver, .int .i64 m.nxt, .slice A m.zs.length cp] 24)) w.heap.size 24 #[.int .i64 m.ver, .int .i64 m.nxt, .slice A m.zs.length cp] from Whl.new rfl)
  have HM := Lib.hid hm
  have HHB := Lib.hid hh
  have HNO := Lib.hid hno
  clear hz hx hB hm hh hno
  go_enter Try.func7, Try.ntmps7
  go_wp2_with (first
    | (go_at_call 12; go_loud (refine (rdHostsC Ah ch hs _ HX.out hhl).mono ?_; rintro e w1 ⟨rfl, hb1⟩; have HB1 := Lib.hid hb1; rw [HHB.out]; have hP1 := HP.out.below hb1 HP.out.low; have x10 := hP1.cell 0; have x11 := hP1.cell 1; have x12 := hP1.cell 2; simp only [List.getElem?_toArray, List.getElem?_cons_succ, List.getElem?_cons_zero] at x10 x11 x12; clear hb1 hP1))
    | (go_at_call 11; go_loud (refine (rdMayC A cp m _ (HZ.out.below HB1.out) (by omega) (b := true) ⟨fun _ => HM.out, fun _ => rfl⟩).mono ?_; rintro e w2 ⟨rfl, hb2⟩; have HB2 := Lib.hid (HB1.out.trans (hb2.mono HB1.out.size)); have hP2 := HP.out.below HB2.out HP.out.low; have x20 := hP2.cell 0; have x21 := hP2.cell 1; have x22 := hP2.cell 2; simp only [List.getElem?_toArray, List.getElem?_cons_succ, List.getElem?_cons_zero] at x20 x21 x22; clear hb2 hP2))
    | fail)
  go_loopw [6] (fun iv wr => ∃ i : Nat, i ≤ m.zs.length ∧ iv = .int .i64 i ∧ (∀ j (hj : j < m.zs.length), j < i → InZ hs m.zs[j]) ∧ Below w2.heap.size w2 wr) (fun iv _ => m.zs.length - (intOf iv).toNat)
  case atStart => exact ⟨0, Nat.zero_le _, rfl, fun j hj h => by omega, Below.refl _ _⟩
  case round =>
    obtain ⟨i, hil, rfl, hok, hBr⟩ := hrel
    have HOK := Lib.hid hok
    have HBR := Lib.hid hBr
    have HBW := Lib.hid (HB2.out.trans (hBr.mono HB2.out.size))
    have hPr := HP.out.below HBW.out HP.out.low
    have p2 := hPr.cell 2
    simp only [List.getElem?_toArray, List.getElem?_cons_succ, List.getElem?_cons_zero] at p2
    clear hBr hPr hok
    by_cases hlt : i < m.zs.length
    · have q5 : (i : Int) < (m.zs.length : Int) := by omega
      have hwi : IntKind.i64.wrap ((i : Int) + 1) = (i : Int) + 1 := by rw [IntKind.wrap_i64]; omega
      obtain ⟨z, hz⟩ : ∃ z, z = m.zs[i] := ⟨_, rfl⟩
      obtain ⟨ga, oa, rfl, hga, u0, u1, u2, u3, u4, u5, u6, u7, u8⟩ := zn_at (HZ.out.below HBW.out).cells hlt
      rw [← hz] at u0 u1 u2 u3 u4 u5 u6 u7 u8
      have HZZ := Lib.hid hz
      clear hz
      go_upto_region 9 with fail
      have hPz : Whl (wr.alloc (.cells #[.int .i64 z.id, .string z.fr, .string z.tt, .int .i64 z.ow, .int .i64 z.ep, .int .i64 z.pd, .int .i64 z.mv, .string z.ky, .int .i64 z.nw] 37)) wr.heap.size 37 #[.int .i64 z.id, .string z.fr, .string z.tt, .int .i64 z.ow, .int .i64 z.ep, .int .i64 z.pd, .int .i64 z.mv, .string z.ky, .int .i64 z.nw] := Whl.new rfl
      have hbv : Below w2.heap.size w2 (wr.alloc (.cells #[.int .i64 z.id, .string z.fr, .string z.tt, .int .i64 z.ow, .int .i64 z.ep, .int .i64 z.pd, .int .i64 z.mv, .string z.ky, .int .i64 z.nw] 37)) := HBR.out.alloc HBR.out.size _
      generalize (wr.alloc (.cells #[.int .i64 z.id, .string z.fr, .string z.tt, .int .i64 z.ow, .int .i64 z.ep, .int .i64 z.pd, .int .i64 z.mv, .string z.ky, .int .i64 z.nw] 37)) = V at *
      have HPZ := Lib.hid hPz
      have HBRV := Lib.hid hbv
      have HBV := Lib.hid (HB2.out.trans (hbv.mono HB2.out.size))
      have d3 := hPz.cell 3
      have d5 := hPz.cell 5
      have d6 := hPz.cell 6
      simp only [List.getElem?_toArray, List.getElem?_cons_succ, List.getElem?_cons_zero] at d3 d5 d6
      clear hPz hbv u0 u1 u2 u3 u4 u5 u6 u7 u8
      by_cases ho : z.ow ∈ hs
      case neg =>
        have HOB := Lib.hid (decide_eq_false ho)
        clear ho
        go_wp2_with (first | (go_at_call 14; go_loud (refine (rdInC Ah ch hs z.ow _ (cells_keep HX.out HBV.out HBV.out.size) hhl).mono ?_; rintro e w3 ⟨rfl, hb3⟩; rw [HOB.out]; have HB3 := Lib.hid (HBV.out.trans (hb3.mono HBV.out.size)); have HBR3 := Lib.hid (HBRV.out.trans (hb3.mono HBRV.out.size)); have hP3 := HPZ.out.below hb3 HPZ.out.low; have e5 := hP3.cell 5; have e6 := hP3.cell 6; simp only [List.getElem?_toArray, List.getElem?_cons_succ, List.getElem?_cons_zero] at e5 e6; clear hb3 hP3)) | fail)
        refine bodyPost_ret (v := .tuple #[.pointer none, .int .i64 3]) (by simp [results, Try.results7, go_sem]) rfl ⟨rfl, HB.out.trans (HB3.out.mono HB.out.size)⟩
      have HO := Lib.hid ho
      have HOB := Lib.hid (decide_eq_true ho)
      clear ho
      by_cases hp : z.pd = 3
      case neg =>
        have hp2 : (z.pd == 3) = false := by simpa using hp
        go_wp2_with (first | (go_at_call 14; go_loud (refine (rdInC Ah ch hs z.ow _ (cells_keep HX.out HBV.out HBV.out.size) hhl).mono ?_; rintro e w3 ⟨rfl, hb3⟩; rw [HOB.out]; have HB3 := Lib.hid (HBV.out.trans (hb3.mono HBV.out.size)); have HBR3 := Lib.hid (HBRV.out.trans (hb3.mono HBRV.out.size)); have hP3 := HPZ.out.below hb3 HPZ.out.low; have e5 := hP3.cell 5; have e6 := hP3.cell 6; simp only [List.getElem?_toArray, List.getElem?_cons_succ, List.getElem?_cons_zero] at e5 e6; clear hb3 hP3)) | fail)
        exact ⟨⟨i + 1, hlt, by go_num, fun j hj hji => (by
          rcases Nat.lt_or_ge j i with h | h
          · exact HOK.out j hj h
          · obtain rfl : j = i := by omega
            rw [← HZZ.out]; exact ⟨HO.out, fun h => absurd h hp⟩), HBR3.out⟩, measZ hlt⟩
      have hp2 : (z.pd == 3) = true := by simpa using hp
      by_cases hv : z.mv ∈ hs
      case neg =>
        have HMB := Lib.hid (decide_eq_false hv)
        clear hv
        go_wp2_with (first | (go_at_call 14; go_loud (refine (rdInC Ah ch hs z.mv _ (cells_keep HX.out HB3.out HB3.out.size) hhl).mono ?_; rintro e w4 ⟨rfl, hb4⟩; rw [HMB.out]; have HB4 := Lib.hid (HB3.out.trans (hb4.mono HB3.out.size)); have HBR4 := Lib.hid (HBR3.out.trans (hb4.mono HBR3.out.size)); clear hb4)) | (go_at_call 14; go_loud (refine (rdInC Ah ch hs z.ow _ (cells_keep HX.out HBV.out HBV.out.size) hhl).mono ?_; rintro e w3 ⟨rfl, hb3⟩; rw [HOB.out]; have HB3 := Lib.hid (HBV.out.trans (hb3.mono HBV.out.size)); have HBR3 := Lib.hid (HBRV.out.trans (hb3.mono HBRV.out.size)); have hP3 := HPZ.out.below hb3 HPZ.out.low; have e5 := hP3.cell 5; have e6 := hP3.cell 6; simp only [List.getElem?_toArray, List.getElem?_cons_succ, List.getElem?_cons_zero] at e5 e6; clear hb3 hP3)) | fail)
        refine bodyPost_ret (v := .tuple #[.pointer none, .int .i64 3]) (by simp [results, Try.results7, go_sem]) rfl ⟨rfl, HB.out.trans (HB4.out.mono HB.out.size)⟩
      have HV := Lib.hid hv
      have HMB := Lib.hid (decide_eq_true hv)
      clear hv
      go_wp2_with (first | (go_at_call 14; go_loud (refine (rdInC Ah ch hs z.mv _ (cells_keep HX.out HB3.out HB3.out.size) hhl).mono ?_; rintro e w4 ⟨rfl, hb4⟩; rw [HMB.out]; have HB4 := Lib.hid (HB3.out.trans (hb4.mono HB3.out.size)); have HBR4 := Lib.hid (HBR3.out.trans (hb4.mono HBR3.out.size)); clear hb4)) | (go_at_call 14; go_loud (refine (rdInC Ah ch hs z.ow _ (cells_keep HX.out HBV.out HBV.out.size) hhl).mono ?_; rintro e w3 ⟨rfl, hb3⟩; rw [HOB.out]; have HB3 := Lib.hid (HBV.out.trans (hb3.mono HBV.out.size)); have HBR3 := Lib.hid (HBRV.out.trans (hb3.mono HBRV.out.size)); have hP3 := HPZ.out.below hb3 HPZ.out.low; have e5 := hP3.cell 5; have e6 := hP3.cell 6; simp only [List.getElem?_toArray, List.getElem?_cons_succ, List.getElem?_cons_zero] at e5 e6; clear hb3 hP3)) | fail)
      exact ⟨⟨i + 1, hlt, by go_num, fun j hj hji => (by
        rcases Nat.lt_or_ge j i with h | h
        · exact HOK.out j hj h
        · obtain rfl : j = i := by omega
          rw [← HZZ.out]; exact ⟨HO.out, fun _ => HV.out⟩), HBR4.out⟩, measZ hlt⟩
    · exfalso
      exact HNO.out (fun z hz => by obtain ⟨j, hj, rfl⟩ := List.getElem_of_mem hz; exact HOK.out j hj (by omega))
end Go.Proofs.Ytepjehcmiofehaa
