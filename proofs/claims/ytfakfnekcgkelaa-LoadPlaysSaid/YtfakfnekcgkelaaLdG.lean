/- Table of a load. -/
import Derived.Test.YtfakfnekcgkelaaLdF
import Derived.Deep.Onto
namespace Go.Proofs.Ytfakfnekcgkelaa
open Go.RowKit Go.MapKept
set_option linter.unusedVariables false
set_option linter.unusedSimpArgs false

theorem Try.infoRow : (Try.prog.info? 43).map (fun i => (i.zero, i.size, i.bytes)) = some (some (.agg #[.int .i64 0, .int .i64 0, .string ⟨#[]⟩]), 3, 32) := by kernel_rfl
abbrev Rw := Int × Int × By
def rowV (r : Rw) : List Value := [.int .i64 r.1, .int .i64 r.2.1, encStr r.2.2]
def flatR (l : List Rw) : List Value := l.flatMap rowV
theorem flatR_app (a b : List Rw) : flatR (a ++ b) = flatR a ++ flatR b := by simp [flatR]
theorem flatR_len (l : List Rw) : (flatR l).length = l.length * 3 := by
  induction l with
  | nil => rfl
  | cons a r ih =>
    have e : (flatR (a :: r)).length = 3 + (flatR r).length := by simp only [flatR, List.flatMap_cons, List.length_append]; rfl
    rw [e, ih, List.length_cons]; omega
theorem flatR_at : ∀ (l : List Rw) (j : Nat) (h : j < l.length), (flatR l)[j * 3]? = some (.int .i64 l[j].1) ∧ (flatR l)[j * 3 + 1]? = some (.int .i64 l[j].2.1) ∧ (flatR l)[j * 3 + 2]? = some (encStr l[j].2.2)
  | [], j, h => by cases h
  | a :: r, 0, h => by simp [flatR, rowV]
  | a :: r, j + 1, h => by
    have := flatR_at r j (by simpa using h)
    have e : (j + 1) * 3 = j * 3 + 3 := by omega
    simp only [flatR, List.flatMap_cons, rowV, List.getElem_cons_succ] at this ⊢
    rw [e]
    exact this
set_option maxHeartbeats 4000000 in
set_option maxRecDepth 10000 in
theorem tableNil (b : Nat) (w : World) (h : Whl w b 47 #[.map none]) :
    Calls Try.prog 14 #[.pointer (some ⟨b, 0, none⟩)] w fun e w' => e = .returned (.slice none 0 0) ∧ Below w.heap.size w w' := by
  have c0 := h.cell 0
  simp only [List.getElem?_toArray, List.getElem?_cons_zero] at c0
  have hlow := h.low
  clear h
  go_enter Try.func14, Try.ntmps14
  go_wp2_with (first
    | (go_at_call 21; refine (keysI _ _).mono ?_; rintro e w3 ⟨rfl, hk3, hb3⟩; have hs3 := hb3.size; have HK3 := Lib.hid hk3; clear hk3)
    | (go_at_call 20; refine (sortedNilAt20 25 (by simp) _ _ _ HK3.out).mono ?_; rintro e w4 ⟨rfl, hb4⟩; have hs4 := hb4.size)
    | fail)
  go_loopw [3, 5, 15] (fun t zv i wr => t = .slice none 0 0 ∧ i = .int .i64 0 ∧ Below w.heap.size w wr) (fun _ _ i _ => 0)
  case atStart => exact ⟨rfl, rfl, (hb3.trans (hb4.mono hb3.size))⟩
  case round =>
    obtain ⟨rfl, rfl, hB⟩ := hrel
    go_wp2_with fail
    go_ret
    exact ⟨rfl, hB⟩
set_option maxHeartbeats 4000000 in
set_option maxRecDepth 10000 in
theorem tableSome (b g : Nat) (E : Ez) (K : Ks) (w : World) (h : Whl w b 47 #[.map (some g)]) (hm : LdM w b g E) (hr : Rep (zEz E) K) (hlen : K.length ≤ 1000) (hwf : ∀ p ∈ K, (Lit.int .i64 p.1).wf = true) :
    Calls Try.prog 14 #[.pointer (some ⟨b, 0, none⟩)] w fun e w' => ∃ v, e = .returned v ∧ w'.ownsRow w.heap.size 43 3 v K.length (flatR (tabK K)) ∧ Below w.heap.size w w' := by
  obtain ⟨i0, hi, hz0, hz1, hz2⟩ := info_parts Try.infoRow
  have c0 := h.cell 0
  simp only [List.getElem?_toArray, List.getElem?_cons_zero] at c0
  have hlow := h.low
  have hglow := hm.top.lt
  have HL := Lib.hid h
  have HM := Lib.hid hm
  have HR := Lib.hid hr
  have HWF := Lib.hid hwf
  clear h hm hr hwf
  go_enter Try.func14, Try.ntmps14
  go_wp2_with (first
    | (go_at_call 21; refine (keysI _ _).mono ?_; rintro e w3 ⟨rfl, hk3, hb3⟩; have hs3 := hb3.size; have HK3 := Lib.hid hk3; have c01 := bkeep hb3 c0 hlow; clear hk3)
    | (go_at_call 20; refine (sortedIntsOf sortedAt25 (HM.out.top.block (hb3.block _ hglow)) HR.out hlen HWF.out HK3.out.low (HK3.out.cell 0)).mono ?_; rintro e w4 ⟨v4, rfl, hrow4, hb4⟩; obtain ⟨A4, q4, rfl, hq1, hq2, hq3⟩ := own_slice hrow4; have hs4 := hb4.size; have HROW := Lib.hid hrow4; have c02 := bkeep hb4 c01 (by omega); clear hrow4)
    | fail)
  have hB4 : Below w.heap.size w w4 := hb3.trans (hb4.mono hb3.size)
  have HB4 := Lib.hid hB4
  have hz4 := hB4.size
  clear hB4 hb3 hb4 c01 c02 c0 HK3
  go_loopw [3, 5, 15] (fun t zv i wr => ∃ j : Nat, j ≤ K.length ∧ i = .int .i64 j ∧ wr.ownsRow w4.heap.size 43 3 t j (flatR ((tabK K).take j)) ∧ Below w4.heap.size w4 wr) (fun _ _ i _ => K.length - (intOf i).toNat)
  case atStart => exact ⟨0, Nat.zero_le _, rfl, World.ownsRow_nil _ _ _ _, Below.refl _ _⟩
  case round =>
    obtain ⟨j, hj, rfl, hown, hB⟩ := hrel
    have hBs := hB.size
    by_cases hjl : j < K.length
    · have q1 : (j : Int) < (K.length : Int) := by omega
      cases A4 with
      | none => have := HROW.out.2; rcases this with ⟨_, h0⟩ | ⟨g0, _, _, e, _⟩; (exact absurd h0 (by omega)); injection e with e; cases e
      | some ad =>
      obtain ⟨gq, cq, e1, hq5, hq6, _, _⟩ := own_form HROW.out (by omega)
      simp only [Value.slice.injEq, Option.some.injEq, true_and] at e1
      obtain ⟨rfl, rfl⟩ := e1
      have hkey0 := (row_belowL HROW.out hB).cellAt j (by omega)
      rw [List.getElem?_map, List.getElem?_map, List.getElem?_eq_getElem hjl] at hkey0
      simp only [Option.map_some] at hkey0
      have hmem : K[j] ∈ K := List.getElem_mem hjl
      have hgk : get1 K[j].1 K = some K[j].2 := get1_of_mem (HR.out.2.1.sorted.nodup sI) hmem
      have hok := (HR.out.2.1.each _ hmem).2
      have hrel0 := HR.out.2.2 K[j].1
      rw [hgk, get_zEz] at hrel0
      obtain ⟨z, hz⟩ : ∃ z, z = K[j].1 := ⟨_, rfl⟩
      obtain ⟨m, hmm⟩ : ∃ m, m = K[j].2 := ⟨_, rfl⟩
      have hrow : (tabK K)[j]? = some (z, sumM m, midM (sumM m) 0 m) := by
        unfold tabK
        rw [List.getElem?_map, List.getElem?_eq_getElem hjl]
        simp [rowK, hz, hmm]
      rw [← hz] at hkey0 hrel0
      rw [← hmm] at hok hrel0
      cases hge : get1 z E with
      | none => rw [hge] at hrel0; exact absurd hrel0 id
      | some p =>
      obtain ⟨kb, l⟩ := p
      rw [hge] at hrel0
      simp only [Option.map_some] at hrel0
      have hBw : Below w.heap.size w wr := HB4.out.trans (hB.mono hz4)
      have hem := HM.out.each _ (get1_mem hge)
      have HEM : Hid (MapOf encStr wr kb (vKm l)) := Lib.hid (hem.block (hBw.block _ hem.lt))
      have htop := HM.out.top.block (w' := wr) (hBw.block _ hglow)
      have lk := htop.look (P := Try.prog) kI Try.underlying45 (zM0 wr) z
      rw [get_vEz, hge] at lk
      simp only [encI, Option.map_some, Option.getD_some] at lk
      have cb : wr.cell? ⟨b, 0, none⟩ = some (.map (some g)) := bkeep hBw (HL.out.cell 0) hlow
      obtain ⟨hs, hhs⟩ : ∃ x, x = sumM m := ⟨_, rfl⟩
      obtain ⟨md, hmd⟩ : ∃ x, x = midM (sumM m) 0 m := ⟨_, rfl⟩
      rw [← hmd, ← hhs] at hrow
      have htk : (tabK K).take (j + 1) = (tabK K).take j ++ [(z, hs, md)] := by
        rw [List.take_add_one, hrow]; rfl
      have HTK := Lib.hid htk
      have HOK := Lib.hid hok
      have HRL := Lib.hid hrel0
      have HOWN := Lib.hid hown
      have HHS := Lib.hid hhs
      have HMD := Lib.hid hmd
      clear hz hmm hgk hmem hrow hge hem htop hhs hmd htk hok hrel0 hown
      go_wp2_with (first
        | (go_at_call 22; refine (rowOfCall z kb l m _ HEM.out HRL.out.1 HRL.out.2 HOK.out).mono ?_; rintro e w5 ⟨rfl, hb5⟩; rw [← HMD.out, ← HHS.out]; have hs5 := hb5.size; have HT : Hid ((w5.alloc (.cells #[.int .i64 z, .int .i64 hs, encStr md] 43)).ownsRow w4.heap.size 43 3 _ j (flatR ((tabK K).take j))) := Lib.hid (row_belowL HOWN.out (hb5.alloc hs5 _)); have HC : Hid (Cells (w5.alloc (.cells #[.int .i64 z, .int .i64 hs, encStr md] 43)) (w5.heap.size + 1) (some ⟨w5.heap.size, 0, none⟩) 1 1 3 [.int .i64 z, .int .i64 hs, encStr md]) := Lib.hid ⟨rfl, (fun e => by cases e), fun k u hu => ⟨_, _, rfl, by omega, by rw [Nat.zero_add, (Whl.new rfl).cell]; simpa using hu⟩⟩; have HB5 := Lib.hid hb5; clear hb5)
        | (at_builtin; go_must (refine wpList_append_row rfl (.tmp 19) (.tmp 28) 34 rfl w4.heap.size 43 i0 (.agg #[.int .i64 0, .int .i64 0, .string ⟨#[]⟩]) 3 32 Try.underlying34 hi hz0 hz1 hz2 rfl (by decide) _ j (flatR ((tabK K).take j)) rfl HT.out (w5.heap.size + 1) (some ⟨w5.heap.size, 0, none⟩) 1 1 [.int .i64 z, .int .i64 hs, encStr md] rfl HC.out (by intro u hu; simp at hu; rcases hu with rfl | rfl | rfl <;> rfl) (by unfold maxLen; omega) (by omega) (by simp; omega) ?_); intro v6 w6 hown6 hb6; have HO6 := Lib.hid hown6; have HB6 := Lib.hid hb6; clear hown6 hb6)
        | fail)
      have h6 := HO6.out
      refine ⟨⟨j + 1, by omega, by go_num, ?_, ?_⟩, by simp [intOf]; omega⟩
      · rw [HTK.out, flatR_app]; exact h6
      · exact (Below.trans hB ((HB5.out.alloc hs5 _).mono hBs)).trans HB6.out
    · obtain rfl : j = K.length := by omega
      go_wp2_with fail
      go_ret
      rw [List.take_of_length_le (by simp [tabK])] at hown
      exact ⟨_, rfl, Go.World.ownsRow.mono hown hz4, HB4.out.trans (hB.mono hz4)⟩
theorem tableLoad (b : Nat) (fp : List Nat) (K : Ks) (w : World) (h : LdH w b fp K) (hlen : K.length ≤ 1000) (hwf : ∀ p ∈ K, (Lit.int .i64 p.1).wf = true) :
    Calls Try.prog 14 #[.pointer (some ⟨b, 0, none⟩)] w fun e w' => ∃ v, e = .returned v ∧ w'.ownsRow w.heap.size 43 3 v K.length (flatR (tabK K)) ∧ Below w.heap.size w w' := by
  rcases h with ⟨h, rfl, rfl⟩ | ⟨g, E, h, rfl, hm, hr⟩
  · refine (tableNil b w h).mono ?_
    rintro e w' ⟨rfl, hb⟩
    exact ⟨_, rfl, World.ownsRow_nil _ _ _ _, hb⟩
  · exact tableSome b g E K w h hm hr hlen hwf
end Go.Proofs.Ytfakfnekcgkelaa
