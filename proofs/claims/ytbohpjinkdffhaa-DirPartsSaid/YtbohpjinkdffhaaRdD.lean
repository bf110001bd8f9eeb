/- The document's directory: splits, zone. -/
import Derived.Test.YtbohpjinkdffhaaRdC
namespace Go.Proofs.Ytbohpjinkdffhaa
open Go.RowKit
set_option linter.unusedVariables false
set_option linter.unusedSimpArgs false

set_option maxHeartbeats 8000000 in
set_option maxRecDepth 10000 in
theorem rdSplits (B i : Nat) (zv : Value) (m : Mp) (w : World) (h : w.ownsRow B 39 9 zv m.zs.length (flatZ m.zs)) (hi : i < m.zs.length) (hm : MayI m) (hp : m.zs[i].pd = 1) :
    Calls Try.prog 87 #[.agg #[.int .i64 m.ver, .int .i64 m.nxt, zv], .int .i64 i] w fun e w' => e = .returned (.bool true) ∧ Below w.heap.size w w' := by
  have HR := Lib.hid h
  have hl : m.zs.length ≤ 16 := by have := hm.okn.sum; omega
  obtain ⟨gz, cc, hzv, _, hgz, hnc, hcm⟩ := own_form h (by omega)
  subst hzv
  have q3 : (i : Int) < (m.zs.length : Int) := by omega
  obtain ⟨z, hz⟩ : ∃ z, z = m.zs[i] := ⟨_, rfl⟩
  obtain ⟨v0, v1, v2, v3, v4, v5, v6, v7, v8⟩ := rowZ_at h hi
  rw [← hz] at v0 v1 v2 v3 v4 v5 v6 v7 v8
  have hlone : cutB z.fr z.tt z.ky = true ∧ z.mv = 0 ∧ 1 ≤ z.nw ∧ z.nw < m.nxt := by
    obtain ⟨_, t2, _⟩ := hm.til.part i hi (by omega)
    rw [hz]
    rcases t2.cases with h | h | h
    · omega
    · omega
    · exact ⟨h.2.1, h.2.2.1, h.2.2.2, hm.inv.low _ (nw_mem (List.getElem_mem hi) hp)⟩
  obtain ⟨e1, e2, e3, e4⟩ := hlone
  rw [e2] at v6
  have hat : ∀ k2 : Int, At m.zs z.nw m.zs.length k2 → k2 = -1 := by
    intro k2 h2
    rcases h2 with ⟨h, _⟩ | ⟨j, rfl, hj, hjd, _⟩
    · exact h
    · exact absurd hjd (by rw [hz]; exact idsA_new hm.inv.nodup (List.getElem_mem hi) hp (List.getElem_mem hj))
  have HAT := Lib.hid hat
  have HCT := Lib.hid e1
  have hoth : ∀ k (hk : k < m.zs.length), k ≠ i → m.zs[k].pd = 1 → m.zs[k].nw ≠ z.nw := by
    intro k hk hne hp1 he
    rw [hz] at he
    exact hne (nw_at hm.inv.nodup hk hi hp1 hp he)
  have HOT := Lib.hid hoth
  have n0 : ¬ (z.nw < 1) := by omega
  have n1 : ¬ (m.nxt ≤ z.nw) := by omega
  clear h hz hat hm hp e1 e2 hoth
  go_enter Try.func87, Try.ntmps87
  go_wp2_with (first
    | (go_at_call 40; refine (rdFind B _ m.zs z.nw _ (row_belowZ HR.out (by have h9 := HB3.out; ((repeat (first | (with_reducible exact Below.refl _ _) | (with_reducible assumption) | ((with_reducible refine b_set ?_ ?_); · (first | omega | (simp; done) | (simp; omega))) | ((with_reducible refine b_alloc ?_ ?_); · (first | omega | (simp; done) | (simp; omega))) | (with_reducible refine Below.drew ?_) | (with_reducible refine b_drewN ?_) | ((with_reducible refine b_call (by assumption) ?_ ?_); · (first | omega | (simp; done) | (simp; omega))))); done))) (by omega)).mono ?_; rintro e w4 ⟨k2, rfl, hk2, hb4⟩; obtain rfl := HAT.out k2 hk2; have HW4 := Lib.hid (Below.trans (show Below w.heap.size w _ by have h9 := HB3.out; ((repeat (first | (with_reducible exact Below.refl _ _) | (with_reducible assumption) | ((with_reducible refine b_set ?_ ?_); · (first | omega | (simp; done) | (simp; omega))) | ((with_reducible refine b_alloc ?_ ?_); · (first | omega | (simp; done) | (simp; omega))) | (with_reducible refine Below.drew ?_) | (with_reducible refine b_drewN ?_) | ((with_reducible refine b_call (by assumption) ?_ ?_); · (first | omega | (simp; done) | (simp; omega))))); done)) (hb4.mono (by have h9 := HB3.out.size; (first | omega | (simp; done) | (simp; omega))))); have hP4 := Whl.below ((hP3.alloc _).alloc _) hb4 (by have := hP3.low; (first | omega | (simp; done) | (simp; omega))); have hQ4 := Whl.below ((hQ3.alloc _).alloc _) hb4 (by have := hQ3.low; (first | omega | (simp; done) | (simp; omega))); clear hb4 hk2)
    | (go_at_call 73; refine (refCut1 _ _ _ _ HCT.out).mono ?_; rintro e w3 ⟨rfl, hb3⟩; have HB3 := Lib.hid (Below.trans (show Below w.heap.size w _ by ((repeat (first | (with_reducible exact Below.refl _ _) | (with_reducible assumption) | ((with_reducible refine b_set ?_ ?_); · (first | omega | (simp; done) | (simp; omega))) | ((with_reducible refine b_alloc ?_ ?_); · (first | omega | (simp; done) | (simp; omega))) | (with_reducible refine Below.drew ?_) | (with_reducible refine b_drewN ?_) | ((with_reducible refine b_call (by assumption) ?_ ?_); · (first | omega | (simp; done) | (simp; omega))))); done)) (hb3.mono (by (first | omega | (simp; done) | (simp; omega))))); have hP3 := (show Whl _ w.heap.size 33 #[.int .i64 m.ver, .int .i64 m.nxt, .slice (some ⟨gz, 0, none⟩) m.zs.length cc] from (Whl.new rfl).alloc _).below hb3 (by (first | omega | (simp; done) | (simp; omega))); have hQ3 := (show Whl _ (w.heap.size + 1) 39 #[.int .i64 z.id, .string z.fr, .string z.tt, .int .i64 z.ow, .int .i64 z.ep, .int .i64 z.pd, .int .i64 0, .string z.ky, .int .i64 z.nw] from Whl.new (by (first | omega | (simp; done) | (simp; omega)))).below hb3 (by (first | omega | (simp; done) | (simp; omega))); obtain ⟨hc3, hf3⟩ := bcell hb3; have hs3 := hb3.size; (try simp at hs3); clear hb3)
    | fail)
  have x2 := hP4.cell 2
  have y7 := hQ4.cell 8
  simp only [List.getElem?_toArray, List.getElem?_cons_succ, List.getElem?_cons_zero] at x2 y7
  have hxl := hP4.low
  have hyl := hQ4.low
  clear hc3 hf3 hs3 hP3 hQ3 hP4 hQ4 v0 v1 v2 v3 v4 v5 v6 v7 v8
  go_loopw [9] (fun kv wk => ∃ k : Nat, k ≤ m.zs.length ∧ kv = .int .i64 k ∧ Below w4.heap.size w4 wk) (fun kv _ => m.zs.length - (intOf kv).toNat)
  case atStart => exact ⟨0, Nat.zero_le _, rfl, Below.refl _ _⟩
  case round =>
    obtain ⟨k, hkl, rfl, hBk⟩ := hrel
    have HBK := Lib.hid hBk
    have x2 := bkeep hBk x2 hxl
    have y7 := bkeep hBk y7 hyl
    have hr := row_belowZ HR.out (HW4.out.trans (hBk.mono HW4.out.size))
    have hgr : gz < wr.heap.size := Nat.lt_of_lt_of_le (Nat.lt_of_lt_of_le hgz HW4.out.size) hBk.size
    clear hBk
    by_cases hkt : k < m.zs.length
    · have q5 : (k : Int) < (m.zs.length : Int) := by omega
      obtain ⟨y, hy⟩ : ∃ z, z = m.zs[k] := ⟨_, rfl⟩
      obtain ⟨_, _, _, _, _, u5, _, _, u8⟩ := rowZ_at hr hkt
      rw [← hy] at u5 u8
      have HY := Lib.hid hy
      clear hy hr
      by_cases hki : k = i
      · have hn1 : ((k : Int) != (i : Int)) = false := by simp; omega
        clear hki
        go_wp2_with fail
        go_quiet (fail)
        go_wp2_with fail
        exact ⟨⟨k + 1, hkt, by go_num, b_drewN HBK.out⟩, measZ hkt⟩
      · have hn1 : ((k : Int) != (i : Int)) = true := by simp; omega
        by_cases hp1 : y.pd = 1
        · have hne : y.nw ≠ z.nw := by rw [HY.out]; exact HOT.out k hkt hki (by rw [← HY.out]; exact hp1)
          have hn2 : (y.nw == z.nw) = false := by simpa using hne
          clear hne
          go_wp2_with fail
          go_quiet (fail)
          go_wp2_with fail
          exact ⟨⟨k + 1, hkt, by go_num, b_drewN HBK.out⟩, measZ hkt⟩
        · have hn2 : (y.pd == 1) = false := by simpa using hp1
          go_wp2_with fail
          go_quiet (fail)
          go_wp2_with fail
          exact ⟨⟨k + 1, hkt, by go_num, b_drewN HBK.out⟩, measZ hkt⟩
    · obtain rfl : m.zs.length = k := by omega
      go_wp2_with fail
      go_ret
      exact ⟨rfl, HW4.out.trans (HBK.out.mono HW4.out.size)⟩
set_option maxHeartbeats 8000000 in
set_option maxRecDepth 10000 in
theorem rdZone (B i : Nat) (zv : Value) (m : Mp) (w : World) (h : w.ownsRow B 39 9 zv m.zs.length (flatZ m.zs)) (hi : i < m.zs.length) (hm : MayI m) (hs : Small m 1000000) :
    Calls Try.prog 59 #[.agg #[.int .i64 m.ver, .int .i64 m.nxt, zv], .int .i64 i] w fun e w' => e = .returned (.bool true) ∧ Below w.heap.size w w' := by
  have HR := Lib.hid h
  have hl : m.zs.length ≤ 16 := by have := hm.okn.sum; omega
  obtain ⟨gz, cc, hzv, _, hgz, hnc, hcm⟩ := own_form h (by omega)
  subst hzv
  have q3 : (i : Int) < (m.zs.length : Int) := by omega
  obtain ⟨z, hz⟩ : ∃ z, z = m.zs[i] := ⟨_, rfl⟩
  obtain ⟨v0, v1, v2, v3, v4, v5, v6, v7, v8⟩ := rowZ_at h hi
  rw [← hz] at v0 v1 v2 v3 v4 v5 v6 v7 v8
  have hoz := hm.okz m.zs[i] (List.getElem_mem hi)
  rw [← hz] at hoz
  have n1 := hoz.id
  have n2 : z.id < m.nxt := by rw [hz]; exact hm.inv.low _ (id_mem (List.getElem_mem hi))
  obtain ⟨n3, n4⟩ := hoz.ow
  have n5 := hoz.ep
  have n6 : z.ep ≤ 1000000 := by rw [hz]; exact hs.ep _ (List.getElem_mem hi)
  have n7 : z.ep ≤ 1099511627776 := by omega
  have hat : ∀ k2 : Int, At m.zs z.id m.zs.length k2 → k2 = (i : Int) := by
    intro k2 h2
    rcases h2 with ⟨_, hno⟩ | ⟨j, rfl, hj, hjd, _⟩
    · exact absurd (by rw [hz]) (hno i hi hi)
    · have := ids_at hm.inv.nodup hj hi (by rw [hjd, hz])
      omega
  have HAT := Lib.hid hat
  have HM := Lib.hid hm
  have HZ := Lib.hid hz
  have hii : ((i : Int) != (i : Int)) = false := by simp
  clear h hat hoz hs hm
  have hlen : ∀ r ∈ ([] : List Int), True := fun _ _ => trivial
  by_cases p2 : z.pd = 2
  case pos =>
    have hmate := HM.out.til.mate i hi (by rw [← hz]; exact p2)
    have HMT : Hid (∀ W, Below w.heap.size w W → Calls Try.prog 88 #[.slice (some ⟨gz, 0, none⟩) m.zs.length cc, .int .i64 i] W fun e w' => e = .returned (.bool true) ∧ Below W.heap.size W w') := Lib.hid (fun W hW => by
      rcases hmate with ⟨h2, hp, _, _⟩ | ⟨k, hk, hp⟩
      · exact rdMergesA B i (i + 1) _ m.zs W (row_belowZ HR.out hW) (by omega) hi h2 rfl HM.out.inv.nodup hp
      · exact rdMergesB B i k _ m.zs W (row_belowZ HR.out hW) (by omega) hi (by omega) hk.symm HM.out.inv.nodup hp)
    have HP2 := Lib.hid p2
    rw [p2] at v5
    clear hmate hz p2
    go_enter Try.func59, Try.ntmps59
    go_wp2_with (first
      | (go_at_call 88; refine (HMT.out _ HW4.out).mono ?_; rintro e w5 ⟨rfl, hb5⟩; have HB5 := Lib.hid hb5; clear hb5)
      | (go_at_call 40; refine (rdFind B _ m.zs z.id _ (row_belowZ HR.out (by ((repeat (first | (with_reducible exact Below.refl _ _) | (with_reducible assumption) | ((with_reducible refine b_set ?_ ?_); · (first | omega | (simp; done) | (simp; omega))) | ((with_reducible refine b_alloc ?_ ?_); · (first | omega | (simp; done) | (simp; omega))) | (with_reducible refine Below.drew ?_) | (with_reducible refine b_drewN ?_) | ((with_reducible refine b_call (by assumption) ?_ ?_); · (first | omega | (simp; done) | (simp; omega))))); done))) (by omega)).mono ?_; rintro e w4 ⟨k2, rfl, hk2, hb4⟩; obtain rfl := HAT.out k2 hk2; have HW4 := Lib.hid (Below.trans (show Below w.heap.size w _ by ((repeat (first | (with_reducible exact Below.refl _ _) | (with_reducible assumption) | ((with_reducible refine b_set ?_ ?_); · (first | omega | (simp; done) | (simp; omega))) | ((with_reducible refine b_alloc ?_ ?_); · (first | omega | (simp; done) | (simp; omega))) | (with_reducible refine Below.drew ?_) | (with_reducible refine b_drewN ?_) | ((with_reducible refine b_call (by assumption) ?_ ?_); · (first | omega | (simp; done) | (simp; omega))))); done)) (hb4.mono (by (first | omega | (simp; done) | (simp; omega))))); obtain ⟨hc4, hf4⟩ := bcell hb4; have hs4 := hb4.size; (try simp at hs4); clear hb4 hk2)
      | fail)
    go_ret
    exact ⟨rfl, HW4.out.trans (HB5.out.mono HW4.out.size)⟩
  obtain ⟨_, t2, _⟩ := HM.out.til.part i hi (by rw [← hz]; exact p2)
  rw [← hz] at t2
  rcases t2.cases with ⟨g1, g2, g3, g4⟩ | ⟨g1, ⟨g2, g3⟩, g4, g5, g6⟩ | ⟨g1, g2, g3, g4⟩
  · have g3 := nil_size.1 g3
    rw [g1] at v5
    rw [g2] at v6
    rw [g3] at v7
    rw [g4] at v8
    clear hz t2 p2 g1 g2 g3 g4
    go_enter Try.func59, Try.ntmps59
    go_wp2_with (first
      | (go_at_call 40; refine (rdFind B _ m.zs z.id _ (row_belowZ HR.out (by ((repeat (first | (with_reducible exact Below.refl _ _) | (with_reducible assumption) | ((with_reducible refine b_set ?_ ?_); · (first | omega | (simp; done) | (simp; omega))) | ((with_reducible refine b_alloc ?_ ?_); · (first | omega | (simp; done) | (simp; omega))) | (with_reducible refine Below.drew ?_) | (with_reducible refine b_drewN ?_) | ((with_reducible refine b_call (by assumption) ?_ ?_); · (first | omega | (simp; done) | (simp; omega))))); done))) (by omega)).mono ?_; rintro e w4 ⟨k2, rfl, hk2, hb4⟩; obtain rfl := HAT.out k2 hk2; have HW4 := Lib.hid (Below.trans (show Below w.heap.size w _ by ((repeat (first | (with_reducible exact Below.refl _ _) | (with_reducible assumption) | ((with_reducible refine b_set ?_ ?_); · (first | omega | (simp; done) | (simp; omega))) | ((with_reducible refine b_alloc ?_ ?_); · (first | omega | (simp; done) | (simp; omega))) | (with_reducible refine Below.drew ?_) | (with_reducible refine b_drewN ?_) | ((with_reducible refine b_call (by assumption) ?_ ?_); · (first | omega | (simp; done) | (simp; omega))))); done)) (hb4.mono (by (first | omega | (simp; done) | (simp; omega))))); obtain ⟨hc4, hf4⟩ := bcell hb4; have hs4 := hb4.size; (try simp at hs4); clear hb4 hk2)
      | fail)
    go_ret
    exact ⟨rfl, HW4.out⟩
  · have g5 := nil_size.1 g5
    have hne : (z.mv != z.ow) = true := by simpa using g4
    rw [g1] at v5
    rw [g5] at v7
    rw [g6] at v8
    clear hz t2 p2 g1 g4 g5 g6
    go_enter Try.func59, Try.ntmps59
    go_wp2_with (first
      | (go_at_call 40; refine (rdFind B _ m.zs z.id _ (row_belowZ HR.out (by ((repeat (first | (with_reducible exact Below.refl _ _) | (with_reducible assumption) | ((with_reducible refine b_set ?_ ?_); · (first | omega | (simp; done) | (simp; omega))) | ((with_reducible refine b_alloc ?_ ?_); · (first | omega | (simp; done) | (simp; omega))) | (with_reducible refine Below.drew ?_) | (with_reducible refine b_drewN ?_) | ((with_reducible refine b_call (by assumption) ?_ ?_); · (first | omega | (simp; done) | (simp; omega))))); done))) (by omega)).mono ?_; rintro e w4 ⟨k2, rfl, hk2, hb4⟩; obtain rfl := HAT.out k2 hk2; have HW4 := Lib.hid (Below.trans (show Below w.heap.size w _ by ((repeat (first | (with_reducible exact Below.refl _ _) | (with_reducible assumption) | ((with_reducible refine b_set ?_ ?_); · (first | omega | (simp; done) | (simp; omega))) | ((with_reducible refine b_alloc ?_ ?_); · (first | omega | (simp; done) | (simp; omega))) | (with_reducible refine Below.drew ?_) | (with_reducible refine b_drewN ?_) | ((with_reducible refine b_call (by assumption) ?_ ?_); · (first | omega | (simp; done) | (simp; omega))))); done)) (hb4.mono (by (first | omega | (simp; done) | (simp; omega))))); obtain ⟨hc4, hf4⟩ := bcell hb4; have hs4 := hb4.size; (try simp at hs4); clear hb4 hk2)
      | fail)
    go_ret
    exact ⟨rfl, HW4.out⟩
  · have HSP : Hid (∀ W, Below w.heap.size w W → Calls Try.prog 87 #[.agg #[.int .i64 m.ver, .int .i64 m.nxt, .slice (some ⟨gz, 0, none⟩) m.zs.length cc], .int .i64 i] W fun e w' => e = .returned (.bool true) ∧ Below W.heap.size W w') := Lib.hid (fun W hW => rdSplits B i _ m W (row_belowZ HR.out hW) hi HM.out (by rw [← HZ.out]; exact g1))
    rw [g1] at v5
    clear hz t2 p2 g1 g2 g3 g4
    go_enter Try.func59, Try.ntmps59
    go_wp2_with (first
      | (go_at_call 87; refine (HSP.out _ HW4.out).mono ?_; rintro e w5 ⟨rfl, hb5⟩; have HB5 := Lib.hid hb5; clear hb5)
      | (go_at_call 40; refine (rdFind B _ m.zs z.id _ (row_belowZ HR.out (by ((repeat (first | (with_reducible exact Below.refl _ _) | (with_reducible assumption) | ((with_reducible refine b_set ?_ ?_); · (first | omega | (simp; done) | (simp; omega))) | ((with_reducible refine b_alloc ?_ ?_); · (first | omega | (simp; done) | (simp; omega))) | (with_reducible refine Below.drew ?_) | (with_reducible refine b_drewN ?_) | ((with_reducible refine b_call (by assumption) ?_ ?_); · (first | omega | (simp; done) | (simp; omega))))); done))) (by omega)).mono ?_; rintro e w4 ⟨k2, rfl, hk2, hb4⟩; obtain rfl := HAT.out k2 hk2; have HW4 := Lib.hid (Below.trans (show Below w.heap.size w _ by ((repeat (first | (with_reducible exact Below.refl _ _) | (with_reducible assumption) | ((with_reducible refine b_set ?_ ?_); · (first | omega | (simp; done) | (simp; omega))) | ((with_reducible refine b_alloc ?_ ?_); · (first | omega | (simp; done) | (simp; omega))) | (with_reducible refine Below.drew ?_) | (with_reducible refine b_drewN ?_) | ((with_reducible refine b_call (by assumption) ?_ ?_); · (first | omega | (simp; done) | (simp; omega))))); done)) (hb4.mono (by (first | omega | (simp; done) | (simp; omega))))); obtain ⟨hc4, hf4⟩ := bcell hb4; have hs4 := hb4.size; (try simp at hs4); clear hb4 hk2)
      | fail)
    go_ret
    exact ⟨rfl, HW4.out.trans (HB5.out.mono HW4.out.size)⟩
end Go.Proofs.Ytbohpjinkdffhaa
