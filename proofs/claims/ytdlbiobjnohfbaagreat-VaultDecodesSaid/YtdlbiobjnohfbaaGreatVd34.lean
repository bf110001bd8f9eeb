/- vault: List. -/
import Derived.Test.YtdlbiobjnohfbaaGreatVd31
namespace Go.Proofs.YtdlbiobjnohfbaaGreat
open Go.RowKit Go.ChangeMaps Go.MapKept
set_option linter.unusedVariables false
set_option linter.unusedSimpArgs false
theorem row_belowV {w w' : World} {base e size n : Nat} {v : Value} {xs : List Value} (h : w.ownsRow base e size v n xs) (hb : Below w.heap.size w w') : w'.ownsRow base e size v n xs := (Touch.of_below hb).own h (fun g hg hd => by have := (h.lt g hg).2; omega)
theorem own_baseV {w : World} {base base' e size n : Nat} {v : Value} {xs : List Value} (h : w.ownsRow base e size v n xs) (hb : base' ≤ base) : w.ownsRow base' e size v n xs := Go.World.ownsRow.mono h hb
set_option maxHeartbeats 1000000 in
theorem sortedPurses {W : World} {Bm : Nat} {p : Value} {l : Pm} (h : PuH W p l) (hn : PmOk l) (hlen : l.length ≤ 1000) (hB : Bm < W.heap.size) (hc : W.cell? ⟨Bm, 0, none⟩ = some p) :
    Calls Tryz.prog 70 #[.func (.func 102) #[] #[.pointer (some ⟨Bm, 0, none⟩)]] W fun e w' => ∃ v, e = .returned v ∧ w'.ownsRow W.heap.size 9 1 v l.length ((keysP l).map encB) ∧ Below W.heap.size W w' := by
  rcases h with ⟨rfl, rfl⟩ | ⟨m, rfl, hM⟩
  · have hseq : SeqGives Fence.wide 2 Tryz.prog 102 #[.pointer (some ⟨Bm, 0, none⟩)] encStr (fun ss => ss = []) 0 W :=
      AnyZ.keys_gives_nil (ρ := Tryz.keys30_ren) { Tryz.keys30 with } Fence.wide _ trivial rfl Bm W hB hc
    refine ((callsIn_wide (n := 5)).1 (AnyZ.sorted_in Tryz.sorted29 Fence.wide 5 trivial trivial trivial trivial rfl (by omega) (sortsAtV _) (enters_of Tryz.func101 (by kernel_rfl) rfl) 102 #[.pointer (some ⟨Bm, 0, none⟩)] trivial (enters_of Tryz.func102 (by kernel_rfl) rfl) _ _ (by unfold maxLen; omega) (by omega) _ hseq)).mono ?_
    rintro e w' ⟨v, ss, rfl, rfl, hrow, _, hbel⟩
    simp only [List.mergeSort_nil] at hrow
    exact ⟨v, rfl, hrow, hbel⟩
  · obtain ⟨es, cl, hb, he, hlt, hnd⟩ := hM
    have hkeys : es.toList.map (·.key) = (l.map (fun p => (⟨p.1.toArray⟩ : ByteArray))).map Value.string := by
      have := congrArg (List.map (fun q : Value × Value => q.1)) he
      simp only [List.map_map, vPm] at this
      rw [List.map_map]; exact this
    have hsz : es.size = l.length := by
      have := congrArg List.length he
      simp [vPm] at this
      exact this
    have hbytes : (l.map (fun p => (⟨p.1.toArray⟩ : ByteArray))).map (fun k => k.data.toList) = l.map (·.1) := by simp [Function.comp]
    obtain ⟨D0, hown, hp, hs0⟩ := owns_of sortedAtV.str hb hkeys hlt hnd (by
      have : ((l.map (fun p => (⟨p.1.toArray⟩ : ByteArray))).map (fun k => k.data.toList)).Nodup := by rw [hbytes]; exact hn.1
      exact (List.Pairwise.of_map (fun k : ByteArray => k.data.toList) (fun a b h e => h (by rw [e])) this)) (by rw [hsz]; omega) (by
      intro k hk
      obtain ⟨p, hp, rfl⟩ := List.mem_map.1 hk
      have := (hn.2 p hp).2.2.2
      show p.1.toArray.size ≤ 1000
      simp; omega)
    rw [hbytes] at hp
    refine (sortedAtV.some W Bm m es.size D0 _ hB hc hown (by rw [hs0, hsz]; omega)).mono ?_
    rintro e w' ⟨v, ss, rfl, hperm2, hrow, _, hbel⟩
    have hss : ss.Perm (l.map (·.1)) := hperm2.trans hp.symm
    rw [mergeSort_eq hss, show ss.length = l.length by rw [hss.length_eq]; simp] at hrow
    exact ⟨v, rfl, hrow, hbel⟩
set_option maxHeartbeats 8000000 in
set_option maxRecDepth 10000 in
theorem vtList (b : Nat) (p : Value) (v : Nat → Value) (l : Pm) (L : List Od) (last gone : Int) (w : World) (h : VtAt w b p v l L last gone) (hlen : l.length ≤ 1000) :
    Calls Tryz.prog 25 #[.pointer (some ⟨b, 0, none⟩)] w fun e w' => ∃ v1 v2, e = .returned (.tuple #[v1, v2, .int .i64 (gone + 1)]) ∧
      w'.ownsRow w.heap.size 85 5 v1 l.length (flatH (rowsP l)) ∧ w'.ownsRow w.heap.size 38 6 v2 L.length (flatO L) ∧ Below w.heap.size w w' := by
  obtain ⟨i0, hi, hz0, hz1, hz2⟩ := info_parts Tryz.infoHold
  obtain ⟨S, hv, hrs, hbk, hlen2, hlg, hgt⟩ := h
  have hz := hbk.zero
  obtain ⟨mm, rfl⟩ : ∃ mm, p = .map mm := by rcases hv.pu with ⟨rfl, _⟩ | ⟨m, rfl, _⟩ <;> exact ⟨_, rfl⟩
  have c0 := hv.cell
  have c10 := hv.cellG
  have hblow := hv.bk.whl.low
  have hplow := hv.pu.lows
  have HV := Lib.hid hv
  have HRS := Lib.hid hrs
  have HBK := Lib.hid hbk
  have HPL := Lib.hid hplow
  clear hv hrs hbk hplow
  go_enter Tryz.func25, Tryz.ntmps25
  go_wp2_with (first
    | (go_at_call 71; refine (keysBV _ _).mono ?_; rintro e w3 ⟨rfl, hk3, hb3⟩; have hs3 := hb3.size; have HK3 := Lib.hid hk3; have c01 := bkeep hb3 c0 hblow; have c11 := bkeep hb3 c10 hblow; clear hk3)
    | (go_at_call 70; refine (sortedPurses (p := .map mm) (HV.out.pu.keep (Touch.of_below hb3) (fun x hx hd => by have := HPL.out x hx; omega)) HV.out.ok hlen HK3.out.low (HK3.out.cell 0)).mono ?_; rintro e w4 ⟨v4, rfl, hrow4, hb4⟩; obtain ⟨A4, q4, rfl, hq1, hq2, hq3⟩ := own_slice hrow4; have hs4 := hb4.size; have HROW := Lib.hid hrow4; have c02 := bkeep hb4 c01 (by omega); have c12 := bkeep hb4 c11 (by omega); clear hrow4)
    | fail)
  have hB4 : Below w.heap.size w w4 := hb3.trans (hb4.mono hb3.size)
  have HB4 := Lib.hid hB4
  have hz4 := hB4.size
  clear hB4 hb3 hb4 c01 c11 c0 c10 HK3
  go_loopw [5, 7, 17] (fun t zv i wr => ∃ j : Nat, j ≤ l.length ∧ i = .int .i64 j ∧ wr.ownsRow w4.heap.size 85 5 t j (flatH ((rowsP l).take j)) ∧ Below w4.heap.size w4 wr) (fun _ _ i _ => l.length - (intOf i).toNat)
  case atStart => exact ⟨0, Nat.zero_le _, rfl, World.ownsRow_nil _ _ _ _, Below.refl _ _⟩
  case round =>
    obtain ⟨j, hj, rfl, hown, hB⟩ := hrel
    have hBs := hB.size
    by_cases hjl : j < l.length
    · have q1 : (j : Int) < (l.length : Int) := by omega
      cases A4 with
      | none => have := HROW.out.2; rcases this with ⟨_, h0⟩ | ⟨g0, _, _, e, _⟩; (exact absurd h0 (by omega)); injection e with e; cases e
      | some ad =>
      obtain ⟨gq, cq, e1, hq5, hq6, _, _⟩ := own_form HROW.out (by omega)
      simp only [Value.slice.injEq, Option.some.injEq, true_and] at e1
      obtain ⟨rfl, rfl⟩ := e1
      obtain ⟨ky, hky, hrw, hmem⟩ := rowsP_at hjl
      have hkey0 := (row_belowV HROW.out hB).cellAt j (by omega)
      rw [List.getElem?_map, hky, Option.map_some] at hkey0
      obtain ⟨s, hs⟩ : ∃ s : ByteArray, s = ⟨ky.toArray⟩ := ⟨_, rfl⟩
      have hsk : s.data.toList = ky := by rw [hs]
      have hes : encB ky = .string s := by rw [hs]; rfl
      rw [hes] at hkey0
      have hBw : Below w.heap.size w wr := HB4.out.trans (hB.mono hz4)
      have cb := bkeep hBw HV.out.cell hblow
      have lk := (HV.out.pu.keep (Touch.of_below hBw) (fun x hx hd => by have := HPL.out x hx; omega)).look s
      rw [hsk] at lk
      obtain ⟨r, hr⟩ : ∃ r, r = hasP l ky := ⟨_, rfl⟩
      rw [← hr] at lk hrw
      obtain ⟨r0, r1, r2, r3⟩ := r
      simp only [itV] at lk
      have htk : (rowsP l).take (j + 1) = (rowsP l).take j ++ [(ky, (r0, r1, r2, r3))] := by
        rw [List.take_add_one, hrw]; rfl
      have hrowv : flatH [(ky, (r0, r1, r2, r3))] = [.string s, .int .i64 r0, .int .i64 r1, .int .i64 r2, .int .i64 r3] := by
        rw [← hes]; rfl
      have HTK := Lib.hid htk
      have HRV := Lib.hid hrowv
      have HB := Lib.hid hB
      have HT : Hid ((wr.alloc (.cells #[.string s, .int .i64 r0, .int .i64 r1, .int .i64 r2, .int .i64 r3] 85)).ownsRow w4.heap.size 85 5 _ j (flatH ((rowsP l).take j))) := Lib.hid (row_belowV hown ((Below.refl _ _).alloc (Nat.le_refl _) _))
      have HC : Hid (Cells (wr.alloc (.cells #[.string s, .int .i64 r0, .int .i64 r1, .int .i64 r2, .int .i64 r3] 85)) (wr.heap.size + 1) (some ⟨wr.heap.size, 0, none⟩) 1 1 5 [.string s, .int .i64 r0, .int .i64 r1, .int .i64 r2, .int .i64 r3]) := Lib.hid ⟨rfl, (fun e => by cases e), fun k u hu => ⟨_, _, rfl, by omega, by rw [Nat.zero_add, (Whl.new rfl).cell]; simpa using hu⟩⟩
      clear hrw hmem hky hs hsk hes hr htk hrowv hown hBw hB
      go_wp2_with (first
        | (at_builtin; go_must (refine wpList_append_row rfl (.tmp 21) (.tmp 30) 56 rfl w4.heap.size 85 i0 (.agg #[.string ⟨#[]⟩, .int .i64 0, .int .i64 0, .int .i64 0, .int .i64 0]) 5 48 Tryz.underlying56 hi hz0 hz1 hz2 rfl (by decide) _ j (flatH ((rowsP l).take j)) rfl HT.out (wr.heap.size + 1) (some ⟨wr.heap.size, 0, none⟩) 1 1 [.string s, .int .i64 r0, .int .i64 r1, .int .i64 r2, .int .i64 r3] rfl HC.out (by intro u hu; simp at hu; rcases hu with rfl | rfl | rfl | rfl | rfl <;> rfl) (by unfold maxLen; omega) (by omega) (by simp; omega) ?_); intro v6 w6 hown6 hb6; have HO6 := Lib.hid hown6; have HB6 := Lib.hid hb6; clear hown6 hb6)
        | fail)
      have h6 := HO6.out
      refine ⟨⟨j + 1, by omega, by go_num, ?_, ?_⟩, by simp [intOf]; omega⟩
      · rw [HTK.out, flatH_app, HRV.out]; exact h6
      · exact (HB.out.alloc hBs _).trans HB6.out
    · obtain rfl : j = l.length := by omega
      rw [List.take_of_length_le (by rw [rowsP_len]; omega)] at hown
      have hBw : Below w.heap.size w wr := HB4.out.trans (hB.mono hz4)
      have hws := hBw.size
      have cg := bkeep hBw HV.out.cellG hblow
      have HBW := Lib.hid hBw
      have HOWN := Lib.hid hown
      have HV2 := Lib.hid (HV.out.keep (Touch.of_below hBw) (fun x hx hd => by have := HV.out.lows x hx; omega))
      have hw1 : IntKind.i64.wrap (gone + 1) = gone + 1 := by rw [IntKind.wrap_i64]; omega
      obtain ⟨At, kt, hvt, _, _, _⟩ := own_slice hown
      subst hvt
      clear hown hB hBw
      go_wp2_with fail
      refine wp_region_held_drew (S := (fun W => W.cell? ⟨b, 10, none⟩ = some (.int .i64 gone))) (by kernel_rfl) cg (fun hHeld => ?_)
      refine wpAnyH_take (i := 0) (oi := ⟨some 33, _, _, _, _, _⟩) (v := ?v0z) rfl (by kernel_rfl) (by kernel_rfl) (by kernel_rfl) (fun _ _ _ h => h) (Or.inl ⟨by rfl, ?y0z⟩) (by assumption) ?r0z
      case y0z => (intro w hSw; (try dsimp only at hSw); (try go_split_ands); go_simp); (try with_reducible rfl)
      case r0z =>
      (try simp only [Act.put, List.setIfInBounds_toArray, List.set_cons_zero, List.set_cons_succ])
      refine wpAnyH_take (i := 1) (oi := ⟨some 34, _, _, _, _, _⟩) (v := ?v1z) rfl (by kernel_rfl) (by kernel_rfl) (by kernel_rfl) (fun _ _ _ h => h) (Or.inl ⟨by rfl, ?y1z⟩) (by assumption) ?r1z
      case y1z => (intro w hSw; (try dsimp only at hSw); (try go_split_ands); go_simp); (try with_reducible rfl)
      case r1z =>
      (try simp only [Act.put, List.setIfInBounds_toArray, List.set_cons_zero, List.set_cons_succ])
      refine wpAnyH_take (i := 2) (oi := ⟨some 35, _, _, _, _, _⟩) (v := ?v2z) rfl (by kernel_rfl) (by kernel_rfl) (by kernel_rfl) (fun _ _ _ h => h) (Or.inl ⟨by rfl, ?y2z⟩) (by assumption) ?r2z
      case y2z => (intro w hSw; (try dsimp only at hSw); (try go_split_ands); go_simp); (try with_reducible rfl)
      case r2z =>
      (try simp only [Act.put, List.setIfInBounds_toArray, List.set_cons_zero, List.set_cons_succ])
      refine wpAnyH_take (i := 3) (oi := ⟨some 36, _, _, _, _, _⟩) (v := ?v3z) rfl (by kernel_rfl) (by kernel_rfl) (by kernel_rfl) (fun _ _ _ h => h) (Or.inl ⟨by rfl, ?y3z⟩) (by assumption) ?r3z
      case y3z => (intro w hSw; (try dsimp only at hSw); (try go_split_ands); go_simp); (try with_reducible rfl)
      case r3z =>
      (try simp only [Act.put, List.setIfInBounds_toArray, List.set_cons_zero, List.set_cons_succ])
      refine wpAnyH_take (i := 5) (oi := ⟨some 38, _, _, _, _, _⟩) (v := ?v5z) rfl (by kernel_rfl) (by kernel_rfl) (by kernel_rfl) (fun _ _ _ h => h) (Or.inl ⟨by rfl, ?y5z⟩) (by assumption) ?r5z
      case y5z => (intro w hSw; (try dsimp only at hSw); (try go_split_ands); go_simp); (try with_reducible rfl)
      case r5z =>
      (try simp only [Act.put, List.setIfInBounds_toArray, List.set_cons_zero, List.set_cons_succ])
      refine wpAnyH_take (i := 6) (oi := ⟨some 39, _, _, _, _, _⟩) (v := ?v6z) rfl (by kernel_rfl) (by kernel_rfl) (by kernel_rfl) (fun _ _ _ h => h) (Or.inl ⟨by rfl, ?y6z⟩) (by assumption) ?r6z
      case y6z => (intro w hSw; (try dsimp only at hSw); (try go_split_ands); go_simp); (try with_reducible rfl)
      case r6z =>
      (try simp only [Act.put, List.setIfInBounds_toArray, List.set_cons_zero, List.set_cons_succ])
      refine wpAnyH_take (i := 7) (oi := ⟨some 40, _, _, _, _, _⟩) (v := ?v7z) rfl (by kernel_rfl) (by kernel_rfl) (by kernel_rfl) (fun _ _ _ h => h) (Or.inl ⟨by rfl, ?y7z⟩) (by assumption) ?r7z
      case y7z => (intro w hSw; (try dsimp only at hSw); (try go_split_ands); go_simp); (try with_reducible rfl)
      case r7z =>
      (try simp only [Act.put, List.setIfInBounds_toArray, List.set_cons_zero, List.set_cons_succ])
      refine wpAnyH_take (i := 8) (oi := ⟨some 41, _, _, _, _, _⟩) (v := ?v8z) rfl (by kernel_rfl) (by kernel_rfl) (by kernel_rfl) (fun _ _ _ h => h) (Or.inl ⟨by rfl, ?y8z⟩) (by assumption) ?r8z
      case y8z => (intro w hSw; (try dsimp only at hSw); (try go_split_ands); go_simp); (try with_reducible rfl)
      case r8z =>
      (try simp only [Act.put, List.setIfInBounds_toArray, List.set_cons_zero, List.set_cons_succ])
      refine wpAnyH_take (i := 9) (oi := ⟨some 42, _, _, _, _, _⟩) (v := ?v9z) rfl (by kernel_rfl) (by kernel_rfl) (by kernel_rfl) (fun _ _ _ h => h) (Or.inl ⟨by rfl, ?y9z⟩) (by assumption) ?r9z
      case y9z => (intro w hSw; (try dsimp only at hSw); (try go_split_ands); go_simp); (try with_reducible rfl)
      case r9z =>
      (try simp only [Act.put, List.setIfInBounds_toArray, List.set_cons_zero, List.set_cons_succ])
      refine wpAnyH_ready (rs := [4]) (by kernel_rfl) (by simp) ?_
      refine AllReadyH.cons (o := ⟨some 37, _, _, _, _, _⟩) rfl (fun K hK => ?_) AllReadyH.nil
      go_simp
      refine (bkList (lay1 (.map mm) (.int .i64 gone)) b v S last L _ (HV2.out.bk.keep (D := fun _ => False) (Touch.refl _ _).drew' (fun _ _ h => h)) HRS.out HBK.out (by omega)).mono ?_
      rintro e w7 ⟨u, rfl, hu7, hb7⟩
      obtain ⟨Au, ku, rfl, _, _, _⟩ := own_slice hu7
      go_wp2_with fail
      have hh7 : Below wr.heap.size wr w7 := ((Below.refl wr.heap.size wr).drew).trans hb7
      have PX := bkeep hh7 cg (by omega)
      refine hK.out _ _ PX (fun hHeld => ?_)
      clear hK K
      (try simp only [Act.put, List.setIfInBounds_toArray, List.set_cons_zero, List.set_cons_succ])
      refine wpAnyH_take (i := 10) (oi := ⟨some 2, _, _, _, _, _⟩) (v := ?v10z) rfl (by kernel_rfl) (by kernel_rfl) (by kernel_rfl) (fun _ _ _ h => h) (Or.inl ⟨by rfl, ?y10z⟩) (by assumption) ?r10z
      case y10z => (intro w hSw; (try dsimp only at hSw); (try go_split_ands); go_simp); (try with_reducible rfl)
      case r10z =>
      (try simp only [Act.put, List.setIfInBounds_toArray, List.set_cons_zero, List.set_cons_succ])
      refine wpAnyH_take (i := 11) (oi := ⟨some 3, _, _, _, _, _⟩) (v := ?v11z) rfl (by kernel_rfl) (by kernel_rfl) (by kernel_rfl) (fun _ _ _ h => h) (Or.inl ⟨by rfl, ?y11z⟩) (by assumption) ?r11z
      case y11z => (intro w hSw; (try dsimp only at hSw); (try go_split_ands); go_simp); (try with_reducible rfl)
      case r11z =>
      (try simp only [Act.put, List.setIfInBounds_toArray, List.set_cons_zero, List.set_cons_succ])
      refine wpAnyH_take (i := 12) (oi := ⟨some 4, _, _, _, _, _⟩) (v := ?v12z) rfl (by kernel_rfl) (by kernel_rfl) (by kernel_rfl) (fun _ _ _ h => h) (Or.inl ⟨by rfl, ?y12z⟩) (by assumption) ?r12z
      case y12z => (intro w hSw; (try dsimp only at hSw); (try go_split_ands); go_simp); (try with_reducible rfl)
      case r12z =>
      (try simp only [Act.put, List.setIfInBounds_toArray, List.set_cons_zero, List.set_cons_succ])
      refine wpAnyH_done (by kernel_rfl) ?_ _
      go_wp2_with fail
      refine bodyPost_ret (v := .tuple #[.slice At l.length kt, .slice Au L.length ku, .int .i64 (gone + 1)]) (by simp [results, Tryz.results25, go_sem]) rfl ⟨_, _, rfl, own_baseV (row_belowV HOWN.out hh7) hz4, own_baseV hu7 hws, HBW.out.trans (hh7.mono hws)⟩
end Go.Proofs.YtdlbiobjnohfbaaGreat
