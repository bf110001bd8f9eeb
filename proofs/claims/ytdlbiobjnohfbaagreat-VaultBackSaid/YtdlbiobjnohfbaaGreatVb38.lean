/- The document's vault: Cancel. vault: List. -/
import Derived.Test.YtdlbiobjnohfbaaGreatVb37
namespace Go.Proofs.YtdlbiobjnohfbaaGreat
open Go.RowKit Go.ChangeMaps Go.MapKept
set_option linter.unusedVariables false
set_option linter.unusedSimpArgs false
theorem comp_cell {h : It4} {k : Nat} (hk : k < 4) : (#[.int .i64 h.1, .int .i64 h.2.1, .int .i64 h.2.2.1, .int .i64 h.2.2.2] : Array Value)[k]? = some (.int .i64 (compI h k)) := by
 rcases (show k = 0 ∨ k = 1 ∨ k = 2 ∨ k = 3 by omega) with rfl | rfl | rfl | rfl <;> rfl
theorem gains_ok {l : Pm} (h : PmOk l) {s : ByteArray} (hs : KeyOk s.data.toList) {i : It4} (hi : ∀ j, 0 ≤ compI i j) : ∀ k, k ≤ 4 → PmOk (gainsP l s i k)
 | 0, _ => h
 | k + 1, hk => (gains_ok h hs hi k (by omega)).gainV hs (by omega) (hi k)
def RCancelQ (B d x : Nat) (u u2 : Value) (l : Pm) (L : List Od) (last nx : Int) (who : ByteArray) (id : Int) (w : World) (e : Ending) (w' : World) : Prop :=
 ((∀ z ∈ L, ¬ (z.id = id ∧ z.who = who)) ∧ e = .returned (.int .i64 7) ∧ Below w.heap.size w w') ∨
 (∃ z ∈ L, z.id = id ∧ z.who = who ∧ e = .returned (.int .i64 0) ∧ ∃ (u' u2' : Value), RvH w' B d x u' u2' (rowsP (gainsP l who (heldP z) 4)) (goneO id L) last nx ∧ Touch (Fr d x u u2) w w' ∧ (∀ k, Fr d x u' u2' k → Fr d x u u2 k ∨ w.heap.size ≤ k))
set_option maxHeartbeats 8000000 in
set_option maxRecDepth 10000 in
theorem refVCancel (B d x : Nat) (u u2 : Value) (l : Pm) (L : List Od) (last nx : Int) (who : ByteArray) (id : Int) (Nm : List By) (w : World) (h : RvH w B d x u u2 (rowsP l) L last nx) (hl : PmOk l) (hk : Bk L last) (h32 : L.length ≤ 32) (hnm : Nms Nm l L) (hNl : Nm.length ≤ 900) :
  Calls Tryz.prog 22 #[.pointer (some ⟨d, 0, none⟩), .string who, .int .i64 id] w fun e w' => RCancelQ B d x u u2 l L last nx who id w e w' := by
 obtain ⟨A2, cu2, rfl, _, _, _⟩ := own_slice h.bk.row
 have hdl := h.whl.low
 have hxl := h.bk.blk.low
 have k1 := h.whl.cell 1
 have k3 := h.bk.blk.cell 0
 simp only [List.getElem?_toArray, List.getElem?_cons_succ, List.getElem?_cons_zero] at k1 k3
 have HH := Lib.hid h
 have HPM := Lib.hid hl
 have HBK := Lib.hid hk
 have HNM := Lib.hid hnm
 clear h hl hk hnm
 go_enter Tryz.func22, Tryz.ntmps22
 go_wp2_with fail
 go_loopw [7] (fun iv wr => ∃ i : Nat, i ≤ L.length ∧ iv = .int .i64 i ∧ (∀ j (hj : j < L.length), j < i → ¬ (L[j].id = id ∧ L[j].who = who)) ∧ Below w.heap.size w wr) (fun iv _ => L.length - (intOf iv).toNat)
 case atStart => exact ⟨0, Nat.zero_le _, rfl, fun j hj hji => by omega, Below.refl _ _⟩
 case round =>
  obtain ⟨i, hil, rfl, hno, hBr⟩ := hrel
  have HNO := Lib.hid hno
  have HBR := Lib.hid hBr
  have hsr := hBr.size
  have c1 := bkeep hBr k1 hdl
  have c3 := bkeep hBr k3 hxl
  clear hno
  by_cases hlt : i < L.length
  ·
   have q3 : (i : Int) < (L.length : Int) := by omega
   have hor := row_belowR HH.out.bk.row hBr
   obtain ⟨gx, cx, e5, _, hgx, _, _⟩ := own_form hor (by omega)
   injection e5 with e5 e6 e7
   subst e5 e7
   obtain ⟨r0, r1, r2, r3, r4, r5⟩ := flatO_at L i hlt
   obtain ⟨z, hz⟩ : ∃ z, z = L[i] := ⟨_, rfl⟩
   rw [← hz] at r0 r1 r2 r3 r4 r5
   have y0 := (hor.cellAt (i * 6) (ixO0 hlt)).trans r0
   have y1 := (hor.cellAt (i * 6 + 1) (ixO hlt 1 (by decide))).trans r1
   have HZL : Hid (z ∈ L) := Lib.hid (by rw [hz]; exact List.getElem_mem hlt)
   have HST : Hid (¬ (z.id = id ∧ z.who = who) → ∀ j (hj : j < L.length), j < i + 1 → ¬ (L[j].id = id ∧ L[j].who = who)) := Lib.hid (fun hn j hj hji => by
    by_cases e : j = i
    · subst e; rw [← hz]; exact hn
    · exact HNO.out j hj (by omega))
   clear r0 r1 r2 r3 r4 r5 hz hor hBr
   by_cases hid : z.id = id
   ·
    by_cases hw : z.who = who
    ·
     subst hid
     subst hw
     have HOZ := Lib.hid (HBK.out.ok z HZL.out)
     have HKEY := Lib.hid (keyOk_of HOZ.out.who)
     have HHR := Lib.hid (HH.out.below HBR.out)
     clear HST HNO
     go_wp2_with fail
     clear y0 y1
     refine (refCancel B x (.slice (some ⟨gx, 0, none⟩) L.length cu2) L last z.id _ HHR.out.bk HBK.out (by omega)).mono ?_
     rintro e w5 ⟨z', c, u5, rfl, hz', hb5, ht5, hf5⟩
     obtain ⟨hc0, hzz⟩ : c = 0 ∧ z' = z := by
      rcases hz' with ⟨h1, h2, h3⟩ | ⟨h1, _⟩
      · exact ⟨h3, HBK.out.ids.inj h1 HZL.out h2⟩
      · exact absurd rfl (h1 z HZL.out)
     subst hc0
     subst hzz
     have HH5 := Lib.hid (HHR.out.booked hb5 ht5 hf5)
     have HT05 : Hid (Touch (Fr d x u (.slice (some ⟨gx, 0, none⟩) L.length cu2)) w w5) := Lib.hid ((show Touch (Fr d x u (.slice (some ⟨gx, 0, none⟩) L.length cu2)) w wr from (Touch.of_below HBR.out).mono'' (fun k hk hd => by omega)).trans ht5 (fun k _ e => .inr e))
     have HF5 := Lib.hid hf5
     have hs5 := ht5.size
     clear hz' hb5 ht5 hf5
     unfold odA
     go_wp2_with (first
      | (go_at_call 48; go_loud (refine (refHolds z' _ HOZ.out).mono ?_; rintro e w6 ⟨he, hb6⟩; unfold itV at he; subst he; have hs6 := hb6.size; simp at hs6; have HB6 := Lib.hid (((Below.refl _ _).alloc (Nat.le_refl _) _).trans (hb6.mono (show w5.heap.size ≤ _ by simp))); clear hb6))
      | fail)
     obtain ⟨W7, hW7⟩ : ∃ W7, W7 = w6.alloc (.cells #[.int .i64 (heldP z').1, .int .i64 (heldP z').2.1, .int .i64 (heldP z').2.2.1, .int .i64 (heldP z').2.2.2] 36) := ⟨_, rfl⟩
     have hs7 : W7.heap.size = w6.heap.size + 1 := by rw [hW7]; simp
     have HP7 : Hid (Whl W7 w6.heap.size 36 #[.int .i64 (heldP z').1, .int .i64 (heldP z').2.1, .int .i64 (heldP z').2.2.1, .int .i64 (heldP z').2.2.2]) := Lib.hid (by rw [hW7]; exact Whl.new rfl)
     have HB7 : Hid (Below w5.heap.size w5 W7) := Lib.hid (by rw [hW7]; exact HB6.out.alloc (by omega) _)
     have HH7 := Lib.hid (HH5.out.below HB7.out)
     rw [← hW7]
     have hcmp := fun k => held_comp HOZ.out k
     have HCM := Lib.hid hcmp
     clear hW7 hcmp
     go_loopw [11] (fun kv wq => ∃ (k : Nat) (uj : Value), k ≤ 4 ∧ kv = .int .i64 k ∧ RvH wq B d x uj u5 (rowsP (gainsP l z'.who (heldP z') k)) (goneO z'.id L) last nx ∧ Touch (fun j => j = d) W7 wq ∧ (∀ g, uj.ownBlock = some g → u.ownBlock = some g ∨ W7.heap.size ≤ g)) (fun kv _ => 4 - (intOf kv).toNat)
     case atStart => exact ⟨0, u, by omega, rfl, HH7.out, Touch.refl _ _, fun g hg => .inl hg⟩
     case round =>
      obtain ⟨k, uj, hk4, rfl, hHj, hTj, hGj⟩ := hrel
      have HHJ := Lib.hid hHj
      have HTJ := Lib.hid hTj
      have HGJ := Lib.hid hGj
      have hsj := hTj.size
      by_cases hk : k < 4
      ·
       have p1 : (k : Int) < 4 := by omega
       have P8 := HP7.out.keepT hTj (fun e => by omega)
       have y0 := (P8.cell k).trans (comp_cell hk)
       obtain ⟨ck, hck⟩ : ∃ c, c = compI (heldP z') k := ⟨_, rfl⟩
       have HCK := Lib.hid hck
       have HPJ : Hid (PmOk (gainsP l z'.who (heldP z') k)) := Lib.hid (gains_ok HPM.out HKEY.out (fun j => (HCM.out j).1) k (by omega))
       have HLJ : Hid ((gainsP l z'.who (heldP z') k).length ≤ 1000) := Lib.hid (by
        have := pm_len HPJ.out (N := z'.who.data.toList :: Nm) (gains_names List.mem_cons_self (fun p hp => List.mem_cons_of_mem _ (HNM.out.1 p hp)) (heldP z') k)
        rw [List.length_cons] at this; omega)
       rw [← hck] at y0
       clear P8 hck hHj hTj hGj
       go_wp2_with (first
        | (go_at_call 50; go_loud (refine (refPaysP B d x uj u5 (gainsP l z'.who (heldP z') k) (goneO z'.id L) last nx z'.who k (by omega) ck (by have := HCM.out k; rw [HCK.out]; omega) _ HHJ.out HPJ.out HLJ.out).mono ?_; rintro e w9 ⟨rfl, hq9⟩; obtain ⟨u9, h9, t9, g9⟩ := hq9; have HH9 := Lib.hid h9; have HT9 := Lib.hid t9; have HG9 := Lib.hid g9; clear h9 t9 g9))
        | fail)
       refine ⟨⟨k + 1, u9, by omega, by go_num, ?_, HTJ.out.trans HT9.out (fun _ _ h => h), fun g hg => ?_⟩, by simp [intOf]; omega⟩
       ·
        have h9 := HH9.out
        rw [HCK.out] at h9
        exact h9
       ·
        have := HG9.out g hg
        exact .inr (by omega)
      ·
       obtain rfl : k = 4 := by omega
       clear hHj hTj hGj
       go_wp2_with fail
       refine bodyPost_ret (v := .int .i64 0) (by simp [results, Tryz.results22, go_sem]) rfl (.inr ⟨z', HZL.out, rfl, rfl, rfl, uj, u5, HHJ.out, ?_, fun k hk => ?_⟩)
       ·
        have t1 := HT05.out
        have t2 : Touch (Fr d x u (.slice (some ⟨gx, 0, none⟩) L.length cu2)) w W7 := t1.trans (Touch.of_below HB7.out) (fun k hk e => by omega)
        exact t2.trans HTJ.out (fun k _ e => .inl (.inl e))
       ·
        rcases hk with (e | e) | e
        · exact .inl (.inl (.inl e))
        ·
         rcases HGJ.out k e with e | e
         · exact .inl (.inl (.inr e))
         ·
          have := HB7.out.size
          exact .inr (by omega)
        ·
         rcases HF5.out k e with e | e
         · exact .inl (.inr e)
         · exact .inr (by omega)
    ·
     have q5 : (z.who.toList == who.toList) = false := by rw [beq_eq_false_iff_ne]; exact fun h => hw (toL_inj h)
     have HN2 := Lib.hid (HST.out (fun h => hw h.2))
     clear HST hw
     go_wp2_with fail
     exact ⟨⟨i + 1, hlt, by go_num, HN2.out, HBR.out⟩, measI hlt⟩
   ·
    have HN2 := Lib.hid (HST.out (fun h => hid h.1))
    clear HST
    go_wp2_with fail
    exact ⟨⟨i + 1, hlt, by go_num, HN2.out, HBR.out⟩, measI hlt⟩
  ·
   obtain rfl : i = L.length := by omega
   have HNN : Hid (∀ z ∈ L, ¬ (z.id = id ∧ z.who = who)) := Lib.hid (fun z hz => by
    obtain ⟨j, hj, rfl⟩ := List.getElem_of_mem hz
    exact HNO.out j hj hj)
   clear hBr
   go_wp2_with fail
   refine bodyPost_ret (v := .int .i64 7) (by simp [results, Tryz.results22, go_sem]) rfl (.inl ⟨HNN.out, rfl, HBR.out⟩)
theorem row_belowV {w w' : World} {base e size n : Nat} {v : Value} {xs : List Value} (h : w.ownsRow base e size v n xs) (hb : Below w.heap.size w w') : w'.ownsRow base e size v n xs := (Touch.of_below hb).own h (fun g hg hd => by have := (h.lt g hg).2; omega)
theorem own_baseV {w : World} {base base' e size n : Nat} {v : Value} {xs : List Value} (h : w.ownsRow base e size v n xs) (hb : base' ≤ base) : w.ownsRow base' e size v n xs := Go.World.ownsRow.mono h hb
set_option maxHeartbeats 1000000 in
theorem sortedPurses {W : World} {Bm : Nat} {p : Value} {l : Pm} (h : PuH W p l) (hn : PmOk l) (hlen : l.length ≤ 1000) (hB : Bm < W.heap.size) (hc : W.cell? ⟨Bm, 0, none⟩ = some p) :
  Calls Tryz.prog 70 #[.func (.func 102) #[] #[.pointer (some ⟨Bm, 0, none⟩)]] W fun e w' => ∃ v, e = .returned v ∧ w'.ownsRow W.heap.size 9 1 v l.length ((keysP l).map encB) ∧ Below W.heap.size W w' := by
 rcases h with ⟨rfl, rfl⟩ | ⟨m, rfl, hM⟩
 ·
  have hseq : SeqGives Fence.wide 2 Tryz.prog 102 #[.pointer (some ⟨Bm, 0, none⟩)] encStr (fun ss => ss = []) 0 W :=
   AnyZ.keys_gives_nil (ρ := Tryz.keys30_ren) { Tryz.keys30 with } Fence.wide _ trivial rfl Bm W hB hc
  refine ((callsIn_wide (n := 5)).1 (AnyZ.sorted_in Tryz.sorted29 Fence.wide 5 trivial trivial trivial trivial rfl (by omega) (sortsAtV _) (enters_of Tryz.func101 (by kernel_rfl) rfl) 102 #[.pointer (some ⟨Bm, 0, none⟩)] trivial (enters_of Tryz.func102 (by kernel_rfl) rfl) _ _ (by unfold maxLen; omega) (by omega) _ hseq)).mono ?_
  rintro e w' ⟨v, ss, rfl, rfl, hrow, _, hbel⟩
  simp only [List.mergeSort_nil] at hrow
  exact ⟨v, rfl, hrow, hbel⟩
 ·
  obtain ⟨es, cl, hb, he, hlt, hnd⟩ := hM
  have hkeys : es.toList.map (·.key) = (l.map (fun p => (⟨p.1.toArray⟩ : ByteArray))).map Value.string := by
   have := congrArg (List.map (fun q : Value × Value => q.1)) he
   simp only [List.map_map, vPm] at this
   rw [List.map_map]; exact this
  have hsz : es.size = l.length := by
   have := congrArg List.length he
   simp [vPm] at this
   exact this
  have hbytes : (l.map (fun p => (⟨p.1.toArray⟩ : ByteArray))).map (fun k => k.data.toList) = l.map (·.1) := by simp [Function.comp]
  obtain ⟨D0, hown, hp, hs0⟩ := owns_of sortedAtV.str hb hkeys hlt hnd (by
   have : ((l.map (fun p => (⟨p.1.toArray⟩ : ByteArray))).map (fun k => k.data.toList)).Nodup := by rw [hbytes]; exact hn.1
   exact (List.Pairwise.of_map (fun k : ByteArray => k.data.toList) (fun a b h e => h (by rw [e])) this)) (by rw [hsz]; omega) (by
   intro k hk
   obtain ⟨p, hp, rfl⟩ := List.mem_map.1 hk
   have := (hn.2 p hp).2.2.2
   show p.1.toArray.size ≤ 1000
   simp; omega)
  rw [hbytes] at hp
  refine (sortedAtV.some W Bm m es.size D0 _ hB hc hown (by rw [hs0, hsz]; omega)).mono ?_
  rintro e w' ⟨v, ss, rfl, hperm2, hrow, _, hbel⟩
  have hss : ss.Perm (l.map (·.1)) := hperm2.trans hp.symm
  rw [mergeSort_eq hss, show ss.length = l.length by rw [hss.length_eq]; simp] at hrow
  exact ⟨v, rfl, hrow, hbel⟩
set_option maxHeartbeats 8000000 in
set_option maxRecDepth 10000 in
theorem vtList (b : Nat) (p : Value) (v : Nat → Value) (l : Pm) (L : List Od) (last gone : Int) (w : World) (h : VtAt w b p v l L last gone) (hlen : l.length ≤ 1000) :
  Calls Tryz.prog 25 #[.pointer (some ⟨b, 0, none⟩)] w fun e w' => ∃ v1 v2, e = .returned (.tuple #[v1, v2, .int .i64 (gone + 1)]) ∧
   w'.ownsRow w.heap.size 85 5 v1 l.length (flatH (rowsP l)) ∧ w'.ownsRow w.heap.size 38 6 v2 L.length (flatO L) ∧ Below w.heap.size w w' := by
 obtain ⟨i0, hi, hz0, hz1, hz2⟩ := info_parts Tryz.infoHold
 obtain ⟨S, hv, hrs, hbk, hlen2, hlg, hgt⟩ := h
 have hz := hbk.zero
 obtain ⟨mm, rfl⟩ : ∃ mm, p = .map mm := by rcases hv.pu with ⟨rfl, _⟩ | ⟨m, rfl, _⟩ <;> exact ⟨_, rfl⟩
 have c0 := hv.cell
 have c10 := hv.cellG
 have hblow := hv.bk.whl.low
 have hplow := hv.pu.lows
 have HV := Lib.hid hv
 have HRS := Lib.hid hrs
 have HBK := Lib.hid hbk
 have HPL := Lib.hid hplow
 clear hv hrs hbk hplow
 go_enter Tryz.func25, Tryz.ntmps25
 go_wp2_with (first
  | (go_at_call 71; refine (keysBV _ _).mono ?_; rintro e w3 ⟨rfl, hk3, hb3⟩; have hs3 := hb3.size; have HK3 := Lib.hid hk3; have c01 := bkeep hb3 c0 hblow; have c11 := bkeep hb3 c10 hblow; clear hk3)
  | (go_at_call 70; refine (sortedPurses (p := .map mm) (HV.out.pu.keep (Touch.of_below hb3) (fun x hx hd => by have := HPL.out x hx; omega)) HV.out.ok hlen HK3.out.low (HK3.out.cell 0)).mono ?_; rintro e w4 ⟨v4, rfl, hrow4, hb4⟩; obtain ⟨A4, q4, rfl, hq1, hq2, hq3⟩ := own_slice hrow4; have hs4 := hb4.size; have HROW := Lib.hid hrow4; have c02 := bkeep hb4 c01 (by omega); have c12 := bkeep hb4 c11 (by omega); clear hrow4)
  | fail)
 have hB4 : Below w.heap.size w w4 := hb3.trans (hb4.mono hb3.size)
 have HB4 := Lib.hid hB4
 have hz4 := hB4.size
 clear hB4 hb3 hb4 c01 c11 c0 c10 HK3
 go_loopw [5, 7, 17] (fun t zv i wr => ∃ j : Nat, j ≤ l.length ∧ i = .int .i64 j ∧ wr.ownsRow w4.heap.size 85 5 t j (flatH ((rowsP l).take j)) ∧ Below w4.heap.size w4 wr) (fun _ _ i _ => l.length - (intOf i).toNat)
 case atStart => exact ⟨0, Nat.zero_le _, rfl, World.ownsRow_nil _ _ _ _, Below.refl _ _⟩
 case round =>
  obtain ⟨j, hj, rfl, hown, hB⟩ := hrel
  have hBs := hB.size
  by_cases hjl : j < l.length
  ·
   have q1 : (j : Int) < (l.length : Int) := by omega
   cases A4 with
   | none => have := HROW.out.2; rcases this with ⟨_, h0⟩ | ⟨g0, _, _, e, _⟩; (exact absurd h0 (by omega)); injection e with e; cases e
   | some ad =>
   obtain ⟨gq, cq, e1, hq5, hq6, _, _⟩ := own_form HROW.out (by omega)
   simp only [Value.slice.injEq, Option.some.injEq, true_and] at e1
   obtain ⟨rfl, rfl⟩ := e1
   obtain ⟨ky, hky, hrw, hmem⟩ := rowsP_at hjl
   have hkey0 := (row_belowV HROW.out hB).cellAt j (by omega)
   rw [List.getElem?_map, hky, Option.map_some] at hkey0
   obtain ⟨s, hs⟩ : ∃ s : ByteArray, s = ⟨ky.toArray⟩ := ⟨_, rfl⟩
   have hsk : s.data.toList = ky := by rw [hs]
   have hes : encB ky = .string s := by rw [hs]; rfl
   rw [hes] at hkey0
   have hBw : Below w.heap.size w wr := HB4.out.trans (hB.mono hz4)
   have cb := bkeep hBw HV.out.cell hblow
   have lk := (HV.out.pu.keep (Touch.of_below hBw) (fun x hx hd => by have := HPL.out x hx; omega)).look s
   rw [hsk] at lk
   obtain ⟨r, hr⟩ : ∃ r, r = hasP l ky := ⟨_, rfl⟩
   rw [← hr] at lk hrw
   obtain ⟨r0, r1, r2, r3⟩ := r
   simp only [itV] at lk
   have htk : (rowsP l).take (j + 1) = (rowsP l).take j ++ [(ky, (r0, r1, r2, r3))] := by
    rw [List.take_add_one, hrw]; rfl
   have hrowv : flatH [(ky, (r0, r1, r2, r3))] = [.string s, .int .i64 r0, .int .i64 r1, .int .i64 r2, .int .i64 r3] := by
    rw [← hes]; rfl
   have HTK := Lib.hid htk
   have HRV := Lib.hid hrowv
   have HB := Lib.hid hB
   have HT : Hid ((wr.alloc (.cells #[.string s, .int .i64 r0, .int .i64 r1, .int .i64 r2, .int .i64 r3] 85)).ownsRow w4.heap.size 85 5 _ j (flatH ((rowsP l).take j))) := Lib.hid (row_belowV hown ((Below.refl _ _).alloc (Nat.le_refl _) _))
   have HC : Hid (Cells (wr.alloc (.cells #[.string s, .int .i64 r0, .int .i64 r1, .int .i64 r2, .int .i64 r3] 85)) (wr.heap.size + 1) (some ⟨wr.heap.size, 0, none⟩) 1 1 5 [.string s, .int .i64 r0, .int .i64 r1, .int .i64 r2, .int .i64 r3]) := Lib.hid ⟨rfl, (fun e => by cases e), fun k u hu => ⟨_, _, rfl, by omega, by rw [Nat.zero_add, (Whl.new rfl).cell]; simpa using hu⟩⟩
   clear hrw hmem hky hs hsk hes hr htk hrowv hown hBw hB
   go_wp2_with (first
    | (at_builtin; go_must (refine wpList_append_row rfl (.tmp 21) (.tmp 30) 56 rfl w4.heap.size 85 i0 (.agg #[.string ⟨#[]⟩, .int .i64 0, .int .i64 0, .int .i64 0, .int .i64 0]) 5 48 Tryz.underlying56 hi hz0 hz1 hz2 rfl (by decide) _ j (flatH ((rowsP l).take j)) rfl HT.out (wr.heap.size + 1) (some ⟨wr.heap.size, 0, none⟩) 1 1 [.string s, .int .i64 r0, .int .i64 r1, .int .i64 r2, .int .i64 r3] rfl HC.out (by intro u hu; simp at hu; rcases hu with rfl | rfl | rfl | rfl | rfl <;> rfl) (by unfold maxLen; omega) (by omega) (by simp; omega) ?_); intro v6 w6 hown6 hb6; have HO6 := Lib.hid hown6; have HB6 := Lib.hid hb6; clear hown6 hb6)
    | fail)
   have h6 := HO6.out
   refine ⟨⟨j + 1, by omega, by go_num, ?_, ?_⟩, by simp [intOf]; omega⟩
   · rw [HTK.out, flatH_app, HRV.out]; exact h6
   · exact (HB.out.alloc hBs _).trans HB6.out
  ·
   obtain rfl : j = l.length := by omega
   rw [List.take_of_length_le (by rw [rowsP_len]; omega)] at hown
   have hBw : Below w.heap.size w wr := HB4.out.trans (hB.mono hz4)
   have hws := hBw.size
   have cg := bkeep hBw HV.out.cellG hblow
   have HBW := Lib.hid hBw
   have HOWN := Lib.hid hown
   have HV2 := Lib.hid (HV.out.keep (Touch.of_below hBw) (fun x hx hd => by have := HV.out.lows x hx; omega))
   have hw1 : IntKind.i64.wrap (gone + 1) = gone + 1 := by rw [IntKind.wrap_i64]; omega
   obtain ⟨At, kt, hvt, _, _, _⟩ := own_slice hown
   subst hvt
   clear hown hB hBw
   go_wp2_with fail
   refine wp_region_held_drew (S := (fun W => W.cell? ⟨b, 10, none⟩ = some (.int .i64 gone))) (by kernel_rfl) cg (fun hHeld => ?_)
   refine tkY 0 (some 33) ?v0z rfl ?y0z ?r0z
   case y0z => exact tY
   case r0z =>
   try simp only [q1,q2,q3,q4,q5]
   refine tkY 1 (some 34) ?v1z rfl ?y1z ?r1z
   case y1z => exact tY
   case r1z =>
   try simp only [q1,q2,q3,q4,q5]
   refine tkY 2 (some 35) ?v2z rfl ?y2z ?r2z
   case y2z => exact tY
   case r2z =>
   try simp only [q1,q2,q3,q4,q5]
   refine tkY 3 (some 36) ?v3z rfl ?y3z ?r3z
   case y3z => exact tY
   case r3z =>
   try simp only [q1,q2,q3,q4,q5]
   refine tkY 5 (some 38) ?v5z rfl ?y5z ?r5z
   case y5z => exact tY
   case r5z =>
   try simp only [q1,q2,q3,q4,q5]
   refine tkY 6 (some 39) ?v6z rfl ?y6z ?r6z
   case y6z => exact tY
   case r6z =>
   try simp only [q1,q2,q3,q4,q5]
   refine tkY 7 (some 40) ?v7z rfl ?y7z ?r7z
   case y7z => exact tY
   case r7z =>
   try simp only [q1,q2,q3,q4,q5]
   refine tkY 8 (some 41) ?v8z rfl ?y8z ?r8z
   case y8z => exact tY
   case r8z =>
   try simp only [q1,q2,q3,q4,q5]
   refine tkY 9 (some 42) ?v9z rfl ?y9z ?r9z
   case y9z => exact tY
   case r9z =>
   try simp only [q1,q2,q3,q4,q5]
   refine wpAnyH_ready (rs := [4]) (by kernel_rfl) (by simp) ?_
   refine AllReadyH.cons (o := ⟨some 37, _, _, _, _, _⟩) rfl (fun K hK => ?_) AllReadyH.nil
   go_simp
   refine (bkList (lay1 (.map mm) (.int .i64 gone)) b v S last L _ (HV2.out.bk.keep (D := fun _ => False) (Touch.refl _ _).drew' (fun _ _ h => h)) HRS.out HBK.out (by omega)).mono ?_
   rintro e w7 ⟨u, rfl, hu7, hb7⟩
   obtain ⟨Au, ku, rfl, _, _, _⟩ := own_slice hu7
   go_wp2_with fail
   have hh7 : Below wr.heap.size wr w7 := ((Below.refl wr.heap.size wr).drew).trans hb7
   have PX := bkeep hh7 cg (by omega)
   refine hK.out _ _ PX (fun hHeld => ?_)
   clear hK K
   try simp only [q1,q2,q3,q4,q5]
   refine tkY 10 (some 2) ?v10z rfl ?y10z ?r10z
   case y10z => exact tY
   case r10z =>
   try simp only [q1,q2,q3,q4,q5]
   refine tkY 11 (some 3) ?v11z rfl ?y11z ?r11z
   case y11z => exact tY
   case r11z =>
   try simp only [q1,q2,q3,q4,q5]
   refine tkY 12 (some 4) ?v12z rfl ?y12z ?r12z
   case y12z => exact tY
   case r12z =>
   try simp only [q1,q2,q3,q4,q5]
   refine wpAnyH_done (by kernel_rfl) ?_ _
   go_wp2_with fail
   refine bodyPost_ret (v := .tuple #[.slice At l.length kt, .slice Au L.length ku, .int .i64 (gone + 1)]) (by simp [results, Tryz.results25, go_sem]) rfl ⟨_, _, rfl, own_baseV (row_belowV HOWN.out hh7) hz4, own_baseV hu7 hws, HBW.out.trans (hh7.mono hws)⟩
end Go.Proofs.YtdlbiobjnohfbaaGreat
