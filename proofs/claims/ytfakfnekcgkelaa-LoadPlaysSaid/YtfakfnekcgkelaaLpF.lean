/- A load in memory: Fade, its walk. -/
import Derived.Test.YtfakfnekcgkelaaLpE
import Derived.Laws.IdiomRangeMap
namespace Go.Proofs.Ytfakfnekcgkelaa
open Go.RowKit Go.MapKept
set_option linter.unusedVariables false
set_option linter.unusedSimpArgs false

theorem wrapHalf {n : Int} (h1 : 1 ≤ n) (h2 : n ≤ 1048576) : wrap64 (n / 2) = n / 2 := by unfold wrap64; omega
set_option maxHeartbeats 2000000 in
set_option maxRecDepth 10000 in
theorem fadeLoad (b : Nat) (fp : List Nat) (K : Ks) (w : World) (h : LdH w b fp K) :
    Calls Try.prog 9 #[.pointer (some ⟨b, 0, none⟩)] w fun e w' => e = .returned (.tuple #[]) ∧ (∃ fp', LdH w' b fp' (fadeK K) ∧ (∀ x ∈ fp', x ∈ fp)) ∧ Touch (fun x => x = b ∨ x ∈ fp) w w' := by
  have hbl := h.low
  have hfl := h.lows
  have hK := h.oks
  rcases h with ⟨h, rfl, rfl⟩ | ⟨g, E, h, rfl, hm, hr⟩
  · have c0 := h.cell 0
    simp only [List.getElem?_toArray, List.getElem?_cons_zero] at c0
    have hrn := run_range_nilMap (P := Try.prog) w 45 _ _ Try.underlying45
    have hnx := run_next_nilMap (P := Try.prog) w 0 0 0 #[]
    have H := Lib.hid (h.alloc (.mapIter none 0 #[] 0))
    have HT : Hid (Touch (fun x => x = b ∨ x ∈ ([] : List Nat)) w (w.alloc (.mapIter none 0 #[] 0))) := Lib.hid ((Touch.refl _ w).alloc _)
    clear h hfl hK
    go_enter Try.func9, Try.ntmps9
    go_wp2_with fail
    go_loopw [] (fun wr => wr = w.alloc (.mapIter none 0 #[] 0)) (fun _ => 0)
    case atStart => rfl
    case round =>
      subst hrel
      go_wp2_with fail
      refine bodyPost_end (v := .tuple #[]) (by simp [results, Try.results9, go_sem]) rfl ⟨rfl, ⟨[], .inl ⟨H.out, rfl, rfl⟩, by simp⟩, HT.out⟩
  · obtain ⟨fp, hfp⟩ : ∃ fp, fp = g :: E.map (·.2.1) := ⟨_, rfl⟩
    rw [← hfp] at hfl ⊢
    have c0 := h.cell 0
    simp only [List.getElem?_toArray, List.getElem?_cons_zero] at c0
    obtain ⟨o, hrun, hrl⟩ := hm.top.range (P := Try.prog) Try.underlying45
    have hst : FadeAt w (w.alloc o) b g w.heap.size fp K E E := by
      refine ⟨h.alloc _, hrl, fun e he => map_alloc (hm.each e he) _, hm.nd, ⟨by rw [← keysE]; exact hr.1, by rw [← keysE]; exact hr.1, fun e he => he, ?_, ?_⟩, by rw [← hfp]; exact fun x hx => hx, (Touch.refl _ w).alloc _⟩
      · intro z hz
        have h1 : get1 z (zEz E) = none := by rw [get1_none, keysE]; exact hz
        have h2 := hr.2.2 z
        rw [h1] at h2
        rw [h1, get_fade hK]
        cases h3 : get1 z K with
        | none => trivial
        | some m => rw [h3] at h2; exact absurd h2 id
      · intro z _; exact hr.2.2 z
    have HK := Lib.hid hK
    have HFL := Lib.hid hfl
    have HST := Lib.hid hst
    clear hst hrl hm hr hfl hK hfp h
    go_enter Try.func9, Try.ntmps9
    go_wp2_with fail
    go_loopw [] (fun wr => ∃ E' rest, FadeAt w wr b g w.heap.size fp K E' rest) (fun wr => wr.rangeLeft g w.heap.size)
    case atStart => exact ⟨E, E, HST.out⟩
    case round =>
      obtain ⟨E', rest, hat⟩ := hrel
      have hrg := hat.2.1
      have hrlt := hrg.lt
      rcases hrg.next (P := Try.prog) 0 with ⟨h0, hnx⟩ | ⟨pre, zz, v, post, w2, h0, hnx, hrg2, hgr, hz2, hen⟩
      · have hrest : rest = [] := by simpa [vEz] using h0
        subst hrest
        have HF := Lib.hid (hat.done HK.out)
        clear hat hrg h0
        go_wp2_with fail
        refine bodyPost_end (v := .tuple #[]) (by simp [results, Try.results9, go_sem]) rfl ⟨rfl, HF.out.1, HF.out.2⟩
      · obtain ⟨p, kb, l, q, rfl, rfl, hpq⟩ := vEz_split h0
        rw [hpq] at hrg2
        simp only [encI] at hnx hen
        have hkl : kb < w.heap.size := HFL.out _ (hat.2.2.2.2.2.1 _ (List.mem_cons_of_mem _ (List.mem_map.2 ⟨_, get1_mem hat.2.2.2.2.1.at.1, rfl⟩)))
        have hM2 : MapOf encStr w2 kb (vKm l) := map_grown (hat.2.2.1 _ (get1_mem hat.2.2.2.2.1.at.1)) hgr (by omega)
        have hnn : ∀ k n, get1 k l = some n → 1 ≤ n ∧ n ≤ 1048576 := by
          intro k n hk
          obtain ⟨_, m, hgK, _, hlm⟩ := hat.2.2.2.2.1.at
          rw [hlm] at hk
          have := (HK.out.each _ (get1_mem hgK)).2.cnt _ (get1_mem hk)
          exact ⟨this.1, this.2.1⟩
        have hln : (l.map (·.1)).Nodup := by
          obtain ⟨_, m, hgK, h1, hlm⟩ := hat.2.2.2.2.1.at; exact h1
        obtain ⟨o2, hrun2, hrl2⟩ := hM2.range (P := Try.prog) Try.underlying48
        have hi0 : HalfAt w2 (w2.alloc o2) kb w2.heap.size l l l := ⟨hrl2, hln, hln, fun x hx => hx, fun k => by
          split
          · rfl
          · rename_i hk; rw [get1_none.2 hk]; rfl, (Touch.refl _ w2).alloc _⟩
        have HI0 := Lib.hid hi0
        have HAT := Lib.hid hat
        have HRG2 := Lib.hid hrg2
        have HGR := Lib.hid hgr
        have HNN := Lib.hid hnn
        clear hat hrg h0 hpq hrg2 hgr hM2 hnn hln hrl2 hi0 hz2
        go_wp2_with fail
        go_loopw [] (fun wr => ∃ l' ri, HalfAt w2 wr kb w2.heap.size l l' ri) (fun wr => wr.rangeLeft kb w2.heap.size)
        case atStart => exact ⟨l, l, HI0.out⟩
        case round =>
          obtain ⟨l', ri, hha⟩ := hrel
          have hrgi := hha.1
          have hlqi := hrgi.left_eq
          rcases hrgi.next (P := Try.prog) 0 with ⟨h0, hnx2⟩ | ⟨pre, k, v, post, wj, h0, hnx2, hrgj, hgrj, hzj, henj⟩
          · have hri : ri = [] := by simpa [vKm] using h0
            subst hri
            have hMi := hrgi.map
            have hnl' := hha.2.1
            have hgl' := hha.2.2.2.2.1
            have hTi := hha.2.2.2.2.2
            clear hha hrgi h0
            go_wp2_with fail
            go_at_call 18
            refine (deleteZeros kb l' _ hMi hnl').mono ?_
            rintro e w4 ⟨rfl, hM4, hT4⟩
            have hn2 : ((nzM l').map (·.1)).Nodup := (List.Sublist.map _ List.filter_sublist).nodup hnl'
            have hg2 : ∀ k, get1 k (nzM l') = half0 (get1 k l) := by
              intro k
              rw [nz_get hnl', hgl', if_neg (by simp)]
              unfold half0
              cases hk : get1 k l with
              | none => rfl
              | some n =>
                have := HNN.out k n hk
                simp only [Option.map_some, Option.filter]
                by_cases h2 : n / 2 = 0
                · simp [h2]
                · have h3 : 0 < n / 2 := by omega
                  simp [h2, h3]
            have hlen := hM4.len (P := Try.prog) Try.underlying48 3
            rw [show (vKm (nzM l')).length = (nzM l').length by simp [vKm]] at hlen
            obtain ⟨hL4, hstep, hdel⟩ := HAT.out.step HK.out rfl hbl HFL.out HRG2.out HGR.out (hTi.trans hT4 (fun n _ e => e)) hM4 hn2 hg2
            have c4 := hL4.cell 0
            simp only [List.getElem?_toArray, List.getElem?_cons_zero] at c4
            cases hcs : nzM l' with
            | nil =>
              obtain ⟨w5, hdl, hfin⟩ := hdel hcs
              rw [hcs] at hlen
              have HF := Lib.hid hfin
              simp only [List.length_nil] at hlen
              clear hfin hdel hstep hM4 hT4 hMi hnl' hgl' hTi hL4 hn2 hg2
              go_wp2_with fail
              exact HF.out
            | cons x t =>
              have hfin := hstep (by rw [hcs]; simp)
              have hx : ¬ (((nzM l').length : Int) = 0) := by rw [hcs]; simp; omega
              have HF := Lib.hid hfin
              clear hfin hdel hstep hM4 hT4 hMi hnl' hgl' hTi hL4 hn2 hg2 hcs
              go_wp2_with fail
              exact HF.out
          · obtain ⟨p2, n, q2, rfl, rfl, hpq2⟩ := vKm_split h0
            rw [hpq2] at hrgj
            obtain ⟨hgl, wk, hup, hha2⟩ := hha.next (Nat.le_refl _) hrgj hgrj
            have hdiv : n.tdiv 2 = n / 2 := half_posI (HNN.out k n hgl).1
            have hwh : wrap64 (n / 2) = n / 2 := wrapHalf (HNN.out k n hgl).1 (HNN.out k n hgl).2
            have hlk := hha2.1.left_eq
            have hfin : (∃ l' ri, HalfAt w2 wk kb w2.heap.size l l' ri) ∧ wk.rangeLeft kb w2.heap.size < wr.rangeLeft kb w2.heap.size := ⟨⟨_, _, hha2⟩, by rw [hlk, hlqi]; simp [vKm]⟩
            have HF := Lib.hid hfin
            clear hfin hha hrgi hlqi h0 hpq2 hrgj hgrj hha2 hlk hzj
            go_wp2_with fail
            exact HF.out
end Go.Proofs.Ytfakfnekcgkelaa
