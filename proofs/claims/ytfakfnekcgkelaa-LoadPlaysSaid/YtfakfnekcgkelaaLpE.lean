/- A load in memory: Fade. -/
import Derived.Test.YtfakfnekcgkelaaLpD
namespace Go.Proofs.Ytfakfnekcgkelaa
open Go.RowKit Go.MapKept
set_option linter.unusedVariables false
set_option linter.unusedSimpArgs false

theorem half_posI {a : Int} (h : 1 ≤ a) : a.tdiv 2 = a / 2 := Int.tdiv_eq_ediv_of_nonneg (by omega)
/-- a zone's numbers are halved: how far the loop over them is -/
def HalfAt (w2 wi : World) (kb r2 : Nat) (l l' ri : Km) : Prop :=
  RangeL encStr wi kb r2 (vKm l') (vKm ri) ∧ (l'.map (·.1)).Nodup ∧ (ri.map (·.1)).Nodup ∧ (∀ q ∈ ri, q ∈ l') ∧ (∀ k, get1 k l' = if k ∈ ri.map (·.1) then get1 k l else (get1 k l).map (· / 2)) ∧ Touch (fun x => x = kb) w2 wi
theorem HalfAt.next {w2 wi : World} {kb r2 : Nat} {l l' p q : Km} {k : By} {n : Int} (h : HalfAt w2 wi kb r2 l l' (p ++ (k, n) :: q)) (hr2 : w2.heap.size ≤ r2) {wj : World} (hrg : RangeL encStr wj kb r2 (vKm l') (vKm (p ++ q))) (hg : wi.grownBy wj (some r2)) :
    get1 k l = some n ∧ ∃ wk, (Instr.mapUpdate 48 (.map (some kb)) (encStr k) (.int .i64 (n / 2))).run Try.prog wj = .ok () wk ∧ HalfAt w2 wk kb r2 l (put1 k (n / 2) l') (p ++ q) := by
  obtain ⟨h1, h2, h3, h4, h5, h6⟩ := h
  have hmem := h4 (k, n) (by simp)
  have hgl' := get1_of_mem h2 hmem
  have hgl : get1 k l = some n := by rw [h5, if_pos (by simp)] at hgl'; exact hgl'
  have h3' := h3
  simp only [List.map_append, List.map_cons] at h3'
  have hmid := List.nodup_cons.1 (nodup_mid h3')
  have hkn : k ∉ (p ++ q).map (·.1) := by rw [List.map_append]; exact hmid.1
  have hgv : get1 k (vKm l') = some (.int .i64 n) := by unfold vKm; rw [get1_map (fun n => Value.int .i64 n), hgl']; rfl
  obtain ⟨wk, hup, hrg3, hgr3, hz3⟩ := hrg.put (P := Try.prog) kB Try.underlying48 enc_inj k (.int .i64 (n / 2)) hgv (by rw [vKm_keys]; exact hkn)
  refine ⟨hgl, wk, hup, ⟨by rw [← put_vKm]; exact hrg3, nodup_put1 h2, by rw [List.map_append]; exact hmid.2, ?_, ?_, ?_⟩⟩
  · intro x hx
    have hx' : x ∈ l' := h4 x (by simp at hx ⊢; rcases hx with h | h; exact .inl h; exact .inr (.inr h))
    have hne : k ≠ x.1 := fun e => hkn (by rw [e]; exact List.mem_map.2 ⟨x, hx, rfl⟩)
    exact get1_mem (k := x.1) (v := x.2) (by rw [get1_put1, if_neg hne]; exact get1_of_mem h2 hx')
  · intro k'
    rw [get1_put1]
    by_cases e : k = k'
    · subst e
      rw [if_pos rfl, if_neg hkn, hgl]; rfl
    · rw [if_neg e, h5]
      have : k' ∈ (p ++ (k, n) :: q).map (·.1) ↔ k' ∈ (p ++ q).map (·.1) := by
        simp only [List.map_append, List.map_cons, List.mem_append, List.mem_cons]
        exact ⟨fun h => by rcases h with h | h | h; exact .inl h; exact absurd h.symm e; exact .inr h, fun h => by rcases h with h | h; exact .inl h; exact .inr (.inr h)⟩
      by_cases hk : k' ∈ (p ++ q).map (·.1)
      · rw [if_pos hk, if_pos (this.2 hk)]
      · rw [if_neg hk, if_neg (fun h => hk (this.1 h))]
  · exact touch_grown (touch_grown h6 hg (fun h => by omega)) hgr3 (fun _ => rfl)
/-- how far the loop over the zones is -/
def FadeAt (w wr : World) (b g r : Nat) (fp : List Nat) (K : Ks) (E rest : Ez) : Prop :=
  Whl wr b 47 #[.map (some g)] ∧ RangeL encI wr g r (vEz E) (vEz rest) ∧ (∀ e ∈ E, MapOf encStr wr e.2.1 (vKm e.2.2)) ∧ (b :: g :: E.map (·.2.1)).Nodup ∧ FadeInv E rest K ∧ (∀ x ∈ g :: E.map (·.2.1), x ∈ fp) ∧ Touch (fun x => x = b ∨ x ∈ fp) w wr
theorem FadeAt.done {w wr : World} {b g r : Nat} {fp : List Nat} {K : Ks} {E : Ez} (h : FadeAt w wr b g r fp K E []) (hK : OKs K) : (∃ fp', LdH wr b fp' (fadeK K) ∧ (∀ x ∈ fp', x ∈ fp)) ∧ Touch (fun x => x = b ∨ x ∈ fp) w wr := by
  obtain ⟨h1, h2, h3, h4, h5, h6, h7⟩ := h
  exact ⟨⟨_, .inr ⟨g, E, h1, rfl, ⟨h2.map, h3, h4⟩, by rw [keysE]; exact h5.en, hK.fade, fun z => h5.met z (by simp)⟩, h6⟩, h7⟩
theorem FadeAt.step {w wr : World} {b g r kb : Nat} {fp : List Nat} {K : Ks} {E p q : Ez} {z : Int} {l : Km} (h : FadeAt w wr b g r fp K E (p ++ (z, kb, l) :: q)) (hK : OKs K) (hr : r = w.heap.size) (hb : b < r) (hfp : ∀ x ∈ fp, x < r)
    {w2 : World} (hrg : RangeL encI w2 g r (vEz E) (vEz (p ++ q))) (hgr : wr.grownBy w2 (some r)) {w4 : World} (hT : Touch (fun x => x = kb) w2 w4) {l2 : Km} (hM : MapOf encStr w4 kb (vKm l2)) (hn2 : (l2.map (·.1)).Nodup) (hg2 : ∀ k, get1 k l2 = half0 (get1 k l)) :
    Whl w4 b 47 #[.map (some g)] ∧ (l2 ≠ [] → (∃ E' rest', FadeAt w w4 b g r fp K E' rest') ∧ w4.rangeLeft g r < wr.rangeLeft g r) ∧
    (l2 = [] → ∃ w5, (Builtin.delete_ #[45, 3] 0 #[.map (some g), .int .i64 z]).run Try.prog w4 = .ok (.tuple #[]) w5 ∧ (∃ E' rest', FadeAt w w5 b g r fp K E' rest') ∧ w5.rangeLeft g r < wr.rangeLeft g r) := by
  obtain ⟨h1, h2, h3, h4, h5, h6, h7⟩ := h
  have hlow := h2.left_eq
  obtain ⟨hgE, m, hgK, hln, hlm⟩ := h5.at
  have hmem := get1_mem hgE
  have hkm : kb ∈ E.map (·.2.1) := List.mem_map.2 ⟨_, hmem, rfl⟩
  have hnd1 := List.nodup_cons.1 h4
  have hnd2 := List.nodup_cons.1 hnd1.2
  have hbk : b ≠ kb := fun e => hnd1.1 (by rw [e]; exact List.mem_cons_of_mem _ hkm)
  have hgk : g ≠ kb := fun e => hnd2.1 (by rw [e]; exact hkm)
  have hbg : b ≠ g := fun e => hnd1.1 (by rw [e]; exact List.mem_cons_self)
  have hkr : kb < r := hfp _ (h6 _ (List.mem_cons_of_mem _ hkm))
  have L2 : Whl w2 b 47 #[.map (some g)] := whl_grown h1 hgr (by omega)
  have L4 : Whl w4 b 47 #[.map (some g)] := (hT.block b L2.low hbk).trans L2
  have hrg4 : RangeL encI w4 g r (vEz E) (vEz (p ++ q)) := hrg.blocks (hT.block g hrg.map.lt hgk) (hT.block r hrg.lt (by omega))
  have E4 : ∀ e ∈ E, e.1 ≠ z → MapOf encStr w4 e.2.1 (vKm e.2.2) := by
    intro e he hne
    have hlt := hfp _ (h6 _ (List.mem_cons_of_mem _ (List.mem_map.2 ⟨e, he, rfl⟩)))
    have m2 := map_grown (h3 e he) hgr (by omega)
    refine m2.block (hT.block _ m2.lt (fun e2 => hne ?_))
    have := inj_nodup (fun x : Int × Nat × Km => x.2.1) hnd2.2 he hmem e2
    rw [this]
  have T2 : Touch (fun x => x = b ∨ x ∈ fp) w w2 := touch_grown h7 hgr (fun hh => by omega)
  have T4 : Touch (fun x => x = b ∨ x ∈ fp) w w4 := T2.trans hT (fun n _ e => .inr (by rw [e]; exact h6 _ (List.mem_cons_of_mem _ hkm)))
  obtain ⟨hs1, hs2⟩ := h5.step hK hn2 hg2
  have hlq4 := hrg4.left_eq
  have hlen : (vEz (p ++ q)).length < (vEz (p ++ (z, kb, l) :: q)).length := by simp [vEz]
  refine ⟨L4, fun hne => ⟨⟨put1 z (kb, l2) E, p ++ q, L4, ?_, ?_, ?_, hs1 hne, ?_, T4⟩, by rw [hlq4, hlow]; exact hlen⟩, fun he0 => ?_⟩
  · rw [put_vEz, put1_same (by rw [get_vEz, hgE]; rfl)]; exact hrg4
  · intro e he
    rcases mem_put1 h5.en he with rfl | ⟨he, hne⟩
    · exact hM
    · exact E4 e he hne
  · have hblk : (put1 z (kb, l2) E).map (·.2.1) = E.map (·.2.1) := map_put1 (fun p : Nat × Km => p.1) (u := (kb, l)) (v := (kb, l2)) rfl hgE
    rw [hblk]; exact h4
  · have hblk : (put1 z (kb, l2) E).map (·.2.1) = E.map (·.2.1) := map_put1 (fun p : Nat × Km => p.1) (u := (kb, l)) (v := (kb, l2)) rfl hgE
    rw [hblk]; exact h6
  · have hrn := (hs2 he0).rn
    have hzn : z ∉ (p ++ q).map (·.1) := by
      have := h5.rn
      simp only [List.map_append, List.map_cons] at this
      rw [List.map_append]; exact (List.nodup_cons.1 (nodup_mid this)).1
    obtain ⟨w5, hdl, hrg5, hgr5, hz5⟩ := hrg4.del (P := Try.prog) kI Try.underlying45 encI_inj (by rw [keysV]; exact h5.en) 3 0 z (u := .map (some kb)) (by rw [get_vEz, hgE]; rfl) (by rw [keysV]; exact hzn)
    simp only [encI] at hdl
    have hlq5 := hrg5.left_eq
    refine ⟨w5, hdl, ⟨del1 z E, p ++ q, whl_grown L4 hgr5 hbg, by rw [del_vEz]; exact hrg5, ?_, ?_, hs2 he0, ?_, touch_grown T4 hgr5 (fun _ => .inr (h6 _ List.mem_cons_self))⟩, by rw [hlq5, hlow]; exact hlen⟩
    · intro e he
      obtain ⟨he1, he2⟩ := List.mem_filter.1 he
      refine map_grown (E4 e he1 (by simpa using he2)) hgr5 (fun e2 => hnd2.1 ?_)
      rw [← e2]; exact List.mem_map.2 ⟨e, he1, rfl⟩
    · exact (List.Sublist.cons_cons b (List.Sublist.cons_cons g (del1_sub z E))).nodup h4
    · intro x hx
      exact h6 x ((List.Sublist.cons_cons g (del1_sub z E)).subset hx)
end Go.Proofs.Ytfakfnekcgkelaa
