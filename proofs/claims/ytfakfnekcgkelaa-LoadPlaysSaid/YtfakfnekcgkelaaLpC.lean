/- A load in memory: Gone; DeleteFunc of what is 0. -/
import Derived.Test.YtfakfnekcgkelaaLpA
import Derived.Test.YtfakfnekcgkelaaMapC
namespace Go.Proofs.Ytfakfnekcgkelaa
open Go.RowKit Go.MapKept
set_option linter.unusedVariables false
set_option linter.unusedSimpArgs false

theorem encI_inj : ∀ a b : Int, encI a = encI b → a = b := fun a b h => by simp only [encI] at h; injection h
theorem del_vEz (z : Int) (E : Ez) : vEz (del1 z E) = del1 z (vEz E) := map_del1 (fun p : Nat × Km => Value.map (some p.1)) z E
theorem del_zEz (z : Int) (E : Ez) : zEz (del1 z E) = del1 z (zEz E) := map_del1 (fun p : Nat × Km => p.2) z E
theorem keysV (E : Ez) : (vEz E).map (·.1) = E.map (·.1) := by simp [vEz]
theorem del1_sub (z : Int) (E : Ez) : (del1 z E).map (·.2.1) |>.Sublist (E.map (·.2.1)) := List.Sublist.map _ List.filter_sublist
theorem Rep.gone {Z K : Ks} (h : Rep Z K) (z : Int) : Rep (del1 z Z) (goneK K z) := by
  refine ⟨nodup_del1 h.1, h.2.1.gone z, fun z' => ?_⟩
  have e : goneK K z = del1 z K := rfl
  rw [e, get1_del1, get1_del1]
  split
  · trivial
  · exact h.2.2 z'
set_option maxHeartbeats 2000000 in
set_option maxRecDepth 10000 in
theorem goneLoad (b : Nat) (fp : List Nat) (K : Ks) (z : Int) (w : World) (h : LdH w b fp K) :
    Calls Try.prog 11 #[.pointer (some ⟨b, 0, none⟩), .int .i64 z] w fun e w' => e = .returned (.tuple #[]) ∧ (∃ fp', LdH w' b fp' (goneK K z) ∧ (∀ x ∈ fp', x ∈ fp)) ∧ Touch (fun x => x = b ∨ x ∈ fp) w w' := by
  rcases h with ⟨h, rfl, rfl⟩ | ⟨g, E, h, rfl, hm, hr⟩
  · have c0 := h.cell 0
    simp only [List.getElem?_toArray, List.getElem?_cons_zero] at c0
    have hdl := fun (kt ty : TypeId) => del_nil (P := Try.prog) (w := w) kI Try.underlying45 kt ty z
    simp only [encI] at hdl
    have H := Lib.hid h
    clear h
    go_enter Try.func11, Try.ntmps11
    go_wp2_with fail
    refine bodyPost_end (v := .tuple #[]) (by simp [results, Try.results11, go_sem]) rfl ⟨rfl, ⟨[], .inl ⟨H.out, rfl, rfl⟩, by simp⟩, Touch.refl _ _⟩
  · have c0 := h.cell 0
    simp only [List.getElem?_toArray, List.getElem?_cons_zero] at c0
    have hnd := hm.nd
    have hbg : b ≠ g := fun e => (List.nodup_cons.1 hnd).1 (by rw [e]; exact List.mem_cons_self)
    obtain ⟨w2, hdl, hM2, hgr, hz2⟩ := hm.top.del (P := Try.prog) kI Try.underlying45 (by rw [keysV, ← keysE]; exact hr.1) 3 0 z
    simp only [encI] at hdl
    have hfin : (∃ fp', LdH w2 b fp' (goneK K z) ∧ (∀ x ∈ fp', x ∈ g :: E.map (·.2.1))) ∧ Touch (fun x => x = b ∨ x ∈ g :: E.map (·.2.1)) w w2 := by
      refine ⟨⟨_, .inr ⟨g, del1 z E, whl_grown h hgr hbg, rfl, ⟨by rw [del_vEz]; exact hM2, ?_, ?_⟩, by rw [del_zEz]; exact hr.gone z⟩, ?_⟩, touch_grown (Touch.refl _ w) hgr (fun _ => Or.inr List.mem_cons_self)⟩
      · intro e he
        have he' := (List.mem_filter.1 he).1
        refine map_grown (hm.each e he') hgr (fun e2 => ?_)
        have := (List.nodup_cons.1 (List.nodup_cons.1 hnd).2).1
        exact this (by rw [← e2]; exact List.mem_map.2 ⟨e, he', rfl⟩)
      · exact (List.Sublist.cons_cons b (List.Sublist.cons_cons g (del1_sub z E))).nodup hnd
      · intro x hx
        exact (List.Sublist.cons_cons g (del1_sub z E)).subset hx
    obtain ⟨fq, hfq⟩ : ∃ fq, fq = g :: E.map (·.2.1) := ⟨_, rfl⟩
    rw [← hfq] at hfin
    rw [← hfq]
    have HF := Lib.hid hfin
    clear hfin hfq h hm hr hM2 hgr hz2 hnd hbg
    go_enter Try.func11, Try.ntmps11
    go_wp2_with fail
    refine bodyPost_end (v := .tuple #[]) (by simp [results, Try.results11, go_sem]) rfl ⟨rfl, HF.out.1, HF.out.2⟩
/-- the closure: is a number 0? -/
theorem isZero (k : By) (n : Int) (w : World) : Calls Try.prog 19 #[encStr k, .int .i64 n] w fun e w' => e = .returned (.bool (decide (n = 0))) ∧ w' = w := by
  go_enter Try.func19, Try.ntmps19
  go_wp2_with fail
  go_ret
  exact ⟨rfl, rfl⟩
theorem nodup_mid {α : Type} {a : α} {l m : List α} (h : (l ++ a :: m).Nodup) : (a :: (l ++ m)).Nodup := (List.perm_middle.nodup_iff).1 h
def nzM (l : Km) : Km := l.filter fun q => decide (q.2 ≠ 0)
theorem vKm_keys (l : Km) : (vKm l).map (·.1) = l.map (·.1) := by simp [vKm]
theorem del_vKm (k : By) (l : Km) : vKm (del1 k l) = del1 k (vKm l) := map_del1 (fun n : Int => Value.int .i64 n) k l
theorem nz_del {k : By} {l : Km} (hn : (l.map (·.1)).Nodup) (h : (k, (0 : Int)) ∈ l) : nzM (del1 k l) = nzM l := by
  unfold nzM del1
  rw [List.filter_filter]
  refine List.filter_congr fun q hq => ?_
  by_cases e : q.1 = k
  · have : q = (k, 0) := by
      have g1 := get1_of_mem (k := q.1) (v := q.2) hn (by exact hq)
      rw [e, get1_of_mem hn h] at g1
      injection g1 with g1
      obtain ⟨a, c⟩ := q
      simp at e g1
      rw [e, ← g1]
    subst this
    simp
  · simp [e]
set_option maxHeartbeats 4000000 in
set_option maxRecDepth 10000 in
theorem deleteZeros (g : Nat) (l : Km) (w : World) (hM : MapOf encStr w g (vKm l)) (hn : (l.map (·.1)).Nodup) :
    Calls Try.prog 18 #[.map (some g), .func (.func 19) #[] #[]] w fun e w' => e = .returned (.tuple #[]) ∧ MapOf encStr w' g (vKm (nzM l)) ∧ Touch (fun x => x = g) w w' := by
  obtain ⟨o, hrun, hrl⟩ := hM.range (P := Try.prog) Try.underlying48
  have hlt := hM.lt
  have HRL := Lib.hid hrl
  have HN := Lib.hid hn
  have HT0 : Hid (Touch (fun x => x = g) w (w.alloc o)) := Lib.hid ((Touch.refl (fun x => x = g) w).alloc o)
  clear hrl hM hn
  go_enter Try.func18, Try.ntmps18
  go_wp2_with fail
  go_loopw [] (fun wr => ∃ l' rest : Km, RangeL encStr wr g w.heap.size (vKm l') (vKm rest) ∧ nzM l' = nzM l ∧ (∀ q ∈ l', q.2 = 0 → q ∈ rest) ∧ (∀ q ∈ rest, q ∈ l') ∧ (rest.map (·.1)).Nodup ∧ (l'.map (·.1)).Nodup ∧ Touch (fun x => x = g) w wr) (fun wr => wr.rangeLeft g w.heap.size)
  case atStart => exact ⟨l, l, HRL.out, rfl, fun q hq _ => hq, fun q hq => hq, HN.out, HN.out, HT0.out⟩
  case round =>
    obtain ⟨l', rest, hrg, hnz, hz, hsub, hrn, hln, hT⟩ := hrel
    have hlq := hrg.left_eq
    have hrlt := hrg.lt
    rcases hrg.next (P := Try.prog) 0 with ⟨h0, hnx⟩ | ⟨pre, k, v, post, w2, h0, hnx, hrg2, hgr, hz2, hen⟩
    · have hrest : rest = [] := by simpa [vKm] using h0
      subst hrest
      have hl' : nzM l' = l' := List.filter_eq_self.2 (fun q hq => by
        simp only [decide_eq_true_eq, ne_eq]
        exact fun e => by have := hz q hq e; cases this)
      have HM : Hid (MapOf encStr wr g (vKm (nzM l))) := Lib.hid (by rw [← hnz, hl']; exact hrg.map)
      have HT := Lib.hid hT
      clear hrg hz hsub hrn hln hT hnz hl' hlq h0
      go_wp2_with fail
      refine bodyPost_end (v := .tuple #[]) (by simp [results, Try.results18, go_sem]) rfl ⟨rfl, HM.out, HT.out⟩
    · obtain ⟨p, n, q, rfl, rfl, hpq⟩ := vKm_split h0
      rw [hpq] at hrg2
      have hmem := hsub (k, n) (by simp)
      have hgk : get1 k (vKm l') = some (.int .i64 n) := by
        unfold vKm; rw [get1_map (fun n => Value.int .i64 n), get1_of_mem hln hmem]; rfl
      have hnk : k ∉ (vKm (p ++ q)).map (·.1) := by
        rw [vKm_keys]
        simp only [List.map_append, List.map_cons] at hrn ⊢
        have := (nodup_mid hrn)
        exact (List.nodup_cons.1 this).1
      have hrn' : ((p ++ q).map (·.1)).Nodup := by
        simp only [List.map_append, List.map_cons] at hrn ⊢
        exact (List.nodup_cons.1 (nodup_mid hrn)).2
      have hT2 : Touch (fun x => x = g) w w2 := touch_grown hT hgr (fun h => absurd h (Nat.lt_irrefl _))
      have hle' := hrg2.left_eq
      by_cases hn0 : n = 0
      · subst hn0
        obtain ⟨w3, hdl, hrg3, hgr3, hz3⟩ := hrg2.del (P := Try.prog) kB Try.underlying48 enc_inj (by rw [vKm_keys]; exact hln) 9 0 k hgk hnk
        have hle3 := hrg3.left_eq
        have hfin : (∃ l' rest : Km, RangeL encStr w3 g w.heap.size (vKm l') (vKm rest) ∧ nzM l' = nzM l ∧ (∀ q ∈ l', q.2 = 0 → q ∈ rest) ∧ (∀ q ∈ rest, q ∈ l') ∧ (rest.map (·.1)).Nodup ∧ (l'.map (·.1)).Nodup ∧ Touch (fun x => x = g) w w3) ∧ w3.rangeLeft g w.heap.size < wr.rangeLeft g w.heap.size := by
          refine ⟨⟨del1 k l', p ++ q, by rw [del_vKm]; exact hrg3, by rw [nz_del hln hmem]; exact hnz, ?_, ?_, hrn', nodup_del1 hln, touch_grown hT2 hgr3 (fun _ => rfl)⟩, by rw [hle3, hlq]; simp [vKm]⟩
          · intro x hx hx0
            obtain ⟨hx1, hx2⟩ := List.mem_filter.1 hx
            have := hz x hx1 hx0
            simp only [List.mem_append, List.mem_cons] at this ⊢
            rcases this with h | rfl | h
            · exact .inl h
            · simp at hx2
            · exact .inr h
          · intro x hx
            refine List.mem_filter.2 ⟨hsub x (by simp only [List.mem_append, List.mem_cons] at hx ⊢; rcases hx with h | h; exact .inl h; exact .inr (.inr h)), ?_⟩
            simp only [decide_eq_true_eq, ne_eq]
            exact fun e => hnk (by rw [vKm_keys, ← e]; exact List.mem_map.2 ⟨x, hx, rfl⟩)
        have HF := Lib.hid hfin
        clear hfin hrg hnz hz hsub hrn hln hT hlq hrg2 hgr hmem hgk hnk hrn' hT2 hle' hrg3 hgr3 hle3 h0
        go_wp2_with (first | (go_at_call 19; refine (isZero k 0 _).mono ?_; rintro e wz ⟨rfl, rfl⟩) | fail)
        exact HF.out
      · have hfin : (∃ l' rest : Km, RangeL encStr w2 g w.heap.size (vKm l') (vKm rest) ∧ nzM l' = nzM l ∧ (∀ q ∈ l', q.2 = 0 → q ∈ rest) ∧ (∀ q ∈ rest, q ∈ l') ∧ (rest.map (·.1)).Nodup ∧ (l'.map (·.1)).Nodup ∧ Touch (fun x => x = g) w w2) ∧ w2.rangeLeft g w.heap.size < wr.rangeLeft g w.heap.size := by
          refine ⟨⟨l', p ++ q, hrg2, hnz, ?_, ?_, hrn', hln, hT2⟩, by rw [hle', hlq]; simp [vKm]⟩
          · intro x hx hx0
            have := hz x hx hx0
            simp only [List.mem_append, List.mem_cons] at this ⊢
            rcases this with h | rfl | h
            · exact .inl h
            · exact absurd hx0 hn0
            · exact .inr h
          · intro x hx
            exact hsub x (by simp only [List.mem_append, List.mem_cons] at hx ⊢; rcases hx with h | h; exact .inl h; exact .inr (.inr h))
        have HF := Lib.hid hfin
        clear hfin hrg hnz hz hsub hrn hln hT hlq hrg2 hgr hmem hgk hnk hrn' hT2 hle' h0
        go_wp2_with (first | (go_at_call 19; refine (isZero k n _).mono ?_; rintro e wz ⟨rfl, rfl⟩) | fail)
        exact HF.out
end Go.Proofs.Ytfakfnekcgkelaa
