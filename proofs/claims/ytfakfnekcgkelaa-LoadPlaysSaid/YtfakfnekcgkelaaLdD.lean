/- Hit of a load that has maps. -/
import Derived.Test.YtfakfnekcgkelaaLdC
namespace Go.Proofs.Ytfakfnekcgkelaa
open Go.RowKit Go.MapKept
open Go.ChangeMaps (setBlock)
set_option linter.unusedVariables false
set_option linter.unusedSimpArgs false
set_option linter.unusedSectionVars false

section
variable {α β : Type} [DecidableEq α]
theorem put1_new {k : α} {v : β} : ∀ {l : List (α × β)}, get1 k l = none → put1 k v l = l ++ [(k, v)]
  | [], _ => rfl
  | (a, x) :: r, h => by
    simp only [get1] at h
    by_cases e : a = k
    · rw [if_pos e] at h; cases h
    · rw [if_neg e] at h
      simp only [put1, if_neg e, put1_new h, List.cons_append]
theorem put1_same {k : α} {v : β} : ∀ {l : List (α × β)}, get1 k l = some v → put1 k v l = l
  | [], h => by cases h
  | (a, x) :: r, h => by
    simp only [get1] at h
    by_cases e : a = k
    · rw [if_pos e] at h; injection h with h; subst h; simp [put1, e]
    · rw [if_neg e] at h
      simp only [put1, if_neg e, put1_same h]
theorem mem_put1 {k : α} {v : β} : ∀ {l : List (α × β)} {p : α × β}, (l.map (·.1)).Nodup → p ∈ put1 k v l → p = (k, v) ∨ (p ∈ l ∧ p.1 ≠ k)
  | [], p, _, h => by simp [put1] at h; exact .inl h
  | (a, x) :: r, p, hn, h => by
    simp only [List.map_cons, List.nodup_cons] at hn
    simp only [put1] at h
    by_cases e : a = k
    · rw [if_pos e] at h
      rcases List.mem_cons.1 h with rfl | h
      · exact .inl (by rw [e])
      · exact .inr ⟨List.mem_cons_of_mem _ h, fun e2 => hn.1 (by rw [e, ← e2]; exact List.mem_map.2 ⟨p, h, rfl⟩)⟩
    · rw [if_neg e] at h
      rcases List.mem_cons.1 h with rfl | h
      · exact .inr ⟨List.mem_cons_self, e⟩
      · rcases mem_put1 hn.2 h with h | ⟨h, h2⟩
        · exact .inl h
        · exact .inr ⟨List.mem_cons_of_mem _ h, h2⟩
theorem map_put1 {γ : Type} (f : β → γ) {k : α} {u v : β} (hf : f u = f v) : ∀ {l : List (α × β)}, get1 k l = some u → (put1 k v l).map (fun p => f p.2) = l.map (fun p => f p.2)
  | [], h => by cases h
  | (a, x) :: r, h => by
    simp only [get1] at h
    by_cases e : a = k
    · rw [if_pos e] at h; injection h with h; subst h; simp [put1, e, hf]
    · rw [if_neg e] at h
      simp only [put1, if_neg e, List.map_cons, map_put1 f hf h]
end
theorem inj_nodup {α β : Type} (f : α → β) : ∀ {l : List α} {a b : α}, (l.map f).Nodup → a ∈ l → b ∈ l → f a = f b → a = b
  | [], _, _, _, h, _, _ => by cases h
  | x :: r, a, b, hn, ha, hb, e => by
    simp only [List.map_cons, List.nodup_cons] at hn
    rcases List.mem_cons.1 ha with ea | ha <;> rcases List.mem_cons.1 hb with eb | hb
    · rw [ea, eb]
    · exact absurd (List.mem_map.2 ⟨b, hb, by rw [← e, ea]⟩) hn.1
    · exact absurd (List.mem_map.2 ⟨a, ha, by rw [e, eb]⟩) hn.1
    · exact inj_nodup f hn.2 ha hb e
theorem get_vEz (z : Int) (E : Ez) : get1 z (vEz E) = (get1 z E).map (fun p => Value.map (some p.1)) := get1_map (fun p : Nat × Km => Value.map (some p.1)) z E
theorem get_zEz (z : Int) (E : Ez) : get1 z (zEz E) = (get1 z E).map (fun p => p.2) := get1_map (fun p : Nat × Km => p.2) z E
theorem put_vEz (z : Int) (g : Nat) (l : Km) (E : Ez) : vEz (put1 z (g, l) E) = put1 z (.map (some g)) (vEz E) := put1_map (fun p : Nat × Km => Value.map (some p.1)) z (g, l) E
theorem put_zEz (z : Int) (g : Nat) (l : Km) (E : Ez) : zEz (put1 z (g, l) E) = put1 z l (zEz E) := put1_map (fun p : Nat × Km => p.2) z (g, l) E
theorem keysE (E : Ez) : (zEz E).map (·.1) = E.map (·.1) := by simp [zEz]
set_option maxHeartbeats 4000000 in
set_option maxRecDepth 10000 in
/-- a zone's first hit -/
theorem hitNew (b g : Nat) (E : Ez) (K : Ks) (z : Int) (s : ByteArray) (w : World) (hv : 1 ≤ z ∧ 1 ≤ s.size ∧ s.size ≤ 16) (h : Whl w b 47 #[.map (some g)]) (hm : LdM w b g E) (hr : Rep (zEz E) K) (fp : List Nat) (hfp : fp = g :: E.map (·.2.1)) (hg : get1 z E = none) :
    Calls Try.prog 7 #[.pointer (some ⟨b, 0, none⟩), .int .i64 z, .string s] w fun e w' => e = .returned (.tuple #[]) ∧ (∃ fp', LdH w' b fp' (hitK K z s.data.toList) ∧ (∀ x ∈ fp', x ∈ fp ∨ w.heap.size ≤ x)) ∧ Touch (fun x => x = b ∨ x ∈ fp) w w' := by
  obtain ⟨hz, hs1, hs2⟩ := hv
  have HFP := Lib.hid hfp
  have kz : ¬ z < 1 := by omega
  have ks1 : ¬ (s.size : Int) < 1 := by omega
  have ks2 : ¬ (16 : Int) < (s.size : Int) := by omega
  have hmm := @run_makeMap Try.prog
  have hq1 := eqM1
  have hq2 := eqM2
  have hl0 := len0
  have hlow := h.low
  have hglow := hm.top.lt
  have hnd := hm.nd
  have hbg : b ≠ g := fun e => (List.nodup_cons.1 hnd).1 (by rw [e]; exact List.mem_cons_self)
  have hlows : ∀ e ∈ E, e.2.1 < w.heap.size := fun e he => (hm.each e he).lt
  have c0 : w.cell? ⟨b, 0, none⟩ = some (.map (some g)) := h.cell 0
  have f0 := h.free 0
  have lk1 := hm.top.look (P := Try.prog) kI Try.underlying45 (zM0 w) z
  rw [get_vEz, hg] at lk1
  simp only [encI, Option.map_none, Option.getD_none] at lk1
  have lk2 : (Instr.lookup 48 (.map none) (.string s) false).run Try.prog w = .ok (.int .i64 0) w := by have := look_nil (w := w) kB Try.underlying48 (zI0 w) s.data.toList; rw [bytes_data] at this; exact this
  obtain ⟨w3, hw3⟩ : ∃ x, x = w.alloc (.map #[] 0) := ⟨_, rfl⟩
  have hz3 : w3.heap.size = w.heap.size + 1 := by rw [hw3]; simp
  have L3 : Whl w3 b 47 #[.map (some g)] := by rw [hw3]; exact h.alloc _
  have G3 : MapOf encI w3 g (vEz E) := by rw [hw3]; exact map_alloc hm.top _
  have E3 : ∀ e ∈ E, MapOf encStr w3 e.2.1 (vKm e.2.2) := fun e he => by rw [hw3]; exact map_alloc (hm.each e he) _
  have H3 : MapOf encStr w3 w.heap.size [] := by rw [hw3]; exact MapOf.made w
  have T3 : Touch (fun x => x = b ∨ x ∈ fp) w w3 := by rw [hw3]; exact (Touch.refl _ w).alloc _
  obtain ⟨w4, up4, G4, gr4, hz4⟩ := G3.put (P := Try.prog) kI Try.underlying45 z (.map (some w.heap.size))
  simp only [encI] at up4
  have L4 := whl_grown L3 gr4 hbg
  have H4 := map_grown H3 gr4 (by omega)
  have E4 : ∀ e ∈ E, MapOf encStr w4 e.2.1 (vKm e.2.2) := fun e he => map_grown (E3 e he) gr4 (fun e2 => by
    have := (List.nodup_cons.1 (List.nodup_cons.1 hnd).2).1
    exact this (by rw [← e2]; exact List.mem_map.2 ⟨e, he, rfl⟩))
  have T4 := touch_grown T3 gr4 (fun _ => Or.inr (by rw [hfp]; exact List.mem_cons_self))
  have lk4 := H4.look (P := Try.prog) kB Try.underlying48 (zI0 w4) s.data.toList
  rw [bytes_data] at lk4
  simp only [get1, Option.getD_none] at lk4
  obtain ⟨w5, up5, H5, gr5, hz5⟩ := H4.put (P := Try.prog) kB Try.underlying48 s.data.toList (.int .i64 1)
  rw [bytes_data] at up5
  have L5 := whl_grown L4 gr5 (by omega)
  have G5 := map_grown G4 gr5 (by omega)
  have E5 : ∀ e ∈ E, MapOf encStr w5 e.2.1 (vKm e.2.2) := fun e he => map_grown (E4 e he) gr5 (by have := hlows e he; omega)
  have T5 := touch_grown T4 gr5 (by omega)
  have c3 : w3.cell? ⟨b, 0, none⟩ = some (.map (some g)) := L3.cell 0
  have hfin : (∃ fp', LdH w5 b fp' (hitK K z s.data.toList) ∧ (∀ x ∈ fp', x ∈ fp ∨ w.heap.size ≤ x)) ∧ Touch (fun x => x = b ∨ x ∈ fp) w w5 := by
    have hz0 : get1 z (zEz E) = none := by rw [get_zEz, hg]; rfl
    have hcnt : cntK K z s.data.toList = 0 := by rw [← hr.cnt z, hz0]; rfl
    have hlen : (zoneK K z).length = 0 := by rw [← hr.len z, hz0]; rfl
    have hok : okHitK K z s.data.toList := ⟨hz, by rw [sz_len]; exact hs1, by rw [sz_len]; exact hs2, by rw [hcnt]; decide, by rw [hlen]; simp⟩
    have hrep := hr.hit hok
    rw [hcnt, hz0] at hrep
    have hE' : put1 z (w.heap.size, [(s.data.toList, (1 : Int))]) E = E ++ [(z, w.heap.size, [(s.data.toList, 1)])] := put1_new hg
    refine ⟨⟨_, .inr ⟨g, put1 z (w.heap.size, [(s.data.toList, 1)]) E, L5, rfl, ⟨?_, ?_, ?_⟩, ?_⟩, ?_⟩, T5⟩
    · rw [put_vEz]; exact G5
    · intro e he
      rw [hE'] at he
      rcases List.mem_append.1 he with he | he
      · exact E5 e he
      · simp only [List.mem_cons, List.not_mem_nil, or_false] at he
        subst he
        exact H5
    · rw [hE', List.map_append]
      have : (b :: g :: (E.map (·.2.1) ++ [w.heap.size])) = (b :: g :: E.map (·.2.1)) ++ [w.heap.size] := rfl
      rw [show List.map (fun (x : Int × Nat × Km) => x.2.1) [(z, w.heap.size, [(s.data.toList, (1 : Int))])] = [w.heap.size] from rfl, this]
      refine List.nodup_append.2 ⟨hnd, by simp, ?_⟩
      intro x hx y hy e
      simp only [List.mem_cons, List.not_mem_nil, or_false] at hy
      subst hy; subst e
      rcases List.mem_cons.1 hx with e | hx
      · omega
      · rcases List.mem_cons.1 hx with e | hx
        · omega
        · obtain ⟨e, he, e2⟩ := List.mem_map.1 hx
          have := hlows e he
          omega
    · rw [put_zEz]; simpa [put1] using hrep
    · intro x hx
      rw [hE', List.map_append] at hx
      rw [hfp]
      rcases List.mem_cons.1 hx with rfl | hx
      · exact .inl List.mem_cons_self
      · rcases List.mem_append.1 hx with hx | hx
        · exact .inl (List.mem_cons_of_mem _ hx)
        · simp at hx; exact .inr (by omega)
  have HF := Lib.hid hfin
  clear hfp
  clear hfin L3 G3 E3 H3 T3 G4 gr4 L4 H4 E4 T4 H5 gr5 L5 G5 E5 T5 h hm hr hnd hlows hbg
  subst hw3
  clear hz3 hz4 hz5
  go_enter Try.func7, Try.ntmps7
  go_wp2_with fail
  refine bodyPost_end (v := .tuple #[]) (by simp [results, Try.results7, go_sem]) rfl ⟨rfl, HF.out.1, HF.out.2⟩
set_option maxHeartbeats 4000000 in
set_option maxRecDepth 10000 in
/-- a hit of a zone that is there -/
theorem hitOld (b g kb : Nat) (l : Km) (E : Ez) (K : Ks) (z : Int) (s : ByteArray) (w : World) (hv : 1 ≤ z ∧ 1 ≤ s.size ∧ s.size ≤ 16) (h : Whl w b 47 #[.map (some g)]) (hm : LdM w b g E) (hr : Rep (zEz E) K) (fp : List Nat) (hfp : fp = g :: E.map (·.2.1)) (hg : get1 z E = some (kb, l)) :
    Calls Try.prog 7 #[.pointer (some ⟨b, 0, none⟩), .int .i64 z, .string s] w fun e w' => e = .returned (.tuple #[]) ∧ (∃ fp', LdH w' b fp' (hitK K z s.data.toList) ∧ (∀ x ∈ fp', x ∈ fp ∨ w.heap.size ≤ x)) ∧ Touch (fun x => x = b ∨ x ∈ fp) w w' := by
  obtain ⟨hz, hs1, hs2⟩ := hv
  have HFP := Lib.hid hfp
  have kz : ¬ z < 1 := by omega
  have ks1 : ¬ (s.size : Int) < 1 := by omega
  have ks2 : ¬ (16 : Int) < (s.size : Int) := by omega
  have hmm := @run_makeMap Try.prog
  have hq1 := eqM1
  have hq2 := eqM2
  have hl0 := len0
  have hlow := h.low
  have hnd := hm.nd
  have hmem := get1_mem hg
  have hkm := hm.each _ hmem
  have hzs : get1 z (zEz E) = some l := by rw [get_zEz, hg]; rfl
  have hcnt : (get1 s.data.toList l).getD 0 = cntK K z s.data.toList := by rw [← hr.cnt z, hzs]; rfl
  have hlen : l.length = (zoneK K z).length := by rw [← hr.len z, hzs]; rfl
  have hoks := hr.2.1
  have c0 : w.cell? ⟨b, 0, none⟩ = some (.map (some g)) := h.cell 0
  have f0 := h.free 0
  have lk1 := hm.top.look (P := Try.prog) kI Try.underlying45 (zM0 w) z
  rw [get_vEz, hg] at lk1
  simp only [encI, Option.map_some, Option.getD_some] at lk1
  have lk2 := hkm.look (P := Try.prog) kB Try.underlying48 (zI0 w) s.data.toList
  rw [bytes_data, get_vKm, hcnt] at lk2
  have hln := hkm.len (P := Try.prog) Try.underlying48 3
  rw [show (vKm l).length = l.length by simp [vKm], hlen] at hln
  obtain ⟨n, hn⟩ : ∃ n, n = cntK K z s.data.toList := ⟨_, rfl⟩
  have hn0 : 0 ≤ n := by
    rw [hn]
    unfold cntK
    cases hk : get1 s.data.toList (zoneK K z) with
    | none => simp
    | some v =>
      rcases hoks.zone z with ⟨_, e0⟩ | ⟨m, _, e0, hm', _⟩
      · rw [e0] at hk; cases hk
      · rw [e0] at hk
        have := (hm'.cnt _ (get1_mem hk)).1
        simp at this ⊢; omega
  rw [← hn] at lk2
  by_cases hfull : 1048576 ≤ n
  · have hno : hitK K z s.data.toList = K := okHit_no (fun ⟨_, _, _, h4, _⟩ => by rw [← hn] at h4; omega)
    have HF : Hid ((∃ fp', LdH w b fp' (hitK K z s.data.toList) ∧ (∀ x ∈ fp', x ∈ fp ∨ w.heap.size ≤ x)) ∧ Touch (fun x => x = b ∨ x ∈ fp) w w) := Lib.hid ⟨⟨_, .inr ⟨g, E, h, rfl, hm, by rw [hno]; exact hr⟩, fun x hx => .inl (by rw [hfp]; exact hx)⟩, Touch.refl _ _⟩
    clear hfp h hm hr hnd hmem hkm hzs hcnt hlen hoks hno hg hn
    go_enter Try.func7, Try.ntmps7
    go_wp2_with fail
    refine bodyPost_ret (v := .tuple #[]) (by simp [results, Try.results7, go_sem]) rfl ⟨rfl, HF.out.1, HF.out.2⟩
  · have q1 : ¬ (1048576 : Int) ≤ n := hfull
    by_cases hroom : n = 0 ∧ 64 ≤ (zoneK K z).length
    · obtain ⟨rfl, h64⟩ := hroom
      have hno : hitK K z s.data.toList = K := okHit_no (fun ⟨_, _, _, _, h5⟩ => h5 ⟨hn.symm, h64⟩)
      have q2 : (64 : Int) ≤ ((zoneK K z).length : Int) := by omega
      have HF : Hid ((∃ fp', LdH w b fp' (hitK K z s.data.toList) ∧ (∀ x ∈ fp', x ∈ fp ∨ w.heap.size ≤ x)) ∧ Touch (fun x => x = b ∨ x ∈ fp) w w) := Lib.hid ⟨⟨_, .inr ⟨g, E, h, rfl, hm, by rw [hno]; exact hr⟩, fun x hx => .inl (by rw [hfp]; exact hx)⟩, Touch.refl _ _⟩
      clear hfp h hm hr hnd hmem hkm hzs hcnt hlen hoks hno hg hn
      go_enter Try.func7, Try.ntmps7
      go_wp2_with fail
      refine bodyPost_ret (v := .tuple #[]) (by simp [results, Try.results7, go_sem]) rfl ⟨rfl, HF.out.1, HF.out.2⟩
    · have hok : okHitK K z s.data.toList := ⟨hz, by rw [sz_len]; exact hs1, by rw [sz_len]; exact hs2, by rw [← hn]; omega, by rw [← hn]; exact hroom⟩
      obtain ⟨w5, up5, H5, gr5, hz5⟩ := hkm.put (P := Try.prog) kB Try.underlying48 s.data.toList (.int .i64 (n + 1))
      rw [bytes_data] at up5
      have hgb : ∀ x ∈ b :: g :: [], x ≠ kb := by
        intro x hx e
        subst e
        have hkbm : x ∈ E.map (·.2.1) := List.mem_map.2 ⟨_, hmem, rfl⟩
        simp only [List.nodup_cons, List.mem_cons, not_or] at hnd
        rcases List.mem_cons.1 hx with rfl | hx
        · exact hnd.1.2 hkbm
        · simp at hx; subst hx; exact hnd.2.1 hkbm
      have hfin : (∃ fp', LdH w5 b fp' (hitK K z s.data.toList) ∧ (∀ x ∈ fp', x ∈ fp ∨ w.heap.size ≤ x)) ∧ Touch (fun x => x = b ∨ x ∈ fp) w w5 := by
        have hrep := hr.hit hok
        rw [hzs, ← hn] at hrep
        have hblk : (put1 z (kb, put1 s.data.toList (n + 1) l) E).map (·.2.1) = E.map (·.2.1) := map_put1 (fun p : Nat × Km => p.1) (u := (kb, l)) (v := (kb, put1 s.data.toList (n + 1) l)) rfl hg
        refine ⟨⟨_, .inr ⟨g, put1 z (kb, put1 s.data.toList (n + 1) l) E, whl_grown h gr5 (hgb b List.mem_cons_self), rfl, ⟨?_, ?_, ?_⟩, ?_⟩, ?_⟩, touch_grown (Touch.refl _ w) gr5 (fun _ => Or.inr (by rw [hfp]; exact List.mem_cons_of_mem _ (List.mem_map.2 ⟨_, hmem, rfl⟩)))⟩
        · rw [put_vEz, put1_same (by rw [get_vEz, hg]; rfl)]
          exact map_grown hm.top gr5 (hgb g (by simp))
        · intro e he
          rcases mem_put1 (by rw [← keysE]; exact hr.1) he with rfl | ⟨he, hne⟩
          · rw [← put_vKm]; exact H5
          · refine map_grown (hm.each e he) gr5 (fun e2 => hne ?_)
            have := inj_nodup (fun x : Int × Nat × Km => x.2.1) (List.nodup_cons.1 (List.nodup_cons.1 hnd).2).2 he hmem e2
            rw [this]
        · rw [hblk]; exact hnd
        · rw [put_zEz]; exact hrep
        · intro x hx
          rw [hblk] at hx
          exact .inl (by rw [hfp]; exact hx)
      have HF := Lib.hid hfin
      clear hfp
      have q2 : n = 0 → ¬ (64 : Int) ≤ ((zoneK K z).length : Int) := fun e h => hroom ⟨e, by omega⟩
      clear hfin h hm hr hnd hmem hkm hzs hcnt hlen hoks hg hn hok H5 gr5 hz5 hgb hroom
      by_cases hn1 : n = 0
      · have q3 := q2 hn1
        subst hn1
        simp only [Int.zero_add] at up5
        go_enter Try.func7, Try.ntmps7
        go_wp2_with fail
        refine bodyPost_end (v := .tuple #[]) (by simp [results, Try.results7, go_sem]) rfl ⟨rfl, HF.out.1, HF.out.2⟩
      · go_enter Try.func7, Try.ntmps7
        go_wp2_with fail
        refine bodyPost_end (v := .tuple #[]) (by simp [results, Try.results7, go_sem]) rfl ⟨rfl, HF.out.1, HF.out.2⟩
theorem hitLoad (b : Nat) (fp : List Nat) (K : Ks) (z : Int) (s : ByteArray) (w : World) (h : LdH w b fp K) :
    Calls Try.prog 7 #[.pointer (some ⟨b, 0, none⟩), .int .i64 z, .string s] w fun e w' => e = .returned (.tuple #[]) ∧ (∃ fp', LdH w' b fp' (hitK K z s.data.toList) ∧ (∀ x ∈ fp', x ∈ fp ∨ w.heap.size ≤ x)) ∧ Touch (fun x => x = b ∨ x ∈ fp) w w' := by
  by_cases hv : 1 ≤ z ∧ 1 ≤ s.size ∧ s.size ≤ 16
  · rcases h with ⟨h, rfl, rfl⟩ | ⟨g, E, h, rfl, hm, hr⟩
    · refine (hitFirst b z s w hv h).mono ?_
      rintro e w' ⟨rfl, ⟨fp', h1, h2⟩, h3⟩
      exact ⟨rfl, ⟨fp', h1, fun x hx => .inr (h2 x hx)⟩, h3.mono (fun k hk => .inl hk)⟩
    · cases hg : get1 z E with
      | none => exact hitNew b g E K z s w hv h hm hr _ rfl hg
      | some p => obtain ⟨kb, l⟩ := p; exact hitOld b g kb l E K z s w hv h hm hr _ rfl hg
  · refine (hitNo b z s w hv).mono ?_
    rintro e w' ⟨rfl, rfl⟩
    rw [okHit_no (fun ⟨h1, h2, h3, _, _⟩ => hv ⟨h1, by rw [← sz_len]; exact h2, by rw [← sz_len]; exact h3⟩)]
    exact ⟨rfl, ⟨fp, h, fun x hx => .inl hx⟩, Touch.refl _ _⟩
end Go.Proofs.Ytfakfnekcgkelaa
