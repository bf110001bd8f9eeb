/- rowOf: a zone's row of the table. -/
import Derived.Test.YtfakfnekcgkelaaLdE
import Derived.Deep.DeepCutAuto
namespace Go.Proofs.Ytfakfnekcgkelaa
open Go.RowKit Go.MapKept
set_option linter.unusedVariables false
set_option linter.unusedSimpArgs false

theorem vKm_split {rest : Km} {pre post : List (By × Value)} {k : By} {v : Value} (h : vKm rest = pre ++ (k, v) :: post) : ∃ p n q, rest = p ++ (k, n) :: q ∧ v = .int .i64 n ∧ pre ++ post = vKm (p ++ q) := by
  unfold vKm at h
  obtain ⟨p, t, rfl, e1, e2⟩ := List.map_eq_append_iff.1 h
  obtain ⟨⟨k', n⟩, q, rfl, e3, e4⟩ := List.map_eq_cons_iff.1 e2
  simp only [Prod.mk.injEq] at e3
  obtain ⟨rfl, rfl⟩ := e3
  exact ⟨p, n, q, rfl, rfl, by rw [← e1, ← e4, vKm, List.map_append]⟩
theorem sumM_mid (p q : Km) (k : By) (n : Int) : sumM (p ++ (k, n) :: q) = n + sumM (p ++ q) := by
  have : (p ++ (k, n) :: q).Perm ((k, n) :: (p ++ q)) := List.perm_middle
  rw [sumM_perm this]; simp [sumM]
theorem RangeL.alloc {α : Type} {enc : α → Value} {w : World} {b r : Nat} {l rest : List (α × Value)} (h : RangeL enc w b r l rest) (o : Obj) : RangeL enc (w.alloc o) b r l rest := h.blocks (Below.heap_alloc _ _ _ h.map.lt) (Below.heap_alloc _ _ _ h.lt)
theorem RangeL.far {α : Type} {enc : α → Value} {w : World} {b r : Nat} {l rest : List (α × Value)} (h : RangeL enc w b r l rest) {a : Addr} {v : Value} (h1 : b ≠ a.block) (h2 : r ≠ a.block) : RangeL enc (w.setCell a v) b r l rest := h.blocks (Below.heap_setCell _ _ _ _ h1) (Below.heap_setCell _ _ _ _ h2)
theorem below_grown {B : Nat} {a w w' : World} {g : Nat} (h : Below B a w) (hg : w.grownBy w' (some g)) (hB : B ≤ g) (hs : B ≤ w.heap.size) : Below B a w' := h.trans ⟨hg.os, hg.tape, hg.output, hg.size, fun k hk => hg.block k (by omega) (by intro e; injection e with e; omega)⟩
theorem row_belowL {w w' : World} {base e size n : Nat} {v : Value} {xs : List Value} (h : w.ownsRow base e size v n xs) (hb : Below w.heap.size w w') : w'.ownsRow base e size v n xs := (Touch.of_below hb).own h (fun g hg hd => by have := (h.lt g hg).2; omega)

set_option maxHeartbeats 4000000 in
set_option maxRecDepth 10000 in
theorem rowOfCall (z : Int) (kb : Nat) (l m : Km) (w : World) (hM : MapOf encStr w kb (vKm l)) (hn : (l.map (·.1)).Nodup) (hg : ∀ k, get1 k l = get1 k m) (hm : OKm m) :
    Calls Try.prog 22 #[.int .i64 z, .map (some kb)] w fun e w' => e = .returned (.agg #[.int .i64 z, .int .i64 (sumM m), encStr (midM (sumM m) 0 m)]) ∧ Below w.heap.size w w' := by
  have hperm := perm_of_get hn (hm.sorted.nodup sB) hg
  have hsum : sumM l = sumM m := sumM_perm hperm
  have hbl : ∀ p ∈ l, 0 ≤ p.2 ∧ p.2 ≤ 1048576 := fun p hp => by have := hm.cnt p (hperm.mem_iff.1 hp); omega
  have hll : l.length ≤ 64 := by rw [hperm.length_eq]; exact hm.len
  have hSb := sumM_bound (fun p hp => by have := hm.cnt p hp; omega) hm.len
  have hkb := hM.lt
  obtain ⟨S, hS⟩ : ∃ S, S = sumM m := ⟨_, rfl⟩
  rw [← hS] at hSb hsum
  obtain ⟨o, hrun, hrl⟩ := (map_alloc (map_alloc hM (.cells #[.int .i64 0, .int .i64 0, .string ⟨#[]⟩] 43)) (.cells #[.int .i64 z, .int .i64 0, .string ⟨#[]⟩] 43)).range (P := Try.prog) Try.underlying48
  have hsz : ((w.alloc (.cells #[.int .i64 0, .int .i64 0, .string ⟨#[]⟩] 43)).alloc (.cells #[.int .i64 z, .int .i64 0, .string ⟨#[]⟩] 43)).heap.size = w.heap.size + 2 := by simp
  rw [hsz] at hrun hrl
  have hR0 : Whl (((w.alloc (.cells #[.int .i64 0, .int .i64 0, .string ⟨#[]⟩] 43)).alloc (.cells #[.int .i64 z, .int .i64 0, .string ⟨#[]⟩] 43)).alloc o) w.heap.size 43 #[.int .i64 0, .int .i64 0, .string ⟨#[]⟩] := ((Whl.new rfl).alloc _).alloc _
  have hR1 : Whl (((w.alloc (.cells #[.int .i64 0, .int .i64 0, .string ⟨#[]⟩] 43)).alloc (.cells #[.int .i64 z, .int .i64 0, .string ⟨#[]⟩] 43)).alloc o) (w.heap.size + 1) 43 #[.int .i64 z, .int .i64 0, .string ⟨#[]⟩] := (Whl.new (by simp)).alloc _
  have hB0 : Below w.heap.size w (((w.alloc (.cells #[.int .i64 0, .int .i64 0, .string ⟨#[]⟩] 43)).alloc (.cells #[.int .i64 z, .int .i64 0, .string ⟨#[]⟩] 43)).alloc o) := (((Below.refl _ _).alloc (Nat.le_refl _) _).alloc (by simp) _).alloc (by simp; omega) _
  have HM := Lib.hid hM
  have HR0 := Lib.hid hR0
  have HR1 := Lib.hid hR1
  have HB0 := Lib.hid hB0
  have HRL := Lib.hid hrl
  have HBL := Lib.hid hbl
  have HG := Lib.hid hg
  have HN := Lib.hid hn
  have HOK := Lib.hid hm
  have HS := Lib.hid hS
  rw [← hS]
  clear hM hR0 hR1 hB0 hrl hbl hg hn hm hS hperm hsz
  go_enter Try.func22, Try.ntmps22
  go_wp2_with fail
  go_loopw [] (fun wr => ∃ (rest : Km) (a : Int), RangeL encStr wr kb (w.heap.size + 2) (vKm l) (vKm rest) ∧ Whl wr w.heap.size 43 #[.int .i64 0, .int .i64 0, .string ⟨#[]⟩] ∧ Whl wr (w.heap.size + 1) 43 #[.int .i64 z, .int .i64 a, .string ⟨#[]⟩] ∧ Below w.heap.size w wr ∧ a + sumM rest = S ∧ 0 ≤ a ∧ (∀ p ∈ rest, 0 ≤ p.2 ∧ p.2 ≤ 1048576) ∧ rest.length ≤ 64) (fun wr => wr.rangeLeft kb (w.heap.size + 2))
  case atStart => exact ⟨l, 0, HRL.out, HR0.out, HR1.out, HB0.out, by omega, by omega, HBL.out, hll⟩
  case round =>
    obtain ⟨rest, a, hrg, hR0, hR1, hB, hsa, ha0, hbr, hlr⟩ := hrel
    have hBs := hB.size
    have hrlt := hrg.lt
    have hlq := hrg.left_eq
    have hsb := sumM_bound hbr hlr
    rcases hrg.next (P := Try.prog) 0 with ⟨h0, hnx⟩ | ⟨pre, k, v, post, w2, h0, hnx, hrg2, hgr, hz2, hen⟩
    · have hrest : rest = [] := by simpa [vKm] using h0
      subst hrest
      obtain rfl : a = S := by simp [sumM] at hsa; omega
      have hMr := Lib.hid hrg.map
      have HR0' := Lib.hid hR0
      have c0 := hR1.cell 0
      have c1 := hR1.cell 1
      have c2 := hR1.cell 2
      simp only [List.getElem?_toArray, List.getElem?_cons_succ, List.getElem?_cons_zero] at c0 c1 c2
      have HR1' := Lib.hid hR1
      clear hrg hR0 hR1 hsa hbr hlr hlq hsb h0
      go_wp2_with (first
        | (go_at_call 27; refine (keysB _ _).mono ?_; rintro e w3 ⟨rfl, hk3, hb3⟩; have hs3 := hb3.size; have HK3 := Lib.hid hk3; have c01 := bkeep hb3 c0 (by omega); have c11 := bkeep hb3 c1 (by omega); have c21 := bkeep hb3 c2 (by omega); clear c0 c1 c2 hk3)
        | (go_at_call 26; refine (sortedKeysOf sortedAt33 (hMr.out.block (hb3.block _ hMr.out.lt)) HN.out HG.out HOK.out HK3.out.low (HK3.out.cell 0)).mono ?_; rintro e w4 ⟨v4, rfl, hrow4, hb4⟩; obtain ⟨gq, cq, rfl, hq1, hq2, hq3, hq4⟩ := own_form hrow4 (List.length_pos_iff.2 HOK.out.ne); have hs4 := hb4.size; have HROW := Lib.hid hrow4; have c02 := bkeep hb4 c01 (by omega); have c12 := bkeep hb4 c11 (by omega); have c22 := bkeep hb4 c21 (by omega); clear c01 c11 c21 hrow4)
        | fail)
      have hB4 : Below w.heap.size w w4 := (hB.trans (hb3.mono (by omega))).trans (hb4.mono (by omega))
      have HR1q : Whl w4 (w.heap.size + 1) 43 #[.int .i64 z, .int .i64 a, .string ⟨#[]⟩] := (HR1'.out.below hb3 (by omega)).below hb4 (by omega)
      have HR0q : Whl w4 w.heap.size 43 #[.int .i64 0, .int .i64 0, .string ⟨#[]⟩] := (HR0'.out.below hb3 (by omega)).below hb4 (by omega)
      have HMq : MapOf encStr w4 kb (vKm l) := (hMr.out.block (hb3.block _ hMr.out.lt)).block (hb4.block _ (by have := hMr.out.lt; omega))
      have HX1 := Lib.hid HR1q
      have HX0 := Lib.hid HR0q
      have HXM := Lib.hid HMq
      have HXB := Lib.hid hB4
      have hz4 : w.heap.size + 3 ≤ w4.heap.size := by omega
      clear HR1q HR0q HMq hB4 c02 c12 c22 hMr HR0' HR1' HK3 hb3 hb4 hB
      go_loopw [8, 10, 28] (fun ah key i wq => ∃ (j : Nat) (t : Int), j ≤ m.length ∧ i = .int .i64 j ∧ ah = .int .i64 t ∧ 0 ≤ t ∧ t ≤ 1048576 * j ∧ midM a 0 m = midM a t (m.drop j) ∧ wq = w4) (fun _ _ i _ => m.length - (intOf i).toNat)
      case atStart => exact ⟨0, 0, by omega, rfl, rfl, by omega, by omega, rfl, rfl⟩
      case round =>
        obtain ⟨j, t, hj, rfl, rfl, ht0, htb, hmid, rfl⟩ := hrel
        have hml := HOK.out.len
        by_cases hjl : j < m.length
        · have hkey := HROW.out.cellAt j (by omega)
          rw [List.getElem?_map, List.getElem?_map, List.getElem?_eq_getElem hjl] at hkey
          simp only [Option.map_some] at hkey
          have hmem : m[j] ∈ m := List.getElem_mem hjl
          have hbj := HOK.out.cnt _ hmem
          have hdrop : m.drop j = m[j] :: m.drop (j + 1) := List.drop_eq_getElem_cons hjl
          have hget : get1 m[j].1 l = some m[j].2 := by rw [HG.out]; exact get1_of_mem (HOK.out.sorted.nodup sB) hmem
          have lk := HXM.out.look (P := Try.prog) kB Try.underlying48 (zI0 _) m[j].1
          rw [get_vKm, hget] at lk
          simp only [Option.getD_some] at lk
          obtain ⟨k, hk⟩ : ∃ k, k = m[j].1 := ⟨_, rfl⟩
          obtain ⟨n, hn⟩ : ∃ n, n = m[j].2 := ⟨_, rfl⟩
          have hpair : m[j] = (k, n) := by rw [hk, hn]
          rw [hpair] at hdrop
          rw [← hk] at hkey lk
          rw [← hn] at lk hbj
          rw [hdrop, midM] at hmid
          have hkl := hbj.2.2
          rw [← hk] at hkl
          clear hk hn hpair hget hmem hdrop
          have e0 := HX1.out.cell 0
          have e1 := HX1.out.cell 1
          have e2 := HX1.out.cell 2
          have f0 := HX1.out.free 0
          have f1 := HX1.out.free 1
          have f2 := HX1.out.free 2
          have g0 := HX0.out.cell 0
          have g1 := HX0.out.cell 1
          have g2 := HX0.out.cell 2
          have r0 := HX0.out.free 0
          have r1 := HX0.out.free 1
          have r2 := HX0.out.free 2
          simp only [List.getElem?_toArray, List.getElem?_cons_succ, List.getElem?_cons_zero] at e0 e1 e2 g0 g1 g2
          have q1 : (j : Int) < (m.length : Int) := by omega
          by_cases hle : a ≤ 2 * (t + n)
          · rw [if_pos hle] at hmid
            go_wp2_with fail
            refine bodyPost_ret (v := .agg #[.int .i64 z, .int .i64 a, encStr k]) (by simp [results, Try.results22, go_sem, ↓IntWalk.iteOmega, *]) rfl ⟨by rw [hmid], ?_⟩
            have := HXB.out
            ((repeat (first | (with_reducible exact Below.refl _ _) | (with_reducible assumption) | ((with_reducible refine b_set ?_ ?_); · (first | omega | (simp; done) | (simp; omega))) | ((with_reducible refine b_alloc ?_ ?_); · (first | omega | (simp; done) | (simp; omega))) | (with_reducible refine Below.drew ?_) | (with_reducible refine b_drewN ?_) | ((with_reducible refine b_call (by assumption) ?_ ?_); · (first | omega | (simp; done) | (simp; omega))))); done)
          · rw [if_neg hle] at hmid
            go_wp2_with fail
            exact ⟨⟨j + 1, t + n, by omega, by go_num, by go_num, by omega, by omega, hmid, trivial⟩, by simp [intOf]; omega⟩
        · obtain rfl : j = m.length := by omega
          rw [List.drop_length, midM] at hmid
          have e0 := HX1.out.cell 0
          have e1 := HX1.out.cell 1
          have e2 := HX1.out.cell 2
          have g0 := HX0.out.cell 0
          have g1 := HX0.out.cell 1
          have g2 := HX0.out.cell 2
          have r0 := HX0.out.free 0
          have r1 := HX0.out.free 1
          have r2 := HX0.out.free 2
          simp only [List.getElem?_toArray, List.getElem?_cons_succ, List.getElem?_cons_zero] at e0 e1 e2 g0 g1 g2
          go_wp2_with fail
          refine bodyPost_ret (v := .agg #[.int .i64 z, .int .i64 a, encStr []]) (by simp [results, Try.results22, go_sem, ↓IntWalk.iteOmega, *]) rfl ⟨by rw [hmid], ?_⟩
          have := HXB.out
          ((repeat (first | (with_reducible exact Below.refl _ _) | (with_reducible assumption) | ((with_reducible refine b_set ?_ ?_); · (first | omega | (simp; done) | (simp; omega))) | ((with_reducible refine b_alloc ?_ ?_); · (first | omega | (simp; done) | (simp; omega))) | (with_reducible refine Below.drew ?_) | (with_reducible refine b_drewN ?_) | ((with_reducible refine b_call (by assumption) ?_ ?_); · (first | omega | (simp; done) | (simp; omega))))); done)
    · obtain ⟨p, n, q, rfl, rfl, hpq⟩ := vKm_split h0
      rw [sumM_mid] at hsa hsb
      have hnb := hbr (k, n) (by simp)
      simp only at hnb
      have hbr' : ∀ x ∈ p ++ q, 0 ≤ x.2 ∧ x.2 ≤ 1048576 := fun x hx => hbr x (by simp at hx ⊢; rcases hx with h | h; exact .inl h; exact .inr (.inr h))
      have hlr' : (p ++ q).length ≤ 64 := by simp at hlr ⊢; omega
      have hsb' := sumM_bound hbr' hlr'
      rw [hpq] at hrg2
      have hR0' := whl_grown hR0 hgr (by omega)
      have hR1' := whl_grown hR1 hgr (by omega)
      have hB' := below_grown hB hgr (by omega) (by omega)
      have hle' := hrg2.left_eq
      have e0 := hR1'.cell 0
      have e1 := hR1'.cell 1
      have e2 := hR1'.cell 2
      have f1 := hR1'.free 1
      simp only [List.getElem?_toArray, List.getElem?_cons_succ, List.getElem?_cons_zero] at e0 e1 e2
      have hN : RangeL encStr (w2.setCell ⟨w.heap.size + 1, 1, none⟩ (.int .i64 (a + n))) kb (w.heap.size + 2) (vKm l) (vKm (p ++ q)) := hrg2.far (by simp; omega) (by simp)
      have hFin : (∃ (rest : Km) (a' : Int), RangeL encStr (w2.setCell ⟨w.heap.size + 1, 1, none⟩ (.int .i64 (a + n))) kb (w.heap.size + 2) (vKm l) (vKm rest) ∧ Whl (w2.setCell ⟨w.heap.size + 1, 1, none⟩ (.int .i64 (a + n))) w.heap.size 43 #[.int .i64 0, .int .i64 0, .string ⟨#[]⟩] ∧ Whl (w2.setCell ⟨w.heap.size + 1, 1, none⟩ (.int .i64 (a + n))) (w.heap.size + 1) 43 #[.int .i64 z, .int .i64 a', .string ⟨#[]⟩] ∧ Below w.heap.size w (w2.setCell ⟨w.heap.size + 1, 1, none⟩ (.int .i64 (a + n))) ∧ a' + sumM rest = S ∧ 0 ≤ a' ∧ (∀ p ∈ rest, 0 ≤ p.2 ∧ p.2 ≤ 1048576) ∧ rest.length ≤ 64) ∧ (w2.setCell ⟨w.heap.size + 1, 1, none⟩ (.int .i64 (a + n))).rangeLeft kb (w.heap.size + 2) < wr.rangeLeft kb (w.heap.size + 2) := by
        refine ⟨⟨p ++ q, a + n, hN, hR0'.far (by simp), hR1'.set 1 _, hB'.setCell (by simp) _, by omega, by omega, hbr', hlr'⟩, ?_⟩
        rw [hN.left_eq, hlq]
        simp [vKm]
      have HF := Lib.hid hFin
      clear hFin hN hR0' hR1' hB' hrg2 hR0 hR1 hrg hB hbr hbr' hlr hlr' hlq hle' h0 hpq hgr
      go_wp2_with fail
      exact HF.out
end Go.Proofs.Ytfakfnekcgkelaa
