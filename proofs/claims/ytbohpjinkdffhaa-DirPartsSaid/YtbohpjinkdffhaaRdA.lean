/- The document's directory: in memory; in, find, pending, free, Own, Hosts. -/
import Derived.Test.YtbohpjinkdffhaaDrT
namespace Go.Proofs.Ytbohpjinkdffhaa
open Go.RowKit
set_option linter.unusedVariables false
set_option linter.unusedSimpArgs false

structure RdH (w : World) (B x : Nat) (hv zv : Value) (hosts : List Int) (m : Mp) : Prop where
  blk : Whl w x 44 #[.int .i64 m.ver, .int .i64 m.nxt, zv, hv]
  hrow : w.ownsRow B 3 1 hv hosts.length (intsV hosts)
  row : w.ownsRow B 39 9 zv m.zs.length (flatZ m.zs)
  ha : ∀ g, hv.ownBlock = some g → g ≠ x
  za : ∀ g, zv.ownBlock = some g → g ≠ x
  hz : ∀ g, hv.ownBlock = some g → zv.ownBlock ≠ some g
  low : B ≤ x
theorem RdH.keep {D : Nat → Prop} {w w' : World} {B d : Nat} {hv zv : Value} {hosts : List Int} {m : Mp} (h : RdH w B d hv zv hosts m) (ht : Touch D w w') (hD : ∀ k, Fd d hv zv k → ¬ D k) : RdH w' B d hv zv hosts m :=
  ⟨(ht.block d h.blk.low (hD d (.inl rfl))).trans h.blk, ht.own h.hrow (fun g hg => hD g (.inr (.inl hg))), ht.own h.row (fun g hg => hD g (.inr (.inr hg))), h.ha, h.za, h.hz, h.low⟩
theorem RdH.lows {w : World} {B d : Nat} {hv zv : Value} {hosts : List Int} {m : Mp} (h : RdH w B d hv zv hosts m) : ∀ k, Fd d hv zv k → B ≤ k ∧ k < w.heap.size := by
  rintro k (rfl | hk | hk)
  · exact ⟨h.low, h.blk.low⟩
  · exact h.hrow.lt k hk
  · exact h.row.lt k hk
theorem RdH.below {w w' : World} {B d : Nat} {hv zv : Value} {hosts : List Int} {m : Mp} (h : RdH w B d hv zv hosts m) (hb : Below w.heap.size w w') : RdH w' B d hv zv hosts m :=
  h.keep (Touch.of_below hb) (fun k hk hd => by have := (h.lows k hk).2; omega)
set_option maxHeartbeats 4000000 in
set_option maxRecDepth 10000 in
theorem rdIn (B : Nat) (hv : Value) (l : List Int) (n : Int) (w : World) (h : w.ownsRow B 3 1 hv l.length (intsV l)) (hl : l.length ≤ 100000) :
    Calls Try.prog 75 #[hv, .int .i64 n] w fun e w' => e = .returned (.bool (decide (n ∈ l))) ∧ Below w.heap.size w w' := by
  have HR := Lib.hid h
  obtain ⟨A, cc, hzv, _, hnc, hcm⟩ := own_slice h
  subst hzv
  clear h
  go_enter Try.func75, Try.ntmps75
  go_wp2_with fail
  go_loopw [5] (fun iv wr => ∃ i : Nat, i ≤ l.length ∧ iv = .int .i64 i ∧ (∀ j (hj : j < l.length), j < i → l[j] ≠ n) ∧ Below w.heap.size w wr) (fun iv _ => l.length - (intOf iv).toNat)
  case atStart => exact ⟨0, Nat.zero_le _, rfl, fun j hj h => by omega, Below.refl _ _⟩
  case round =>
    obtain ⟨i, hil, rfl, hno, hBw⟩ := hrel
    have HBW := Lib.hid hBw
    have HNO := Lib.hid hno
    by_cases hlt : i < l.length
    · have q3 : (i : Int) < (l.length : Int) := by omega
      have hr := row_belowZ HR.out hBw
      obtain ⟨gu, ku, e5, _, hgu, _, _⟩ := own_form hr (by omega)
      injection e5 with e5 e6 e7
      subst e5 e7
      have a0 := (hr.cellAt i (by omega)).trans (intsV_at hlt)
      obtain ⟨z, hz⟩ : ∃ z, z = l[i] := ⟨_, rfl⟩
      rw [← hz] at a0
      have HZ := Lib.hid hz
      clear hr hBw hz hno
      by_cases hk : z = n
      · go_wp2_with fail
        go_ret
        exact ⟨ret_bool (by rw [decide_eq_true (show n ∈ l by rw [← hk, HZ.out]; exact List.getElem_mem hlt)]), HBW.out⟩
      · have hk2 : (z == n) = false := by simpa using hk
        go_wp2_with fail
        refine ⟨⟨i + 1, hlt, by go_num, fun j hj h => ?_, HBW.out⟩, measZ hlt⟩
        by_cases e : j = i
        · subst e; rw [← HZ.out]; exact hk
        · exact HNO.out j hj (by omega)
    · obtain rfl : l.length = i := by omega
      go_wp2_with fail
      go_ret
      exact ⟨ret_bool (by rw [decide_eq_false (fun hm => by obtain ⟨j, hj, e⟩ := List.getElem_of_mem hm; exact HNO.out j hj hj e)]), HBW.out⟩
set_option maxHeartbeats 4000000 in
set_option maxRecDepth 10000 in
theorem rdFind (B : Nat) (zv : Value) (l : List Zn) (id : Int) (w : World) (h : w.ownsRow B 39 9 zv l.length (flatZ l)) (hl : l.length ≤ 100000) :
    Calls Try.prog 40 #[zv, .int .i64 id] w fun e w' => ∃ k, e = .returned (.int .i64 k) ∧ At l id l.length k ∧ Below w.heap.size w w' := by
  have HR := Lib.hid h
  obtain ⟨A, cc, hzv, _, hnc, hcm⟩ := own_slice h
  subst hzv
  clear h
  go_enter Try.func40, Try.ntmps40
  go_wp2_with fail
  go_loopw [5] (fun iv wr => ∃ i : Nat, i ≤ l.length ∧ iv = .int .i64 i ∧ (∀ j (hj : j < l.length), j < i → l[j].id ≠ id) ∧ Below w.heap.size w wr) (fun iv _ => l.length - (intOf iv).toNat)
  case atStart => exact ⟨0, Nat.zero_le _, rfl, fun j hj h => by omega, Below.refl _ _⟩
  case round =>
    obtain ⟨i, hil, rfl, hno, hBw⟩ := hrel
    have HBW := Lib.hid hBw
    have HNO := Lib.hid hno
    by_cases hlt : i < l.length
    · have q3 : (i : Int) < (l.length : Int) := by omega
      have hr := row_belowZ HR.out hBw
      obtain ⟨gu, ku, e5, _, hgu, _, _⟩ := own_form hr (by omega)
      injection e5 with e5 e6 e7
      subst e5 e7
      obtain ⟨z, hz⟩ : ∃ z, z = l[i] := ⟨_, rfl⟩
      obtain ⟨a0, _⟩ := rowZ_at hr hlt
      rw [← hz] at a0
      have HZ := Lib.hid hz
      clear hr hBw hz hno
      by_cases hk : z.id = id
      · go_wp2_with fail
        go_ret
        exact ⟨_, rfl, .inr ⟨i, rfl, hlt, by rw [← HZ.out]; exact hk, HNO.out⟩, HBW.out⟩
      · have hk2 : (z.id == id) = false := by simpa using hk
        go_wp2_with fail
        refine ⟨⟨i + 1, hlt, by go_num, fun j hj h => ?_, HBW.out⟩, measZ hlt⟩
        by_cases e : j = i
        · subst e; rw [← HZ.out]; exact hk
        · exact HNO.out j hj (by omega)
    · obtain rfl : l.length = i := by omega
      go_wp2_with fail
      go_ret
      exact ⟨_, rfl, .inl ⟨rfl, HNO.out⟩, HBW.out⟩
set_option maxHeartbeats 4000000 in
set_option maxRecDepth 10000 in
theorem rdPending (B d : Nat) (hv zv : Value) (hosts : List Int) (m : Mp) (k : Int) (w : World) (h : RdH w B d hv zv hosts m) (hl : m.zs.length ≤ 1000) :
    Calls Try.prog 74 #[.pointer (some ⟨d, 0, none⟩), .int .i64 k] w fun e w' => e = .returned (.int .i64 (pendN k m.zs)) ∧ Below w.heap.size w w' := by
  have HD := Lib.hid h
  have l3 := h.blk.cell 2
  simp only [List.getElem?_toArray, List.getElem?_cons_succ, List.getElem?_cons_zero] at l3
  obtain ⟨A, c, hzv, _, hnc, hcm⟩ := own_slice h.row
  rw [hzv] at l3
  have hdl := h.blk.low
  clear h
  go_enter Try.func74, Try.ntmps74
  go_wp2_with fail
  go_loopw [5, 6] (fun nv iv wr => ∃ i : Nat, i ≤ m.zs.length ∧ iv = .int .i64 i ∧ nv = .int .i64 (pendN k (m.zs.take i)) ∧ Below w.heap.size w wr) (fun _ iv _ => m.zs.length - (intOf iv).toNat)
  case atStart => exact ⟨0, Nat.zero_le _, rfl, by simp [pendN], Below.refl _ _⟩
  case round =>
    obtain ⟨i, hil, rfl, rfl, hBw⟩ := hrel
    have HBW := Lib.hid hBw
    have l3 := bkeep hBw l3 hdl
    by_cases hlt : i < m.zs.length
    · have q3 : (i : Int) < (m.zs.length : Int) := by omega
      have hr := row_belowZ HD.out.row hBw
      obtain ⟨gu, ku, e5, _, hgu, _, _⟩ := own_form hr (by omega)
      rw [hzv] at e5
      injection e5 with e5 e6 e7
      subst e5 e7
      rw [hzv] at hr
      obtain ⟨z, hz⟩ : ∃ z, z = m.zs[i] := ⟨_, rfl⟩
      obtain ⟨_, _, _, _, _, a5, _⟩ := rowZ_at hr hlt
      rw [← hz] at a5
      have hps := pendN_snoc k hlt
      rw [← hz] at hps
      have hple := pendN_le k (m.zs.take i)
      rw [List.length_take] at hple
      have HPS := Lib.hid hps
      obtain ⟨pn, hpn⟩ : ∃ p, p = pendN k (m.zs.take i) := ⟨_, rfl⟩
      rw [← hpn] at hple ⊢
      have HPN := Lib.hid hpn
      clear hr hBw hz hps hpn
      by_cases hk : z.pd = k
      · go_wp2_with fail
        refine ⟨⟨i + 1, hlt, by go_num, ?_, HBW.out⟩, measZ hlt⟩
        rw [HPS.out, if_pos hk, ← HPN.out]
        go_num
      · have hk2 : (z.pd == k) = false := by simpa using hk
        go_wp2_with fail
        refine ⟨⟨i + 1, hlt, by go_num, ?_, HBW.out⟩, measZ hlt⟩
        rw [HPS.out, if_neg hk, ← HPN.out]
        rfl
    · obtain rfl : m.zs.length = i := by omega
      go_wp2_with fail
      go_ret
      rw [List.take_length]
      exact ⟨rfl, HBW.out⟩
set_option maxHeartbeats 4000000 in
set_option maxRecDepth 10000 in
theorem rdFree (z : Zn) (w : World) : Calls Try.prog 77 #[.agg #[.int .i64 z.id, .string z.fr, .string z.tt, .int .i64 z.ow, .int .i64 z.ep, .int .i64 z.pd, .int .i64 z.mv, .string z.ky, .int .i64 z.nw]] w fun e w' => e = .returned (.agg #[.int .i64 z.id, .string z.fr, .string z.tt, .int .i64 z.ow, .int .i64 z.ep, .int .i64 0, .int .i64 0, .string ⟨#[]⟩, .int .i64 0]) ∧ Below w.heap.size w w' := by
  go_enter Try.func77, Try.ntmps77
  go_wp2_with fail
  refine bodyPost_ret (v := .agg #[.int .i64 z.id, .string z.fr, .string z.tt, .int .i64 z.ow, .int .i64 z.ep, .int .i64 0, .int .i64 0, .string ⟨#[]⟩, .int .i64 0]) (by simp [results, Try.results77, go_sem, ↓IntWalk.iteOmega, *]) rfl ⟨rfl, ?_⟩
  ((repeat (first | (with_reducible exact Below.refl _ _) | (with_reducible assumption) | ((with_reducible refine b_set ?_ ?_); · (first | omega | (simp; done) | (simp; omega))) | ((with_reducible refine b_alloc ?_ ?_); · (first | omega | (simp; done) | (simp; omega))) | (with_reducible refine Below.drew ?_) | (with_reducible refine b_drewN ?_) | ((with_reducible refine b_call (by assumption) ?_ ?_); · (first | omega | (simp; done) | (simp; omega))))); done)
set_option maxHeartbeats 4000000 in
set_option maxRecDepth 10000 in
theorem rdOwn (B : Nat) (zv : Value) (m : Mp) (w : World) (h : w.ownsRow B 39 9 zv m.zs.length (flatZ m.zs)) (hl : m.zs.length ≤ 1000) (h0 : 1 ≤ m.zs.length) :
    Calls Try.prog 42 #[.agg #[.int .i64 m.ver, .int .i64 m.nxt, zv]] w fun e w' => ∃ v', e = .returned (.agg #[.int .i64 m.ver, .int .i64 m.nxt, v']) ∧ w'.ownsRow w.heap.size 39 9 v' m.zs.length (flatZ m.zs) ∧ Below w.heap.size w w' := by
  obtain ⟨i0, hi0, hz0, hz1, hz2⟩ := info_parts Try.infoZone
  obtain ⟨gz, cc, hzv, _, hgz, hnc, hcm⟩ := own_form h (by omega)
  subst hzv
  have hC : Cells w w.heap.size (some ⟨gz, 0, none⟩) m.zs.length cc 9 (flatZ m.zs) := by
    refine ⟨h.1, (fun h => nomatch h), fun j u hj => ⟨gz, 0, rfl, hgz, ?_⟩⟩
    rw [Nat.zero_add, h.cellAt j (by have := (List.getElem?_eq_some_iff.1 hj).1; have h1 := h.1; omega)]
    exact hj
  have HC := Lib.hid hC
  clear hC h
  go_enter Try.func42, Try.ntmps42
  go_wp2_with (first
    | (at_builtin; go_loud (refine wpList_append_row rfl (.tmp 3) (.tmp 5) 31 rfl (w.heap.size + 2) 39 i0 _ 9 96 Try.underlying31 hi0 hz0 hz1 hz2 rfl (by decide) (.slice (some ⟨w.heap.size + 2, 0, none⟩) 0 0) 0 [] rfl (owns_lit0 (by (first | omega | (simp; done) | (simp; omega))) (by (first | omega | (simp; done) | (simp; omega)))) w.heap.size (some ⟨gz, 0, none⟩) m.zs.length cc (flatZ m.zs) rfl (cells_keep HC.out (by ((repeat (first | (with_reducible exact Below.refl _ _) | (with_reducible assumption) | ((with_reducible refine b_set ?_ ?_); · (first | omega | (simp; done) | (simp; omega))) | ((with_reducible refine b_alloc ?_ ?_); · (first | omega | (simp; done) | (simp; omega))) | (with_reducible refine Below.drew ?_) | (with_reducible refine b_drewN ?_) | ((with_reducible refine b_call (by assumption) ?_ ?_); · (first | omega | (simp; done) | (simp; omega))))); done)) (Nat.le_refl _)) (flatZ_one m.zs) (by unfold maxLen; omega) (by omega) (by (first | omega | (simp; done) | (simp; omega))) ?_; intro v5 w5 ho5 hb5; obtain ⟨g5, c5, e5, hg5, hgl5, _, _⟩ := own_form ho5 (by omega); subst e5; have HO5 := Lib.hid ho5; have HB5 := Lib.hid hb5; obtain ⟨hc5, hf5⟩ := bcell hb5; have hs5 := hb5.size; (try simp at hs5); clear ho5 hb5))
    | fail)
  refine bodyPost_ret (v := .agg #[.int .i64 m.ver, .int .i64 m.nxt, .slice (some ⟨g5, 0, none⟩) (0 + m.zs.length) c5]) (by simp [results, Try.results42, go_sem, ↓IntWalk.iteOmega, *]) rfl ?_
  have h5 := HO5.out
  rw [Nat.zero_add, List.nil_append] at h5
  rw [Nat.zero_add]
  have hlt : ∀ g, (Value.slice (some ⟨g5, 0, none⟩) m.zs.length c5).ownBlock = some g → w.heap.size + 2 ≤ g := fun g hg => by
    have : g5 = g := by simpa [Value.ownBlock] using hg
    omega
  refine ⟨_, rfl, ?_, ?_⟩
  · refine own_set_ne (own_set_ne (own_set_ne (own_set_ne (own_mono h5 (by omega)) ?_) ?_) ?_) ?_
    all_goals (intro g hg; have := hlt g hg; show g ≠ _; simp; omega)
  · have hA : Below w.heap.size w w5 := Below.trans (by ((repeat (first | (with_reducible exact Below.refl _ _) | (with_reducible assumption) | ((with_reducible refine b_set ?_ ?_); · (first | omega | (simp; done) | (simp; omega))) | ((with_reducible refine b_alloc ?_ ?_); · (first | omega | (simp; done) | (simp; omega))) | (with_reducible refine Below.drew ?_) | (with_reducible refine b_drewN ?_) | ((with_reducible refine b_call (by assumption) ?_ ?_); · (first | omega | (simp; done) | (simp; omega))))); done)) (HB5.out.mono (by omega))
    exact b_set (Nat.le_succ _) (b_set (Nat.le_succ _) (b_set (Nat.le_succ _) (b_set (Nat.le_refl _) hA)))
end Go.Proofs.Ytbohpjinkdffhaa
