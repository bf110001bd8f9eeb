/- The document's directory: in memory; in, find, pending, free, Own, Hosts. The document's directory: merges, splits, zone. The directory, pure: which maps may be, of any maps: as the document tells it, and as the code does. The document's directory, of any maps -/
import Derived.Lib.VarintBits
import Derived.Deep.Heap
import Derived.Test.YtepjehcmiofehaaPq3
namespace Go.Proofs.Ytepjehcmiofehaa
open Go.RowKit
set_option linter.unusedVariables false
set_option linter.unusedSimpArgs false
structure RdH (w : World) (B x : Nat) (hv zv : Value) (hosts : List Int) (m : Mp) : Prop where
  blk : Whl w x 44 #[.int .i64 m.ver, .int .i64 m.nxt, zv, hv]
  hrow : w.ownsRow B 3 1 hv hosts.length (intsV hosts)
  row : w.ownsRow B 37 9 zv m.zs.length (flatZ m.zs)
  ha : ∀ g, hv.ownBlock = some g → g ≠ x
  za : ∀ g, zv.ownBlock = some g → g ≠ x
  hz : ∀ g, hv.ownBlock = some g → zv.ownBlock ≠ some g
  low : B ≤ x
theorem RdH.keep {D : Nat → Prop} {w w' : World} {B d : Nat} {hv zv : Value} {hosts : List Int} {m : Mp} (h : RdH w B d hv zv hosts m) (ht : Touch D w w') (hD : ∀ k, Fd d hv zv k → ¬ D k) : RdH w' B d hv zv hosts m :=
  ⟨(ht.block d h.blk.low (hD d (.inl rfl))).trans h.blk, ht.own h.hrow (fun g hg => hD g (.inr (.inl hg))), ht.own h.row (fun g hg => hD g (.inr (.inr hg))), h.ha, h.za, h.hz, h.low⟩
theorem RdH.lows {w : World} {B d : Nat} {hv zv : Value} {hosts : List Int} {m : Mp} (h : RdH w B d hv zv hosts m) : ∀ k, Fd d hv zv k → B ≤ k ∧ k < w.heap.size := by
  rintro k (rfl | hk | hk)
  · exact ⟨h.low, h.blk.low⟩
  · exact h.hrow.lt k hk
  · exact h.row.lt k hk
theorem RdH.below {w w' : World} {B d : Nat} {hv zv : Value} {hosts : List Int} {m : Mp} (h : RdH w B d hv zv hosts m) (hb : Below w.heap.size w w') : RdH w' B d hv zv hosts m :=
  h.keep (Touch.of_below hb) (fun k hk hd => by have := (h.lows k hk).2; omega)
set_option maxHeartbeats 4000000 in
set_option maxRecDepth 10000 in
theorem rdIn (B : Nat) (hv : Value) (l : List Int) (n : Int) (w : World) (h : w.ownsRow B 3 1 hv l.length (intsV l)) (hl : l.length ≤ 100000) :
    Calls Try.prog 14 #[hv, .int .i64 n] w fun e w' => e = .returned (.bool (decide (n ∈ l))) ∧ Below w.heap.size w w' := by
  have HR := Lib.hid h
  obtain ⟨A, cc, hzv, _, hnc, hcm⟩ := own_slice h
  subst hzv
  clear h
  go_enter Try.func14, Try.ntmps14
  go_wp2_with fail
  go_loopw [5] (fun iv wr => ∃ i : Nat, i ≤ l.length ∧ iv = .int .i64 i ∧ (∀ j (hj : j < l.length), j < i → l[j] ≠ n) ∧ Below w.heap.size w wr) (fun iv _ => l.length - (intOf iv).toNat)
  case atStart => exact ⟨0, Nat.zero_le _, rfl, fun j hj h => by omega, Below.refl _ _⟩
  case round =>
    obtain ⟨i, hil, rfl, hno, hBw⟩ := hrel
    have HBW := Lib.hid hBw
    have HNO := Lib.hid hno
    by_cases hlt : i < l.length
    · have q3 : (i : Int) < (l.length : Int) := by omega
      have hr := row_belowZ HR.out hBw
      obtain ⟨gu, ku, e5, _, hgu, _, _⟩ := own_form hr (by omega)
      injection e5 with e5 e6 e7
      subst e5 e7
      have a0 := (hr.cellAt i (by omega)).trans (intsV_at hlt)
      obtain ⟨z, hz⟩ : ∃ z, z = l[i] := ⟨_, rfl⟩
      rw [← hz] at a0
      have HZ := Lib.hid hz
      clear hr hBw hz hno
      by_cases hk : z = n
      · go_wp2_with fail
        go_ret
        exact ⟨ret_bool (by rw [decide_eq_true (show n ∈ l by rw [← hk, HZ.out]; exact List.getElem_mem hlt)]), HBW.out⟩
      · have hk2 : (z == n) = false := by simpa using hk
        go_wp2_with fail
        refine ⟨⟨i + 1, hlt, by go_num, fun j hj h => ?_, HBW.out⟩, measZ hlt⟩
        by_cases e : j = i
        · subst e; rw [← HZ.out]; exact hk
        · exact HNO.out j hj (by omega)
    · obtain rfl : l.length = i := by omega
      go_wp2_with fail
      go_ret
      exact ⟨ret_bool (by rw [decide_eq_false (fun hm => by obtain ⟨j, hj, e⟩ := List.getElem_of_mem hm; exact HNO.out j hj hj e)]), HBW.out⟩
set_option maxHeartbeats 4000000 in
set_option maxRecDepth 10000 in
theorem rdFind (B : Nat) (zv : Value) (l : List Zn) (id : Int) (w : World) (h : w.ownsRow B 37 9 zv l.length (flatZ l)) (hl : l.length ≤ 100000) :
    Calls Try.prog 22 #[zv, .int .i64 id] w fun e w' => ∃ k, e = .returned (.int .i64 k) ∧ At l id l.length k ∧ Below w.heap.size w w' := by
  have HR := Lib.hid h
  obtain ⟨A, cc, hzv, _, hnc, hcm⟩ := own_slice h
  subst hzv
  clear h
  go_enter Try.func22, Try.ntmps22
  go_wp2_with fail
  go_loopw [5] (fun iv wr => ∃ i : Nat, i ≤ l.length ∧ iv = .int .i64 i ∧ (∀ j (hj : j < l.length), j < i → l[j].id ≠ id) ∧ Below w.heap.size w wr) (fun iv _ => l.length - (intOf iv).toNat)
  case atStart => exact ⟨0, Nat.zero_le _, rfl, fun j hj h => by omega, Below.refl _ _⟩
  case round =>
    obtain ⟨i, hil, rfl, hno, hBw⟩ := hrel
    have HBW := Lib.hid hBw
    have HNO := Lib.hid hno
    by_cases hlt : i < l.length
    · have q3 : (i : Int) < (l.length : Int) := by omega
      have hr := row_belowZ HR.out hBw
      obtain ⟨gu, ku, e5, _, hgu, _, _⟩ := own_form hr (by omega)
      injection e5 with e5 e6 e7
      subst e5 e7
      obtain ⟨z, hz⟩ : ∃ z, z = l[i] := ⟨_, rfl⟩
      obtain ⟨a0, _⟩ := rowZ_at hr hlt
      rw [← hz] at a0
      have HZ := Lib.hid hz
      clear hr hBw hz hno
      by_cases hk : z.id = id
      · go_wp2_with fail
        go_ret
        exact ⟨_, rfl, .inr ⟨i, rfl, hlt, by rw [← HZ.out]; exact hk, HNO.out⟩, HBW.out⟩
      · have hk2 : (z.id == id) = false := by simpa using hk
        go_wp2_with fail
        refine ⟨⟨i + 1, hlt, by go_num, fun j hj h => ?_, HBW.out⟩, measZ hlt⟩
        by_cases e : j = i
        · subst e; rw [← HZ.out]; exact hk
        · exact HNO.out j hj (by omega)
    · obtain rfl : l.length = i := by omega
      go_wp2_with fail
      go_ret
      exact ⟨_, rfl, .inl ⟨rfl, HNO.out⟩, HBW.out⟩
set_option maxHeartbeats 4000000 in
set_option maxRecDepth 10000 in
theorem rdPending (B d : Nat) (hv zv : Value) (hosts : List Int) (m : Mp) (k : Int) (w : World) (h : RdH w B d hv zv hosts m) (hl : m.zs.length ≤ 1000) :
    Calls Try.prog 41 #[.pointer (some ⟨d, 0, none⟩), .int .i64 k] w fun e w' => e = .returned (.int .i64 (pendN k m.zs)) ∧ Below w.heap.size w w' := by
  have HD := Lib.hid h
  have l3 := h.blk.cell 2
  simp only [List.getElem?_toArray, List.getElem?_cons_succ, List.getElem?_cons_zero] at l3
  obtain ⟨A, c, hzv, _, hnc, hcm⟩ := own_slice h.row
  rw [hzv] at l3
  have hdl := h.blk.low
  clear h
  go_enter Try.func41, Try.ntmps41
  go_wp2_with fail
  go_loopw [5, 6] (fun nv iv wr => ∃ i : Nat, i ≤ m.zs.length ∧ iv = .int .i64 i ∧ nv = .int .i64 (pendN k (m.zs.take i)) ∧ Below w.heap.size w wr) (fun _ iv _ => m.zs.length - (intOf iv).toNat)
  case atStart => exact ⟨0, Nat.zero_le _, rfl, by simp [pendN], Below.refl _ _⟩
  case round =>
    obtain ⟨i, hil, rfl, rfl, hBw⟩ := hrel
    have HBW := Lib.hid hBw
    have l3 := bkeep hBw l3 hdl
    by_cases hlt : i < m.zs.length
    · have q3 : (i : Int) < (m.zs.length : Int) := by omega
      have hr := row_belowZ HD.out.row hBw
      obtain ⟨gu, ku, e5, _, hgu, _, _⟩ := own_form hr (by omega)
      rw [hzv] at e5
      injection e5 with e5 e6 e7
      subst e5 e7
      rw [hzv] at hr
      obtain ⟨z, hz⟩ : ∃ z, z = m.zs[i] := ⟨_, rfl⟩
      obtain ⟨_, _, _, _, _, a5, _⟩ := rowZ_at hr hlt
      rw [← hz] at a5
      have hps := pendN_snoc k hlt
      rw [← hz] at hps
      have hple := pendN_le k (m.zs.take i)
      rw [List.length_take] at hple
      have HPS := Lib.hid hps
      obtain ⟨pn, hpn⟩ : ∃ p, p = pendN k (m.zs.take i) := ⟨_, rfl⟩
      rw [← hpn] at hple ⊢
      have HPN := Lib.hid hpn
      clear hr hBw hz hps hpn
      by_cases hk : z.pd = k
      · go_wp2_with fail
        refine ⟨⟨i + 1, hlt, by go_num, ?_, HBW.out⟩, measZ hlt⟩
        rw [HPS.out, if_pos hk, ← HPN.out]
        go_num
      · have hk2 : (z.pd == k) = false := by simpa using hk
        go_wp2_with fail
        refine ⟨⟨i + 1, hlt, by go_num, ?_, HBW.out⟩, measZ hlt⟩
        rw [HPS.out, if_neg hk, ← HPN.out]
        rfl
    · obtain rfl : m.zs.length = i := by omega
      go_wp2_with fail
      go_ret
      rw [List.take_length]
      exact ⟨rfl, HBW.out⟩
set_option maxHeartbeats 4000000 in
set_option maxRecDepth 10000 in
theorem rdOwn (B : Nat) (zv : Value) (m : Mp) (w : World) (h : w.ownsRow B 37 9 zv m.zs.length (flatZ m.zs)) (hl : m.zs.length ≤ 1000) (h0 : 1 ≤ m.zs.length) :
    Calls Try.prog 15 #[.agg #[.int .i64 m.ver, .int .i64 m.nxt, zv]] w fun e w' => ∃ v', e = .returned (.agg #[.int .i64 m.ver, .int .i64 m.nxt, v']) ∧ w'.ownsRow w.heap.size 37 9 v' m.zs.length (flatZ m.zs) ∧ Below w.heap.size w w' := by
  obtain ⟨i0, hi0, hz0, hz1, hz2⟩ := info_parts Try.infoZone
  obtain ⟨gz, cc, hzv, _, hgz, hnc, hcm⟩ := own_form h (by omega)
  subst hzv
  have hC : Cells w w.heap.size (some ⟨gz, 0, none⟩) m.zs.length cc 9 (flatZ m.zs) := by
    refine ⟨h.1, (fun h => nomatch h), fun j u hj => ⟨gz, 0, rfl, hgz, ?_⟩⟩
    rw [Nat.zero_add, h.cellAt j (by have := (List.getElem?_eq_some_iff.1 hj).1; have h1 := h.1; omega)]
    exact hj
  have HC := Lib.hid hC
  clear hC h
  go_enter Try.func15, Try.ntmps15
  go_wp2_with (first
    | (at_builtin; go_loud (refine wpList_append_row rfl (.tmp 3) (.tmp 5) 22 rfl (w.heap.size + 2) 37 i0 _ 9 96 Try.underlying22 hi0 hz0 hz1 hz2 rfl (by decide) (.slice (some ⟨w.heap.size + 2, 0, none⟩) 0 0) 0 [] rfl (owns_lit0 (by (first | omega | (simp; done) | (simp; omega))) (by (first | omega | (simp; done) | (simp; omega)))) w.heap.size (some ⟨gz, 0, none⟩) m.zs.length cc (flatZ m.zs) rfl (cells_keep HC.out (by ((repeat (first | (with_reducible exact Below.refl _ _) | (with_reducible assumption) | ((with_reducible refine b_set ?_ ?_); · (first | omega | (simp; done) | (simp; omega))) | ((with_reducible refine b_alloc ?_ ?_); · (first | omega | (simp; done) | (simp; omega))) | (with_reducible refine Below.drew ?_) | (with_reducible refine b_drewN ?_) | ((with_reducible refine b_call (by assumption) ?_ ?_); · (first | omega | (simp; done) | (simp; omega))))); done)) (Nat.le_refl _)) (flatZ_one m.zs) (by unfold maxLen; omega) (by omega) (by (first | omega | (simp; done) | (simp; omega))) ?_; intro v5 w5 ho5 hb5; obtain ⟨g5, c5, e5, hg5, hgl5, _, _⟩ := own_form ho5 (by omega); subst e5; have HO5 := Lib.hid ho5; have HB5 := Lib.hid hb5; obtain ⟨hc5, hf5⟩ := bcell hb5; have hs5 := hb5.size; (try simp at hs5); clear ho5 hb5))
    | fail)
  refine bodyPost_ret (v := .agg #[.int .i64 m.ver, .int .i64 m.nxt, .slice (some ⟨g5, 0, none⟩) (0 + m.zs.length) c5]) (by simp [results, Try.results15, go_sem, ↓IntWalk.iteOmega, *]) rfl ?_
  have h5 := HO5.out
  rw [Nat.zero_add, List.nil_append] at h5
  rw [Nat.zero_add]
  have hlt : ∀ g, (Value.slice (some ⟨g5, 0, none⟩) m.zs.length c5).ownBlock = some g → w.heap.size + 2 ≤ g := fun g hg => by
    have : g5 = g := by simpa [Value.ownBlock] using hg
    omega
  refine ⟨_, rfl, ?_, ?_⟩
  · refine own_set_ne (own_set_ne (own_set_ne (own_set_ne (own_mono h5 (by omega)) ?_) ?_) ?_) ?_
    all_goals (intro g hg; have := hlt g hg; show g ≠ _; simp; omega)
  · have hA : Below w.heap.size w w5 := Below.trans (by ((repeat (first | (with_reducible exact Below.refl _ _) | (with_reducible assumption) | ((with_reducible refine b_set ?_ ?_); · (first | omega | (simp; done) | (simp; omega))) | ((with_reducible refine b_alloc ?_ ?_); · (first | omega | (simp; done) | (simp; omega))) | (with_reducible refine Below.drew ?_) | (with_reducible refine b_drewN ?_) | ((with_reducible refine b_call (by assumption) ?_ ?_); · (first | omega | (simp; done) | (simp; omega))))); done)) (HB5.out.mono (by omega))
    exact b_set (Nat.le_succ _) (b_set (Nat.le_succ _) (b_set (Nat.le_succ _) (b_set (Nat.le_refl _) hA)))
end Go.Proofs.Ytepjehcmiofehaa
namespace Go.Proofs.Ytepjehcmiofehaa
open Go.RowKit
set_option linter.unusedVariables false
set_option linter.unusedSimpArgs false
theorem nw_at : ∀ {l : List Zn}, (idsA l).Nodup → ∀ {i j : Nat} (hi : i < l.length) (hj : j < l.length), l[i].pd = 1 → l[j].pd = 1 → l[i].nw = l[j].nw → i = j
  | [], _, i, _, hi, _, _, _, _ => by cases hi
  | a :: r, h, i, j, hi, hj, hp, hq, e => by
    rw [idsA_cons, List.nodup_append] at h
    obtain ⟨_, h2, h3⟩ := h
    cases i with
    | zero =>
      cases j with
      | zero => rfl
      | succ j =>
        have ha : a.nw ∈ idsZ a := by
          have hp : a.pd = 1 := hp
          simp [idsZ, hp]
        exact absurd e (h3 _ ha _ (nw_mem (List.getElem_mem (by simpa using hj)) hq))
    | succ i =>
      cases j with
      | zero =>
        have ha : a.nw ∈ idsZ a := by
          have hq : a.pd = 1 := hq
          simp [idsZ, hq]
        exact absurd e.symm (h3 _ ha _ (nw_mem (List.getElem_mem (by simpa using hi)) hp))
      | succ j => exact congrArg (· + 1) (nw_at h2 (i := i) (j := j) (by simpa using hi) (by simpa using hj) (by simpa using hp) (by simpa using hq) (by simpa using e))
end Go.Proofs.Ytepjehcmiofehaa
namespace Go.Proofs.Ytepjehcmiofehaa
open Go.RowKit
set_option linter.unusedVariables false
set_option linter.unusedSimpArgs false
/-- two that become one -/
structure Pr (a b : Zn) : Prop where
  pa : a.pd = 2
  pb : b.pd = 2
  ow : a.ow = b.ow
  na : a.nw = b.id
  nb : b.nw = a.id
/-- the document's: may the merge of the zone at a place be? -/
structure MgP (l : List Zn) (i : Nat) (h : i < l.length) : Prop where
  mv : l[i].mv = 0
  ky : l[i].ky.size = 0
  ex : ∃ (k : Nat) (hk : k < l.length), l[k].id = l[i].nw ∧ (∀ j (hj : j < l.length), j < k → l[j].id ≠ l[i].nw) ∧ (k = i + 1 ∨ k + 1 = i) ∧ l[k].pd = 2 ∧ l[k].nw = l[i].id ∧ l[k].ow = l[i].ow
/-- the document's: may the split of the zone at a place be? -/
structure SpP (m : Mp) (i : Nat) (h : i < m.zs.length) : Prop where
  cut : cutB m.zs[i].fr m.zs[i].tt m.zs[i].ky = true
  mv : m.zs[i].mv = 0
  lo : 1 ≤ m.zs[i].nw
  hi : m.zs[i].nw < m.nxt
  no : ∀ j (hj : j < m.zs.length), m.zs[j].id ≠ m.zs[i].nw
  one : ∀ k (hk : k < m.zs.length), k ≠ i → m.zs[k].pd = 1 → m.zs[k].nw ≠ m.zs[i].nw
def St0 (z : Zn) : Prop := z.mv = 0 ∧ z.ky.size = 0 ∧ z.nw = 0
def St3 (z : Zn) : Prop := 1 ≤ z.mv ∧ z.mv ≤ 1048576 ∧ z.mv ≠ z.ow ∧ z.ky.size = 0 ∧ z.nw = 0
/-- the document's: may the zone at a place be? -/
structure ZP (m : Mp) (i : Nat) (h : i < m.zs.length) : Prop where
  lo : 1 ≤ m.zs[i].id
  hi : m.zs[i].id < m.nxt
  fst : ∀ j (hj : j < m.zs.length), j < i → m.zs[j].id ≠ m.zs[i].id
  ow1 : 1 ≤ m.zs[i].ow
  ow2 : m.zs[i].ow ≤ 1048576
  ep1 : 1 ≤ m.zs[i].ep
  ep2 : m.zs[i].ep ≤ 1099511627776
  st : (m.zs[i].pd = 0 ∧ St0 m.zs[i]) ∨ (m.zs[i].pd = 3 ∧ St3 m.zs[i]) ∨ (m.zs[i].pd = 1 ∧ SpP m i h) ∨ (m.zs[i].pd = 2 ∧ MgP m.zs i h)
/-- the code's -/
structure Core (l : List Zn) (i : Nat) (h : i < l.length) : Prop where
  ow1 : 1 ≤ l[i].ow
  ow2 : l[i].ow ≤ 1048576
  ep1 : 1 ≤ l[i].ep
  ep2 : l[i].ep ≤ 1099511627776
  st : (l[i].pd = 0 ∧ St0 l[i]) ∨ (l[i].pd = 3 ∧ St3 l[i]) ∨ (l[i].pd = 1 ∧ cutB l[i].fr l[i].tt l[i].ky = true ∧ l[i].mv = 0) ∨ (l[i].pd = 2 ∧ l[i].mv = 0 ∧ l[i].ky.size = 0 ∧ ((∃ (j : Nat) (hj : j < l.length), j + 1 = i ∧ Pr l[i] l[j]) ∨ (∃ h2 : i + 1 < l.length, Pr l[i] l[i + 1])))
/-- which maps may be -/
structure MayP (m : Mp) : Prop where
  v1 : 1 ≤ m.ver
  v2 : m.ver ≤ 1099511627776
  n1 : 1 ≤ m.nxt
  n2 : m.nxt ≤ 1099511627776
  len : m.zs.length ≤ 16
  nodup : (idsA m.zs).Nodup
  rng : ∀ a ∈ idsA m.zs, 1 ≤ a ∧ a < m.nxt
  core : ∀ i (h : i < m.zs.length), Core m.zs i h
  spn : allB (spansZ m.zs) = true
theorem nodup_ids : ∀ (l : List Zn), (∀ i (h : i < l.length), (idsZ l[i]).Nodup) → (∀ i j (hi : i < l.length) (hj : j < l.length), i < j → ∀ a ∈ idsZ l[i], a ∉ idsZ l[j]) → (idsA l).Nodup
  | [], _, _ => List.nodup_nil
  | a :: r, h1, h2 => by
    rw [idsA_cons, List.nodup_append]
    refine ⟨h1 0 (Nat.succ_pos _), nodup_ids r (fun i h => h1 (i + 1) (by simpa using h)) (fun i j hi hj hij b hb => h2 (i + 1) (j + 1) (by simpa using hi) (by simpa using hj) (by omega) b hb), fun x hx y hy e => ?_⟩
    obtain ⟨z, hz, hyz⟩ := List.mem_flatMap.1 hy
    obtain ⟨j, hj, rfl⟩ := List.getElem_of_mem hz
    exact h2 0 (j + 1) (Nat.succ_pos _) (by simpa using hj) (by omega) x hx (by rw [e]; exact hyz)
theorem mem_ids {z : Zn} {a : Int} : a ∈ idsZ z ↔ a = z.id ∨ (z.pd = 1 ∧ a = z.nw) := by
  unfold idsZ
  by_cases h : z.pd = 1 <;> simp [h]
theorem zp_all {m : Mp} (h : ∀ i (hi : i < m.zs.length), ZP m i hi) : (idsA m.zs).Nodup ∧ (∀ a ∈ idsA m.zs, 1 ≤ a ∧ a < m.nxt) ∧ ∀ i (hi : i < m.zs.length), Core m.zs i hi := by
  have hsp : ∀ i (hi : i < m.zs.length), m.zs[i].pd = 1 → SpP m i hi := fun i hi hp => by
    rcases (h i hi).st with ⟨e, _⟩ | ⟨e, _⟩ | ⟨_, e⟩ | ⟨e, _⟩
    · omega
    · omega
    · exact e
    · omega
  refine ⟨nodup_ids _ (fun i hi => ?_) (fun i j hi hj hij a ha hb => ?_), fun a ha => ?_, fun i hi => ?_⟩
  · unfold idsZ
    by_cases hp : m.zs[i].pd = 1
    · have := (hsp i hi hp).no i hi
      simp [hp, this]
    · simp [hp]
  · rw [mem_ids] at ha hb
    rcases ha with ha | ⟨hp, ha⟩
    · rcases hb with hb | ⟨hq, hb⟩
      · exact (h j hj).fst i hi hij (by rw [← ha, ← hb])
      · exact (hsp j hj hq).no i hi (by rw [← ha, ← hb])
    · rcases hb with hb | ⟨hq, hb⟩
      · exact (hsp i hi hp).no j hj (by rw [← ha, ← hb])
      · exact (hsp j hj hq).one i hi (by omega) hp (by rw [← ha, ← hb])
  · obtain ⟨z, hz, haz⟩ := List.mem_flatMap.1 ha
    obtain ⟨i, hi, rfl⟩ := List.getElem_of_mem hz
    rw [mem_ids] at haz
    rcases haz with rfl | ⟨hp, rfl⟩
    · exact ⟨(h i hi).lo, (h i hi).hi⟩
    · exact ⟨(hsp i hi hp).lo, (hsp i hi hp).hi⟩
  · have hz := h i hi
    refine ⟨hz.ow1, hz.ow2, hz.ep1, hz.ep2, ?_⟩
    rcases hz.st with hs | hs | ⟨hp, hs⟩ | ⟨hp, hs⟩
    · exact .inl hs
    · exact .inr (.inl hs)
    · exact .inr (.inr (.inl ⟨hp, hs.cut, hs.mv⟩))
    · refine .inr (.inr (.inr ⟨hp, hs.mv, hs.ky, ?_⟩))
      obtain ⟨k, hk, e1, _, e2, e3, e4, e5⟩ := hs.ex
      rcases e2 with e2 | e2
      · subst e2
        exact .inr ⟨hk, hp, e3, e5.symm, e1.symm, e4⟩
      · exact .inl ⟨k, hk, e2, hp, e3, e5.symm, e1.symm, e4⟩
theorem all_zp {m : Mp} (hn : (idsA m.zs).Nodup) (hr : ∀ a ∈ idsA m.zs, 1 ≤ a ∧ a < m.nxt) (hc : ∀ i (hi : i < m.zs.length), Core m.zs i hi) : ∀ i (hi : i < m.zs.length), ZP m i hi := by
  intro i hi
  have hz := hc i hi
  have hid := hr _ (id_mem (List.getElem_mem hi))
  refine ⟨hid.1, hid.2, fun j hj hji e => by have := ids_at hn hj hi e; omega, hz.ow1, hz.ow2, hz.ep1, hz.ep2, ?_⟩
  have mk : ∀ k (hk : k < m.zs.length), (k = i + 1 ∨ k + 1 = i) → m.zs[i].mv = 0 → m.zs[i].ky.size = 0 → Pr m.zs[i] m.zs[k] → MgP m.zs i hi := fun k hk ha h1 h2 hp =>
    ⟨h1, h2, k, hk, hp.na.symm, fun j hj hjk e => by have := ids_at hn hj hk (by rw [e, hp.na]); omega, ha, hp.pb, hp.nb, hp.ow.symm⟩
  rcases hz.st with hs | hs | ⟨hp, hs, hs2⟩ | ⟨hp, h1, h2, hs⟩
  · exact .inl hs
  · exact .inr (.inl hs)
  · have hnw := hr _ (nw_mem (List.getElem_mem hi) hp)
    exact .inr (.inr (.inl ⟨hp, hs, hs2, hnw.1, hnw.2, fun j hj => idsA_new hn (List.getElem_mem hi) hp (List.getElem_mem hj), fun k hk hne hpk e => hne (nw_at hn hk hi hpk hp e)⟩))
  · refine .inr (.inr (.inr ⟨hp, ?_⟩))
    rcases hs with ⟨j, hj, hji, hs⟩ | ⟨h3, hs⟩
    · exact mk j hj (.inr hji) h1 h2 hs
    · exact mk (i + 1) h3 (.inl rfl) h1 h2 hs
end Go.Proofs.Ytepjehcmiofehaa
namespace Go.Proofs.Ytepjehcmiofehaa
open Go.RowKit
set_option linter.unusedVariables false
set_option linter.unusedSimpArgs false
theorem MgP.of {l : List Zn} {i : Nat} {hi : i < l.length} (h : MgP l i hi) {k : Nat} (hk : k < l.length) (hkd : l[k].id = l[i].nw) (hkf : ∀ j (hj : j < l.length), j < k → l[j].id ≠ l[i].nw) : (k = i + 1 ∨ k + 1 = i) ∧ l[k].pd = 2 ∧ l[k].nw = l[i].id ∧ l[k].ow = l[i].ow := by
  obtain ⟨k2, hk2, e1, e2, e3⟩ := h.ex
  have : k2 = k := by
    rcases Nat.lt_trichotomy k2 k with h | h | h
    · exact absurd e1 (hkf k2 hk2 h)
    · exact h
    · exact absurd hkd (e2 k hk h)
  subst this
  exact e3
theorem no_of {b : Bool} {P : Prop} (h : b = true ↔ P) (hn : ¬ P) : b = false := by
  cases b with
  | false => rfl
  | true => exact absurd (h.1 rfl) hn
end Go.Proofs.Ytepjehcmiofehaa
namespace Go.Proofs.Ytepjehcmiofehaa
open Go.RowKit
set_option linter.unusedVariables false
set_option linter.unusedSimpArgs false
def flatS : List (ByteArray × ByteArray) → List Value
  | [] => []
  | p :: r => .string p.1 :: .string p.2 :: flatS r
theorem flatS_app (xs ys : List (ByteArray × ByteArray)) : flatS (xs ++ ys) = flatS xs ++ flatS ys := by
  induction xs with
  | nil => rfl
  | cons p r ih => simp only [List.cons_append, flatS, ih]
theorem flatS_get : ∀ (xs : List (ByteArray × ByteArray)) (k : Nat) (h : k < xs.length), (flatS xs)[k * 2]? = some (.string xs[k].1) ∧ (flatS xs)[k * 2 + 1]? = some (.string xs[k].2)
  | p :: r, 0, _ => ⟨rfl, rfl⟩
  | p :: r, k + 1, h => by
    have := flatS_get r k (by simpa using h)
    simp only [flatS, List.getElem_cons_succ]
    rw [show (k + 1) * 2 = k * 2 + 1 + 1 from by omega, show k * 2 + 1 + 1 + 1 = (k * 2 + 1) + 1 + 1 from by omega]
    simpa using this
theorem Try.infoSpan2 : (Try.prog.info? 35).map (fun i => (i.zero, i.size, i.bytes)) = some (some (.agg #[.string ⟨#[]⟩, .string ⟨#[]⟩]), 2, 32) := by kernel_rfl
theorem spans_of_row {w : World} {B g c : Nat} {xs : List (ByteArray × ByteArray)} (h : w.ownsRow B 35 2 (.slice (some ⟨g, 0, none⟩) xs.length c) xs.length (flatS xs)) (hg : g < w.heap.size) : Spans w w.heap.size (some ⟨g, 0, none⟩) xs := by
  intro k hk
  obtain ⟨y0, y1⟩ := flatS_get xs k hk
  refine ⟨g, 0, rfl, hg, ?_, ?_⟩
  · rw [Nat.zero_add]; exact (h.cellAt (k * 2) (by omega)).trans y0
  · rw [Nat.zero_add]; exact (h.cellAt (k * 2 + 1) (by omega)).trans y1
theorem spans_take1 {l : List Zn} {k : Nat} (h : k < l.length) : flatS (spansZ (l.take (k + 1))) = flatS (spansZ (l.take k)) ++ [.string l[k].fr, .string l[k].tt] := by
  rw [List.take_add_one, List.getElem?_eq_getElem h, spans_app, flatS_app]
  rfl
end Go.Proofs.Ytepjehcmiofehaa
namespace Go.Proofs.Ytepjehcmiofehaa
open Go.RowKit
set_option linter.unusedVariables false
set_option linter.unusedSimpArgs false
theorem may_doc {m : Mp} : MayP m ↔ (1 ≤ m.ver ∧ m.ver ≤ 1099511627776 ∧ 1 ≤ m.nxt ∧ m.nxt ≤ 1099511627776 ∧ m.zs.length ≤ 16 ∧ (∀ i (h : i < m.zs.length), ZP m i h) ∧ allB (spansZ m.zs) = true) :=
  ⟨fun h => ⟨h.v1, h.v2, h.n1, h.n2, h.len, all_zp h.nodup h.rng h.core, h.spn⟩, fun ⟨h1, h2, h3, h4, h5, h6, h7⟩ => by
    obtain ⟨g1, g2, g3⟩ := zp_all h6
    exact ⟨h1, h2, h3, h4, h5, g1, g2, g3, h7⟩⟩
end Go.Proofs.Ytepjehcmiofehaa
namespace Go.Proofs.Ytepjehcmiofehaa
open Go.RowKit
set_option linter.unusedVariables false
set_option linter.unusedSimpArgs false
/-- bytes as cells -/
def flatU (xs : List Nat) : List Value := xs.map fun x : Nat => Value.int .u8 (x : Int)
theorem flatU_length (xs : List Nat) : (flatU xs).length = xs.length := by simp [flatU]
theorem flatU_app (xs ys : List Nat) : flatU (xs ++ ys) = flatU xs ++ flatU ys := by simp [flatU]
theorem flatU_one (xs : List Nat) : ∀ u ∈ flatU xs, u.oneCell' = true := by
  intro u hu; simp only [flatU, List.mem_map] at hu; obtain ⟨x, _, rfl⟩ := hu; rfl
theorem Try.infoByte : (Try.prog.info? 5).map (fun i => (i.zero, i.size, i.bytes)) = some (some (.int .u8 0), 1, 1) := by kernel_rfl
theorem cells1 {w : World} {b B c : Nat} {v : Value} (hb : b < B) (h0 : w.cell? ⟨b, 0, none⟩ = some v) : Cells w B (some ⟨b, 0, none⟩) 1 c 1 [v] := by
  refine ⟨rfl, (fun e => by cases e), ?_⟩
  intro j u hu
  refine ⟨b, 0, rfl, hb, ?_⟩
  rw [Nat.zero_add]
  match j, hu with
  | 0, hu => rw [h0]; exact hu
theorem octClone0 (n c : Nat) (w : World) :
    Calls Try.prog 62 #[.slice none n c] w fun e w' => e = .returned (.slice none 0 0) ∧ w = w' := by
  have q : ∀ (w : World) (a : Option Addr) (n c n' c' : Nat), (binOp .eql 47 (.slice a n c) (.slice none n' c')).run Try.prog w = .ok (.bool a.isNone) w := fun w a n c n' c' => Lib.run_eql_slice_nil w _ _ a n c n' c' Try.underlying47
  go_enter Try.func62, Try.ntmps62
  go_wp2_with fail
  go_ret
  exact ⟨rfl, rfl⟩
theorem octClone1 (ad : Addr) (n c : Nat) (news : List Value) (w : World) (hn : n ≤ 1000000) (hx : Cells w w.heap.size (some ad) n c 1 news) (h1 : ∀ u ∈ news, u.oneCell' = true) :
    Calls Try.prog 62 #[.slice (some ad) n c] w fun e w' => ∃ v', e = .returned v' ∧ w'.ownsRow w.heap.size 5 1 v' n news ∧ Below w.heap.size w w' := by
  obtain ⟨i0, hi, hz0, hz1, hz2⟩ := info_parts Try.infoByte
  have q : ∀ (w : World) (a : Option Addr) (n c n' c' : Nat), (binOp .eql 47 (.slice a n c) (.slice none n' c')).run Try.prog w = .ok (.bool a.isNone) w := fun w a n c n' c' => Lib.run_eql_slice_nil w _ _ a n c n' c' Try.underlying47
  have HX := Lib.hid (cells_keep (w1 := w.alloc (.cells #[] 5)) (B' := w.heap.size) hx ((Below.refl _ _).alloc (Nat.le_refl _) _) (Nat.le_refl _))
  have H1 := Lib.hid h1
  clear hx h1
  go_enter Try.func62, Try.ntmps62
  go_wp2_with (at_builtin; go_must (refine wpList_append_row rfl (.tmp 5) (.tmp 6) 47 rfl w.heap.size 5 i0 (.int .u8 0) 1 1 Try.underlying47 hi hz0 hz1 hz2 rfl (by decide) _ 0 [] rfl (World.ownsRow_lit w #[] 0 (Nat.le_refl _) (by decide) rfl) w.heap.size (some ad) n c news rfl HX.out H1.out (by unfold maxLen; omega) (by omega) (by (first | omega | (simp; done) | (simp; omega))) ?_); intro v1 w1 hown hb)
  simp only [Nat.zero_add, List.nil_append] at hown
  go_ret
  exact ⟨_, rfl, hown, ((Below.refl w.heap.size w).alloc (Nat.le_refl _) _).trans hb⟩
/-- a number in sevens, the lowest first -/
def enc (n : Nat) : List Nat := if h : 128 ≤ n then (n % 128 + 128) :: enc (n / 128) else [n]
decreasing_by omega
def clamp (n : Int) : Nat := (min (max n 0) 4611686018427387904).toNat
theorem or128_below : ∀ x : Fin 256, bits BinOp.or IntKind.u8 ((x.val : Nat) : Int) 128 = ((x.val % 128 + 128 : Nat) : Int) := by decide +kernel
theorem or128 (r : Nat) : bits BinOp.or IntKind.u8 ((r : Int) % 256) 128 = ((r % 128 + 128 : Nat) : Int) := by
  have h := or128_below ⟨r % 256, Nat.mod_lt _ (by decide)⟩
  have e1 : (((r % 256 : Nat)) : Int) = (r : Int) % 256 := by omega
  have e2 : r % 256 % 128 = r % 128 := by omega
  simp only [e2] at h
  rw [← e1]; exact h
theorem low256 {r : Nat} (h : ¬ 128 ≤ r) : (r : Int) % 256 = (r : Int) := by omega
theorem enc_pos (n : Nat) : 0 < (enc n).length := by
  rw [enc]; split <;> simp
theorem enc_len_pow : ∀ (k n : Nat), n < 128 ^ (k + 1) → (enc n).length ≤ k + 1
  | 0, n, h => by rw [enc]; split
                  · omega
                  · simp
  | k + 1, n, h => by
    rw [enc]; split
    · have := enc_len_pow k (n / 128) (by rw [Nat.pow_succ] at h; omega)
      simp; omega
    · simp
theorem enc_len {n : Nat} (h : n ≤ 4611686018427387904) : (enc n).length ≤ 10 := by
  have := enc_len_pow 8 n (by omega)
  omega
end Go.Proofs.Ytepjehcmiofehaa
namespace Go.Proofs.Ytepjehcmiofehaa
open Go.RowKit
set_option linter.unusedVariables false
set_option linter.unusedSimpArgs false
/-- a row of the call's own stays so behind a call -/
theorem row_below {w w' : World} {base e size n : Nat} {v : Value} {xs : List Value} (h : w.ownsRow base e size v n xs) (hb : Below w.heap.size w w') : w'.ownsRow base e size v n xs := by
  refine ⟨h.1, ?_⟩
  rcases h.2 with h0 | ⟨g, cap, cur, hv, hg, hh, hr⟩
  · exact .inl h0
  · exact .inr ⟨g, cap, cur, hv, hg, by rw [hb.block g (Array.getElem?_eq_some_iff.1 hh).1]; exact hh, hr⟩
theorem row_cells {w : World} {base e size : Nat} {v : Value} {n : Nat} {xs : List Value} (h : w.ownsRow base e size v n xs) : ∃ A cap, v = .slice A n cap ∧ n ≤ cap ∧ cap ≤ maxLen ∧ Cells w w.heap.size A n cap size xs := by
  rcases h.2 with ⟨hv, h0⟩ | ⟨g, cap, cur, hv, hg, hh, hc, hm, _⟩
  · subst h0
    have hn : xs = [] := List.eq_nil_of_length_eq_zero (by simpa using h.1)
    subst hn
    exact ⟨_, _, hv, Nat.le_refl _, by unfold maxLen; omega, h.1, fun _ => ⟨rfl, rfl⟩, fun j u hu => by simp at hu⟩
  · subst hv
    have hlt : g < w.heap.size := (Array.getElem?_eq_some_iff.1 hh).1
    refine ⟨_, _, rfl, hc, hm, h.1, (fun e => by cases e), fun j u hu => ⟨g, 0, rfl, hlt, ?_⟩⟩
    have := h.cells (g := g) rfl j u hu
    rw [add_none] at this
    exact this
/-- a slice of integers that reads as a list -/
def Ints (w : World) (B : Nat) (A : Option Addr) (l : List Int) : Prop :=
  ∀ k (h : k < l.length), ∃ b o, A = some ⟨b, o, none⟩ ∧ b < B ∧ w.cell? ⟨b, o + k, none⟩ = some (.int .i64 l[k])
def encs (l : List Int) : List Nat := l.flatMap fun n => enc (clamp n)
theorem clamp_le (n : Int) : clamp n ≤ 4611686018427387904 := by unfold clamp; omega
theorem encs_snoc {l : List Int} {k : Nat} (h : k < l.length) : encs (l.take (k + 1)) = encs (l.take k) ++ enc (clamp l[k]) := by
  unfold encs
  rw [List.take_succ_eq_append_getElem h, List.flatMap_append, List.flatMap_singleton]
theorem encs_len (l : List Int) : (encs l).length ≤ 10 * l.length := by
  induction l with
  | nil => simp [encs]
  | cons n r ih =>
    have := enc_len (clamp_le n)
    simp only [encs, List.flatMap_cons, List.length_append, List.length_cons] at ih ⊢
    omega
end Go.Proofs.Ytepjehcmiofehaa
namespace Go.Proofs.Ytepjehcmiofehaa
open Go.RowKit
set_option linter.unusedVariables false
set_option linter.unusedSimpArgs false
theorem row_set {w : World} {base e size n : Nat} {v : Value} {xs : List Value} (h : w.ownsRow base e size v n xs) {a : Addr} (ha : a.block < base) (u : Value) : (w.setCell a u).ownsRow base e size v n xs := by
  refine ⟨h.1, ?_⟩
  rcases h.2 with h0 | ⟨g, cap, cur, hv, hg, hh, hr⟩
  · exact .inl h0
  · exact .inr ⟨g, cap, cur, hv, hg, by rw [Go.Deep.blk_setCell_other w a u g (by omega)]; exact hh, hr⟩
/-- a Writer at block b, what it has laid in a row of its own from base on -/
structure Wr (w : World) (b base : Nat) (xs : List Nat) : Prop where
  row : ∃ s, w.cell? ⟨b, 0, none⟩ = some s ∧ w.ownsRow base 5 1 s xs.length (flatU xs)
  free : w.frozen? ⟨b, 0, none⟩ = false
  low : b < base
  high : base ≤ w.heap.size
set_option maxHeartbeats 1000000 in
set_option maxRecDepth 10000 in
theorem wOut (b base : Nat) (xs : List Nat) (w : World) (hxs : xs.length ≤ 1000000) (hw : Wr w b base xs) :
    Calls Try.prog 54 #[.pointer (some ⟨b, 0, none⟩)] w fun e w' => ∃ v', e = .returned v' ∧ w'.ownsRow w.heap.size 5 1 v' xs.length (flatU xs) ∧ Below w.heap.size w w' := by
  obtain ⟨⟨s, hs, hown⟩, hfr, hlow, hhigh⟩ := hw
  obtain ⟨A, cap, rfl, hc, hm, hx⟩ := row_cells hown
  have HX := Lib.hid hx
  clear hx hown
  go_enter Try.func54, Try.ntmps54
  cases A with
  | none =>
    go_wp2_with fail
    refine (octClone0 _ _ _).mono ?_
    rintro e w1 ⟨rfl, rfl⟩
    go_wp2_with fail
    go_ret
    have h0 := (HX.out.2.1 rfl).1
    refine ⟨_, rfl, ?_, Below.refl _ _⟩
    obtain rfl : xs = [] := List.eq_nil_of_length_eq_zero h0
    exact World.ownsRow_nil _ _ _ _
  | some ad =>
    go_wp2_with fail
    refine (octClone1 ad _ _ _ _ hxs HX.out (flatU_one _)).mono ?_
    rintro e w1 ⟨v1, rfl, hown1, hb1⟩
    have HO := Lib.hid hown1
    clear hown1
    go_wp2_with fail
    go_ret
    exact ⟨_, rfl, HO.out, hb1⟩
end Go.Proofs.Ytepjehcmiofehaa
