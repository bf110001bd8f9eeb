/- plan: how many zones have such a thing under way. plan: its zones by their numbers. -/
import Derived.Test.YtepjehcmiofehaaGreatLay
import Derived.Test.YtepjehcmiofehaaGreatPq25
namespace Go.Proofs.YtepjehcmiofehaaGreat
open Go.RowKit
set_option linter.unusedVariables false
set_option linter.unusedSimpArgs false
def pdN (k : Int) (ps : List Pz) : Nat := (ps.filter fun p => decide (p.z.pd = k)).length
theorem pdN_snoc (k : Int) {ps : List Pz} {i : Nat} (h : i < ps.length) : pdN k (ps.take (i + 1)) = pdN k (ps.take i) + if ps[i].z.pd = k then 1 else 0 := by
  unfold pdN
  rw [List.take_add_one, List.getElem?_eq_getElem h, List.filter_append, List.length_append]
  simp only [Option.toList, List.filter_cons, List.filter_nil]
  by_cases e : ps[i].z.pd = k
  · simp [e]
  · simp [e]
theorem pdN_le (k : Int) (ps : List Pz) : pdN k ps ≤ ps.length := List.length_filter_le _ _
set_option maxHeartbeats 4000000 in
set_option maxRecDepth 10000 in
theorem plPending (B b : Nat) (zv hv cv : Value) (ps : List Pz) (cs : List Ch) (k : Int) (w : World) (h : PlH w B b zv hv cv ps cs) (hl : ps.length ≤ 100000) :
    Calls Tryz.prog 31 #[.pointer (some ⟨b, 0, none⟩), .int .i64 k] w fun e w' => e = .returned (.int .i64 (pdN k ps)) ∧ Below w.heap.size w w' := by
  have HP := Lib.hid h
  have k0 := h.blk.cell 0
  simp only [List.getElem?_toArray, List.getElem?_cons_succ, List.getElem?_cons_zero] at k0
  obtain ⟨A, c, hzv, _, hnc, hcm⟩ := own_slice h.row
  subst hzv
  clear h
  go_enter Tryz.func31, Tryz.ntmps31
  go_wp2_with fail
  go_loopw [5, 13] (fun nv iv wr => ∃ i : Nat, i ≤ ps.length ∧ iv = .int .i64 i ∧ nv = .int .i64 (pdN k (ps.take i)) ∧ Below w.heap.size w wr) (fun _ iv _ => ps.length - (intOf iv).toNat)
  case atStart => exact ⟨0, Nat.zero_le _, rfl, rfl, Below.refl _ _⟩
  case round =>
    obtain ⟨i, hil, rfl, rfl, hBw⟩ := hrel
    have HBW := Lib.hid hBw
    have hsw := hBw.size
    by_cases hlt : i < ps.length
    · have q3 : (i : Int) < (ps.length : Int) := by omega
      have hr := HP.out.below hBw
      obtain ⟨g, c2, e5, _, hg, _, _⟩ := own_form hr.row (by omega)
      injection e5 with e5 e6 e7
      subst e5 e7
      have hsn := pdN_snoc k hlt
      have hcn := pdN_le k (ps.take i)
      rw [List.length_take] at hcn
      obtain ⟨z, hz⟩ : ∃ z, z = ps[i] := ⟨_, rfl⟩
      obtain ⟨a0, a1, a2, a3, a4, a5, a6, a7, a8, a9, a10, a11, a12⟩ := rowP_at hr.row hlt
      rw [← hz] at a0 a1 a2 a3 a4 a5 a6 a7 a8 a9 a10 a11 a12 hsn
      obtain ⟨n, hn⟩ : ∃ n, n = pdN k (ps.take i) := ⟨_, rfl⟩
      rw [← hn] at hsn hcn
      rw [← hn]
      have HSN := Lib.hid hsn
      clear hr hBw hz hsn
      by_cases hk : z.z.pd = k
      · have q5 : (z.z.pd == k) = true := by rw [beq_iff_eq]; exact hk
        have HK := Lib.hid hk
        clear hk
        go_wp2_with fail
        refine ⟨⟨i + 1, hlt, by go_num, ?_, HBW.out.alloc hsw _⟩, measZ hlt⟩
        rw [HSN.out, if_pos HK.out]
        go_num
      · have q5 : (z.z.pd == k) = false := by rw [beq_eq_false_iff_ne]; exact hk
        have HK := Lib.hid hk
        clear hk
        go_wp2_with fail
        refine ⟨⟨i + 1, hlt, by go_num, ?_, HBW.out.alloc hsw _⟩, measZ hlt⟩
        rw [HSN.out, if_neg HK.out]
        rfl
    · obtain rfl : ps.length = i := by omega
      rw [List.take_length]
      go_wp2_with fail
      go_ret
      exact ⟨rfl, HBW.out⟩
end Go.Proofs.YtepjehcmiofehaaGreat
namespace Go.Proofs.YtepjehcmiofehaaGreat
open Go.RowKit Go.Shelf Go.Sort Go.Lib
open Go.Proofs
set_option linter.unusedVariables false
set_option linter.unusedSimpArgs false
theorem Tryz.infoPptr : (Tryz.prog.info? 80).map (fun i => (i.zero, i.size, i.bytes)) = some (some (.pointer none), 1, 8) := by kernel_rfl
/-- where a zone of the plan stands -/
def zptr (g k : Nat) : Value := .pointer (some ⟨g, k * 13, none⟩)
def ptrs (g : Nat) (l : List Nat) : List Value := l.map (zptr g)
theorem ptrs_one (g : Nat) (l : List Nat) : ∀ u ∈ ptrs g l, u.oneCell' = true := by
  intro u hu
  obtain ⟨k, _, rfl⟩ := List.mem_map.1 hu
  rfl
def idP (ps : List Pz) (k : Nat) : Int := ((ps[k]?).map fun p => p.z.id).getD 0
theorem idP_lt {ps : List Pz} {k : Nat} (h : k < ps.length) : idP ps k = ps[k].z.id := by simp [idP, h]
/-- the places of a plan's zones, by their numbers -/
structure ByI (ps : List Pz) (l : List Nat) : Prop where
  perm : l.Perm (List.range ps.length)
  up : l.Pairwise fun a b => idP ps a < idP ps b
theorem ByI.len {ps : List Pz} {l : List Nat} (h : ByI ps l) : l.length = ps.length := by simpa using h.perm.length_eq
theorem ByI.lt {ps : List Pz} {l : List Nat} (h : ByI ps l) : ∀ k ∈ l, k < ps.length := fun k hk => List.mem_range.1 (h.perm.mem_iff.1 hk)
theorem ByI.nodup {ps : List Pz} {l : List Nat} (h : ByI ps l) : l.Nodup := h.perm.nodup_iff.2 List.nodup_range
theorem ltInt (x y : Int) : (decide (Lib.compareInt x y < 0)) = decide (x < y) := by
  unfold Lib.compareInt
  by_cases h1 : x < y
  · simp [h1]
  · by_cases h2 : y < x <;> simp [h1, h2]
def cfP (ps : List Pz) (n : Nat) (a b : Fin n) : Int := Lib.compareInt (idP ps a) (idP ps b)
theorem ltP (ps : List Pz) (n : Nat) (a b : Fin n) : ltOf (cfP ps n) a b = decide (idP ps a < idP ps b) := ltInt _ _
theorem swoP (ps : List Pz) (n : Nat) : SWO (ltOf (cfP ps n)) where
  irrefl x := by rw [ltP]; simp
  trans x y z h1 h2 := by rw [ltP] at *; simp at *; omega
  ntrans x y z h1 h2 := by rw [ltP] at *; simp at *; omega
set_option maxHeartbeats 1000000 in
set_option maxRecDepth 10000 in
theorem plCmp (g i j : Nat) (x y : Int) (W : World) (h1 : W.cell? ⟨g, i * 13, none⟩ = some (.int .i64 x)) (h2 : W.cell? ⟨g, j * 13, none⟩ = some (.int .i64 y)) :
    Calls Tryz.prog 55 #[zptr g i, zptr g j] W fun e w' => e = .returned (.int .i64 (Lib.compareInt x y)) ∧ ∃ q os', w' = grow (W.drewN q) os' := by
  have hcon := fun W' => AnyG.cmp_Compare_int Tryz.cmpInt x y W'
  change ∀ W', Calls Tryz.prog 56 _ _ _ at hcon
  generalize Lib.compareInt x y = r at hcon ⊢
  have hg := World.block_lt_of_cell? W ⟨g, i * 13, none⟩ h1
  unfold zptr
  go_enter Tryz.func55, Tryz.ntmps55
  go_wp2_with fail
  go_still_tail 10, (by kernel_rfl)
  change wpList _ _ _ _ _ W.drew
  go_wp2_with (first
    | (go_at_call 56; refine (hcon _).mono ?_; rintro e w' ⟨rfl, rfl⟩)
    | fail)
  go_ret
  exact ⟨rfl, 1, #[], (grow_empty _).symm⟩
theorem own_put1 {α : Type} [Inhabited α] {T : TypeId} {enc : α → Value} {w : World} {B g n cap m : Nat} {xs : List Value} {d : Array α} {os : Array Obj} (h : w.ownsRow B T 1 (.slice (some ⟨g, 0, none⟩) n cap) n xs) (hd : d.size = n) :
    (sortWorld enc w g 0 m d os).ownsRow B T 1 (.slice (some ⟨g, 0, none⟩) n cap) n (d.toList.map enc) ∧ Touch (fun x => x = g) w (sortWorld enc w g 0 m d os) := by
  have hlen : (d.toList.map enc).length = n * 1 := by simp [hd]
  have hg : g < w.heap.size := (h.lt g rfl).2
  constructor
  · refine ⟨hlen, ?_⟩
    rcases h.2 with ⟨e, _⟩ | ⟨g', cap', cur, e, h1, h2, h3, h4, h5, h6⟩
    · cases e
    · injection e with e0 e1 e2
      injection e0 with e0
      injection e0 with e0
      subst e0 e2
      refine .inr ⟨g, cap, putCells enc 0 d cur, rfl, h1, ?_, h3, h4, by simp [putCells, h5], ?_⟩
      · unfold sortWorld
        rw [heap_grow_old _ _ (by rw [size_putRow]; exact hg)]
        show (mapBlock (Go.Sort.ahead w m) g (putCells enc 0 d)).heap[g]? = _
        unfold mapBlock
        rw [Array.getElem?_modify, if_pos rfl, show (Go.Sort.ahead w m).heap = w.heap from rfl, h2]
        rfl
      · refine List.ext_getElem? fun t => ?_
        by_cases ht : t < n
        · rw [List.getElem?_take_of_lt (by omega), List.getElem?_map]
          have : (putCells enc 0 d cur)[t]? = some (enc d[t]!) := by
            unfold putCells
            rw [Array.getElem?_mapIdx, Array.getElem?_eq_getElem (show t < cur.size by rw [h5]; omega)]
            simp [hd, ht]
          have h7 : t < d.size := by omega
          rw [Array.getElem?_toList, this, getElem!_pos d t h7]
          simp [h7]
        · rw [List.getElem?_eq_none (by rw [List.length_take]; omega), List.getElem?_eq_none (by omega)]
  · refine ⟨rfl, rfl, rfl, ?_, fun k hk hn => ?_⟩
    · unfold sortWorld
      rw [size_grow, size_putRow]
      show w.heap.size ≤ w.heap.size + _
      omega
    · unfold sortWorld
      rw [heap_grow_old _ _ (by rw [size_putRow]; exact hk)]
      show (mapBlock (Go.Sort.ahead w m) g _).heap[k]? = _
      unfold mapBlock
      rw [Array.getElem?_modify, if_neg (fun e => hn e.symm)]
      rfl
/-- the pointers to all zones, in their order -/
theorem ptrs_snoc (g i : Nat) : ptrs g (List.range (i + 1)) = ptrs g (List.range i) ++ [zptr g i] := by simp [ptrs, List.range_succ]
theorem ptrs_get {g : Nat} {l : List Nat} {i : Nat} (h : i < l.length) : (ptrs g l)[i]? = some (zptr g l[i]) := by simp [ptrs, h]
set_option maxHeartbeats 4000000 in
set_option maxRecDepth 10000 in
theorem plSortP (B b B2 gz c : Nat) (hv cv v : Value) (ps : List Pz) (cs : List Ch) (w : World) (hP : PlH w B b (.slice (some ⟨gz, 0, none⟩) ps.length c) hv cv ps cs) (h : w.ownsRow B2 80 1 v ps.length (ptrs gz (List.range ps.length))) (hlow : ∀ k, Fp b (.slice (some ⟨gz, 0, none⟩) ps.length c) cv k → k < B2) (h0 : 0 < ps.length) (hl : ps.length ≤ 100000) (hnd : (ps.map fun p => p.z.id).Nodup) :
    Calls Tryz.prog 54 #[v, .func (.func 55) #[] #[]] w fun e w' => e = .returned (.tuple #[]) ∧ ∃ π, ByI ps π ∧ w'.ownsRow B2 80 1 v ps.length (ptrs gz π) ∧ Touch (fun x => v.ownBlock = some x) w w' := by
  obtain ⟨g, cp, rfl, hg1, hg2, hg3, hg4⟩ := own_form h (by omega)
  have hne : gz ≠ g := by have := hlow gz (.inr (.inl rfl)); omega
  haveI : Inhabited (Fin ps.length) := ⟨⟨0, h0⟩⟩
  obtain ⟨d, hd⟩ : ∃ d : Array (Fin ps.length), d = (List.finRange ps.length).toArray := ⟨_, rfl⟩
  have hds : d.size = ps.length := by rw [hd]; simp
  have hdm : d.toList.map (fun k : Fin ps.length => zptr gz k) = ptrs gz (List.range ps.length) := by
    rw [hd]
    unfold ptrs
    refine List.ext_getElem (by simp) fun i h1 h2 => by simp
  have hH : Holds (fun k : Fin ps.length => zptr gz k) w g 0 d := by
    intro j hj
    rw [hds] at hj
    refine ⟨?_, ?_⟩
    · rw [Nat.zero_add, h.cellAt j (by omega), ← hdm]
      rw [List.getElem?_map, Array.getElem?_toList, Array.getElem?_eq_getElem (by omega), Option.map_some, getElem!_pos d j (by omega)]
    · rw [Nat.zero_add]; exact h.frozenAt j
  have eg : ∀ args w, (callFunc 55 args).run Tryz.prog w = .ok (.enter 55 args) w := enters_of Tryz.func55 (by kernel_rfl) rfl
  have hlay : CmpLays1 Tryz.prog 55 #[] (fun k : Fin ps.length => zptr gz k) (cfP ps ps.length) g 0 d.size w := by
    intro m os dk hdk x y
    have ht := (own_put1 (m := m) (d := dk) (os := os) (enc := fun k : Fin ps.length => zptr gz k) h (by rw [hdk, hds])).2
    have hp := hP.keep ht (fun k hk e => by have := hlow k hk; omega)
    have c1 := (rowP_at hp.row x.2).1
    have c2 := (rowP_at hp.row y.2).1
    have := plCmp gz x y _ _ _ c1 c2
    rw [show cfP ps ps.length x y = Lib.compareInt (ps[x].z.id) (ps[y].z.id) from by unfold cfP; rw [idP_lt x.2, idP_lt y.2]; rfl]
    exact this
  have hcon := Any.slices_SortFunc Tryz.sortP (fun k : Fin ps.length => zptr gz k) (fun _ => rfl) (cfP ps ps.length) (swoP ps ps.length) 55 #[] g 0 cp d w eg hlay hH hg2 (by omega)
  rw [hds] at hcon
  refine hcon.mono ?_
  rintro e w' ⟨rfl, d', q, os, hperm, hsort, rfl⟩
  have hsz : d'.size = ps.length := by have := hperm.1; omega
  have hpd : d'.toList.Perm d.toList := by
    have := hperm.2.2
    rw [Array.extract_eq_self_of_le (by omega), Array.extract_eq_self_of_le (by omega)] at this
    simpa [Array.perm_iff_toList_perm] using this
  have hput := own_put1 (m := q) (d := d') (os := os) (enc := fun k : Fin ps.length => zptr gz k) h hsz
  have hmv : d'.toList.map (fun k : Fin ps.length => zptr gz k) = ptrs gz (d'.toList.map fun k : Fin ps.length => (k : Nat)) := by
    unfold ptrs
    rw [List.map_map]
    rfl
  have hpm : (d'.toList.map fun k : Fin ps.length => (k : Nat)).Perm (List.range ps.length) := by
    have h1 := hpd.map (fun k : Fin ps.length => (k : Nat))
    refine h1.trans ?_
    rw [hd]
    have : (List.finRange ps.length).toArray.toList.map (fun k : Fin ps.length => (k : Nat)) = List.range ps.length := List.ext_getElem (by simp) fun i h1 h2 => by simp
    rw [this]
  refine ⟨rfl, d'.toList.map (fun k : Fin ps.length => (k : Nat)), ⟨hpm, ?_⟩, ?_, hput.2.mono (fun x hx => by subst hx; rfl)⟩
  · rw [List.pairwise_map]
    refine List.pairwise_iff_getElem.2 fun i j hi hj hij => ?_
    have h1 := hsort i j (Nat.zero_le _) hij (by rw [← hsz]; simpa using hj)
    rw [ltP] at h1
    have hi' : i < d'.size := by simpa using hi
    have hj' : j < d'.size := by simpa using hj
    rw [getElem!_pos d' i hi', getElem!_pos d' j hj'] at h1
    simp only [decide_eq_false_iff_not, Int.not_lt] at h1
    simp only [Array.getElem_toList]
    have hnn : idP ps d'[i] ≠ idP ps d'[j] := by
      intro e
      rw [idP_lt d'[i].2, idP_lt d'[j].2] at e
      have hn2 := List.nodup_iff_pairwise_ne.1 (hpm.nodup_iff.2 List.nodup_range)
      rw [List.pairwise_map] at hn2
      have := (List.pairwise_iff_getElem.1 hn2) i j hi hj hij
      simp only [Array.getElem_toList] at this
      refine this ?_
      have h3 := (List.getElem_inj (i := (d'[i] : Nat)) (j := (d'[j] : Nat)) (h₀ := by simp) (h₁ := by simp) hnd).1 (by simpa using e)
      exact h3
    omega
  · rw [← hmv]; exact hput.1
theorem cellsP1 {w : World} {e : TypeId} {u : Value} : Cells (w.alloc (.cells #[u] e)) (w.alloc (.cells #[u] e)).heap.size (some ⟨w.heap.size, 0, none⟩) 1 1 1 [u] := cells_new rfl rfl
set_option maxHeartbeats 4000000 in
set_option maxRecDepth 10000 in
theorem plById (B b gz c : Nat) (hv cv : Value) (ps : List Pz) (cs : List Ch) (w : World) (h : PlH w B b (.slice (some ⟨gz, 0, none⟩) ps.length c) hv cv ps cs) (h0 : 0 < ps.length) (hl : ps.length ≤ 100000) (hnd : (ps.map fun p => p.z.id).Nodup) :
    Calls Tryz.prog 32 #[.pointer (some ⟨b, 0, none⟩)] w fun e w' => ∃ π v, e = .returned v ∧ ByI ps π ∧ w'.ownsRow w.heap.size 80 1 v ps.length (ptrs gz π) ∧ Below w.heap.size w w' := by
  obtain ⟨i0, hi, hz0, hz1, hz2⟩ := info_parts Tryz.infoPptr
  have HP := Lib.hid h
  have k0 := h.blk.cell 0
  simp only [List.getElem?_toArray, List.getElem?_cons_succ, List.getElem?_cons_zero] at k0
  have hbl := h.blk.low
  obtain ⟨g, c2, e5, _, hg, hnc, hcm⟩ := own_form h.row (by omega)
  injection e5 with e5 e6 e7
  injection e5 with e5
  injection e5 with e5
  subst e5 e7
  have hlow := fun k hk => (h.lows k hk).2
  have HLOW := Lib.hid hlow
  have HND := Lib.hid hnd
  clear h hlow hnd
  go_enter Tryz.func32, Tryz.ntmps32
  go_wp2_with fail
  go_loopw [3, 10] (fun lv iv wr => ∃ i : Nat, i ≤ ps.length ∧ iv = .int .i64 i ∧ wr.ownsRow w.heap.size 80 1 lv i (ptrs gz (List.range i)) ∧ Below w.heap.size w wr) (fun _ iv _ => ps.length - (intOf iv).toNat)
  case atStart => exact ⟨0, Nat.zero_le _, rfl, World.ownsRow_nil _ _ _ _, Below.refl _ _⟩
  case round =>
    obtain ⟨i, hil, rfl, hown, hBw⟩ := hrel
    have HBW := Lib.hid hBw
    have HO := Lib.hid hown
    have hsw := hBw.size
    have k1 := bkeep hBw k0 hbl
    clear hBw hown
    by_cases hlt : i < ps.length
    · have q3 : (i : Int) < (ps.length : Int) := by omega
      have hT := HO.out.alloc (.cells #[.pointer (some ⟨gz, i * 13, none⟩)] 80)
      have HT := Lib.hid hT
      have HC := Lib.hid (cellsP1 (w := wr) (e := 80) (u := .pointer (some ⟨gz, i * 13, none⟩)))
      clear hT
      go_wp2_with (first
        | (at_builtin; go_loud (refine wpList_append_row rfl (.tmp 13) (.tmp 20) 78 rfl w.heap.size 80 i0 (.pointer none) 1 8 Tryz.underlying78 hi hz0 hz1 hz2 rfl (by decide) _ i (ptrs gz (List.range i)) rfl HT.out _ (some ⟨wr.heap.size, 0, none⟩) 1 1 [.pointer (some ⟨gz, i * 13, none⟩)] rfl HC.out (by intro u hu; simp at hu; subst hu; rfl) (by unfold maxLen; omega) (by omega) (by simp; omega) ?_); intro v6 w6 hown6 hb6; have HO6 := Lib.hid hown6; have HB6 := Lib.hid hb6; clear hown6 hb6)
        | fail)
      refine ⟨⟨i + 1, hlt, by go_num, ?_, (HBW.out.alloc hsw _).trans HB6.out⟩, measZ hlt⟩
      rw [ptrs_snoc]
      exact HO6.out
    · obtain rfl : ps.length = i := by omega
      go_wp2_with (first
        | (go_at_call 54; go_loud (refine (plSortP B b w.heap.size gz c hv cv _ ps cs _ (HP.out.below HBW.out) HO.out HLOW.out h0 hl HND.out).mono ?_; rintro e w7 ⟨rfl, π, hπ, ho7, ht7⟩; have HPI := Lib.hid hπ; have HO7 := Lib.hid ho7; have HT7 := Lib.hid ht7; clear hπ ho7 ht7))
        | fail)
      go_ret
      exact ⟨π, _, rfl, HPI.out, HO7.out, HBW.out.trans (HT7.out.below hsw (fun k hk => (HO.out.lt k hk).1))⟩
end Go.Proofs.YtepjehcmiofehaaGreat
