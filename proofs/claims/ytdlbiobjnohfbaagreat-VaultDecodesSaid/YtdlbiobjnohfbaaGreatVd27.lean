/- slices.SortFunc on orders, by their numbers. book: List. -/
import Derived.Test.YtdlbiobjnohfbaaGreatLay
import Derived.Shelf.SlSortCmp.NoneTotal
import Derived.Test.YtdlbiobjnohfbaaGreatVd11
namespace Go.Proofs.YtdlbiobjnohfbaaGreat
open Go.RowKit Go.Shelf Go.Sort Go.Lib
open Go.Proofs
set_option linter.unusedVariables false
set_option linter.unusedSimpArgs false
instance : Inhabited Od := ⟨⟨0, ⟨#[]⟩, false, 0, 0, 0⟩⟩
theorem odV_len (o : Od) : (odV o).length = 6 := rfl
theorem odV_one (o : Od) : ∀ u ∈ odV o, u.oneCell' = true := by
  intro u hu
  simp only [odV, List.mem_cons, List.not_mem_nil, or_false] at hu
  rcases hu with rfl | rfl | rfl | rfl | rfl | rfl <;> rfl
theorem flatO_get (l : List Od) (t : Nat) (h : t < l.length * 6) : (flatO l)[t]? = some ((odV (l[t / 6]'(by omega)))[t % 6]!) := by
  obtain ⟨a0, a1, a2, a3, a4, a5⟩ := flatO_at l (t / 6) (by omega)
  have e : t = t / 6 * 6 + t % 6 := by omega
  rcases (show t % 6 = 0 ∨ t % 6 = 1 ∨ t % 6 = 2 ∨ t % 6 = 3 ∨ t % 6 = 4 ∨ t % 6 = 5 by omega) with h | h | h | h | h | h <;> (rw [h] at e; rw [h]; conv => lhs; rw [e])
  · exact a0
  · exact a1
  · exact a2
  · exact a3
  · exact a4
  · exact a5
theorem flatK_get (d : Array Od) (t : Nat) (h : t < d.size * 6) : (flatO d.toList)[t]? = some ((flatK odV 6 d)[t]!) := by
  rw [flatO_get d.toList t (by simpa using h), get_flatK odV 6 d t h]
  congr 3
  have h6 : t / 6 < d.size := by omega
  rw [Array.getElem_toList]
  exact (getElem!_pos d (t / 6) h6).symm
theorem ids_eq : ∀ {l m : List Od}, Ids l → Ids m → l.Perm m → l = m
  | [], m, _, _, p => (List.nil_perm.1 p).symm
  | a :: r, [], _, _, p => (List.perm_nil.1 p)
  | a :: r, b :: s, hl, hm, p => by
    obtain ⟨h1, h2⟩ := List.pairwise_cons.1 hl
    obtain ⟨k1, k2⟩ := List.pairwise_cons.1 hm
    have e : a = b := by
      rcases List.mem_cons.1 (p.mem_iff.1 (List.mem_cons_self (a := a) (l := r))) with e | e
      · exact e
      · have := k1 a e
        rcases List.mem_cons.1 (p.mem_iff.2 (List.mem_cons_self (a := b) (l := s))) with e2 | e2
        · exact e2.symm
        · have := h1 b e2; omega
    subst e
    rw [ids_eq h2 k2 ((List.perm_cons a).1 p)]
theorem ltId (x y : Od) : ltOf (fun x y : Od => Lib.compareInt x.id y.id) x y = decide (x.id < y.id) := by
  unfold ltOf Lib.compareInt
  by_cases h1 : x.id < y.id
  · simp [h1]
  · by_cases h2 : y.id < x.id <;> simp [h1, h2]
theorem swoId : SWO (ltOf fun x y : Od => Lib.compareInt x.id y.id) where
  irrefl x := by rw [ltId]; simp
  trans x y z h1 h2 := by rw [ltId] at *; simp at *; omega
  ntrans x y z h1 h2 := by rw [ltId] at *; simp at *; omega
set_option maxHeartbeats 1000000 in
theorem closureId (x y : Od) (W : World) : Calls Tryz.prog 97 #[.agg (odV x).toArray, .agg (odV y).toArray] W fun e w' => e = .returned (.int .i64 (Lib.compareInt x.id y.id)) ∧ ∃ q os', w' = grow (W.drewN q) os' := by
  have hcon := fun W' => AnyG.cmp_Compare_int Tryz.cmpInt x.id y.id W'
  change ∀ W', Calls Tryz.prog 98 _ _ _ at hcon
  generalize Lib.compareInt x.id y.id = r at hcon ⊢
  show Calls Tryz.prog 97 #[.agg #[.int .i64 x.id, .string x.who, .bool x.buy, .int .i64 x.item, .int .i64 x.ct, .int .i64 x.pr], .agg #[.int .i64 y.id, .string y.who, .bool y.buy, .int .i64 y.item, .int .i64 y.ct, .int .i64 y.pr]] W _
  go_enter Tryz.func97, Tryz.ntmps97
  go_wp2_with (go_at_call 98; refine (hcon _).mono ?_; rintro e w' ⟨rfl, rfl⟩)
  go_ret
  exact ⟨rfl, 0, _, by rw [alloc_eq_grow, alloc_eq_grow, grow_grow]; rfl⟩
theorem cmpLaysId (blk off size : Nat) (w : World) : CmpLays Tryz.prog 97 #[] odV 6 (fun x y => Lib.compareInt x.id y.id) blk off size w :=
  fun _ _ _ _ x y => closureId x y _
/-- the row is another one of the same length -/
theorem own_put {w : World} {B g n cap m : Nat} {l : List Od} {d : Array Od} {os : Array Obj} (h : w.ownsRow B 38 6 (.slice (some ⟨g, 0, none⟩) n cap) n (flatO l)) (hd : d.size = n) :
    (sortWorldK odV 6 w g 0 m d os).ownsRow B 38 6 (.slice (some ⟨g, 0, none⟩) n cap) n (flatO d.toList) ∧ Touch (fun x => x = g) w (sortWorldK odV 6 w g 0 m d os) := by
  have hlen : (flatO d.toList).length = n * 6 := by rw [flatO_len]; simp [hd]
  have hg : g < w.heap.size := (h.lt g rfl).2
  constructor
  · refine ⟨hlen, ?_⟩
    rcases h.2 with ⟨e, _⟩ | ⟨g', cap', cur, e, h1, h2, h3, h4, h5, h6⟩
    · cases e
    · injection e with e0 e1 e2
      injection e0 with e0
      injection e0 with e0
      subst e0 e2
      refine .inr ⟨g, cap, putCells id 0 (flatK odV 6 d) cur, rfl, h1, ?_, h3, h4, by simp [putCells, h5], ?_⟩
      · unfold sortWorldK
        rw [heap_grow_old _ _ (by rw [size_putRowK]; exact hg)]
        show (mapBlock (Go.Sort.ahead w m) g (putCells id 0 (flatK odV 6 d))).heap[g]? = _
        unfold mapBlock
        rw [Array.getElem?_modify, if_pos rfl, show (Go.Sort.ahead w m).heap = w.heap from rfl, h2]
        rfl
      · refine List.ext_getElem? fun t => ?_
        by_cases ht : t < n * 6
        · rw [flatK_get d t (by rw [hd]; exact ht), List.getElem?_take_of_lt ht]
          have hc : n * 6 ≤ cap * 6 := Nat.mul_le_mul_right 6 h3
          have : (putCells id 0 (flatK odV 6 d) cur)[t]? = some ((flatK odV 6 d)[t]!) := by
            unfold putCells
            rw [Array.getElem?_mapIdx, Array.getElem?_eq_getElem (show t < cur.size by rw [h5]; omega)]
            simp [hd, ht]
          simpa using this
        · rw [List.getElem?_eq_none (by rw [List.length_take]; omega), List.getElem?_eq_none (by omega)]
  · refine ⟨rfl, rfl, rfl, ?_, fun k hk hn => ?_⟩
    · unfold sortWorldK
      rw [size_grow, size_putRowK]
      show w.heap.size ≤ w.heap.size + _
      omega
    · unfold sortWorldK
      rw [heap_grow_old _ _ (by rw [size_putRowK]; exact hk)]
      show (mapBlock (Go.Sort.ahead w m) g _).heap[k]? = _
      unfold mapBlock
      rw [Array.getElem?_modify, if_neg (fun e => hn e.symm)]
      rfl
theorem sortOrders (B : Nat) (C L : List Od) (v : Value) (n : Nat) (hn : C.length = n) (w : World) (h : w.ownsRow B 38 6 v n (flatO C)) (hlen : n ≤ 1000) (hL : Ids L) (hp : C.Perm L) :
    Calls Tryz.prog 96 #[v, .func (.func 97) #[] #[]] w fun e w' => e = .returned (.tuple #[]) ∧ w'.ownsRow B 38 6 v n (flatO L) ∧ Touch (fun x => v.ownBlock = some x) w w' := by
  by_cases h0 : n = 0
  · subst h0
    obtain ⟨A, c, rfl, _⟩ := own_slice h
    have hC : C = [] := List.eq_nil_of_length_eq_zero hn
    subst hC
    have hLn : L = [] := List.nil_perm.1 hp
    subst hLn
    refine (AnyF.slices_SortFunc_none Tryz.sortO A c _ w).mono ?_
    rintro e w' ⟨rfl, rfl⟩
    exact ⟨rfl, h, Touch.refl _ _⟩
  · obtain ⟨g, cp, rfl, hg1, hg2, hg3, hg4⟩ := own_form h (by omega)
    subst hn
    have hH : HoldsK odV 6 w g 0 C.toArray := by
      intro j hj
      have hj' : j < C.length * 6 := by simpa using hj
      refine ⟨?_, ?_⟩
      · rw [Nat.zero_add, h.cellAt j hj']
        have := flatK_get C.toArray j (by simpa using hj')
        simpa using this
      · rw [Nat.zero_add]; exact h.frozenAt j
    have eg : ∀ args w, (callFunc 97 args).run Tryz.prog w = .ok (.enter 97 args) w := enters_of Tryz.func97 (by kernel_rfl) rfl
    have hcon := AnyQ.slices_SortFunc Tryz.sortO 6 Tryz.isAgg38 Tryz.sizeOf38 odV odV_len odV_one (fun x y => Lib.compareInt x.id y.id) swoId 97 #[] g 0 cp C.toArray w eg (cmpLaysId g 0 _ w) hH hg2 (by simp; omega)
    rw [List.size_toArray] at hcon
    refine hcon.mono ?_
    rintro e w' ⟨rfl, d', q, os, hperm, hsort, rfl⟩
    have hsz : d'.size = C.length := by have := hperm.1; simpa using this
    have hpd : d'.toList.Perm C := by
      have := hperm.2.2
      rw [Array.extract_eq_self_of_le (by omega), Array.extract_eq_self_of_le (by simp)] at this
      simpa using this
    have hids : Ids d'.toList := by
      unfold Ids
      refine List.pairwise_iff_getElem.2 fun i j hi hj hij => ?_
      have h1 := hsort i j (Nat.zero_le _) hij (by simpa [hsz] using hj)
      rw [ltId] at h1
      have hi' : i < d'.size := by simpa using hi
      have hj' : j < d'.size := by simpa using hj
      rw [getElem!_pos d' i hi', getElem!_pos d' j hj'] at h1
      have h2 : d'[i].id ≤ d'[j].id := by simpa using h1
      have hnd : (d'.toList.map (·.id)).Nodup := perm_nodup (hpd.trans hp) hL.nodup
      have h3 : d'[i].id ≠ d'[j].id := by
        intro e
        have := (List.pairwise_iff_getElem.1 hnd) i j (by simpa using hi') (by simpa using hj') hij
        simp at this
        exact this e
      simp only [Array.getElem_toList]
      omega
    have e := ids_eq hids hL (hpd.trans hp)
    have := own_put (m := q) (d := d') (os := os) h hsz
    rw [e] at this
    exact ⟨rfl, this.1, this.2.mono (fun x hx => by subst hx; rfl)⟩
end Go.Proofs.YtdlbiobjnohfbaaGreat
namespace Go.Proofs.YtdlbiobjnohfbaaGreat
open Go.RowKit
set_option linter.unusedVariables false
set_option linter.unusedSimpArgs false
theorem run_append2 {P : Program} {t t2 e e2 : TypeId} (ht : P.underlying t = some (.slice e)) (ht2 : P.underlying t2 = some (.slice e2)) (ty : TypeId) (args : Array Value) (w : World) :
    (Builtin.append_ #[t, t2] ty args).run P w = (Builtin.append_ #[t, t] ty args).run P w := by
  unfold Builtin.append_
  rcases h0 : args[0]? with _ | s
  · rfl
  · rcases h1 : args[1]? with _ | x
    · rfl
    · simp only [List.getElem?_toArray, List.getElem?_cons_zero, List.getElem?_cons_succ]
      rw [Sem.run_bind, Sem.run_bind, run_underlying ht]
      simp only [Result.andThen_ok]
      cases s with
      | slice a n c =>
        simp only
        rw [Sem.run_bind, Sem.run_bind]
        refine congrArg _ (funext fun size => funext fun w' => ?_)
        conv => lhs; rw [Sem.run_bind, run_underlying ht2]
        conv => rhs; rw [Sem.run_bind, run_underlying ht]
        rfl
      | _ => rfl
theorem wpList_append2 {P : Program} {w : World} {ops : Array Oper} {rest : List Oper} {o : Oper} {a : Act} {Q : Exit → Act → World → Prop} (hgd : o.guard = none) (s x : Operand) (t t2 : TypeId)
    (ho : o.op = .call { callee := .builtin .append, args := #[s, x], argTypes := #[t, t2] })
    (base : Nat) (e e2 : TypeId) (i : TypeInfo) (z : Value) (size bytes : Nat) (ht : P.underlying t = some (.slice e)) (ht2 : P.underlying t2 = some (.slice e2)) (hi : P.info? e = some i) (hz : i.zero = some z)
    (hsize : i.size = size) (hby : i.bytes = bytes) (hzs : z.cells.size = size) (hsz : 0 < size)
    (v : Value) (n : Nat) (xs : List Value) (hs : a.eval s = v) (hown : w.ownsRow base e size v n xs)
    (B : Nat) (A : Option Addr) (m c : Nat) (news : List Value) (hx : a.eval x = .slice A m c) (hr : Cells w B A m c size news) (h1 : ∀ u ∈ news, u.oneCell' = true)
    (h63 : n + m ≤ maxLen) (hbytes : (n + m) * bytes ≤ 140737488355328) (hbase : base ≤ w.heap.size)
    (h : ∀ v' w', w'.ownsRow base e size v' (n + m) (xs ++ news) → Below base w w' → wpList P ops Q rest (a.put o.dst v') w') : wpList P ops Q (o :: rest) a w := by
  have hlow : ∀ k, v.ownBlock = some k → base ≤ k := fun k hk => (hown.lt k hk).1
  have key : ∃ v' w', (Builtin.append_ #[t, t2] o.type #[v, .slice A m c]).run P w = .ok v' w' ∧ w'.ownsRow base e size v' (n + m) (xs ++ news) ∧ Below base w w' := by
    rw [run_append2 ht ht2]
    cases A with
    | none =>
      obtain ⟨rfl, rfl⟩ := hr.2.1 rfl
      have hn : news = [] := List.eq_nil_of_length_eq_zero (by simpa using hr.1)
      subst hn
      exact ⟨v, w, run_append_nothing w base t o.type e i size ht hi v n xs hown 0, by simpa using hown, Below.refl _ _⟩
    | some ad =>
      obtain ⟨v', w', hrun, h2, h3, _, h5⟩ := run_append_own_at (P := P) w base t o.type e i z size bytes ht hi hz hsize hby hzs hsz v n xs hown ad m c news hr.1 (fun j u hu => by
        obtain ⟨b, q, e, _, hc⟩ := hr.2.2 j u hu
        injection e with e
        subst e
        rw [add_none]; exact hc) h1 h63 hbytes hbase
      exact ⟨v', w', hrun, h2, (Below.refl base w).grown h3 hbase hlow⟩
  obtain ⟨v', w', hrun, h2, h3⟩ := key
  refine wpList_plain hgd fun K hK => ?_
  unfold Oper.wp execOp
  simp only [ho, resolve, invoke, builtin, Sem.run_bind, Sem.run_pure, Result.andThen_ok, List.map_toArray, List.map_cons, List.map_nil, hs, hx, hrun]
  exact hK _ _ (h v' w' h2 h3)
def catS (S : Nat → List Od) : Nat → List Od
  | 0 => []
  | n + 1 => catS S n ++ S (ord8 n)
theorem catS_perm {S S' : Nat → List Od} (h : ∀ i, i < 8 → (S i).Perm (S' i)) : ∀ n, n ≤ 8 → (catS S n).Perm (catS S' n)
  | 0, _ => List.Perm.refl _
  | n + 1, hn => (catS_perm h n (by omega)).append (h _ (ord8_lt (by omega)))
theorem catS_len (S : Nat → List Od) : ∀ n, (catS S n).length = sumO S n
  | 0 => rfl
  | n + 1 => by simp [catS, sumO, catS_len S n]
theorem cat_all {L : List Od} (h : ∀ o ∈ L, 1 ≤ o.item ∧ o.item ≤ 3) : (catS (fun i => L.filter (sideP i)) 8).Perm L := by
  haveI : DecidableEq Od := fun _ _ => Classical.propDecidable _
  refine List.perm_iff_count.2 fun a => ?_
  have cf : ∀ i, (L.filter (sideP i)).count a = if sideP i a = true then L.count a else 0 := fun i => by
    split
    · rename_i hp; exact List.count_filter hp
    · rename_i hp; exact List.count_eq_zero_of_not_mem (fun hm => hp (List.mem_filter.1 hm).2)
  by_cases ha : a ∈ L
  · obtain ⟨i, hi, h1, h2⟩ := sideP_one (h a ha)
    have hs : ∀ j, j < 8 → (sideP j a = true ↔ j = i) := fun j hj => ⟨h2 j hj, fun e => by rw [e]; exact h1⟩
    simp only [catS, ord8, List.count_append, cf]
    rcases lt8 hi with rfl | rfl | rfl | rfl | rfl | rfl | rfl | rfl <;> simp [hs]
  · rw [List.count_eq_zero_of_not_mem ha]
    refine List.count_eq_zero_of_not_mem fun hm => ?_
    simp only [catS, List.mem_append, List.mem_filter, List.not_mem_nil, false_or] at hm
    rcases hm with ((((((( hm | hm) | hm) | hm) | hm) | hm) | hm) | hm) <;> exact ha hm.1
theorem cat_rel {S : Nat → List Od} {L : List Od} {last : Int} (h : RelS S L) (hk : Bk L last) : (catS S 8).Perm L :=
  (catS_perm (fun i hi => (h i hi).1) 8 (Nat.le_refl _)).trans (cat_all (fun o ho => (hk.ok o ho).item))
set_option maxHeartbeats 2000000 in
set_option maxRecDepth 10000 in
theorem bkList (Y : Lay) (b : Nat) (v : Nat → Value) (S : Nat → List Od) (last : Int) (L : List Od) (w : World) (h : BkH Y w b v S last) (hr : RelS S L) (hk : Bk L last) (hlen : L.length ≤ 1000) :
    Calls Tryz.prog 66 #[.pointer (some ⟨b, Y.o, none⟩)] w fun e w' => ∃ u, e = .returned u ∧ w'.ownsRow w.heap.size 38 6 u L.length (flatO L) ∧ Below w.heap.size w w' := by
  obtain ⟨i0, hi, hz0, hz1, hz2⟩ := info_parts Tryz.infoOrder
  have hperm := cat_rel hr hk
  have hsum : sumO S 8 = L.length := by rw [← catS_len, hperm.length_eq]
  have hids := hk.ids
  have hbl := h.whl.low
  go_enter Tryz.func66, Tryz.ntmps66
  go_wp2_with fail
  refine (bkSides b Y.o _).mono ?_
  rintro e w1 ⟨g, cap, rfl, hown, hb1⟩
  obtain ⟨A, c, hA, hc1, hc2, hx⟩ := row_cells hown
  injection hA with hA1 hA2 hA3
  subst hA1 hA3
  have hglt := (hown.lt g rfl).2
  have HX := Lib.hid hx
  have HB := Lib.hid (h.below hb1)
  have HB1 := Lib.hid hb1
  have hs1 := hb1.size
  clear hx hown h hb1 hr
  go_wp2_with fail
  go_loopw [3, 11] (fun lv i wr => ∃ (k : Nat) (u : Value), lv = u ∧ k ≤ 8 ∧ i = .int .i64 k ∧ wr.ownsRow w1.heap.size 38 6 u (sumO S k) (flatO (catS S k)) ∧ Below w1.heap.size w1 wr) (fun _ i _ => 8 - (intOf i).toNat)
  case atStart => exact ⟨0, _, rfl, by omega, rfl, World.ownsRow_nil _ _ _ _, Below.refl _ _⟩
  case round =>
    obtain ⟨k, u, hu, hk8, rfl, hO, hBr⟩ := hrel
    have hu := hu.symm
    subst hu
    have HO := Lib.hid hO
    have HBR := Lib.hid hBr
    have hsr := hBr.size
    by_cases hlt : k < 8
    · obtain ⟨j, hj, hsv, hjk⟩ := sv_get b Y.o k hlt
      obtain ⟨g', o', e1, _, h1⟩ := HX.out.2.2 k _ hsv
      injection e1 with e1; injection e1 with e1 e2 e3
      subst e1 e2
      rw [Nat.zero_add] at h1
      unfold pt at h1
      have h1 := bkeep hBr h1 hglt
      have hsd := (HB.out.below hBr).sd hj
      have h2 := hsd.cell
      obtain ⟨A, c, e4, hcc1, hcc2, hcell⟩ := row_cells hsd.own
      rw [e4] at h2
      have hle := sumO_le S (k + 1) (by omega)
      have hst : sumO S (k + 1) = sumO S k + (S j).length := by rw [hjk]; rfl
      have hcat : catS S (k + 1) = catS S k ++ S j := by rw [hjk]; rfl
      rw [hst, hsum] at hle
      obtain ⟨q, hq⟩ : ∃ q, q = sumO S k := ⟨_, rfl⟩
      rw [← hq] at hst hle HO
      have HST := Lib.hid hst
      have HCAT := Lib.hid hcat
      have HC := Lib.hid hcell
      clear hst hcat hcell hq hsd e4 hjk hO hBr
      go_wp2_with (first
        | (at_builtin; go_loud (refine wpList_append2 rfl (.tmp 15) (.tmp 18) 57 75 rfl w1.heap.size 38 38 i0 (.agg #[.int .i64 0, .string ⟨#[]⟩, .bool false, .int .i64 0, .int .i64 0, .int .i64 0]) 6 56 Tryz.underlying57 Tryz.underlying75 hi hz0 hz1 hz2 rfl (by decide) _ q (flatO (catS S k)) rfl HO.out _ A (S j).length c (flatO (S j)) rfl HC.out (flatO_one _) (by unfold maxLen; omega) (by omega) hsr ?_; intro v5 w5 hown5 hb5; have HO5 := Lib.hid hown5; have HB5 := Lib.hid (HBR.out.trans hb5); clear hown5 hb5))
        | fail)
      refine ⟨⟨k + 1, v5, rfl, by omega, by go_num, ?_, HB5.out⟩, measI hlt⟩
      rw [HST.out, HCAT.out, flatO_app]
      exact HO5.out
    · obtain rfl : k = 8 := by omega
      rw [hsum] at HO
      go_wp2_with (first
        | (go_at_call 96; go_loud (refine (sortOrders w1.heap.size (catS S 8) L _ L.length (by rw [catS_len, hsum]) _ HO.out hlen hids hperm).mono ?_; rintro e w6 ⟨rfl, ho6, ht6⟩))
        | fail)
      go_ret
      exact ⟨_, rfl, ho6.mono hs1, (HB1.out.trans (HBR.out.mono hs1)).trans (ht6.below (by omega) (fun x hx => by have := (HO.out.lt x hx).1; omega))⟩
end Go.Proofs.YtdlbiobjnohfbaaGreat
