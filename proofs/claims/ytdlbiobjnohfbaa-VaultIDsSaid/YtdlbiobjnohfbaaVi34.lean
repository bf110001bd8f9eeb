/- slices.SortFunc on orders, by their numbers. -/
import Derived.ProofKit
import Derived.Test.YtdlbiobjnohfbaaProg
import Derived.WalkKit
import Derived.WalkSpells
import Derived.WalkLawsBesides
import Derived.Deep.QuietTactic
import Derived.BigQuiet
import Derived.RegionTactic
import Derived.BigRegion
import Derived.Outline
import Derived.LoopTactic
import Derived.Lib.Hide
import Derived.Deep.RegionHeld3
import Derived.Laws.AppendOwnNone
import Derived.Deep.AppendLies
import Derived.Maps.AppendAt
import Derived.Laws.Rows
import Derived.Laws.OwnMore
import Derived.Deep.RegionLaw
import Derived.Deep.Onto
import Derived.Test.YtdlbiobjnohfbaaLay
import Derived.Shelf.SlSortCmp.NoneTotal
import Derived.Test.YtdlbiobjnohfbaaVi0
import Derived.Test.YtdlbiobjnohfbaaVi1
import Derived.Test.YtdlbiobjnohfbaaVi2
import Derived.Test.YtdlbiobjnohfbaaVi3
import Derived.Test.YtdlbiobjnohfbaaVi4
import Derived.Test.YtdlbiobjnohfbaaVi5
import Derived.Test.YtdlbiobjnohfbaaVi6
import Derived.Test.YtdlbiobjnohfbaaVi7
import Derived.Test.YtdlbiobjnohfbaaVi8
import Derived.Test.YtdlbiobjnohfbaaVi9
import Derived.Test.YtdlbiobjnohfbaaVi10
import Derived.Test.YtdlbiobjnohfbaaVi11
import Derived.Test.YtdlbiobjnohfbaaVi12
import Derived.Test.YtdlbiobjnohfbaaVi13
import Derived.Test.YtdlbiobjnohfbaaVi14
namespace Go.Proofs.Ytdlbiobjnohfbaa
open Go.RowKit Go.Shelf Go.Sort Go.Lib
open Go.Proofs
set_option linter.unusedVariables false
set_option linter.unusedSimpArgs false
instance : Inhabited Od := ⟨⟨0, ⟨#[]⟩, false, 0, 0, 0⟩⟩
theorem odV_len (o : Od) : (odV o).length = 6 := rfl
theorem odV_one (o : Od) : ∀ u ∈ odV o, u.oneCell' = true := by
  intro u hu
  simp only [odV, List.mem_cons, List.not_mem_nil, or_false] at hu
  rcases hu with rfl | rfl | rfl | rfl | rfl | rfl <;> rfl
theorem flatO_get (l : List Od) (t : Nat) (h : t < l.length * 6) : (flatO l)[t]? = some ((odV (l[t / 6]'(by omega)))[t % 6]!) := by
  obtain ⟨a0, a1, a2, a3, a4, a5⟩ := flatO_at l (t / 6) (by omega)
  have e : t = t / 6 * 6 + t % 6 := by omega
  rcases (show t % 6 = 0 ∨ t % 6 = 1 ∨ t % 6 = 2 ∨ t % 6 = 3 ∨ t % 6 = 4 ∨ t % 6 = 5 by omega) with h | h | h | h | h | h <;> (rw [h] at e; rw [h]; conv => lhs; rw [e])
  · exact a0
  · exact a1
  · exact a2
  · exact a3
  · exact a4
  · exact a5
theorem flatK_get (d : Array Od) (t : Nat) (h : t < d.size * 6) : (flatO d.toList)[t]? = some ((flatK odV 6 d)[t]!) := by
  rw [flatO_get d.toList t (by simpa using h), get_flatK odV 6 d t h]
  congr 3
  have h6 : t / 6 < d.size := by omega
  rw [Array.getElem_toList]
  exact (getElem!_pos d (t / 6) h6).symm
theorem ids_eq : ∀ {l m : List Od}, Ids l → Ids m → l.Perm m → l = m
  | [], m, _, _, p => (List.nil_perm.1 p).symm
  | a :: r, [], _, _, p => (List.perm_nil.1 p)
  | a :: r, b :: s, hl, hm, p => by
    obtain ⟨h1, h2⟩ := List.pairwise_cons.1 hl
    obtain ⟨k1, k2⟩ := List.pairwise_cons.1 hm
    have e : a = b := by
      rcases List.mem_cons.1 (p.mem_iff.1 (List.mem_cons_self (a := a) (l := r))) with e | e
      · exact e
      · have := k1 a e
        rcases List.mem_cons.1 (p.mem_iff.2 (List.mem_cons_self (a := b) (l := s))) with e2 | e2
        · exact e2.symm
        · have := h1 b e2; omega
    subst e
    rw [ids_eq h2 k2 ((List.perm_cons a).1 p)]
theorem ltId (x y : Od) : ltOf (fun x y : Od => Lib.compareInt x.id y.id) x y = decide (x.id < y.id) := by
  unfold ltOf Lib.compareInt
  by_cases h1 : x.id < y.id
  · simp [h1]
  · by_cases h2 : y.id < x.id <;> simp [h1, h2]
theorem swoId : SWO (ltOf fun x y : Od => Lib.compareInt x.id y.id) where
  irrefl x := by rw [ltId]; simp
  trans x y z h1 h2 := by rw [ltId] at *; simp at *; omega
  ntrans x y z h1 h2 := by rw [ltId] at *; simp at *; omega
set_option maxHeartbeats 1000000 in
theorem closureId (x y : Od) (W : World) : Calls Try.prog 41 #[.agg (odV x).toArray, .agg (odV y).toArray] W fun e w' => e = .returned (.int .i64 (Lib.compareInt x.id y.id)) ∧ ∃ q os', w' = grow (W.drewN q) os' := by
  have hcon := fun W' => AnyG.cmp_Compare_int Try.cmpInt x.id y.id W'
  change ∀ W', Calls Try.prog 42 _ _ _ at hcon
  generalize Lib.compareInt x.id y.id = r at hcon ⊢
  show Calls Try.prog 41 #[.agg #[.int .i64 x.id, .string x.who, .bool x.buy, .int .i64 x.item, .int .i64 x.ct, .int .i64 x.pr], .agg #[.int .i64 y.id, .string y.who, .bool y.buy, .int .i64 y.item, .int .i64 y.ct, .int .i64 y.pr]] W _
  go_enter Try.func41, Try.ntmps41
  go_wp2_with (go_at_call 42; refine (hcon _).mono ?_; rintro e w' ⟨rfl, rfl⟩)
  go_ret
  exact ⟨rfl, 0, _, by rw [alloc_eq_grow, alloc_eq_grow, grow_grow]; rfl⟩
theorem cmpLaysId (blk off size : Nat) (w : World) : CmpLays Try.prog 41 #[] odV 6 (fun x y => Lib.compareInt x.id y.id) blk off size w :=
  fun _ _ _ _ x y => closureId x y _
/-- the row is another one of the same length -/
theorem own_put {w : World} {B g n cap m : Nat} {l : List Od} {d : Array Od} {os : Array Obj} (h : w.ownsRow B 29 6 (.slice (some ⟨g, 0, none⟩) n cap) n (flatO l)) (hd : d.size = n) :
    (sortWorldK odV 6 w g 0 m d os).ownsRow B 29 6 (.slice (some ⟨g, 0, none⟩) n cap) n (flatO d.toList) ∧ Touch (fun x => x = g) w (sortWorldK odV 6 w g 0 m d os) := by
  have hlen : (flatO d.toList).length = n * 6 := by rw [flatO_len]; simp [hd]
  have hg : g < w.heap.size := (h.lt g rfl).2
  constructor
  · refine ⟨hlen, ?_⟩
    rcases h.2 with ⟨e, _⟩ | ⟨g', cap', cur, e, h1, h2, h3, h4, h5, h6⟩
    · cases e
    · injection e with e0 e1 e2
      injection e0 with e0
      injection e0 with e0
      subst e0 e2
      refine .inr ⟨g, cap, putCells id 0 (flatK odV 6 d) cur, rfl, h1, ?_, h3, h4, by simp [putCells, h5], ?_⟩
      · unfold sortWorldK
        rw [heap_grow_old _ _ (by rw [size_putRowK]; exact hg)]
        show (mapBlock (Go.Sort.ahead w m) g (putCells id 0 (flatK odV 6 d))).heap[g]? = _
        unfold mapBlock
        rw [Array.getElem?_modify, if_pos rfl, show (Go.Sort.ahead w m).heap = w.heap from rfl, h2]
        rfl
      · refine List.ext_getElem? fun t => ?_
        by_cases ht : t < n * 6
        · rw [flatK_get d t (by rw [hd]; exact ht), List.getElem?_take_of_lt ht]
          have hc : n * 6 ≤ cap * 6 := Nat.mul_le_mul_right 6 h3
          have : (putCells id 0 (flatK odV 6 d) cur)[t]? = some ((flatK odV 6 d)[t]!) := by
            unfold putCells
            rw [Array.getElem?_mapIdx, Array.getElem?_eq_getElem (show t < cur.size by rw [h5]; omega)]
            simp [hd, ht]
          simpa using this
        · rw [List.getElem?_eq_none (by rw [List.length_take]; omega), List.getElem?_eq_none (by omega)]
  · refine ⟨rfl, rfl, rfl, ?_, fun k hk hn => ?_⟩
    · unfold sortWorldK
      rw [size_grow, size_putRowK]
      show w.heap.size ≤ w.heap.size + _
      omega
    · unfold sortWorldK
      rw [heap_grow_old _ _ (by rw [size_putRowK]; exact hk)]
      show (mapBlock (Go.Sort.ahead w m) g _).heap[k]? = _
      unfold mapBlock
      rw [Array.getElem?_modify, if_neg (fun e => hn e.symm)]
      rfl
theorem sortOrders (B : Nat) (C L : List Od) (v : Value) (n : Nat) (hn : C.length = n) (w : World) (h : w.ownsRow B 29 6 v n (flatO C)) (hlen : n ≤ 1000) (hL : Ids L) (hp : C.Perm L) :
    Calls Try.prog 40 #[v, .func (.func 41) #[] #[]] w fun e w' => e = .returned (.tuple #[]) ∧ w'.ownsRow B 29 6 v n (flatO L) ∧ Touch (fun x => v.ownBlock = some x) w w' := by
  by_cases h0 : n = 0
  · subst h0
    obtain ⟨A, c, rfl, _⟩ := own_slice h
    have hC : C = [] := List.eq_nil_of_length_eq_zero hn
    subst hC
    have hLn : L = [] := List.nil_perm.1 hp
    subst hLn
    refine (AnyF.slices_SortFunc_none Try.sortO A c _ w).mono ?_
    rintro e w' ⟨rfl, rfl⟩
    exact ⟨rfl, h, Touch.refl _ _⟩
  · obtain ⟨g, cp, rfl, hg1, hg2, hg3, hg4⟩ := own_form h (by omega)
    subst hn
    have hH : HoldsK odV 6 w g 0 C.toArray := by
      intro j hj
      have hj' : j < C.length * 6 := by simpa using hj
      refine ⟨?_, ?_⟩
      · rw [Nat.zero_add, h.cellAt j hj']
        have := flatK_get C.toArray j (by simpa using hj')
        simpa using this
      · rw [Nat.zero_add]; exact h.frozenAt j
    have eg : ∀ args w, (callFunc 41 args).run Try.prog w = .ok (.enter 41 args) w := enters_of Try.func41 (by kernel_rfl) rfl
    have hcon := AnyQ.slices_SortFunc Try.sortO 6 Try.isAgg29 Try.sizeOf29 odV odV_len odV_one (fun x y => Lib.compareInt x.id y.id) swoId 41 #[] g 0 cp C.toArray w eg (cmpLaysId g 0 _ w) hH hg2 (by simp; omega)
    rw [List.size_toArray] at hcon
    refine hcon.mono ?_
    rintro e w' ⟨rfl, d', q, os, hperm, hsort, rfl⟩
    have hsz : d'.size = C.length := by have := hperm.1; simpa using this
    have hpd : d'.toList.Perm C := by
      have := hperm.2.2
      rw [Array.extract_eq_self_of_le (by omega), Array.extract_eq_self_of_le (by simp)] at this
      simpa using this
    have hids : Ids d'.toList := by
      unfold Ids
      refine List.pairwise_iff_getElem.2 fun i j hi hj hij => ?_
      have h1 := hsort i j (Nat.zero_le _) hij (by simpa [hsz] using hj)
      rw [ltId] at h1
      have hi' : i < d'.size := by simpa using hi
      have hj' : j < d'.size := by simpa using hj
      rw [getElem!_pos d' i hi', getElem!_pos d' j hj'] at h1
      have h2 : d'[i].id ≤ d'[j].id := by simpa using h1
      have hnd : (d'.toList.map (·.id)).Nodup := perm_nodup (hpd.trans hp) hL.nodup
      have h3 : d'[i].id ≠ d'[j].id := by
        intro e
        have := (List.pairwise_iff_getElem.1 hnd) i j (by simpa using hi') (by simpa using hj') hij
        simp at this
        exact this e
      simp only [Array.getElem_toList]
      omega
    have e := ids_eq hids hL (hpd.trans hp)
    have := own_put (m := q) (d := d') (os := os) h hsz
    rw [e] at this
    exact ⟨rfl, this.1, this.2.mono (fun x hx => by subst hx; rfl)⟩
end Go.Proofs.Ytdlbiobjnohfbaa
