/- An argument that is a slice of acts on a vault, opened. slices.SortFunc on orders, by their numbers. -/
import Derived.Test.YtdlbiobjnohfbaaGreatLay
import Derived.Shelf.SlSortCmp.NoneTotal
import Derived.Test.YtdlbiobjnohfbaaGreatVp14
import Derived.Test.YtdlbiobjnohfbaaGreatVp22
namespace Go.Proofs.YtdlbiobjnohfbaaGreat
open Go.RowKit Go.ChangeShapes Go.WideShapes Go.ChangeAt Go.Deep
set_option linter.unusedVariables false
set_option linter.unusedSimpArgs false
structure Va where
 kind : Int
 n : Int
 who : ByteArray
 i : It4
 o : Od
def vaV (a : Va) : List Value := [.int .i64 a.kind, .int .i64 a.n, .string a.who, .int .i64 a.i.1, .int .i64 a.i.2.1, .int .i64 a.i.2.2.1, .int .i64 a.i.2.2.2, .int .i64 a.o.id, .string a.o.who, .bool a.o.buy, .int .i64 a.o.item, .int .i64 a.o.ct, .int .i64 a.o.pr]
def vaQ (a : Va) : Prop := (Lit.int .i64 a.i.1).wf = true ∧ (Lit.int .i64 a.i.2.1).wf = true ∧ (Lit.int .i64 a.i.2.2.1).wf = true ∧ (Lit.int .i64 a.i.2.2.2).wf = true
set_option maxRecDepth 100000 in
theorem read_va {H : Type} {enc : TypeId × Value → H} {W : World} : ∀ fuel cs x, DataW.trod enc Tryz.prog W 0 (fun _ => true) true fuel 40 cs = some x → ∃ r : Va, cs = vaV r ∧ vaQ r := by
 intro fuel cs x h
 obtain ⟨xs, n, _, _, hl, hlen, hf⟩ := DataW.trod_struct Tryz.underlying40 h
 have hc : Tryz.prog.cellsOf 40 = 13 := by kernel_rfl
 have c1 : Tryz.prog.cellsOf 3 = 1 := by kernel_rfl
 have c2 : Tryz.prog.cellsOf 9 = 1 := by kernel_rfl
 have c3 : Tryz.prog.cellsOf 4 = 1 := by kernel_rfl
 have c4 : Tryz.prog.cellsOf 38 = 6 := by kernel_rfl
 have c5 : Tryz.prog.cellsOf 36 = 4 := by kernel_rfl
 rw [hc] at hl
 match cs, hl, xs, hlen with
 | [v0, v1, v2, v3, v4, v5, v6, v7, v8, v9, v10, v11, v12], _, [y0, y1, y2, y3, y4], _ =>
  have g0 := hf 0 _ rfl
  have g1 := hf 1 _ rfl
  have g2 := hf 2 _ rfl
  have g3 := hf 3 _ rfl
  have g4 := hf 4 _ rfl
  simp [c1, c2, c4, c5] at g0 g1 g2 g3 g4
  obtain ⟨k, e0, _, w0⟩ := DataW.trod_int Tryz.underlying3 g0
  obtain ⟨z, e1, _, w1⟩ := DataW.trod_int Tryz.underlying3 g1
  obtain ⟨s0, e2, _, w2⟩ := DataW.trod_string Tryz.underlying9 g2
  obtain ⟨b0, b1, b2, b3, n3, _, k0, k1, k2, k3⟩ := trod_array4 Tryz.underlying36 c1 g3
  obtain ⟨j0, d0, _, x0⟩ := DataW.trod_int Tryz.underlying3 k0
  obtain ⟨j1, d1, _, x1⟩ := DataW.trod_int Tryz.underlying3 k1
  obtain ⟨j2, d2, _, x2⟩ := DataW.trod_int Tryz.underlying3 k2
  obtain ⟨j3, d3, _, x3⟩ := DataW.trod_int Tryz.underlying3 k3
  obtain ⟨xs2, n2, _, _, hl2, hlen2, hf2⟩ := DataW.trod_struct Tryz.underlying38 g4
  match xs2, hlen2 with
  | [z0, z1, z2, z3, z4, z5], _ =>
   have p0 := hf2 0 _ rfl
   have p1 := hf2 1 _ rfl
   have p2 := hf2 2 _ rfl
   have p3 := hf2 3 _ rfl
   have p4 := hf2 4 _ rfl
   have p5 := hf2 5 _ rfl
   simp [c1, c2, c3] at p0 p1 p2 p3 p4 p5
   obtain ⟨i, f0, _, _⟩ := DataW.trod_int Tryz.underlying3 p0
   obtain ⟨s, f1, _, hs⟩ := DataW.trod_string Tryz.underlying9 p1
   obtain ⟨u, f2, _⟩ := DataW.trod_bool Tryz.underlying4 p2
   obtain ⟨t, f3, _, _⟩ := DataW.trod_int Tryz.underlying3 p3
   obtain ⟨c, f4, _, _⟩ := DataW.trod_int Tryz.underlying3 p4
   obtain ⟨q, f5, _, _⟩ := DataW.trod_int Tryz.underlying3 p5
   simp only [List.cons.injEq, and_true] at e0 e1 e2 d0 d1 d2 d3 f0 f1 f2 f3 f4 f5
   subst e0 e1 e2 d0 d1 d2 d3 f0 f1 f2 f3 f4 f5
   exact ⟨⟨k, z, s0, (j0, j1, j2, j3), ⟨i, s, u, t, c, q⟩⟩, rfl, x0, x1, x2, x3⟩
set_option maxRecDepth 100000 in
theorem open_vacts {H : Type} {enc : TypeId × Value → H} {W : World} {base : Nat} {v : Value} {d : DataW H} {p : List MemPlace}
  (hv : Value.okWide Tryz.prog W .any base 22 v) (h : DataW.Trod enc Tryz.prog W 0 (fun _ => true) true 22 v d p) :
  ∃ (A : Option Addr) (c : Nat) (xs : List Va), v = .slice A xs.length c ∧ xs.length ≤ c ∧ c ≤ maxLen ∧ (∀ r ∈ xs, vaQ r) ∧ Cells W W.heap.size A xs.length c 13 (xs.flatMap vaV) :=
 open_rows vaV vaQ 13 (by omega) (fun _ => rfl) ⟨0, 0, ⟨#[]⟩, (0, 0, 0, 0), ⟨0, ⟨#[]⟩, false, 0, 0, 0⟩⟩ Tryz.underlying22 (by kernel_rfl) read_va hv h
theorem va_cell {w : World} {B c : Nat} {A : Option Addr} {xs : List Va} (h : Cells w B A xs.length c 13 (xs.flatMap vaV)) {i : Nat} (hi : i < xs.length) :
  ∃ b o, A = some ⟨b, o, none⟩ ∧ b < B ∧ ∀ k u, k < 13 → (vaV xs[i])[k]? = some u → w.cell? ⟨b, o + i * 13 + k, none⟩ = some u := by
 have g := fun k hk => flat_get vaV 13 (fun _ => rfl) xs i k hk
 have e : xs[i]? = some xs[i] := List.getElem?_eq_getElem hi
 have key : ∀ k u, k < 13 → (vaV xs[i])[k]? = some u → ∃ b o, A = some ⟨b, o, none⟩ ∧ b < B ∧ w.cell? ⟨b, o + (i * 13 + k), none⟩ = some u := fun k u hk hu => h.2.2 (i * 13 + k) u (by rw [g k hk, e]; exact hu)
 obtain ⟨b, o, e0, hb, k0⟩ := key 0 _ (by decide) rfl
 refine ⟨b, o, e0, hb, fun k u hk hu => ?_⟩
 obtain ⟨b1, o1, e1, _, h1⟩ := key k u hk hu
 rw [e0] at e1
 injection e1 with e1
 injection e1 with e3 e4
 subst e3 e4
 rw [Nat.add_assoc]; exact h1
end Go.Proofs.YtdlbiobjnohfbaaGreat
namespace Go.Proofs.YtdlbiobjnohfbaaGreat
open Go.RowKit Go.Shelf Go.Sort Go.Lib
open Go.Proofs
set_option linter.unusedVariables false
set_option linter.unusedSimpArgs false
instance : Inhabited Od := ⟨⟨0, ⟨#[]⟩, false, 0, 0, 0⟩⟩
theorem odV_len (o : Od) : (odV o).length = 6 := rfl
theorem odV_one (o : Od) : ∀ u ∈ odV o, u.oneCell' = true := by
 intro u hu
 simp only [odV, List.mem_cons, List.not_mem_nil, or_false] at hu
 rcases hu with rfl | rfl | rfl | rfl | rfl | rfl <;> rfl
theorem flatO_get (l : List Od) (t : Nat) (h : t < l.length * 6) : (flatO l)[t]? = some ((odV (l[t / 6]'(by omega)))[t % 6]!) := by
 obtain ⟨a0, a1, a2, a3, a4, a5⟩ := flatO_at l (t / 6) (by omega)
 have e : t = t / 6 * 6 + t % 6 := by omega
 rcases (show t % 6 = 0 ∨ t % 6 = 1 ∨ t % 6 = 2 ∨ t % 6 = 3 ∨ t % 6 = 4 ∨ t % 6 = 5 by omega) with h | h | h | h | h | h <;> (rw [h] at e; rw [h]; conv => lhs; rw [e])
 · exact a0
 · exact a1
 · exact a2
 · exact a3
 · exact a4
 · exact a5
theorem flatK_get (d : Array Od) (t : Nat) (h : t < d.size * 6) : (flatO d.toList)[t]? = some ((flatK odV 6 d)[t]!) := by
 rw [flatO_get d.toList t (by simpa using h), get_flatK odV 6 d t h]
 congr 3
 have h6 : t / 6 < d.size := by omega
 rw [Array.getElem_toList]
 exact (getElem!_pos d (t / 6) h6).symm
theorem ids_eq : ∀ {l m : List Od}, Ids l → Ids m → l.Perm m → l = m
 | [], m, _, _, p => (List.nil_perm.1 p).symm
 | a :: r, [], _, _, p => (List.perm_nil.1 p)
 | a :: r, b :: s, hl, hm, p => by
  obtain ⟨h1, h2⟩ := List.pairwise_cons.1 hl
  obtain ⟨k1, k2⟩ := List.pairwise_cons.1 hm
  have e : a = b := by
   rcases List.mem_cons.1 (p.mem_iff.1 (List.mem_cons_self (a := a) (l := r))) with e | e
   · exact e
   ·
    have := k1 a e
    rcases List.mem_cons.1 (p.mem_iff.2 (List.mem_cons_self (a := b) (l := s))) with e2 | e2
    · exact e2.symm
    · have := h1 b e2; omega
  subst e
  rw [ids_eq h2 k2 ((List.perm_cons a).1 p)]
theorem ltId (x y : Od) : ltOf (fun x y : Od => Lib.compareInt x.id y.id) x y = decide (x.id < y.id) := by
 unfold ltOf Lib.compareInt
 by_cases h1 : x.id < y.id
 · simp [h1]
 · by_cases h2 : y.id < x.id <;> simp [h1, h2]
theorem swoId : SWO (ltOf fun x y : Od => Lib.compareInt x.id y.id) where
 irrefl x := by rw [ltId]; simp
 trans x y z h1 h2 := by rw [ltId] at *; simp at *; omega
 ntrans x y z h1 h2 := by rw [ltId] at *; simp at *; omega
set_option maxHeartbeats 1000000 in
theorem closureId (x y : Od) (W : World) : Calls Tryz.prog 97 #[.agg (odV x).toArray, .agg (odV y).toArray] W fun e w' => e = .returned (.int .i64 (Lib.compareInt x.id y.id)) ∧ ∃ q os', w' = grow (W.drewN q) os' := by
 have hcon := fun W' => AnyG.cmp_Compare_int Tryz.cmpInt x.id y.id W'
 change ∀ W', Calls Tryz.prog 98 _ _ _ at hcon
 generalize Lib.compareInt x.id y.id = r at hcon ⊢
 show Calls Tryz.prog 97 #[.agg #[.int .i64 x.id, .string x.who, .bool x.buy, .int .i64 x.item, .int .i64 x.ct, .int .i64 x.pr], .agg #[.int .i64 y.id, .string y.who, .bool y.buy, .int .i64 y.item, .int .i64 y.ct, .int .i64 y.pr]] W _
 go_enter Tryz.func97, Tryz.ntmps97
 go_wp2_with (go_at_call 98; refine (hcon _).mono ?_; rintro e w' ⟨rfl, rfl⟩)
 go_ret
 exact ⟨rfl, 0, _, by rw [alloc_eq_grow, alloc_eq_grow, grow_grow]; rfl⟩
theorem cmpLaysId (blk off size : Nat) (w : World) : CmpLays Tryz.prog 97 #[] odV 6 (fun x y => Lib.compareInt x.id y.id) blk off size w :=
 fun _ _ _ _ x y => closureId x y _
theorem own_put {w : World} {B g n cap m : Nat} {l : List Od} {d : Array Od} {os : Array Obj} (h : w.ownsRow B 38 6 (.slice (some ⟨g, 0, none⟩) n cap) n (flatO l)) (hd : d.size = n) :
  (sortWorldK odV 6 w g 0 m d os).ownsRow B 38 6 (.slice (some ⟨g, 0, none⟩) n cap) n (flatO d.toList) ∧ Touch (fun x => x = g) w (sortWorldK odV 6 w g 0 m d os) := by
 have hlen : (flatO d.toList).length = n * 6 := by rw [flatO_len]; simp [hd]
 have hg : g < w.heap.size := (h.lt g rfl).2
 constructor
 ·
  refine ⟨hlen, ?_⟩
  rcases h.2 with ⟨e, _⟩ | ⟨g', cap', cur, e, h1, h2, h3, h4, h5, h6⟩
  · cases e
  ·
   injection e with e0 e1 e2
   injection e0 with e0
   injection e0 with e0
   subst e0 e2
   refine .inr ⟨g, cap, putCells id 0 (flatK odV 6 d) cur, rfl, h1, ?_, h3, h4, by simp [putCells, h5], ?_⟩
   ·
    unfold sortWorldK
    rw [heap_grow_old _ _ (by rw [size_putRowK]; exact hg)]
    show (mapBlock (Go.Sort.ahead w m) g (putCells id 0 (flatK odV 6 d))).heap[g]? = _
    unfold mapBlock
    rw [Array.getElem?_modify, if_pos rfl, show (Go.Sort.ahead w m).heap = w.heap from rfl, h2]
    rfl
   ·
    refine List.ext_getElem? fun t => ?_
    by_cases ht : t < n * 6
    ·
     rw [flatK_get d t (by rw [hd]; exact ht), List.getElem?_take_of_lt ht]
     have hc : n * 6 ≤ cap * 6 := Nat.mul_le_mul_right 6 h3
     have : (putCells id 0 (flatK odV 6 d) cur)[t]? = some ((flatK odV 6 d)[t]!) := by
      unfold putCells
      rw [Array.getElem?_mapIdx, Array.getElem?_eq_getElem (show t < cur.size by rw [h5]; omega)]
      simp [hd, ht]
     simpa using this
    · rw [List.getElem?_eq_none (by rw [List.length_take]; omega), List.getElem?_eq_none (by omega)]
 ·
  refine ⟨rfl, rfl, rfl, ?_, fun k hk hn => ?_⟩
  ·
   unfold sortWorldK
   rw [size_grow, size_putRowK]
   show w.heap.size ≤ w.heap.size + _
   omega
  ·
   unfold sortWorldK
   rw [heap_grow_old _ _ (by rw [size_putRowK]; exact hk)]
   show (mapBlock (Go.Sort.ahead w m) g _).heap[k]? = _
   unfold mapBlock
   rw [Array.getElem?_modify, if_neg (fun e => hn e.symm)]
   rfl
theorem sortOrders (B : Nat) (C L : List Od) (v : Value) (n : Nat) (hn : C.length = n) (w : World) (h : w.ownsRow B 38 6 v n (flatO C)) (hlen : n ≤ 1000) (hL : Ids L) (hp : C.Perm L) :
  Calls Tryz.prog 96 #[v, .func (.func 97) #[] #[]] w fun e w' => e = .returned (.tuple #[]) ∧ w'.ownsRow B 38 6 v n (flatO L) ∧ Touch (fun x => v.ownBlock = some x) w w' := by
 by_cases h0 : n = 0
 ·
  subst h0
  obtain ⟨A, c, rfl, _⟩ := own_slice h
  have hC : C = [] := List.eq_nil_of_length_eq_zero hn
  subst hC
  have hLn : L = [] := List.nil_perm.1 hp
  subst hLn
  refine (AnyF.slices_SortFunc_none Tryz.sortO A c _ w).mono ?_
  rintro e w' ⟨rfl, rfl⟩
  exact ⟨rfl, h, Touch.refl _ _⟩
 ·
  obtain ⟨g, cp, rfl, hg1, hg2, hg3, hg4⟩ := own_form h (by omega)
  subst hn
  have hH : HoldsK odV 6 w g 0 C.toArray := by
   intro j hj
   have hj' : j < C.length * 6 := by simpa using hj
   refine ⟨?_, ?_⟩
   ·
    rw [Nat.zero_add, h.cellAt j hj']
    have := flatK_get C.toArray j (by simpa using hj')
    simpa using this
   · rw [Nat.zero_add]; exact h.frozenAt j
  have eg : ∀ args w, (callFunc 97 args).run Tryz.prog w = .ok (.enter 97 args) w := enters_of Tryz.func97 (by kernel_rfl) rfl
  have hcon := AnyQ.slices_SortFunc Tryz.sortO 6 Tryz.isAgg38 Tryz.sizeOf38 odV odV_len odV_one (fun x y => Lib.compareInt x.id y.id) swoId 97 #[] g 0 cp C.toArray w eg (cmpLaysId g 0 _ w) hH hg2 (by simp; omega)
  rw [List.size_toArray] at hcon
  refine hcon.mono ?_
  rintro e w' ⟨rfl, d', q, os, hperm, hsort, rfl⟩
  have hsz : d'.size = C.length := by have := hperm.1; simpa using this
  have hpd : d'.toList.Perm C := by
   have := hperm.2.2
   rw [Array.extract_eq_self_of_le (by omega), Array.extract_eq_self_of_le (by simp)] at this
   simpa using this
  have hids : Ids d'.toList := by
   unfold Ids
   refine List.pairwise_iff_getElem.2 fun i j hi hj hij => ?_
   have h1 := hsort i j (Nat.zero_le _) hij (by simpa [hsz] using hj)
   rw [ltId] at h1
   have hi' : i < d'.size := by simpa using hi
   have hj' : j < d'.size := by simpa using hj
   rw [getElem!_pos d' i hi', getElem!_pos d' j hj'] at h1
   have h2 : d'[i].id ≤ d'[j].id := by simpa using h1
   have hnd : (d'.toList.map (·.id)).Nodup := perm_nodup (hpd.trans hp) hL.nodup
   have h3 : d'[i].id ≠ d'[j].id := by
    intro e
    have := (List.pairwise_iff_getElem.1 hnd) i j (by simpa using hi') (by simpa using hj') hij
    simp at this
    exact this e
   simp only [Array.getElem_toList]
   omega
  have e := ids_eq hids hL (hpd.trans hp)
  have := own_put (m := q) (d := d') (os := os) h hsz
  rw [e] at this
  exact ⟨rfl, this.1, this.2.mono (fun x hx => by subst hx; rfl)⟩
end Go.Proofs.YtdlbiobjnohfbaaGreat
