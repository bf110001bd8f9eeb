/- The document's book: what it is behind a change; Cancel. -/
import Derived.Test.YtdlbiobjnohfbaaGreatVb28
namespace Go.Proofs.YtdlbiobjnohfbaaGreat
open Go.RowKit
set_option linter.unusedVariables false
set_option linter.unusedSimpArgs false
theorem filter_erase : ∀ {L : List Od}, Ids L → ∀ {k : Nat} (hk : k < L.length), L.filter (fun y => decide (y.id ≠ L[k].id)) = L.eraseIdx k
 | [], _, k, hk => by cases hk
 | a :: r, h, 0, hk => by
  obtain ⟨h1, h2⟩ := List.pairwise_cons.1 h
  rw [List.filter_cons_of_neg (by simp)]
  exact List.filter_eq_self.2 (fun y hy => by have := h1 y hy; simp; omega)
 | a :: r, h, k + 1, hk => by
  obtain ⟨h1, h2⟩ := List.pairwise_cons.1 h
  have hk' : k < r.length := by simpa using hk
  have := h1 r[k] (List.getElem_mem hk')
  rw [List.filter_cons_of_pos (by simp; omega), List.eraseIdx_cons_succ, ← filter_erase h2 hk']
  rfl
theorem map_off (g n : Int) : ∀ (L : List Od), (∀ y ∈ L, y.id ≠ g) → (L.map fun y => if y.id = g then less y n else y) = L
 | [], _ => rfl
 | a :: r, h => by rw [List.map_cons, if_neg (h a (by simp)), map_off g n r (fun y hy => h y (by simp [hy]))]
theorem map_set (n : Int) : ∀ {L : List Od}, Ids L → ∀ {k : Nat} (hk : k < L.length), (L.map fun y => if y.id = L[k].id then less y n else y) = L.set k (less L[k] n)
 | [], _, k, hk => by cases hk
 | a :: r, h, 0, hk => by
  obtain ⟨h1, h2⟩ := List.pairwise_cons.1 h
  show (if a.id = a.id then less a n else a) :: (r.map fun y => if y.id = a.id then less y n else y) = less a n :: r
  rw [if_pos rfl, map_off a.id n r (fun y hy => by have := h1 y hy; omega)]
 | a :: r, h, k + 1, hk => by
  obtain ⟨h1, h2⟩ := List.pairwise_cons.1 h
  have hk' : k < r.length := by simpa using hk
  have := h1 r[k] (List.getElem_mem hk')
  show (if a.id = r[k].id then less a n else a) :: (r.map fun y => if y.id = r[k].id then less y n else y) = a :: r.set k (less r[k] n)
  rw [if_neg (by omega), map_set n h2 hk']
theorem takeN_idx {L : List Od} (h : Ids L) {k : Nat} (hk : k < L.length) (n : Int) : takeN L[k] n L = if L[k].ct = n then L.eraseIdx k else L.set k (less L[k] n) := by
 unfold takeN
 split
 · exact filter_erase h hk
 · exact map_set n h hk
theorem gone_idx {L : List Od} (h : Ids L) {k : Nat} (hk : k < L.length) : goneO L[k].id L = L.eraseIdx k := filter_erase h hk
theorem flatO_setct : ∀ (l : List Od) (j : Nat) (h : j < l.length) (n : Int), flatO (l.set j (less l[j] n)) = (flatO l).set (j * 6 + 4) (.int .i64 (l[j].ct - n))
 | [], j, h, n => by cases h
 | a :: r, 0, h, n => by simp [flatO, odV, less]
 | a :: r, j + 1, h, n => by
  have := flatO_setct r j (by simpa using h) n
  have e : (j + 1) * 6 + 4 = (j * 6 + 4) + 6 := by omega
  simp only [flatO, List.flatMap_cons, odV, List.set_cons_succ, List.getElem_cons_succ] at this ⊢
  rw [e, this]
  rfl
def Fx (x : Nat) (u : Value) (k : Nat) : Prop := k = x ∨ u.ownBlock = some k
theorem RfB.keep {D : Nat → Prop} {w w' : World} {B x : Nat} {u : Value} {L : List Od} {last : Int} (h : RfB w B x u L last) (ht : Touch D w w') (hD : ∀ k, Fx x u k → ¬ D k) : RfB w' B x u L last :=
 ⟨(ht.block x h.blk.low (hD x (.inl rfl))).trans h.blk, ht.own h.row (fun g hg => hD g (.inr hg)), h.apart, h.low⟩
theorem RfB.lows {w : World} {B x : Nat} {u : Value} {L : List Od} {last : Int} (h : RfB w B x u L last) : ∀ k, Fx x u k → B ≤ k ∧ k < w.heap.size := by
 rintro k (rfl | hk)
 · exact ⟨h.low, h.blk.low⟩
 · exact h.row.lt k hk
theorem RfB.below {w w' : World} {B x : Nat} {u : Value} {L : List Od} {last : Int} (h : RfB w B x u L last) (hb : Below w.heap.size w w') : RfB w' B x u L last :=
 h.keep (Touch.of_below hb) (fun k hk hd => by have := (h.lows k hk).2; omega)
theorem RfB.setct {w : World} {B x g c k : Nat} {L : List Od} {last : Int} (h : RfB w B x (.slice (some ⟨g, 0, none⟩) L.length c) L last) (hk : k < L.length) (n : Int) : RfB (w.setCell ⟨g, k * 6 + 4, none⟩ (.int .i64 (L[k].ct - n))) B x (.slice (some ⟨g, 0, none⟩) L.length c) (L.set k (less L[k] n)) last := by
 refine ⟨h.blk.far (fun e => h.apart g rfl e.symm), ?_, h.apart, h.low⟩
 rw [flatO_setct L k hk, List.length_set]
 exact (h.row.stored (k * 6 + 4) _).1
theorem RfB.setlast {w : World} {B x : Nat} {u : Value} {L : List Od} {last : Int} (h : RfB w B x u L last) (z : Int) : RfB (w.setCell ⟨x, 1, none⟩ (.int .i64 z)) B x u L z :=
 ⟨h.blk.set 1 _, own_set_ne h.row (fun g hg => h.apart g hg), h.apart, h.low⟩
theorem RfB.new {w : World} {B : Nat} (hB : B ≤ w.heap.size) : RfB (w.alloc (.cells #[.slice none 0 0, .int .i64 0] 68)) B w.heap.size (.slice none 0 0) [] 0 :=
 ⟨Whl.new rfl, World.ownsRow_nil _ _ _ _, (fun g hg => by cases hg), hB⟩
def put6 (w : World) (b : Nat) (o : Od) : World := (((((w.setCell ⟨b, 0, none⟩ (.int .i64 o.id)).setCell ⟨b, 1, none⟩ (.string o.who)).setCell ⟨b, 2, none⟩ (.bool o.buy)).setCell ⟨b, 3, none⟩ (.int .i64 o.item)).setCell ⟨b, 4, none⟩ (.int .i64 o.ct)).setCell ⟨b, 5, none⟩ (.int .i64 o.pr)
theorem put6_touch (w : World) (b : Nat) (o : Od) : Touch (fun k => k = b) w (put6 w b o) := by
 have t0 : Touch (fun k => k = b) w (w.setCell ⟨b, 0, none⟩ (.int .i64 o.id)) := (Touch.refl _ _).set (fun _ => rfl)
 have t1 := t0.set (a := ⟨b, 1, none⟩) (v := .string o.who) (fun _ => rfl)
 have t2 := t1.set (a := ⟨b, 2, none⟩) (v := .bool o.buy) (fun _ => rfl)
 have t3 := t2.set (a := ⟨b, 3, none⟩) (v := .int .i64 o.item) (fun _ => rfl)
 have t4 := t3.set (a := ⟨b, 4, none⟩) (v := .int .i64 o.ct) (fun _ => rfl)
 exact t4.set (a := ⟨b, 5, none⟩) (v := .int .i64 o.pr) (fun _ => rfl)
theorem put6_whl {w : World} {b : Nat} {t : TypeId} {z : Od} (h : Whl w b t #[.int .i64 z.id, .string z.who, .bool z.buy, .int .i64 z.item, .int .i64 z.ct, .int .i64 z.pr]) (o : Od) : Whl (put6 w b o) b t #[.int .i64 o.id, .string o.who, .bool o.buy, .int .i64 o.item, .int .i64 o.ct, .int .i64 o.pr] := by
 have t0 := h.set 0 (.int .i64 o.id)
 have t1 := t0.set 1 (.string o.who)
 have t2 := t1.set 2 (.bool o.buy)
 have t3 := t2.set 3 (.int .i64 o.item)
 have t4 := t3.set 4 (.int .i64 o.ct)
 have t5 := t4.set 5 (.int .i64 o.pr)
 simp only [List.setIfInBounds_toArray, List.set_cons_zero, List.set_cons_succ] at t5
 exact t5
theorem Bk.up {L : List Od} {last z : Int} (h : Bk L last) (hz : last ≤ z) (ht : z ≤ 1099511627776) : Bk L z := ⟨h.ids, h.ok, fun o ho => by have := h.low o ho; omega, ht, by have := h.zero; omega⟩
theorem best_none {o : Od} {L : List Od} {k : Int} (h : BestAt o L L.length k) (hn : NoneMeets o L) : k = -1 := by
 rcases h.whole with ⟨e, _⟩ | ⟨kn, _, hk, hb⟩
 · exact e
 · have := hn _ hb.1; rw [hb.2.1] at this; cases this
theorem best_some {o : Od} {L : List Od} {k : Int} (h : BestAt o L L.length k) (hn : ¬ NoneMeets o L) : ∃ kn : Nat, k = kn ∧ ∃ h : kn < L.length, Best o L[kn] L := by
 rcases h.whole with ⟨_, e⟩ | h
 · exact absurd e hn
 · exact h
theorem RfB.setrow {w4 w6 : World} {B x n : Nat} {u u6 : Value} {L L6 : List Od} {last : Int} (h : RfB w4 B x u L last) (hb : Below w4.heap.size w4 w6) (ho : w6.ownsRow w4.heap.size 38 6 u6 n (flatO L6)) (hn : n = L6.length) :
  RfB (w6.setCell ⟨x, 0, none⟩ u6) B x u6 L6 last ∧ Touch (fun k => k = x) w4 (w6.setCell ⟨x, 0, none⟩ u6) ∧ (∀ g, u6.ownBlock = some g → w4.heap.size ≤ g) := by
 subst hn
 have hx := h.blk.low
 have hBx := h.low
 refine ⟨⟨(h.blk.below hb hx).set 0 u6, own_baseO (own_set_ne ho (fun g hg => ?_)) (by omega), fun g hg => ?_, h.low⟩, ((Touch.of_below hb).mono'' (fun k hk hd => by omega)).set (fun _ => rfl), fun g hg => (ho.lt g hg).1⟩
 · have := (ho.lt g hg).1; show g ≠ x; omega
 · have := (ho.lt g hg).1; omega
theorem od_cells {w : World} {e : TypeId} (o : Od) : Cells (w.alloc (.cells #[.int .i64 o.id, .string o.who, .bool o.buy, .int .i64 o.item, .int .i64 o.ct, .int .i64 o.pr] e)) (w.alloc (.cells #[.int .i64 o.id, .string o.who, .bool o.buy, .int .i64 o.item, .int .i64 o.ct, .int .i64 o.pr] e)).heap.size (some ⟨w.heap.size, 0, none⟩) 1 1 6 (odV o) := by
 refine ⟨rfl, (fun e => by cases e), ?_⟩
 intro j u hu
 refine ⟨w.heap.size, 0, rfl, by simp, ?_⟩
 rw [Nat.zero_add, cell_of_row _ _ _ _ _ _ (heap_alloc_new w _)]
 simpa [odV] using hu
theorem od_one (o : Od) : ∀ u ∈ odV o, u.oneCell' = true := by
 intro u hu
 simp only [odV, List.mem_cons, List.not_mem_nil, or_false] at hu
 rcases hu with rfl | rfl | rfl | rfl | rfl | rfl <;> rfl
theorem mn_min (a b : Int) : mn a b = min a b := by unfold mn; rw [Int.min_def]
theorem Tryz.infoTradeR : (Tryz.prog.info? 108).map (fun i => (i.zero, i.size, i.bytes)) = some (some (.agg #[.string ⟨#[]⟩, .string ⟨#[]⟩, .int .i64 0, .int .i64 0, .int .i64 0, .int .i64 0, .int .i64 0, .int .i64 0]), 8, 80) := by kernel_rfl
theorem placeRound {o y : Od} {L L1 : List Od} {Tl : List Td} {ct nn : Int} (hpl : ∀ T' o' L', Places (o.at ct) L1 T' o' L' → Places o L (Tl ++ T') o' L') (hz : 0 < ct) (hb : Best (o.at ct) y L1) (hn : nn = mn ct y.ct) :
  ∀ T' o' L', Places (o.at (ct - nn)) (takeN y nn L1) T' o' L' → Places o L ((Tl ++ [tradeP (o.at ct) y nn]) ++ T') o' L' := by
 intro T' o' L' h
 subst hn
 rw [List.append_assoc]
 exact hpl _ _ _ (Places.step (o.at ct) y L1 T' o' L' hz hb h)
inductive PlacedR (L : List Od) (last : Int) (o : Od) : List Td → Int → Int → List Od → Int → Prop
 | bad (h : ¬ (OkO o ∧ last < o.id)) : PlacedR L last o [] 0 1 L last
 | full (h1 : OkO o) (h2 : last < o.id) (h : 32 ≤ L.length) : PlacedR L last o [] 0 6 L last
 | ok (h1 : OkO o) (h2 : last < o.id) (h : L.length < 32) (T : List Td) (o1 : Od) (L1 : List Od) (hp : Places o L T o1 L1) (hl : T.length ≤ 1048576) : PlacedR L last o T o1.ct 0 (laid o1 L1) o.id
set_option maxHeartbeats 4000000 in
set_option maxRecDepth 10000 in
theorem refCancel (B x : Nat) (u : Value) (L : List Od) (last id : Int) (w : World) (h : RfB w B x u L last) (hk : Bk L last) (hl : L.length ≤ 1000) :
  Calls Tryz.prog 68 #[.pointer (some ⟨x, 0, none⟩), .int .i64 id] w fun e w' => ∃ (z : Od) (c : Int) (u' : Value), e = .returned (.tuple #[odA z, .int .i64 c]) ∧ ((z ∈ L ∧ z.id = id ∧ c = 0) ∨ ((∀ y ∈ L, y.id ≠ id) ∧ z = ⟨0, ⟨#[]⟩, false, 0, 0, 0⟩ ∧ c = 7)) ∧ RfB w' B x u' (goneO id L) last ∧ Touch (Fx x u) w w' ∧ (∀ k, Fx x u' k → Fx x u k ∨ w.heap.size ≤ k) := by
 have hBx := h.low
 have HB := Lib.hid h
 have hx0 := (h.blk.cell 0).trans (show (#[u, Value.int .i64 last] : Array Value)[0]? = some u from rfl)
 obtain ⟨A, c, rfl, _, hnc, hc⟩ := own_slice h.row
 have hxl := h.blk.low
 clear h
 go_enter Tryz.func68, Tryz.ntmps68
 go_wp2_with fail
 go_loopw [6] (fun iv wr => ∃ (i : Nat), i ≤ L.length ∧ iv = .int .i64 i ∧ (∀ j (hj : j < L.length), j < i → L[j].id ≠ id) ∧ Below w.heap.size w wr ∧ Whl wr w.heap.size 38 #[.int .i64 0, .string ⟨#[]⟩, .bool false, .int .i64 0, .int .i64 0, .int .i64 0] ∧ w.heap.size < wr.heap.size) (fun iv _ => L.length - (intOf iv).toNat)
 case atStart => exact ⟨0, Nat.zero_le _, rfl, fun j hj h => by omega, by exact tB, Whl.new rfl, by simp⟩
 case round =>
  obtain ⟨i, hil, rfl, hno, hBw, hW, hsz⟩ := hrel
  have HNO := Lib.hid hno
  have HW := Lib.hid hW
  have HBW := Lib.hid hBw
  have b0 := hW.cell 0
  have b1 := hW.cell 1
  have b2 := hW.cell 2
  have b3 := hW.cell 3
  have b4 := hW.cell 4
  have b5 := hW.cell 5
  simp only [List.getElem?_toArray, List.getElem?_cons_zero, List.getElem?_cons_succ] at b0 b1 b2 b3 b4 b5
  have hfz := hW.free
  have hx1 := bkeep hBw hx0 hxl
  clear hno hBw hW
  by_cases hlt : i < L.length
  ·
   have q3 : (i : Int) < (L.length : Int) := by omega
   obtain ⟨gu, ku, e5, _, hgu, _, _⟩ := own_form HB.out.row (by omega)
   injection e5 with e5 e6 e7
   subst e5 e7
   obtain ⟨y, hy⟩ : ∃ y, y = L[i] := ⟨_, rfl⟩
   obtain ⟨r0, r1, r2, r3, r4, r5⟩ := flatO_at L i hlt
   have d0 := bkeep HBW.out ((HB.out.row.cellAt (i * 6) (ixO0 hlt)).trans r0) hgu
   have d1 := bkeep HBW.out ((HB.out.row.cellAt (i * 6 + 1) (ixO hlt 1 (by decide))).trans r1) hgu
   have d2 := bkeep HBW.out ((HB.out.row.cellAt (i * 6 + 2) (ixO hlt 2 (by decide))).trans r2) hgu
   have d3 := bkeep HBW.out ((HB.out.row.cellAt (i * 6 + 3) (ixO hlt 3 (by decide))).trans r3) hgu
   have d4 := bkeep HBW.out ((HB.out.row.cellAt (i * 6 + 4) (ixO hlt 4 (by decide))).trans r4) hgu
   have d5 := bkeep HBW.out ((HB.out.row.cellAt (i * 6 + 5) (ixO hlt 5 (by decide))).trans r5) hgu
   rw [← hy] at d0 d1 d2 d3 d4 d5
   have HY := Lib.hid hy
   have HR := Lib.hid (HB.out.keep (Touch.of_below HBW.out) (fun k hk hd => by have := (HB.out.lows k hk).2; omega))
   clear r0 r1 r2 r3 r4 r5 hy
   by_cases hid : y.id = id
   ·
    go_wp2_with (first
     | (go_at_call 90; go_loud (refine (refOut B x _ L last i _ (HR.out.below (by exact tB)) hlt hl).mono ?_; rintro e w2 ⟨u2, rfl, hb2, ht2, hf2⟩; have HB2 := Lib.hid hb2; have HT2 := Lib.hid ht2; have HF2 := Lib.hid hf2; have hs2 := ht2.size; have z0 := ht2.cell (b := wr.heap.size) (o := 0) (v := .int .i64 id) (by exact tC) (by omega); have z1 := ht2.cell (b := wr.heap.size) (o := 1) (v := .string y.who) (by exact tC) (by omega); have z2 := ht2.cell (b := wr.heap.size) (o := 2) (v := .bool y.buy) (by exact tC) (by omega); have z3 := ht2.cell (b := wr.heap.size) (o := 3) (v := .int .i64 y.item) (by exact tC) (by omega); have z4 := ht2.cell (b := wr.heap.size) (o := 4) (v := .int .i64 y.ct) (by exact tC) (by omega); have z5 := ht2.cell (b := wr.heap.size) (o := 5) (v := .int .i64 y.pr) (by exact tC) (by omega); have hw2 : Whl w2 w.heap.size 38 _ := (ht2.block _ (by (first | omega | (simp; done) | (simp; omega))) (fun h => by omega)).trans (HW.out.alloc _); have hfz2 := hw2.free; have HW2 := Lib.hid hw2; have y0 := hw2.cell 0; have y1 := hw2.cell 1; have y2 := hw2.cell 2; have y3 := hw2.cell 3; have y4 := hw2.cell 4; have y5 := hw2.cell 5; simp only [List.getElem?_toArray, List.getElem?_cons_zero, List.getElem?_cons_succ] at y0 y1 y2 y3 y4 y5; clear hw2 b0 b1 b2 b3 b4 b5 hfz hb2 ht2 hf2))
     | fail)
    have hP6 := put6_whl (z := ⟨0, ⟨#[]⟩, false, 0, 0, 0⟩) HW2.out ⟨id, y.who, y.buy, y.item, y.ct, y.pr⟩
    have hT6 := put6_touch w2 w.heap.size ⟨id, y.who, y.buy, y.item, y.ct, y.pr⟩
    have HAL : Hid (Touch (Fx x (.slice (some ⟨gu, 0, none⟩) L.length c)) w w2) := Lib.hid (((Touch.of_below (HBW.out)).mono'' (fun k h1 h2 => by omega)).trans ((((Touch.refl _ _).alloc _).trans HT2.out (fun n _ h => h)).mono (fun k h => .inl h)) (fun n _ h => h))
    change bodyPost _ _ _ _ _ (put6 w2 w.heap.size ⟨id, y.who, y.buy, y.item, y.ct, y.pr⟩)
    generalize put6 w2 w.heap.size ⟨id, y.who, y.buy, y.item, y.ct, y.pr⟩ = W6 at *
    have r0 := hP6.cell 0
    have r1 := hP6.cell 1
    have r2 := hP6.cell 2
    have r3 := hP6.cell 3
    have r4 := hP6.cell 4
    have r5 := hP6.cell 5
    simp only [List.getElem?_toArray, List.getElem?_cons_zero, List.getElem?_cons_succ] at r0 r1 r2 r3 r4 r5
    refine bodyPost_ret (v := .tuple #[.agg #[.int .i64 id, .string y.who, .bool y.buy, .int .i64 y.item, .int .i64 y.ct, .int .i64 y.pr], .int .i64 0]) (by simp [results, Tryz.results68, go_sem, r0, r1, r2, r3, r4, r5]) rfl ⟨y, 0, u2, by unfold odA; rw [hid], .inl ⟨by rw [HY.out]; exact List.getElem_mem hlt, hid, rfl⟩, ?_, HAL.out.trans hT6 (fun n hn h => by omega), fun k hk => ?_⟩
    ·
     have e : goneO id L = L.eraseIdx i := by rw [← hid, HY.out]; exact gone_idx hk.ids hlt
     rw [e]
     refine HB2.out.keep hT6 (fun k hk hd => ?_)
     rcases hk with rfl | hk
     · omega
     · have := HF2.out k hk; simp at this; omega
    ·
     rcases hk with rfl | hk
     · exact .inl (.inl rfl)
     · have := HF2.out k hk; simp at this; exact .inr (by omega)
   ·
    go_wp2_with fail
    exact ⟨⟨i + 1, hlt, by go_num, fun j hj h => by
     by_cases e : j = i
     · subst e; rw [← HY.out]; exact hid
     · exact HNO.out j hj (by omega), HBW.out, HW.out, hsz⟩, measI hlt⟩
  ·
   obtain rfl : L.length = i := by omega
   go_wp2_with fail
   have hnn : ∀ y ∈ L, y.id ≠ id := fun y hy => by
    obtain ⟨j, hj, rfl⟩ := List.getElem_of_mem hy
    exact HNO.out j hj hj
   have hP6 := put6_whl (z := ⟨0, ⟨#[]⟩, false, 0, 0, 0⟩) HW.out ⟨0, ⟨#[]⟩, false, 0, 0, 0⟩
   have hT6 := put6_touch wr w.heap.size ⟨0, ⟨#[]⟩, false, 0, 0, 0⟩
   have HAL : Hid (Touch (Fx x (.slice A L.length c)) w wr) := Lib.hid ((Touch.of_below (HBW.out)).mono'' (fun k h1 h2 => by omega))
   change bodyPost _ _ _ _ _ (put6 wr w.heap.size ⟨0, ⟨#[]⟩, false, 0, 0, 0⟩)
   generalize put6 wr w.heap.size ⟨0, ⟨#[]⟩, false, 0, 0, 0⟩ = W6 at *
   have r0 := hP6.cell 0
   have r1 := hP6.cell 1
   have r2 := hP6.cell 2
   have r3 := hP6.cell 3
   have r4 := hP6.cell 4
   have r5 := hP6.cell 5
   simp only [List.getElem?_toArray, List.getElem?_cons_zero, List.getElem?_cons_succ] at r0 r1 r2 r3 r4 r5
   refine bodyPost_ret (v := .tuple #[.agg #[.int .i64 0, .string ⟨#[]⟩, .bool false, .int .i64 0, .int .i64 0, .int .i64 0], .int .i64 7]) (by simp [results, Tryz.results68, go_sem, r0, r1, r2, r3, r4, r5]) rfl ⟨⟨0, ⟨#[]⟩, false, 0, 0, 0⟩, 7, _, rfl, .inr ⟨hnn, rfl, rfl⟩, ?_, HAL.out.trans hT6 (fun n hn h => by omega), fun k hk => .inl hk⟩
   rw [show goneO id L = L from List.filter_eq_self.2 (fun y hy => decide_eq_true (hnn y hy))]
   refine (HB.out.below HBW.out).keep hT6 (fun k hk hd => ?_)
   have := (HB.out.lows k hk).2
   omega
end Go.Proofs.YtdlbiobjnohfbaaGreat
