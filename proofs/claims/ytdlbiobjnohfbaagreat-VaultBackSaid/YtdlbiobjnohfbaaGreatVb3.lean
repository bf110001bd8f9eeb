/- book: a side's Push and Pop. -/
import Derived.Test.YtdlbiobjnohfbaaGreatVb2
namespace Go.Proofs.YtdlbiobjnohfbaaGreat
open Go.RowKit
set_option linter.unusedVariables false
set_option linter.unusedSimpArgs false
theorem put_at {cs : Array Value} {k : Nat} {v u : Value} (h : cs[k]? = some v) : (cs.setIfInBounds k u)[k]? = some u := by
 have hk : k < cs.size := (Array.getElem?_eq_some_iff.1 h).1
 simp [hk]
theorem ord_cells {w : World} {e : TypeId} {id item ct pr : Int} {who : ByteArray} {buy : Bool} : Cells (w.alloc (.cells #[.int .i64 id, .string who, .bool buy, .int .i64 item, .int .i64 ct, .int .i64 pr] e)) (w.alloc (.cells #[.int .i64 id, .string who, .bool buy, .int .i64 item, .int .i64 ct, .int .i64 pr] e)).heap.size (some ⟨w.heap.size, 0, none⟩) 1 1 6 [.int .i64 id, .string who, .bool buy, .int .i64 item, .int .i64 ct, .int .i64 pr] := by
 refine ⟨rfl, (fun e => by cases e), ?_⟩
 intro j u hu
 refine ⟨w.heap.size, 0, rfl, by simp, ?_⟩
 rw [Nat.zero_add, cell_of_row _ _ _ _ _ _ (heap_alloc_new w _)]
 simpa using hu
theorem ord_one {id item ct pr : Int} {who : ByteArray} {buy : Bool} : ∀ u ∈ ([.int .i64 id, .string who, .bool buy, .int .i64 item, .int .i64 ct, .int .i64 pr] : List Value), u.oneCell' = true := by
 intro u hu
 simp only [List.mem_cons, List.not_mem_nil, or_false] at hu
 rcases hu with rfl | rfl | rfl | rfl | rfl | rfl <;> rfl
theorem own_less {w : World} {B g c N n : Nat} {xs : List Value} {v : Value} (h : w.ownsRow B 38 6 v N xs) (hn : n < N) (hv : v = .slice (some ⟨g, 0, none⟩) N c) : w.ownsRow B 38 6 (.slice (some ⟨g, 0, none⟩) n c) n (xs.take (n * 6)) := by
 refine ⟨by rw [List.length_take, h.1]; omega, ?_⟩
 rcases h.2 with ⟨e, e2⟩ | ⟨g', cap, cur, e, h1, h2, h3, h4, h5, h6⟩
 · omega
 ·
  rw [hv] at e
  injection e with e0 e1 e2
  injection e0 with e0
  injection e0 with e0
  subst e0 e2
  exact .inr ⟨g, c, cur, rfl, h1, h2, by omega, h4, h5, by rw [← h6, List.take_take]; congr 1; omega⟩
theorem tassert (v : Value) (w : World) : (Instr.typeAssert (.iface 38 v) 20 38 true).run Tryz.prog w = .ok (.tuple #[v, .bool true]) w := by
 simp [Instr.typeAssert, run_underlying Tryz.underlying38]
set_option maxHeartbeats 2000000 in
set_option maxRecDepth 10000 in
theorem sidePush (b k : Nat) (t : TypeId) (cs : Array Value) (l : List Od) (v : Value) (o : Od) (w : World) (hs : Sd w b k t cs l v) (hlen : l.length ≤ 1000) :
  Calls Tryz.prog 165 #[.pointer (some ⟨b, k, none⟩), .iface 38 (.agg #[.int .i64 o.id, .string o.who, .bool o.buy, .int .i64 o.item, .int .i64 o.ct, .int .i64 o.pr])] w fun e w' => e = .returned (.tuple #[]) ∧ ∃ v', Sd w' b k t (cs.setIfInBounds k v') (l ++ [o]) v' ∧ Touch (fun x => x = b ∨ v.ownBlock = some x) w w' ∧ (v'.ownBlock = v.ownBlock ∨ ∃ g, v'.ownBlock = some g ∧ w.heap.size ≤ g) := by
 obtain ⟨i0, hi, hz0, hz1, hz2⟩ := info_parts Tryz.infoOrder
 have hcell := hs.cell
 have hat := hs.at_
 have hlow := hs.whl.low
 have HS := Lib.hid hs
 have ta := tassert (.agg #[.int .i64 o.id, .string o.who, .bool o.buy, .int .i64 o.item, .int .i64 o.ct, .int .i64 o.pr])
 clear hs
 go_enter Tryz.func165, Tryz.ntmps165
 go_wp2_with fail
 have P0 : Whl (w.alloc (.cells #[.int .i64 o.id, .string o.who, .bool o.buy, .int .i64 o.item, .int .i64 o.ct, .int .i64 o.pr] 38)) w.heap.size 38 #[.int .i64 o.id, .string o.who, .bool o.buy, .int .i64 o.item, .int .i64 o.ct, .int .i64 o.pr] := Whl.new rfl
 have hW0 : Whl (w.alloc (.cells #[.int .i64 o.id, .string o.who, .bool o.buy, .int .i64 o.item, .int .i64 o.ct, .int .i64 o.pr] 38)) b t cs := HS.out.whl.alloc _
 have HO : Hid ((w.alloc (.cells #[.int .i64 o.id, .string o.who, .bool o.buy, .int .i64 o.item, .int .i64 o.ct, .int .i64 o.pr] 38)).ownsRow 0 38 6 v l.length (flatO l)) := Lib.hid (HS.out.own.alloc _)
 have HT0 : Hid (Touch (fun x => x = b ∨ v.ownBlock = some x) w (w.alloc (.cells #[.int .i64 o.id, .string o.who, .bool o.buy, .int .i64 o.item, .int .i64 o.ct, .int .i64 o.pr] 38))) := Lib.hid ((Touch.refl _ _).alloc _)
 have hbV : b < (w.alloc (.cells #[.int .i64 o.id, .string o.who, .bool o.buy, .int .i64 o.item, .int .i64 o.ct, .int .i64 o.pr] 38)).heap.size := by simp; omega
 have hs0 : w.heap.size < (w.alloc (.cells #[.int .i64 o.id, .string o.who, .bool o.buy, .int .i64 o.item, .int .i64 o.ct, .int .i64 o.pr] 38)).heap.size := by simp
 generalize w.alloc (.cells #[.int .i64 o.id, .string o.who, .bool o.buy, .int .i64 o.item, .int .i64 o.ct, .int .i64 o.pr] 38) = V at *
 have k0 : V.cell? ⟨b, k, none⟩ = some v := (hW0.cell k).trans hat
 have d0 := P0.cell 0
 have d1 := P0.cell 1
 have d2 := P0.cell 2
 have d3 := P0.cell 3
 have d4 := P0.cell 4
 have d5 := P0.cell 5
 simp only [List.getElem?_toArray, List.getElem?_cons_succ, List.getElem?_cons_zero] at d0 d1 d2 d3 d4 d5
 refine wp_region_held_drew (S := (fun _ => True)) (by kernel_rfl) trivial (fun hHeld => ?_)
 refine tkY 0 (some 12) ?v0_1 rfl ?y0_1 ?r0_1
 case y0_1 => exact tY
 case r0_1 =>
 try simp only [q1,q2,q3,q4,q5]
 refine tkY 1 (some 13) ?v1_4 rfl ?y1_4 ?r1_4
 case y1_4 => exact tY
 case r1_4 =>
 try simp only [q1,q2,q3,q4,q5]
 refine tkY 2 (some 14) ?v2_7 rfl ?y2_7 ?r2_7
 case y2_7 => exact tY
 case r2_7 =>
 try simp only [q1,q2,q3,q4,q5]
 refine wpAnyH_ready (rs := [3, 4]) (by kernel_rfl) (by simp) ?_
 refine AllReadyH.cons (o := ⟨some 15, _, _, _, _, _⟩) rfl (fun K hK => ?_) (AllReadyH.cons (o := ⟨some 16, _, _, _, _, _⟩) rfl (fun K hK => ?_) AllReadyH.nil)
 ·
  have k9 : V.drew.cell? ⟨b, k, none⟩ = some v := k0
  go_simp
  refine hK.out _ _ trivial (fun hHeld => ?_)
  clear hK K
  try simp only [q1,q2,q3,q4,q5]
  refine wpAnyH_ready (rs := [4]) (by kernel_rfl) (by simp) ?_
  refine AllReadyH.cons (o := ⟨some 16, _, _, _, _, _⟩) rfl (fun K hK => ?_) AllReadyH.nil
  have e0 : V.drew.cell? ⟨w.heap.size, 0, none⟩ = _ := d0
  have e1 : V.drew.cell? ⟨w.heap.size, 1, none⟩ = _ := d1
  have e2 : V.drew.cell? ⟨w.heap.size, 2, none⟩ = _ := d2
  have e3 : V.drew.cell? ⟨w.heap.size, 3, none⟩ = _ := d3
  have e4 : V.drew.cell? ⟨w.heap.size, 4, none⟩ = _ := d4
  have e5 : V.drew.cell? ⟨w.heap.size, 5, none⟩ = _ := d5
  go_simp
  refine hK.out _ _ trivial (fun hHeld => ?_)
  clear hK K
  try simp only [q1,q2,q3,q4,q5]
  refine wpAnyH_ready (rs := [5]) (by kernel_rfl) (by simp) ?_
  refine AllReadyH.cons (o := ⟨some 17, _, _, _, _, _⟩) rfl (fun K hK => ?_) AllReadyH.nil
  go_simp
  have hb3 : Below V.heap.size V (V.drew.alloc (.cells #[.int .i64 o.id, .string o.who, .bool o.buy, .int .i64 o.item, .int .i64 o.ct, .int .i64 o.pr] 38)) := (Below.refl _ _).drew.alloc (Nat.le_refl _) _
  have ho3 : (V.drew.alloc (.cells #[.int .i64 o.id, .string o.who, .bool o.buy, .int .i64 o.item, .int .i64 o.ct, .int .i64 o.pr] 38)).ownsRow 0 38 6 v l.length (flatO l) := (Touch.of_below hb3).own HO.out (fun g hg hd => by have := (HO.out.lt g hg).2; omega)
  refine hK.out _ _ trivial (fun hHeld => ?_)
  clear hK K
  try simp only [q1,q2,q3,q4,q5]
  refine wpAnyH_ready (rs := [6]) (by kernel_rfl) (by simp) ?_
  refine AllReadyH.cons (o := ⟨some 18, _, _, _, _, _⟩) rfl (fun K hK => ?_) AllReadyH.nil
  refine step_append_cells rfl (.tmp 15) (.tmp 17) 75 rfl 0 38 i0 (.agg #[.int .i64 0, .string ⟨#[]⟩, .bool false, .int .i64 0, .int .i64 0, .int .i64 0]) 6 56 Tryz.underlying75 hi hz0 hz1 hz2 rfl (by decide) v l.length (flatO l) rfl ho3 _ _ 1 1 [.int .i64 o.id, .string o.who, .bool o.buy, .int .i64 o.item, .int .i64 o.ct, .int .i64 o.pr] rfl (ord_cells (w := V.drew) (e := 38)) ord_one (by unfold maxLen; omega) (by omega) (Nat.zero_le _) ?_
  intro v5 w5 hown5 ht5 hb5
  have hT6 : Touch (fun x => x = b ∨ v.ownBlock = some x) w w5 := (HT0.out.trans (Touch.of_below hb3) (fun x hx hd => absurd hd (by have := HT0.out.size; omega))).trans (ht5.mono fun x hx => .inr hx) (fun x _ hx => hx)
  have hs5 := hT6.size
  have hw5 : Whl w5 b t cs := (ht5.block b (Nat.lt_of_lt_of_le hbV hb3.size) HS.out.far).trans (hW0.below hb3 hbV)
  have hb5' : v5.ownBlock = v.ownBlock ∨ v5.ownBlock = some (V.heap.size + 1) := by simpa using hb5
  clear hb5
  obtain ⟨g5, c5, rfl, _, _, _, _⟩ := own_form hown5 (Nat.succ_pos _)
  have HO5 := Lib.hid hown5
  have HT6 := Lib.hid hT6
  clear hown5 ht5 hT6
  refine hK.out _ _ trivial (fun hHeld => ?_)
  clear hK K
  try simp only [q1,q2,q3,q4,q5]
  refine tkY 7 (some 19) ?v7_53 rfl ?y7_53 ?r7_53
  case y7_53 => exact tY
  case r7_53 =>
  try simp only [q1,q2,q3,q4,q5]
  refine wpAnyH_ready (rs := [8]) (by kernel_rfl) (by simp) ?_
  refine AllReadyH.cons (o := ⟨none, _, _, _, _, _⟩) rfl (fun K hK => ?_) AllReadyH.nil
  have k7 : w5.cell? ⟨b, k, none⟩ = some v := (hw5.cell k).trans hat
  have f7 := hw5.free k
  go_simp
  refine hK.out _ _ trivial (fun hHeld => ?_)
  clear hK K
  try simp only [q1,q2,q3,q4,q5]
  refine wpAnyH_done (by kernel_rfl) ?_ _
  go_wp2_with fail
  have hfar : (Value.slice (some ⟨g5, 0, none⟩) (l.length + 1) c5).ownBlock ≠ some b := by rcases hb5' with h | h <;> rw [h]; exact HS.out.far; intro e; injection e; omega
  refine bodyPost_end (v := .tuple #[]) (by simp [results, Tryz.results165, go_sem]) rfl ⟨rfl, _, ⟨hw5.set k _, put_at hat, ?_, hfar⟩, HT6.out.set (fun _ => .inl rfl), ?_⟩
  ·
   rw [flatO_app, List.length_append]
   exact own_set_ne HO5.out (fun x hx e => hfar (by rw [hx, e]))
  ·
   rcases hb5' with h | h
   · exact .inl h
   · exact .inr ⟨_, h, by omega⟩
 ·
  have e0 : V.drew.cell? ⟨w.heap.size, 0, none⟩ = _ := d0
  have e1 : V.drew.cell? ⟨w.heap.size, 1, none⟩ = _ := d1
  have e2 : V.drew.cell? ⟨w.heap.size, 2, none⟩ = _ := d2
  have e3 : V.drew.cell? ⟨w.heap.size, 3, none⟩ = _ := d3
  have e4 : V.drew.cell? ⟨w.heap.size, 4, none⟩ = _ := d4
  have e5 : V.drew.cell? ⟨w.heap.size, 5, none⟩ = _ := d5
  go_simp
  refine hK.out _ _ trivial (fun hHeld => ?_)
  clear hK K
  try simp only [q1,q2,q3,q4,q5]
  refine wpAnyH_ready (rs := [3, 5]) (by kernel_rfl) (by simp) ?_
  refine AllReadyH.cons (o := ⟨some 15, _, _, _, _, _⟩) rfl (fun K hK => ?_) (AllReadyH.cons (o := ⟨some 17, _, _, _, _, _⟩) rfl (fun K hK => ?_) AllReadyH.nil)
  ·
   have k9 : V.drew.cell? ⟨b, k, none⟩ = some v := k0
   go_simp
   refine hK.out _ _ trivial (fun hHeld => ?_)
   clear hK K
   try simp only [q1,q2,q3,q4,q5]
   refine wpAnyH_ready (rs := [5]) (by kernel_rfl) (by simp) ?_
   refine AllReadyH.cons (o := ⟨some 17, _, _, _, _, _⟩) rfl (fun K hK => ?_) AllReadyH.nil
   go_simp
   have hb3 : Below V.heap.size V (V.drew.alloc (.cells #[.int .i64 o.id, .string o.who, .bool o.buy, .int .i64 o.item, .int .i64 o.ct, .int .i64 o.pr] 38)) := (Below.refl _ _).drew.alloc (Nat.le_refl _) _
   have ho3 : (V.drew.alloc (.cells #[.int .i64 o.id, .string o.who, .bool o.buy, .int .i64 o.item, .int .i64 o.ct, .int .i64 o.pr] 38)).ownsRow 0 38 6 v l.length (flatO l) := (Touch.of_below hb3).own HO.out (fun g hg hd => by have := (HO.out.lt g hg).2; omega)
   refine hK.out _ _ trivial (fun hHeld => ?_)
   clear hK K
   try simp only [q1,q2,q3,q4,q5]
   refine wpAnyH_ready (rs := [6]) (by kernel_rfl) (by simp) ?_
   refine AllReadyH.cons (o := ⟨some 18, _, _, _, _, _⟩) rfl (fun K hK => ?_) AllReadyH.nil
   refine step_append_cells rfl (.tmp 15) (.tmp 17) 75 rfl 0 38 i0 (.agg #[.int .i64 0, .string ⟨#[]⟩, .bool false, .int .i64 0, .int .i64 0, .int .i64 0]) 6 56 Tryz.underlying75 hi hz0 hz1 hz2 rfl (by decide) v l.length (flatO l) rfl ho3 _ _ 1 1 [.int .i64 o.id, .string o.who, .bool o.buy, .int .i64 o.item, .int .i64 o.ct, .int .i64 o.pr] rfl (ord_cells (w := V.drew) (e := 38)) ord_one (by unfold maxLen; omega) (by omega) (Nat.zero_le _) ?_
   intro v5 w5 hown5 ht5 hb5
   have hT6 : Touch (fun x => x = b ∨ v.ownBlock = some x) w w5 := (HT0.out.trans (Touch.of_below hb3) (fun x hx hd => absurd hd (by have := HT0.out.size; omega))).trans (ht5.mono fun x hx => .inr hx) (fun x _ hx => hx)
   have hs5 := hT6.size
   have hw5 : Whl w5 b t cs := (ht5.block b (Nat.lt_of_lt_of_le hbV hb3.size) HS.out.far).trans (hW0.below hb3 hbV)
   have hb5' : v5.ownBlock = v.ownBlock ∨ v5.ownBlock = some (V.heap.size + 1) := by simpa using hb5
   clear hb5
   obtain ⟨g5, c5, rfl, _, _, _, _⟩ := own_form hown5 (Nat.succ_pos _)
   have HO5 := Lib.hid hown5
   have HT6 := Lib.hid hT6
   clear hown5 ht5 hT6
   refine hK.out _ _ trivial (fun hHeld => ?_)
   clear hK K
   try simp only [q1,q2,q3,q4,q5]
   refine tkY 7 (some 19) ?v7_114 rfl ?y7_114 ?r7_114
   case y7_114 => exact tY
   case r7_114 =>
   try simp only [q1,q2,q3,q4,q5]
   refine wpAnyH_ready (rs := [8]) (by kernel_rfl) (by simp) ?_
   refine AllReadyH.cons (o := ⟨none, _, _, _, _, _⟩) rfl (fun K hK => ?_) AllReadyH.nil
   have k7 : w5.cell? ⟨b, k, none⟩ = some v := (hw5.cell k).trans hat
   have f7 := hw5.free k
   go_simp
   refine hK.out _ _ trivial (fun hHeld => ?_)
   clear hK K
   try simp only [q1,q2,q3,q4,q5]
   refine wpAnyH_done (by kernel_rfl) ?_ _
   go_wp2_with fail
   have hfar : (Value.slice (some ⟨g5, 0, none⟩) (l.length + 1) c5).ownBlock ≠ some b := by rcases hb5' with h | h <;> rw [h]; exact HS.out.far; intro e; injection e; omega
   refine bodyPost_end (v := .tuple #[]) (by simp [results, Tryz.results165, go_sem]) rfl ⟨rfl, _, ⟨hw5.set k _, put_at hat, ?_, hfar⟩, HT6.out.set (fun _ => .inl rfl), ?_⟩
   ·
    rw [flatO_app, List.length_append]
    exact own_set_ne HO5.out (fun x hx e => hfar (by rw [hx, e]))
   ·
    rcases hb5' with h | h
    · exact .inl h
    · exact .inr ⟨_, h, by omega⟩
  ·
   go_simp
   have hb3 : Below V.heap.size V (V.drew.alloc (.cells #[.int .i64 o.id, .string o.who, .bool o.buy, .int .i64 o.item, .int .i64 o.ct, .int .i64 o.pr] 38)) := (Below.refl _ _).drew.alloc (Nat.le_refl _) _
   have ho3 : (V.drew.alloc (.cells #[.int .i64 o.id, .string o.who, .bool o.buy, .int .i64 o.item, .int .i64 o.ct, .int .i64 o.pr] 38)).ownsRow 0 38 6 v l.length (flatO l) := (Touch.of_below hb3).own HO.out (fun g hg hd => by have := (HO.out.lt g hg).2; omega)
   refine hK.out _ _ trivial (fun hHeld => ?_)
   clear hK K
   try simp only [q1,q2,q3,q4,q5]
   refine wpAnyH_ready (rs := [3]) (by kernel_rfl) (by simp) ?_
   refine AllReadyH.cons (o := ⟨some 15, _, _, _, _, _⟩) rfl (fun K hK => ?_) AllReadyH.nil
   have k9 := bkeep hb3 k0 (by omega)
   have k10 : V.cell? ⟨b, k, none⟩ = some v := k0
   go_simp
   refine hK.out _ _ trivial (fun hHeld => ?_)
   clear hK K
   try simp only [q1,q2,q3,q4,q5]
   refine wpAnyH_ready (rs := [6]) (by kernel_rfl) (by simp) ?_
   refine AllReadyH.cons (o := ⟨some 18, _, _, _, _, _⟩) rfl (fun K hK => ?_) AllReadyH.nil
   refine step_append_cells rfl (.tmp 15) (.tmp 17) 75 rfl 0 38 i0 (.agg #[.int .i64 0, .string ⟨#[]⟩, .bool false, .int .i64 0, .int .i64 0, .int .i64 0]) 6 56 Tryz.underlying75 hi hz0 hz1 hz2 rfl (by decide) v l.length (flatO l) rfl ho3 _ _ 1 1 [.int .i64 o.id, .string o.who, .bool o.buy, .int .i64 o.item, .int .i64 o.ct, .int .i64 o.pr] rfl (ord_cells (w := V.drew) (e := 38)) ord_one (by unfold maxLen; omega) (by omega) (Nat.zero_le _) ?_
   intro v5 w5 hown5 ht5 hb5
   have hT6 : Touch (fun x => x = b ∨ v.ownBlock = some x) w w5 := (HT0.out.trans (Touch.of_below hb3) (fun x hx hd => absurd hd (by have := HT0.out.size; omega))).trans (ht5.mono fun x hx => .inr hx) (fun x _ hx => hx)
   have hs5 := hT6.size
   have hw5 : Whl w5 b t cs := (ht5.block b (Nat.lt_of_lt_of_le hbV hb3.size) HS.out.far).trans (hW0.below hb3 hbV)
   have hb5' : v5.ownBlock = v.ownBlock ∨ v5.ownBlock = some (V.heap.size + 1) := by simpa using hb5
   clear hb5
   obtain ⟨g5, c5, rfl, _, _, _, _⟩ := own_form hown5 (Nat.succ_pos _)
   have HO5 := Lib.hid hown5
   have HT6 := Lib.hid hT6
   clear hown5 ht5 hT6
   refine hK.out _ _ trivial (fun hHeld => ?_)
   clear hK K
   try simp only [q1,q2,q3,q4,q5]
   refine tkY 7 (some 19) ?v7_164 rfl ?y7_164 ?r7_164
   case y7_164 => exact tY
   case r7_164 =>
   try simp only [q1,q2,q3,q4,q5]
   refine wpAnyH_ready (rs := [8]) (by kernel_rfl) (by simp) ?_
   refine AllReadyH.cons (o := ⟨none, _, _, _, _, _⟩) rfl (fun K hK => ?_) AllReadyH.nil
   have k7 : w5.cell? ⟨b, k, none⟩ = some v := (hw5.cell k).trans hat
   have f7 := hw5.free k
   go_simp
   refine hK.out _ _ trivial (fun hHeld => ?_)
   clear hK K
   try simp only [q1,q2,q3,q4,q5]
   refine wpAnyH_done (by kernel_rfl) ?_ _
   go_wp2_with fail
   have hfar : (Value.slice (some ⟨g5, 0, none⟩) (l.length + 1) c5).ownBlock ≠ some b := by rcases hb5' with h | h <;> rw [h]; exact HS.out.far; intro e; injection e; omega
   refine bodyPost_end (v := .tuple #[]) (by simp [results, Tryz.results165, go_sem]) rfl ⟨rfl, _, ⟨hw5.set k _, put_at hat, ?_, hfar⟩, HT6.out.set (fun _ => .inl rfl), ?_⟩
   ·
    rw [flatO_app, List.length_append]
    exact own_set_ne HO5.out (fun x hx e => hfar (by rw [hx, e]))
   ·
    rcases hb5' with h | h
    · exact .inl h
    · exact .inr ⟨_, h, by omega⟩
set_option maxHeartbeats 2000000 in
set_option maxRecDepth 10000 in
theorem sidePop (b k : Nat) (t : TypeId) (cs : Array Value) (l : List Od) (v : Value) (n : Nat) (hn : l.length = n + 1) (w : World) (hs : Sd w b k t cs l v) (hlen : l.length ≤ 1000) :
  Calls Tryz.prog 164 #[.pointer (some ⟨b, k, none⟩)] w fun e w' => e = .returned (.iface 38 (odA (l[n]'(by omega)))) ∧ ∃ v', Sd w' b k t (cs.setIfInBounds k v') (l.take n) v' ∧ Touch (fun x => x = b ∨ v.ownBlock = some x) w w' ∧ v'.ownBlock = v.ownBlock := by
 have hown := hs.own
 rw [hn] at hown
 obtain ⟨g, cp, rfl, hg1, hg2, hg3, hg4⟩ := own_form hown (Nat.succ_pos _)
 have hcell := hs.cell
 have hat := hs.at_
 have hlow := hs.whl.low
 have hfr := hs.whl.free k
 obtain ⟨x0, x1, x2, x3, x4, x5⟩ := flatO_at l n (by omega)
 obtain ⟨a, ha⟩ : ∃ a, a = l[n]'(by omega) := ⟨_, rfl⟩
 rw [← ha] at x0 x1 x2 x3 x4 x5
 rw [← ha]
 have hnl : n < n + 1 := Nat.lt_succ_self n
 have a0 := (hown.cellAt (n * 6) (ixO0 hnl)).trans x0
 have a1 := (hown.cellAt (n * 6 + 1) (ixO hnl 1 (by decide))).trans x1
 have a2 := (hown.cellAt (n * 6 + 2) (ixO hnl 2 (by decide))).trans x2
 have a3 := (hown.cellAt (n * 6 + 3) (ixO hnl 3 (by decide))).trans x3
 have a4 := (hown.cellAt (n * 6 + 4) (ixO hnl 4 (by decide))).trans x4
 have a5 := (hown.cellAt (n * 6 + 5) (ixO hnl 5 (by decide))).trans x5
 have HS := Lib.hid hs
 have hgb : g ≠ b := fun e => hs.far (by rw [← e]; rfl)
 have hn1 : wrap64 (((n + 1 : Nat) : Int) - 1) = (n : Int) := by unfold wrap64; omega
 have hn2 : n ≤ cp := by omega
 have q1 : (n : Int) ≤ (cp : Int) := by omega
 clear hs hown x0 x1 x2 x3 x4 x5 ha
 go_enter Tryz.func164, Tryz.ntmps164
 go_wp2_with fail
 go_ret
 have hr := own_less (g := g) (c := cp) HS.out.own (n := n) (by omega) (by rw [hn])
 rw [← flatO_take] at hr
 have hfar : (Value.slice (some ⟨g, 0, none⟩) n cp).ownBlock ≠ some b := by intro e; injection e with e; exact hgb e
 have hln : (l.take n).length = n := by rw [List.length_take]; omega
 refine ⟨rfl, .slice (some ⟨g, 0, none⟩) n cp, ⟨?_, put_at hat, ?_, hfar⟩, ?_, rfl⟩
 ·
  first
   | exact (HS.out.whl.set k _).alloc _
   | exact (HS.out.whl.alloc _).set k _
 ·
  rw [hln]
  first
   | exact (own_set_ne hr (fun x hx e => hfar (by rw [hx, e]))).alloc _
   | exact own_set_ne (hr.alloc _) (fun x hx e => hfar (by rw [hx, e]))
 ·
  first
   | exact ((Touch.refl _ _).set (fun _ => .inl rfl)).alloc _
   | exact ((Touch.refl _ _).alloc _).set (fun _ => .inl rfl)
end Go.Proofs.YtdlbiobjnohfbaaGreat
