/- book: List. book: what a call leaves, in one word; known. -/
import Derived.Test.YtdlbiobjnohfbaaGreatVb22
namespace Go.Proofs.YtdlbiobjnohfbaaGreat
open Go.RowKit
set_option linter.unusedVariables false
set_option linter.unusedSimpArgs false
theorem run_append2 {P : Program} {t t2 e e2 : TypeId} (ht : P.underlying t = some (.slice e)) (ht2 : P.underlying t2 = some (.slice e2)) (ty : TypeId) (args : Array Value) (w : World) :
  (Builtin.append_ #[t, t2] ty args).run P w = (Builtin.append_ #[t, t] ty args).run P w := by
 unfold Builtin.append_
 rcases h0 : args[0]? with _ | s
 · rfl
 ·
  rcases h1 : args[1]? with _ | x
  · rfl
  ·
   simp only [List.getElem?_toArray, List.getElem?_cons_zero, List.getElem?_cons_succ]
   rw [Sem.run_bind, Sem.run_bind, run_underlying ht]
   simp only [Result.andThen_ok]
   cases s with
   | slice a n c =>
    simp only
    rw [Sem.run_bind, Sem.run_bind]
    refine congrArg _ (funext fun size => funext fun w' => ?_)
    conv => lhs; rw [Sem.run_bind, run_underlying ht2]
    conv => rhs; rw [Sem.run_bind, run_underlying ht]
    rfl
   | _ => rfl
theorem wpList_append2 {P : Program} {w : World} {ops : Array Oper} {rest : List Oper} {o : Oper} {a : Act} {Q : Exit → Act → World → Prop} (hgd : o.guard = none) (s x : Operand) (t t2 : TypeId)
  (ho : o.op = .call { callee := .builtin .append, args := #[s, x], argTypes := #[t, t2] })
  (base : Nat) (e e2 : TypeId) (i : TypeInfo) (z : Value) (size bytes : Nat) (ht : P.underlying t = some (.slice e)) (ht2 : P.underlying t2 = some (.slice e2)) (hi : P.info? e = some i) (hz : i.zero = some z)
  (hsize : i.size = size) (hby : i.bytes = bytes) (hzs : z.cells.size = size) (hsz : 0 < size)
  (v : Value) (n : Nat) (xs : List Value) (hs : a.eval s = v) (hown : w.ownsRow base e size v n xs)
  (B : Nat) (A : Option Addr) (m c : Nat) (news : List Value) (hx : a.eval x = .slice A m c) (hr : Cells w B A m c size news) (h1 : ∀ u ∈ news, u.oneCell' = true)
  (h63 : n + m ≤ maxLen) (hbytes : (n + m) * bytes ≤ 140737488355328) (hbase : base ≤ w.heap.size)
  (h : ∀ v' w', w'.ownsRow base e size v' (n + m) (xs ++ news) → Below base w w' → wpList P ops Q rest (a.put o.dst v') w') : wpList P ops Q (o :: rest) a w := by
 have hlow : ∀ k, v.ownBlock = some k → base ≤ k := fun k hk => (hown.lt k hk).1
 have key : ∃ v' w', (Builtin.append_ #[t, t2] o.type #[v, .slice A m c]).run P w = .ok v' w' ∧ w'.ownsRow base e size v' (n + m) (xs ++ news) ∧ Below base w w' := by
  rw [run_append2 ht ht2]
  cases A with
  | none =>
   obtain ⟨rfl, rfl⟩ := hr.2.1 rfl
   have hn : news = [] := List.eq_nil_of_length_eq_zero (by simpa using hr.1)
   subst hn
   exact ⟨v, w, run_append_nothing w base t o.type e i size ht hi v n xs hown 0, by simpa using hown, Below.refl _ _⟩
  | some ad =>
   obtain ⟨v', w', hrun, h2, h3, _, h5⟩ := run_append_own_at (P := P) w base t o.type e i z size bytes ht hi hz hsize hby hzs hsz v n xs hown ad m c news hr.1 (fun j u hu => by
    obtain ⟨b, q, e, _, hc⟩ := hr.2.2 j u hu
    injection e with e
    subst e
    rw [add_none]; exact hc) h1 h63 hbytes hbase
   exact ⟨v', w', hrun, h2, (Below.refl base w).grown h3 hbase hlow⟩
 obtain ⟨v', w', hrun, h2, h3⟩ := key
 refine wpList_plain hgd fun K hK => ?_
 unfold Oper.wp execOp
 simp only [ho, resolve, invoke, builtin, Sem.run_bind, Sem.run_pure, Result.andThen_ok, List.map_toArray, List.map_cons, List.map_nil, hs, hx, hrun]
 exact hK _ _ (h v' w' h2 h3)
def catS (S : Nat → List Od) : Nat → List Od
 | 0 => []
 | n + 1 => catS S n ++ S (ord8 n)
theorem catS_perm {S S' : Nat → List Od} (h : ∀ i, i < 8 → (S i).Perm (S' i)) : ∀ n, n ≤ 8 → (catS S n).Perm (catS S' n)
 | 0, _ => List.Perm.refl _
 | n + 1, hn => (catS_perm h n (by omega)).append (h _ (ord8_lt (by omega)))
theorem catS_len (S : Nat → List Od) : ∀ n, (catS S n).length = sumO S n
 | 0 => rfl
 | n + 1 => by simp [catS, sumO, catS_len S n]
theorem cat_all {L : List Od} (h : ∀ o ∈ L, 1 ≤ o.item ∧ o.item ≤ 3) : (catS (fun i => L.filter (sideP i)) 8).Perm L := by
 haveI : DecidableEq Od := fun _ _ => Classical.propDecidable _
 refine List.perm_iff_count.2 fun a => ?_
 have cf : ∀ i, (L.filter (sideP i)).count a = if sideP i a = true then L.count a else 0 := fun i => by
  split
  · rename_i hp; exact List.count_filter hp
  · rename_i hp; exact List.count_eq_zero_of_not_mem (fun hm => hp (List.mem_filter.1 hm).2)
 by_cases ha : a ∈ L
 ·
  obtain ⟨i, hi, h1, h2⟩ := sideP_one (h a ha)
  have hs : ∀ j, j < 8 → (sideP j a = true ↔ j = i) := fun j hj => ⟨h2 j hj, fun e => by rw [e]; exact h1⟩
  simp only [catS, ord8, List.count_append, cf]
  rcases lt8 hi with rfl | rfl | rfl | rfl | rfl | rfl | rfl | rfl <;> simp [hs]
 ·
  rw [List.count_eq_zero_of_not_mem ha]
  refine List.count_eq_zero_of_not_mem fun hm => ?_
  simp only [catS, List.mem_append, List.mem_filter, List.not_mem_nil, false_or] at hm
  rcases hm with ((((((( hm | hm) | hm) | hm) | hm) | hm) | hm) | hm) <;> exact ha hm.1
theorem cat_rel {S : Nat → List Od} {L : List Od} {last : Int} (h : RelS S L) (hk : Bk L last) : (catS S 8).Perm L :=
 (catS_perm (fun i hi => (h i hi).1) 8 (Nat.le_refl _)).trans (cat_all (fun o ho => (hk.ok o ho).item))
set_option maxHeartbeats 2000000 in
set_option maxRecDepth 10000 in
theorem bkList (Y : Lay) (b : Nat) (v : Nat → Value) (S : Nat → List Od) (last : Int) (L : List Od) (w : World) (h : BkH Y w b v S last) (hr : RelS S L) (hk : Bk L last) (hlen : L.length ≤ 1000) :
  Calls Tryz.prog 66 #[.pointer (some ⟨b, Y.o, none⟩)] w fun e w' => ∃ u, e = .returned u ∧ w'.ownsRow w.heap.size 38 6 u L.length (flatO L) ∧ Below w.heap.size w w' := by
 obtain ⟨i0, hi, hz0, hz1, hz2⟩ := info_parts Tryz.infoOrder
 have hperm := cat_rel hr hk
 have hsum : sumO S 8 = L.length := by rw [← catS_len, hperm.length_eq]
 have hids := hk.ids
 have hbl := h.whl.low
 go_enter Tryz.func66, Tryz.ntmps66
 go_wp2_with fail
 refine (bkSides b Y.o _).mono ?_
 rintro e w1 ⟨g, cap, rfl, hown, hb1⟩
 obtain ⟨A, c, hA, hc1, hc2, hx⟩ := row_cells hown
 injection hA with hA1 hA2 hA3
 subst hA1 hA3
 have hglt := (hown.lt g rfl).2
 have HX := Lib.hid hx
 have HB := Lib.hid (h.below hb1)
 have HB1 := Lib.hid hb1
 have hs1 := hb1.size
 clear hx hown h hb1 hr
 go_wp2_with fail
 go_loopw [3, 11] (fun lv i wr => ∃ (k : Nat) (u : Value), lv = u ∧ k ≤ 8 ∧ i = .int .i64 k ∧ wr.ownsRow w1.heap.size 38 6 u (sumO S k) (flatO (catS S k)) ∧ Below w1.heap.size w1 wr) (fun _ i _ => 8 - (intOf i).toNat)
 case atStart => exact ⟨0, _, rfl, by omega, rfl, World.ownsRow_nil _ _ _ _, Below.refl _ _⟩
 case round =>
  obtain ⟨k, u, hu, hk8, rfl, hO, hBr⟩ := hrel
  have hu := hu.symm
  subst hu
  have HO := Lib.hid hO
  have HBR := Lib.hid hBr
  have hsr := hBr.size
  by_cases hlt : k < 8
  ·
   obtain ⟨j, hj, hsv, hjk⟩ := sv_get b Y.o k hlt
   obtain ⟨g', o', e1, _, h1⟩ := HX.out.2.2 k _ hsv
   injection e1 with e1; injection e1 with e1 e2 e3
   subst e1 e2
   rw [Nat.zero_add] at h1
   unfold pt at h1
   have h1 := bkeep hBr h1 hglt
   have hsd := (HB.out.below hBr).sd hj
   have h2 := hsd.cell
   obtain ⟨A, c, e4, hcc1, hcc2, hcell⟩ := row_cells hsd.own
   rw [e4] at h2
   have hle := sumO_le S (k + 1) (by omega)
   have hst : sumO S (k + 1) = sumO S k + (S j).length := by rw [hjk]; rfl
   have hcat : catS S (k + 1) = catS S k ++ S j := by rw [hjk]; rfl
   rw [hst, hsum] at hle
   obtain ⟨q, hq⟩ : ∃ q, q = sumO S k := ⟨_, rfl⟩
   rw [← hq] at hst hle HO
   have HST := Lib.hid hst
   have HCAT := Lib.hid hcat
   have HC := Lib.hid hcell
   clear hst hcat hcell hq hsd e4 hjk hO hBr
   go_wp2_with (first
    | (at_builtin; go_loud (refine wpList_append2 rfl (.tmp 15) (.tmp 18) 57 75 rfl w1.heap.size 38 38 i0 (.agg #[.int .i64 0, .string ⟨#[]⟩, .bool false, .int .i64 0, .int .i64 0, .int .i64 0]) 6 56 Tryz.underlying57 Tryz.underlying75 hi hz0 hz1 hz2 rfl (by decide) _ q (flatO (catS S k)) rfl HO.out _ A (S j).length c (flatO (S j)) rfl HC.out (flatO_one _) (by unfold maxLen; omega) (by omega) hsr ?_; intro v5 w5 hown5 hb5; have HO5 := Lib.hid hown5; have HB5 := Lib.hid (HBR.out.trans hb5); clear hown5 hb5))
    | fail)
   refine ⟨⟨k + 1, v5, rfl, by omega, by go_num, ?_, HB5.out⟩, measI hlt⟩
   rw [HST.out, HCAT.out, flatO_app]
   exact HO5.out
  ·
   obtain rfl : k = 8 := by omega
   rw [hsum] at HO
   go_wp2_with (first
    | (go_at_call 96; go_loud (refine (sortOrders w1.heap.size (catS S 8) L _ L.length (by rw [catS_len, hsum]) _ HO.out hlen hids hperm).mono ?_; rintro e w6 ⟨rfl, ho6, ht6⟩))
    | fail)
   go_ret
   exact ⟨_, rfl, ho6.mono hs1, (HB1.out.trans (HBR.out.mono hs1)).trans (ht6.below (by omega) (fun x hx => by have := (HO.out.lt x hx).1; omega))⟩
def BookAt (Y : Lay) (w : World) (b : Nat) (v : Nat → Value) (L : List Od) (last : Int) : Prop := ∃ S, BkH Y w b v S last ∧ RelS S L ∧ Bk L last ∧ L.length ≤ 32
theorem BookAt.keep {Y : Lay} {D : Nat → Prop} {w w' : World} {b : Nat} {v : Nat → Value} {L : List Od} {last : Int} (h : BookAt Y w b v L last) (ht : Touch D w w') (hD : ∀ x, Ft b v x → ¬ D x) : BookAt Y w' b v L last := by
 obtain ⟨S, h1, h2⟩ := h
 exact ⟨S, h1.keep ht hD, h2⟩
theorem BookAt.below {Y : Lay} {w w' : World} {b : Nat} {v : Nat → Value} {L : List Od} {last : Int} (h : BookAt Y w b v L last) (hb : Below w.heap.size w w') : BookAt Y w' b v L last := by
 obtain ⟨S, h1, h2⟩ := h
 exact ⟨S, h1.below hb, h2⟩
theorem BookAt.drew {Y : Lay} {w : World} {b : Nat} {v : Nat → Value} {L : List Od} {last : Int} (h : BookAt Y w b v L last) : BookAt Y w.drew b v L last := h.keep (D := fun _ => False) (Touch.refl _ _).drew' (fun _ _ h => h)
theorem BookAt.lows {Y : Lay} {w : World} {b : Nat} {v : Nat → Value} {L : List Od} {last : Int} (h : BookAt Y w b v L last) : ∀ x, Ft b v x → x < w.heap.size := by
 obtain ⟨S, h1, h2⟩ := h
 exact h1.lows
theorem BookAt.bk {Y : Lay} {w : World} {b : Nat} {v : Nat → Value} {L : List Od} {last : Int} (h : BookAt Y w b v L last) : Bk L last := by
 obtain ⟨S, _, _, h2, _⟩ := h
 exact h2
theorem BookAt.len {Y : Lay} {w : World} {b : Nat} {v : Nat → Value} {L : List Od} {last : Int} (h : BookAt Y w b v L last) : L.length ≤ 32 := by
 obtain ⟨S, _, _, _, h2⟩ := h
 exact h2
inductive Placed (L : List Od) (last : Int) (o : Od) : List Td → Int → Int → List Od → Int → Prop
 | bad (h : ¬ (OkO o ∧ last < o.id)) : Placed L last o [] 0 1 L last
 | full (h1 : OkO o) (h2 : last < o.id) (h : 32 ≤ L.length) : Placed L last o [] 0 6 L last
 | ok (h1 : OkO o) (h2 : last < o.id) (h : L.length < 32) (T : List Td) (o1 : Od) (L1 : List Od) (hp : Places o L T o1 L1) (hl : T.length ≤ 1048576) : Placed L last o T o1.ct 0 (laid o1 L1) o.id
theorem Placed.len {L : List Od} {last : Int} {o : Od} {T : List Td} {n e : Int} {L' : List Od} {last' : Int} (h : Placed L last o T n e L' last') : T.length ≤ 1048576 := by
 cases h with
 | bad => simp
 | full => simp
 | ok _ _ _ _ _ _ _ hl => exact hl
theorem Placed.bk {L : List Od} {last : Int} {o : Od} {T : List Td} {n e : Int} {L' : List Od} {last' : Int} (h : Placed L last o T n e L' last') (hk : Bk L last) (hl : L.length ≤ 32) : Bk L' last' ∧ L'.length ≤ 32 := by
 cases h with
 | bad => exact ⟨hk, hl⟩
 | full => exact ⟨hk, hl⟩
 | ok h1 h2 h _ o1 L1 hp _ =>
  obtain ⟨a1, a2, a3, a4, a5, a6, a7, a8, a9, a10⟩ := hp.bk hk
  refine ⟨a1.laid h1 h2 a2 a3 a5 a6 a7, ?_⟩
  unfold laid
  split
  · rw [List.length_append]; simp; omega
  · omega
theorem newBook (w : World) : Calls Tryz.prog 82 #[] w fun e w' => e = .returned (.pointer (some ⟨w.heap.size, 0, none⟩)) ∧ BookAt lay0 w' w.heap.size (fun _ => .slice none 0 0) [] 0 ∧ Below w.heap.size w w' := by
 refine (bkNew w).mono ?_
 rintro e w' ⟨rfl, rfl⟩
 exact ⟨rfl, ⟨fun _ => [], ⟨Whl.new rfl, fun i hi => World.ownsRow_nil _ _ _ _, fun i hi e => (by cases e), fun i j hi hj hij x hx => (by cases hx)⟩, RelS.nil, Bk.nil, by simp⟩, (Below.refl _ _).alloc (Nat.le_refl _) _⟩
theorem place (Y : Lay) (b : Nat) (v : Nat → Value) (L : List Od) (last : Int) (o : Od) (w : World) (h : BookAt Y w b v L last) :
  Calls Tryz.prog 43 #[.pointer (some ⟨b, Y.o, none⟩), odA o] w fun e w' => ∃ (T : List Td) (n c : Int) (L' : List Od) (last' : Int) (v' : Nat → Value) (tv : Value), e = .returned (.tuple #[tv, .int .i64 n, .int .i64 c]) ∧ Placed L last o T n c L' last' ∧ BookAt Y w' b v' L' last' ∧ w'.ownsRow w.heap.size 97 8 tv T.length (flatT T) ∧ (∀ x, tv.ownBlock = some x → ¬ Ft b v' x) ∧ Touch (Ft b v) w w' ∧ (∀ x, Ft b v' x → Ft b v x ∨ w.heap.size ≤ x) := by
 obtain ⟨S, h1, h2, h3, h4⟩ := h
 refine (bkPlace Y b v S last L o w h1 h2 h3 (by omega)).mono ?_
 rintro e w' (⟨h, rfl, hb⟩ | ⟨q1, q2, q3, rfl, hb⟩ | ⟨q1, q2, q3, T, o1, L1, v', S', tv, p1, p2, rfl, p3, p4, p5, p6, p7, p8⟩)
 · exact ⟨[], 0, 1, L, last, v, _, rfl, .bad h, ⟨S, h1.below hb, h2, h3, h4⟩, World.ownsRow_nil _ _ _ _, (fun x hx => (by cases hx)), (Touch.of_below hb).mono' (fun k hk hd => by omega), fun x hx => .inl hx⟩
 · exact ⟨[], 0, 6, L, last, v, _, rfl, .full q1 q2 q3, ⟨S, h1.below hb, h2, h3, h4⟩, World.ownsRow_nil _ _ _ _, (fun x hx => (by cases hx)), (Touch.of_below hb).mono' (fun k hk hd => by omega), fun x hx => .inl hx⟩
 ·
  have hpl : Placed L last o T o1.ct 0 (laid o1 L1) o.id := .ok q1 q2 q3 T o1 L1 p1 p2
  have hbk := hpl.bk h3 h4
  exact ⟨T, o1.ct, 0, laid o1 L1, o.id, v', tv, rfl, hpl, ⟨S', p3, p4, hbk.1, hbk.2⟩, p5, p6, p7, p8⟩
theorem list (Y : Lay) (b : Nat) (v : Nat → Value) (L : List Od) (last : Int) (w : World) (h : BookAt Y w b v L last) :
  Calls Tryz.prog 66 #[.pointer (some ⟨b, Y.o, none⟩)] w fun e w' => ∃ u, e = .returned u ∧ w'.ownsRow w.heap.size 38 6 u L.length (flatO L) ∧ Below w.heap.size w w' := by
 obtain ⟨S, h1, h2, h3, h4⟩ := h
 exact bkList Y b v S last L w h1 h2 h3 (by omega)
theorem cancel (Y : Lay) (b : Nat) (v : Nat → Value) (L : List Od) (last id : Int) (w : World) (h : BookAt Y w b v L last) :
  Calls Tryz.prog 67 #[.pointer (some ⟨b, Y.o, none⟩), .int .i64 id] w fun e w' => ∃ (x : Od) (c : Int) (v' : Nat → Value), e = .returned (.tuple #[odA x, .int .i64 c]) ∧ ((x ∈ L ∧ x.id = id ∧ c = 0) ∨ ((∀ y ∈ L, y.id ≠ id) ∧ x = ⟨0, ⟨#[]⟩, false, 0, 0, 0⟩ ∧ c = 7)) ∧ BookAt Y w' b v' (goneO id L) last ∧ Touch (Ft b v) w w' ∧ (∀ x, Ft b v' x → Ft b v x) := by
 obtain ⟨S, h1, h2, h3, h4⟩ := h
 refine (bkCancel Y b v S last L id w h1 h2 h3 (by omega)).mono ?_
 rintro e w' (⟨x, hx, hid, v', S', rfl, q1, q2, q3, q4⟩ | ⟨hn, rfl, hb⟩)
 · exact ⟨x, 0, v', rfl, .inl ⟨hx, hid, rfl⟩, ⟨S', q1, q2, h3.gone id, Nat.le_trans (List.length_filter_le _ _) h4⟩, q3, q4⟩
 ·
  have e : goneO id L = L := List.filter_eq_self.2 (fun y hy => decide_eq_true (hn y hy))
  rw [e]
  exact ⟨⟨0, ⟨#[]⟩, false, 0, 0, 0⟩, 7, v, rfl, .inr ⟨hn, rfl, rfl⟩, ⟨S, h1.below hb, h2, h3, h4⟩, (Touch.of_below hb).mono' (fun k hk hd => by omega), fun x hx => hx⟩
end Go.Proofs.YtdlbiobjnohfbaaGreat
