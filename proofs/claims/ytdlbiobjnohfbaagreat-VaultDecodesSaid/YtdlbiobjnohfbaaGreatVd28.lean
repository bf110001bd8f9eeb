/- book: what a call leaves, in one word; known. vault: settle. -/
import Derived.Test.YtdlbiobjnohfbaaGreatVd18
import Derived.Test.YtdlbiobjnohfbaaGreatVd27
namespace Go.Proofs.YtdlbiobjnohfbaaGreat
open Go.RowKit
set_option linter.unusedVariables false
set_option linter.unusedSimpArgs false
/-- block b is the book of these orders -/
def BookAt (Y : Lay) (w : World) (b : Nat) (v : Nat → Value) (L : List Od) (last : Int) : Prop := ∃ S, BkH Y w b v S last ∧ RelS S L ∧ Bk L last ∧ L.length ≤ 32
theorem BookAt.keep {Y : Lay} {D : Nat → Prop} {w w' : World} {b : Nat} {v : Nat → Value} {L : List Od} {last : Int} (h : BookAt Y w b v L last) (ht : Touch D w w') (hD : ∀ x, Ft b v x → ¬ D x) : BookAt Y w' b v L last := by
  obtain ⟨S, h1, h2⟩ := h
  exact ⟨S, h1.keep ht hD, h2⟩
theorem BookAt.below {Y : Lay} {w w' : World} {b : Nat} {v : Nat → Value} {L : List Od} {last : Int} (h : BookAt Y w b v L last) (hb : Below w.heap.size w w') : BookAt Y w' b v L last := by
  obtain ⟨S, h1, h2⟩ := h
  exact ⟨S, h1.below hb, h2⟩
theorem BookAt.drew {Y : Lay} {w : World} {b : Nat} {v : Nat → Value} {L : List Od} {last : Int} (h : BookAt Y w b v L last) : BookAt Y w.drew b v L last := h.keep (D := fun _ => False) (Touch.refl _ _).drew' (fun _ _ h => h)
theorem BookAt.lows {Y : Lay} {w : World} {b : Nat} {v : Nat → Value} {L : List Od} {last : Int} (h : BookAt Y w b v L last) : ∀ x, Ft b v x → x < w.heap.size := by
  obtain ⟨S, h1, h2⟩ := h
  exact h1.lows
theorem BookAt.bk {Y : Lay} {w : World} {b : Nat} {v : Nat → Value} {L : List Od} {last : Int} (h : BookAt Y w b v L last) : Bk L last := by
  obtain ⟨S, _, _, h2, _⟩ := h
  exact h2
theorem BookAt.len {Y : Lay} {w : World} {b : Nat} {v : Nat → Value} {L : List Od} {last : Int} (h : BookAt Y w b v L last) : L.length ≤ 32 := by
  obtain ⟨S, _, _, _, h2⟩ := h
  exact h2
/-- what Place answers, and the book behind it -/
inductive Placed (L : List Od) (last : Int) (o : Od) : List Td → Int → Int → List Od → Int → Prop
  | bad (h : ¬ (OkO o ∧ last < o.id)) : Placed L last o [] 0 1 L last
  | full (h1 : OkO o) (h2 : last < o.id) (h : 32 ≤ L.length) : Placed L last o [] 0 6 L last
  | ok (h1 : OkO o) (h2 : last < o.id) (h : L.length < 32) (T : List Td) (o1 : Od) (L1 : List Od) (hp : Places o L T o1 L1) (hl : T.length ≤ 1048576) : Placed L last o T o1.ct 0 (laid o1 L1) o.id
theorem Placed.len {L : List Od} {last : Int} {o : Od} {T : List Td} {n e : Int} {L' : List Od} {last' : Int} (h : Placed L last o T n e L' last') : T.length ≤ 1048576 := by
  cases h with
  | bad => simp
  | full => simp
  | ok _ _ _ _ _ _ _ hl => exact hl
theorem Placed.bk {L : List Od} {last : Int} {o : Od} {T : List Td} {n e : Int} {L' : List Od} {last' : Int} (h : Placed L last o T n e L' last') (hk : Bk L last) (hl : L.length ≤ 32) : Bk L' last' ∧ L'.length ≤ 32 := by
  cases h with
  | bad => exact ⟨hk, hl⟩
  | full => exact ⟨hk, hl⟩
  | ok h1 h2 h _ o1 L1 hp _ =>
    obtain ⟨a1, a2, a3, a4, a5, a6, a7, a8, a9, a10⟩ := hp.bk hk
    refine ⟨a1.laid h1 h2 a2 a3 a5 a6 a7, ?_⟩
    unfold laid
    split
    · rw [List.length_append]; simp; omega
    · omega
theorem newBook (w : World) : Calls Tryz.prog 82 #[] w fun e w' => e = .returned (.pointer (some ⟨w.heap.size, 0, none⟩)) ∧ BookAt lay0 w' w.heap.size (fun _ => .slice none 0 0) [] 0 ∧ Below w.heap.size w w' := by
  refine (bkNew w).mono ?_
  rintro e w' ⟨rfl, rfl⟩
  exact ⟨rfl, ⟨fun _ => [], ⟨Whl.new rfl, fun i hi => World.ownsRow_nil _ _ _ _, fun i hi e => (by cases e), fun i j hi hj hij x hx => (by cases hx)⟩, RelS.nil, Bk.nil, by simp⟩, (Below.refl _ _).alloc (Nat.le_refl _) _⟩
theorem place (Y : Lay) (b : Nat) (v : Nat → Value) (L : List Od) (last : Int) (o : Od) (w : World) (h : BookAt Y w b v L last) :
    Calls Tryz.prog 43 #[.pointer (some ⟨b, Y.o, none⟩), odA o] w fun e w' => ∃ (T : List Td) (n c : Int) (L' : List Od) (last' : Int) (v' : Nat → Value) (tv : Value), e = .returned (.tuple #[tv, .int .i64 n, .int .i64 c]) ∧ Placed L last o T n c L' last' ∧ BookAt Y w' b v' L' last' ∧ w'.ownsRow w.heap.size 97 8 tv T.length (flatT T) ∧ (∀ x, tv.ownBlock = some x → ¬ Ft b v' x) ∧ Touch (Ft b v) w w' ∧ (∀ x, Ft b v' x → Ft b v x ∨ w.heap.size ≤ x) := by
  obtain ⟨S, h1, h2, h3, h4⟩ := h
  refine (bkPlace Y b v S last L o w h1 h2 h3 (by omega)).mono ?_
  rintro e w' (⟨h, rfl, hb⟩ | ⟨q1, q2, q3, rfl, hb⟩ | ⟨q1, q2, q3, T, o1, L1, v', S', tv, p1, p2, rfl, p3, p4, p5, p6, p7, p8⟩)
  · exact ⟨[], 0, 1, L, last, v, _, rfl, .bad h, ⟨S, h1.below hb, h2, h3, h4⟩, World.ownsRow_nil _ _ _ _, (fun x hx => (by cases hx)), (Touch.of_below hb).mono' (fun k hk hd => by omega), fun x hx => .inl hx⟩
  · exact ⟨[], 0, 6, L, last, v, _, rfl, .full q1 q2 q3, ⟨S, h1.below hb, h2, h3, h4⟩, World.ownsRow_nil _ _ _ _, (fun x hx => (by cases hx)), (Touch.of_below hb).mono' (fun k hk hd => by omega), fun x hx => .inl hx⟩
  · have hpl : Placed L last o T o1.ct 0 (laid o1 L1) o.id := .ok q1 q2 q3 T o1 L1 p1 p2
    have hbk := hpl.bk h3 h4
    exact ⟨T, o1.ct, 0, laid o1 L1, o.id, v', tv, rfl, hpl, ⟨S', p3, p4, hbk.1, hbk.2⟩, p5, p6, p7, p8⟩
end Go.Proofs.YtdlbiobjnohfbaaGreat
namespace Go.Proofs.YtdlbiobjnohfbaaGreat
open Go.RowKit Go.ChangeMaps Go.MapKept
set_option linter.unusedVariables false
set_option linter.unusedSimpArgs false
def gainP (l : Pm) (s : ByteArray) (k : Nat) (n : Int) : Pm := setP l s.data.toList (gainI (hasP l s.data.toList) k n)
/-- what a trade makes of the purses -/
def settleP (l : Pm) (t : Td) : Pm := gainP (gainP (gainP l t.buyer t.item.toNat t.ct) t.buyer 0 (t.ct * (t.bid - t.pr))) t.seller 0 (t.ct * t.pr)
structure TdOk (t : Td) : Prop where
  item : 1 ≤ t.item ∧ t.item ≤ 3
  ct : 0 ≤ t.ct ∧ t.ct ≤ 1048576
  pr : 0 ≤ t.pr ∧ t.pr ≤ t.bid
  bid : t.bid ≤ 1024
  buyer : KeyOk t.buyer.data.toList
  seller : KeyOk t.seller.data.toList
def SetQ' (b : Nat) (p : Value) (v : Nat → Value) (S : Nat → List Od) (l : Pm) (last gone : Int) (w w' : World) (p' : Value) : Prop :=
  VtH w' b p' v S l last gone ∧ Touch (Fv b p v) w w' ∧ (∀ x, Fv b p' v x → Fv b p v x ∨ w.heap.size ≤ x)
theorem SetQ.then {b : Nat} {p p1 : Value} {v : Nat → Value} {S : Nat → List Od} {l l1 : Pm} {last gone : Int} {w w1 w2 : World} (h : SetQ' b p v S l1 last gone w w1 p1) (q : SetQ b p1 v S l last gone w1 w2) : SetQ b p v S l last gone w w2 := by
  obtain ⟨_, h1, h2⟩ := h
  obtain ⟨p2, q0, q1, q2⟩ := q
  refine ⟨p2, q0, h1.trans q1 (fun x hx hf => ?_), fun x hx => ?_⟩
  · rcases h2 x hf with h | h
    · exact h
    · omega
  · rcases q2 x hx with h | h
    · exact h2 x h
    · exact .inr (Nat.le_trans h1.size h)
theorem Whl.keepT {D : Nat → Prop} {w w' : World} {b : Nat} {t : TypeId} {cs : Array Value} (h : Whl w b t cs) (ht : Touch D w w') (hD : ¬ D b) : Whl w' b t cs := (ht.block b h.low hD).trans h
theorem prod_ok {a c m n : Int} (ha : 0 ≤ a ∧ a ≤ m) (hc : 0 ≤ c ∧ c ≤ n) : 0 ≤ a * c ∧ a * c ≤ m * n :=
  ⟨Int.mul_nonneg ha.1 hc.1, Int.mul_le_mul ha.2 hc.2 hc.1 (by omega)⟩
set_option maxHeartbeats 4000000 in
set_option maxRecDepth 10000 in
theorem vtSettle (b : Nat) (p : Value) (v : Nat → Value) (S : Nat → List Od) (l : Pm) (last gone : Int) (t : Td) (ht : TdOk t) (w : World) (h : VtH w b p v S l last gone) :
    Calls Tryz.prog 44 #[tdA t, .func (.func 46) #[ownA b t.buyer] #[], .func (.func 46) #[ownA b t.seller] #[]] w fun e w' => e = .returned (.tuple #[]) ∧ SetQ b p v S (settleP l t) last gone w w' := by
  have HH := Lib.hid h
  have hbl := h.bk.whl.low
  have HL := Lib.hid h.lows
  have HT := Lib.hid ht
  obtain ⟨k, hk⟩ : ∃ k : Nat, t.item = (k : Int) := ⟨t.item.toNat, by have := ht.item; omega⟩
  have hk3 : k ≤ 3 := by have := ht.item; omega
  have hkt : t.item.toNat = k := by omega
  obtain ⟨n1, hn1⟩ : ∃ n, n = t.ct * (t.bid - t.pr) := ⟨_, rfl⟩
  obtain ⟨n2, hn2⟩ : ∃ n, n = t.ct * t.pr := ⟨_, rfl⟩
  have b1 : 0 ≤ n1 ∧ n1 ≤ 1048576 * 1024 := by rw [hn1]; exact prod_ok ht.ct (by have := ht.pr; have := ht.bid; omega)
  have b2 : 0 ≤ n2 ∧ n2 ≤ 1048576 * 1024 := by rw [hn2]; exact prod_ok ht.ct (by have := ht.pr; have := ht.bid; omega)
  have hw0 : IntKind.i64.wrap (t.bid - t.pr) = t.bid - t.pr := by rw [IntKind.wrap_i64]; have := ht.pr; have := ht.bid; omega
  have hw1 : IntKind.i64.wrap (t.ct * (t.bid - t.pr)) = n1 := by rw [← hn1, IntKind.wrap_i64]; omega
  have hw2 : IntKind.i64.wrap (t.ct * t.pr) = n2 := by rw [← hn2, IntKind.wrap_i64]; omega
  have HS : Hid (settleP l t = gainP (gainP (gainP l t.buyer k t.ct) t.buyer 0 n1) t.seller 0 n2) := Lib.hid (by unfold settleP; rw [hkt, hn1, hn2])
  have HB1 := Lib.hid b1
  have HB2 := Lib.hid b2
  have T0 : Touch (fun _ => False) w (w.alloc (.cells #[.string t.buyer, .string t.seller, .int .i64 t.buy, .int .i64 t.sell, .int .i64 t.item, .int .i64 t.ct, .int .i64 t.pr, .int .i64 t.bid] 97)) := (Touch.refl _ _).alloc _
  have B0 : Below w.heap.size w (w.alloc (.cells #[.string t.buyer, .string t.seller, .int .i64 t.buy, .int .i64 t.sell, .int .i64 t.item, .int .i64 t.ct, .int .i64 t.pr, .int .i64 t.bid] 97)) := (Below.refl _ _).alloc (Nat.le_refl _) _
  have P0 : Whl (w.alloc (.cells #[.string t.buyer, .string t.seller, .int .i64 t.buy, .int .i64 t.sell, .int .i64 t.item, .int .i64 t.ct, .int .i64 t.pr, .int .i64 t.bid] 97)) w.heap.size 97 #[.string t.buyer, .string t.seller, .int .i64 t.buy, .int .i64 t.sell, .int .i64 t.item, .int .i64 t.ct, .int .i64 t.pr, .int .i64 t.bid] := Whl.new rfl
  have HH0 := Lib.hid (h.below B0)
  rw [HS.out]
  rw [hk] at P0 B0
  have HP0 := Lib.hid P0
  have HBw := Lib.hid B0
  have HKT := Lib.hid hk
  rw [hk] at HH0
  clear h ht b1 b2 hkt T0 B0 P0 hn1 hn2
  unfold tdA
  rw [hk]
  clear hk
  go_enter Tryz.func44, Tryz.ntmps44
  go_wp2_with (first
    | (go_at_call 46; have hgg := HV2; clear hgg; go_loud (refine (vtGain b p2 v S _ last gone t.seller HT.out.seller 0 (by omega) n2 (by have := HB2.out; omega) _ HV2.out).mono ?_; rintro e w5 ⟨rfl, hq⟩; have HQ3 := Lib.hid (SetQ.ahead HBw.out HL.out (SetQ.then HQ1.out (SetQ.then HQ2.out hq))); clear hq))
    | (go_at_call 46; have hgg := HV1; clear hgg; go_loud (refine (vtGain b p1 v S _ last gone t.buyer HT.out.buyer 0 (by omega) n1 (by have := HB1.out; omega) _ HV1.out).mono ?_; rintro e w4 ⟨rfl, hq⟩; obtain ⟨p2, hq⟩ : ∃ p2, SetQ' b p1 v S _ last gone w3 w4 p2 := hq; have HQ2 := Lib.hid hq; have HV2 := Lib.hid hq.1; have P4 := P3.keepT hq.2.1 (fun hf => HD1.out hf); have x5 := P4.cell 5; have x6 := P4.cell 6; simp only [List.getElem?_toArray, List.getElem?_cons_succ, List.getElem?_cons_zero] at x5 x6; clear hq P4 P3))
    | (go_at_call 46; go_loud (refine (vtGain b p v S l last gone t.buyer HT.out.buyer k hk3 t.ct (by have := HT.out.ct; omega) _ HH0.out).mono ?_; rintro e w3 ⟨rfl, hq⟩; obtain ⟨p1, hq⟩ : ∃ p1, SetQ' b p v S _ last gone _ w3 p1 := hq; have HQ1 := Lib.hid hq; have HV1 := Lib.hid hq.1; have hnf : ¬ Fv b p v w.heap.size := (fun hf => by have := HL.out _ hf; omega); have P3 := HP0.out.keepT hq.2.1 hnf; have HD1 := Lib.hid (show ¬ Fv b p1 v w.heap.size from fun hf => by rcases hq.2.2 _ hf with h | h; exact hnf h; simp at h; omega); have x5 := P3.cell 5; have x6 := P3.cell 6; have x7 := P3.cell 7; simp only [List.getElem?_toArray, List.getElem?_cons_succ, List.getElem?_cons_zero] at x5 x6 x7; clear hq hnf))
    | fail)
  refine bodyPost_end (v := .tuple #[]) (by simp [results, Tryz.results44, go_sem]) rfl ⟨rfl, HQ3.out⟩
end Go.Proofs.YtdlbiobjnohfbaaGreat
