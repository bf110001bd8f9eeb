/- vault: settle. Book: orders as a book, pure. book.Of. vault: pure: what trades are like; the whole state. -/
import Derived.Test.YtdlbiobjnohfbaaGreatVb17
import Derived.Test.YtdlbiobjnohfbaaGreatVb23
namespace Go.Proofs.YtdlbiobjnohfbaaGreat
open Go.RowKit Go.ChangeMaps Go.MapKept
set_option linter.unusedVariables false
set_option linter.unusedSimpArgs false
def gainP (l : Pm) (s : ByteArray) (k : Nat) (n : Int) : Pm := setP l s.data.toList (gainI (hasP l s.data.toList) k n)
def settleP (l : Pm) (t : Td) : Pm := gainP (gainP (gainP l t.buyer t.item.toNat t.ct) t.buyer 0 (t.ct * (t.bid - t.pr))) t.seller 0 (t.ct * t.pr)
structure TdOk (t : Td) : Prop where
 item : 1 ≤ t.item ∧ t.item ≤ 3
 ct : 0 ≤ t.ct ∧ t.ct ≤ 1048576
 pr : 0 ≤ t.pr ∧ t.pr ≤ t.bid
 bid : t.bid ≤ 1024
 buyer : KeyOk t.buyer.data.toList
 seller : KeyOk t.seller.data.toList
def SetQ' (b : Nat) (p : Value) (v : Nat → Value) (S : Nat → List Od) (l : Pm) (last gone : Int) (w w' : World) (p' : Value) : Prop :=
 VtH w' b p' v S l last gone ∧ Touch (Fv b p v) w w' ∧ (∀ x, Fv b p' v x → Fv b p v x ∨ w.heap.size ≤ x)
theorem SetQ.then {b : Nat} {p p1 : Value} {v : Nat → Value} {S : Nat → List Od} {l l1 : Pm} {last gone : Int} {w w1 w2 : World} (h : SetQ' b p v S l1 last gone w w1 p1) (q : SetQ b p1 v S l last gone w1 w2) : SetQ b p v S l last gone w w2 := by
 obtain ⟨_, h1, h2⟩ := h
 obtain ⟨p2, q0, q1, q2⟩ := q
 refine ⟨p2, q0, h1.trans q1 (fun x hx hf => ?_), fun x hx => ?_⟩
 ·
  rcases h2 x hf with h | h
  · exact h
  · omega
 ·
  rcases q2 x hx with h | h
  · exact h2 x h
  · exact .inr (Nat.le_trans h1.size h)
theorem Whl.keepT {D : Nat → Prop} {w w' : World} {b : Nat} {t : TypeId} {cs : Array Value} (h : Whl w b t cs) (ht : Touch D w w') (hD : ¬ D b) : Whl w' b t cs := (ht.block b h.low hD).trans h
theorem prod_ok {a c m n : Int} (ha : 0 ≤ a ∧ a ≤ m) (hc : 0 ≤ c ∧ c ≤ n) : 0 ≤ a * c ∧ a * c ≤ m * n :=
 ⟨Int.mul_nonneg ha.1 hc.1, Int.mul_le_mul ha.2 hc.2 hc.1 (by omega)⟩
set_option maxHeartbeats 4000000 in
set_option maxRecDepth 10000 in
theorem vtSettle (b : Nat) (p : Value) (v : Nat → Value) (S : Nat → List Od) (l : Pm) (last gone : Int) (t : Td) (ht : TdOk t) (w : World) (h : VtH w b p v S l last gone) :
  Calls Tryz.prog 44 #[tdA t, .func (.func 46) #[ownA b t.buyer] #[], .func (.func 46) #[ownA b t.seller] #[]] w fun e w' => e = .returned (.tuple #[]) ∧ SetQ b p v S (settleP l t) last gone w w' := by
 have HH := Lib.hid h
 have hbl := h.bk.whl.low
 have HL := Lib.hid h.lows
 have HT := Lib.hid ht
 obtain ⟨k, hk⟩ : ∃ k : Nat, t.item = (k : Int) := ⟨t.item.toNat, by have := ht.item; omega⟩
 have hk3 : k ≤ 3 := by have := ht.item; omega
 have hkt : t.item.toNat = k := by omega
 obtain ⟨n1, hn1⟩ : ∃ n, n = t.ct * (t.bid - t.pr) := ⟨_, rfl⟩
 obtain ⟨n2, hn2⟩ : ∃ n, n = t.ct * t.pr := ⟨_, rfl⟩
 have b1 : 0 ≤ n1 ∧ n1 ≤ 1048576 * 1024 := by rw [hn1]; exact prod_ok ht.ct (by have := ht.pr; have := ht.bid; omega)
 have b2 : 0 ≤ n2 ∧ n2 ≤ 1048576 * 1024 := by rw [hn2]; exact prod_ok ht.ct (by have := ht.pr; have := ht.bid; omega)
 have hw0 : IntKind.i64.wrap (t.bid - t.pr) = t.bid - t.pr := by rw [IntKind.wrap_i64]; have := ht.pr; have := ht.bid; omega
 have hw1 : IntKind.i64.wrap (t.ct * (t.bid - t.pr)) = n1 := by rw [← hn1, IntKind.wrap_i64]; omega
 have hw2 : IntKind.i64.wrap (t.ct * t.pr) = n2 := by rw [← hn2, IntKind.wrap_i64]; omega
 have HS : Hid (settleP l t = gainP (gainP (gainP l t.buyer k t.ct) t.buyer 0 n1) t.seller 0 n2) := Lib.hid (by unfold settleP; rw [hkt, hn1, hn2])
 have HB1 := Lib.hid b1
 have HB2 := Lib.hid b2
 have T0 : Touch (fun _ => False) w (w.alloc (.cells #[.string t.buyer, .string t.seller, .int .i64 t.buy, .int .i64 t.sell, .int .i64 t.item, .int .i64 t.ct, .int .i64 t.pr, .int .i64 t.bid] 97)) := (Touch.refl _ _).alloc _
 have B0 : Below w.heap.size w (w.alloc (.cells #[.string t.buyer, .string t.seller, .int .i64 t.buy, .int .i64 t.sell, .int .i64 t.item, .int .i64 t.ct, .int .i64 t.pr, .int .i64 t.bid] 97)) := (Below.refl _ _).alloc (Nat.le_refl _) _
 have P0 : Whl (w.alloc (.cells #[.string t.buyer, .string t.seller, .int .i64 t.buy, .int .i64 t.sell, .int .i64 t.item, .int .i64 t.ct, .int .i64 t.pr, .int .i64 t.bid] 97)) w.heap.size 97 #[.string t.buyer, .string t.seller, .int .i64 t.buy, .int .i64 t.sell, .int .i64 t.item, .int .i64 t.ct, .int .i64 t.pr, .int .i64 t.bid] := Whl.new rfl
 have HH0 := Lib.hid (h.below B0)
 rw [HS.out]
 rw [hk] at P0 B0
 have HP0 := Lib.hid P0
 have HBw := Lib.hid B0
 have HKT := Lib.hid hk
 rw [hk] at HH0
 clear h ht b1 b2 hkt T0 B0 P0 hn1 hn2
 unfold tdA
 rw [hk]
 clear hk
 go_enter Tryz.func44, Tryz.ntmps44
 go_wp2_with (first
  | (go_at_call 46; have hgg := HV2; clear hgg; go_loud (refine (vtGain b p2 v S _ last gone t.seller HT.out.seller 0 (by omega) n2 (by have := HB2.out; omega) _ HV2.out).mono ?_; rintro e w5 ⟨rfl, hq⟩; have HQ3 := Lib.hid (SetQ.ahead HBw.out HL.out (SetQ.then HQ1.out (SetQ.then HQ2.out hq))); clear hq))
  | (go_at_call 46; have hgg := HV1; clear hgg; go_loud (refine (vtGain b p1 v S _ last gone t.buyer HT.out.buyer 0 (by omega) n1 (by have := HB1.out; omega) _ HV1.out).mono ?_; rintro e w4 ⟨rfl, hq⟩; obtain ⟨p2, hq⟩ : ∃ p2, SetQ' b p1 v S _ last gone w3 w4 p2 := hq; have HQ2 := Lib.hid hq; have HV2 := Lib.hid hq.1; have P4 := P3.keepT hq.2.1 (fun hf => HD1.out hf); have x5 := P4.cell 5; have x6 := P4.cell 6; simp only [List.getElem?_toArray, List.getElem?_cons_succ, List.getElem?_cons_zero] at x5 x6; clear hq P4 P3))
  | (go_at_call 46; go_loud (refine (vtGain b p v S l last gone t.buyer HT.out.buyer k hk3 t.ct (by have := HT.out.ct; omega) _ HH0.out).mono ?_; rintro e w3 ⟨rfl, hq⟩; obtain ⟨p1, hq⟩ : ∃ p1, SetQ' b p v S _ last gone _ w3 p1 := hq; have HQ1 := Lib.hid hq; have HV1 := Lib.hid hq.1; have hnf : ¬ Fv b p v w.heap.size := (fun hf => by have := HL.out _ hf; omega); have P3 := HP0.out.keepT hq.2.1 hnf; have HD1 := Lib.hid (show ¬ Fv b p1 v w.heap.size from fun hf => by rcases hq.2.2 _ hf with h | h; exact hnf h; simp at h; omega); have x5 := P3.cell 5; have x6 := P3.cell 6; have x7 := P3.cell 7; simp only [List.getElem?_toArray, List.getElem?_cons_succ, List.getElem?_cons_zero] at x5 x6 x7; clear hq hnf))
  | fail)
 refine bodyPost_end (v := .tuple #[]) (by simp [results, Tryz.results44, go_sem]) rfl ⟨rfl, HQ3.out⟩
end Go.Proofs.YtdlbiobjnohfbaaGreat
namespace Go.Proofs.YtdlbiobjnohfbaaGreat
open Go.RowKit
set_option linter.unusedVariables false
set_option linter.unusedSimpArgs false
theorem take_succ' {L : List Od} {i : Nat} (h : i < L.length) : L.take (i + 1) = L.take i ++ [L[i]] := by rw [List.take_add_one, List.getElem?_eq_getElem h]; rfl
theorem cells_orderAt {w : World} {B c : Nat} {A : Option Addr} {L : List Od} (h : Cells w B A L.length c 6 (flatO L)) {j : Nat} (hj : j < L.length) :
  ∃ b o, A = some ⟨b, o, none⟩ ∧ b < B ∧ w.cell? ⟨b, o + j * 6, none⟩ = some (.int .i64 L[j].id) ∧ w.cell? ⟨b, o + j * 6 + 1, none⟩ = some (.string L[j].who) ∧ w.cell? ⟨b, o + j * 6 + 2, none⟩ = some (.bool L[j].buy) ∧ w.cell? ⟨b, o + j * 6 + 3, none⟩ = some (.int .i64 L[j].item) ∧ w.cell? ⟨b, o + j * 6 + 4, none⟩ = some (.int .i64 L[j].ct) ∧ w.cell? ⟨b, o + j * 6 + 5, none⟩ = some (.int .i64 L[j].pr) := by
 obtain ⟨r0, r1, r2, r3, r4, r5⟩ := flatO_at L j hj
 obtain ⟨b, o, e, hb, h0⟩ := h.2.2 _ _ r0
 have key : ∀ k v, (flatO L)[j * 6 + k]? = some v → w.cell? ⟨b, o + j * 6 + k, none⟩ = some v := fun k v hv => by
  obtain ⟨b1, o1, e1, _, h1⟩ := h.2.2 _ _ hv
  rw [e] at e1
  injection e1 with e1
  injection e1 with e2 e3
  subst e2 e3
  rw [Nat.add_assoc]; exact h1
 exact ⟨b, o, e, hb, h0, key 1 _ r1, key 2 _ r2, key 3 _ r3, key 4 _ r4, key 5 _ r5⟩
set_option maxHeartbeats 4000000 in
set_option maxRecDepth 10000 in
def lastOf (L : List Od) : Int := ((L.getLast?).map Od.id).getD 0
theorem lastOf_snoc (L : List Od) (o : Od) : lastOf (L ++ [o]) = o.id := by simp [lastOf]
theorem lastOf_nil : lastOf [] = 0 := rfl
def Fits (L : List Od) (o : Od) : Prop := OkO o ∧ lastOf L < o.id ∧ NoneMeets o L
def OfAt (xs : List Od) (i : Nat) : Prop := ∀ j (hj : j < xs.length), j < i → Fits (xs.take j) xs[j]
def OfK (xs : List Od) : Prop := xs.length ≤ 32 ∧ OfAt xs xs.length
theorem OfAt.zero (xs : List Od) : OfAt xs 0 := fun j hj h => by omega
theorem OfAt.step {xs : List Od} {i : Nat} (h : OfAt xs i) (hi : i < xs.length) (hf : Fits (xs.take i) xs[i]) : OfAt xs (i + 1) := fun j hj hlt => by
 by_cases e : j = i
 · subst e; exact hf
 · exact h j hj (by omega)
theorem OfAt.bk {xs : List Od} : ∀ {i : Nat}, OfAt xs i → i ≤ xs.length → Bk (xs.take i) (lastOf (xs.take i))
 | 0, _, _ => by rw [List.take_zero]; exact Bk.nil
 | i + 1, h, hi => by
  have hb := OfAt.bk (fun j hj hlt => h j hj (by omega) : OfAt xs i) (by omega)
  have hf := h i (by omega) (by omega)
  rw [take_succ' (show i < xs.length by omega), lastOf_snoc]
  have := hb.laid hf.1 hf.2.1 (o1 := xs[i]) rfl rfl rfl rfl (Int.le_refl _)
  rwa [show laid xs[i] (xs.take i) = xs.take i ++ [xs[i]] from if_pos (by have := hf.1.ct; omega)] at this
theorem Placed.fits {L : List Od} {o : Od} {T : List Td} {n e : Int} {L' : List Od} {last' : Int} (h : Placed L (lastOf L) o T n e L' last') (hk : Bk L (lastOf L)) :
  (e = 0 ∧ T = [] ∧ L.length < 32 ∧ Fits L o ∧ L' = L ++ [o] ∧ last' = lastOf (L ++ [o]) ∧ n = o.ct) ∨ ((e ≠ 0 ∨ T ≠ []) ∧ ¬ (L.length < 32 ∧ Fits L o)) := by
 cases h with
 | bad h => exact .inr ⟨.inl (by decide), fun hf => h ⟨hf.2.1, hf.2.2.1⟩⟩
 | full h1 h2 h => exact .inr ⟨.inl (by decide), fun hf => by have := hf.1; omega⟩
 | ok h1 h2 h T o1 L1 hp hl =>
  cases hp with
  | done _ _ hd =>
   rcases hd with hd | hd
   · have := h1.ct; omega
   · exact .inl ⟨rfl, rfl, h, ⟨h1, h2, hd⟩, if_pos (by have := h1.ct; omega), (lastOf_snoc _ _).symm, rfl⟩
  | step _ x _ T o' L' h0 hb _ =>
   refine .inr ⟨.inr (by simp), fun hf => ?_⟩
   have := hf.2.2.2 x hb.1
   rw [hb.2.1] at this; cases this
theorem Placed.fit1 {L : List Od} {o : Od} {T : List Td} {n e : Int} {L' : List Od} {last' : Int} (h : Placed L (lastOf L) o T n e L' last') (hk : Bk L (lastOf L)) (hf : L.length < 32 ∧ Fits L o) : e = 0 ∧ T = [] ∧ L' = L ++ [o] ∧ last' = lastOf (L ++ [o]) ∧ n = o.ct := by
 rcases h.fits hk with ⟨h1, h2, _, _, h3, h4, h5⟩ | ⟨_, h⟩
 · exact ⟨h1, h2, h3, h4, h5⟩
 · exact absurd hf h
theorem Placed.fitE {L : List Od} {last : Int} {o : Od} {T : List Td} {n e : Int} {L' : List Od} {last' : Int} (h : Placed L last o T n e L' last') (hf : ¬ (OkO o ∧ last < o.id ∧ L.length < 32)) : e = 1 ∨ e = 6 := by
 cases h with
 | bad h => exact .inl rfl
 | full h1 h2 h => exact .inr rfl
 | ok h1 h2 h T o1 L1 hp hl => exact absurd ⟨h1, h2, h⟩ hf
theorem Placed.fitT {L : List Od} {last : Int} {o : Od} {T : List Td} {n e : Int} {L' : List Od} {last' : Int} (h : Placed L last o T n e L' last') (hf : OkO o ∧ last < o.id ∧ L.length < 32) (hn : ¬ NoneMeets o L) : e = 0 ∧ 0 < T.length := by
 cases h with
 | bad h => exact absurd ⟨hf.1, hf.2.1⟩ h
 | full h1 h2 h => omega
 | ok h1 h2 h T o1 L1 hp hl =>
  refine ⟨rfl, ?_⟩
  cases hp with
  | done _ _ hd =>
   rcases hd with hd | hd
   · have := h1.ct; omega
   · exact absurd hd hn
  | step _ x _ T o' L' h0 hb _ => simp
theorem not_of {xs : List Od} {i : Nat} (hi : i < xs.length) (h : ¬ ((xs.take i).length < 32 ∧ Fits (xs.take i) xs[i])) : ¬ OfK xs := fun hk => h ⟨by rw [List.length_take]; have := hk.1; omega, hk.2 i hi hi⟩
set_option maxHeartbeats 20000000 in
set_option maxRecDepth 10000 in
theorem bkOf (B : Nat) (A : Option Addr) (c : Nat) (xs : List Od) (w : World) (hx : Cells w B A xs.length c 6 (flatO xs)) (hB : B ≤ w.heap.size) (hl : xs.length ≤ 20000) :
  Calls Tryz.prog 40 #[.slice A xs.length c] w fun e w' => Below w.heap.size w w' ∧ ((OfK xs ∧ ∃ (b : Nat) (v : Nat → Value), e = .returned (.tuple #[.pointer (some ⟨b, 0, none⟩), .int .i64 0]) ∧ BookAt lay0 w' b v xs (lastOf xs) ∧ (∀ k, Ft b v k → w.heap.size ≤ k)) ∨ (¬ OfK xs ∧ e = .returned (.tuple #[.pointer none, .int .i64 1]))) := by
 have HX := Lib.hid hx
 clear hx
 go_enter Tryz.func40, Tryz.ntmps40
 go_wp2_with (first
  | (go_at_call 82; go_loud (refine (newBook _).mono ?_; rintro e w1 ⟨rfl, hb1, hb⟩; have hs1 := hb.size; have HB1 := Lib.hid hb1; have HBL := Lib.hid hb; clear hb1 hb))
  | fail)
 have HF1 : Hid (∀ k, Ft w.heap.size (fun _ => .slice none 0 0) k → w.heap.size ≤ k) := Lib.hid (fun k hk => by
  rcases hk with e | ⟨i, _, e⟩
  · omega
  · cases e)
 go_loopw [13] (fun iv wr => ∃ (i : Nat) (v : Nat → Value), i ≤ xs.length ∧ iv = .int .i64 i ∧ BookAt lay0 wr w.heap.size v (xs.take i) (lastOf (xs.take i)) ∧ OfAt xs i ∧ (∀ k, Ft w.heap.size v k → w.heap.size ≤ k) ∧ Below w.heap.size w wr) (fun iv _ => xs.length - (intOf iv).toNat)
 case atStart => exact ⟨0, _, Nat.zero_le _, rfl, HB1.out, OfAt.zero xs, HF1.out, HBL.out⟩
 case round =>
  obtain ⟨i, v, hil, rfl, hBk, hOf, hF, hBw⟩ := hrel
  have HB := Lib.hid hBk
  have HO := Lib.hid hOf
  have HF := Lib.hid hF
  have HW := Lib.hid hBw
  have hsw := hBw.size
  by_cases hlt : i < xs.length
  ·
   have q3 : (i : Int) < (xs.length : Int) := by omega
   obtain ⟨qb, qo, rfl, hqb', a0, a1, a2, a3, a4, a5⟩ := cells_orderAt HX.out hlt
   have hqb : qb < w.heap.size := by omega
   have a0 := bkeep hBw a0 hqb
   have a1 := bkeep hBw a1 hqb
   have a2 := bkeep hBw a2 hqb
   have a3 := bkeep hBw a3 hqb
   have a4 := bkeep hBw a4 hqb
   have a5 := bkeep hBw a5 hqb
   obtain ⟨o, ho⟩ : ∃ o, o = xs[i] := ⟨_, rfl⟩
   rw [← ho] at a0 a1 a2 a3 a4 a5
   have HOE := Lib.hid ho
   clear hBk hOf hF hBw ho
   by_cases hok : (xs.take i).length < 32 ∧ Fits (xs.take i) o
   ·
    have HK := Lib.hid hok
    clear hok
    go_wp2_with (first
     | (go_at_call 43; go_loud (refine (place lay0 w.heap.size v _ _ o _ (HB.out.below (by exact tB))).mono ?_; rintro e w4 ⟨Td, n, e', L', last', v4, tv, rfl, hp, hb, ho, ha, ht, hf⟩; obtain ⟨rfl, rfl, rfl, rfl, rfl⟩ := hp.fit1 HB.out.bk HK.out; have HB4 := Lib.hid hb; have HT4 := Lib.hid ht; have HF4 := Lib.hid hf; have hs4 := ht.size; obtain ⟨At, kt, hvt, _, _, _⟩ := own_slice ho; subst hvt; clear ho hb ha hf hp ht))
     | fail)
    have e := take_succ' hlt
    rw [← HOE.out] at e
    refine ⟨⟨i + 1, v4, hlt, by go_num, by rw [e]; exact HB4.out, HO.out.step hlt (by rw [← HOE.out]; exact HK.out.2), fun k hk => ?_, (HW.out.trans (by exact tB)).trans (HT4.out.below (by (first | omega | (simp; done) | (simp; omega))) (fun k hk => HF.out k hk))⟩, measI hlt⟩
    rcases HF4.out k hk with h | h
    · exact HF.out k h
    · simp at h; omega
   ·
    have hno : ¬ OfK xs := not_of hlt (by rw [← HOE.out]; exact hok)
    have HNO := Lib.hid hno
    by_cases hE : OkO o ∧ lastOf (xs.take i) < o.id ∧ (xs.take i).length < 32
    ·
     have hnm : ¬ NoneMeets o (xs.take i) := fun h => hok ⟨hE.2.2, hE.1, hE.2.1, h⟩
     have HE := Lib.hid hE
     have HNM := Lib.hid hnm
     clear hok hE hnm hno
     go_wp2_with (first
      | (go_at_call 43; go_loud (refine (place lay0 w.heap.size v _ _ o _ (HB.out.below (by exact tB))).mono ?_; rintro e w4 ⟨Td, n, e', L', last', v4, tv, rfl, hp, hb, ho, ha, ht, hf⟩; obtain ⟨rfl, hTp⟩ := hp.fitT HE.out HNM.out; have hTq : (0 : Int) < (Td.length : Int) := (by omega); have HT4 := Lib.hid ht; have hs4 := ht.size; have hTl := hp.len; obtain ⟨At, kt, hvt, _, _, _⟩ := own_slice ho; subst hvt; clear ho hb ha hf hp ht))
      | fail)
     refine bodyPost_ret (v := .tuple #[.pointer none, .int .i64 1]) (by simp [results, Tryz.results40, go_sem]) rfl ⟨(HW.out.trans (by exact tB)).trans (HT4.out.below (by (first | omega | (simp; done) | (simp; omega))) (fun k hk => HF.out k hk)), .inr ⟨HNO.out, rfl⟩⟩
    ·
     have HE := Lib.hid hE
     clear hok hE hno
     go_wp2_with (first
      | (go_at_call 43; go_loud (refine (place lay0 w.heap.size v _ _ o _ (HB.out.below (by exact tB))).mono ?_; rintro e w4 ⟨Td, n, e', L', last', v4, tv, rfl, hp, hb, ho, ha, ht, hf⟩; have hne : e' ≠ 0 := (by have := hp.fitE HE.out; omega); have HT4 := Lib.hid ht; have hs4 := ht.size; have hTl := hp.len; obtain ⟨At, kt, hvt, _, _, _⟩ := own_slice ho; subst hvt; clear ho hb ha hf hp ht))
      | fail)
     refine bodyPost_ret (v := .tuple #[.pointer none, .int .i64 1]) (by simp [results, Tryz.results40, go_sem]) rfl ⟨(HW.out.trans (by exact tB)).trans (HT4.out.below (by (first | omega | (simp; done) | (simp; omega))) (fun k hk => HF.out k hk)), .inr ⟨HNO.out, rfl⟩⟩
  ·
   obtain rfl : xs.length = i := by omega
   go_wp2_with fail
   have hb := HB.out
   rw [List.take_length] at hb
   by_cases h32 : xs.length ≤ 32
   · refine bodyPost_ret (v := .tuple #[.pointer (some ⟨w.heap.size, 0, none⟩), .int .i64 0]) (by simp [results, Tryz.results40, go_sem]) rfl ⟨HW.out, .inl ⟨⟨h32, HO.out⟩, _, v, rfl, hb, HF.out⟩⟩
   · have := hb.len; omega
open Go.RowKit Go.ChangeMaps Go.MapKept
theorem keyOk_of {s : ByteArray} (h : 1 ≤ s.size ∧ s.size ≤ 16) : KeyOk s.data.toList := by
 have e : s.data.toList.length = s.size := Array.length_toList
 exact ⟨by omega, by omega⟩
structure OkR (o : Od) : Prop where
 who : 1 ≤ o.who.size ∧ o.who.size ≤ 16
 item : 1 ≤ o.item ∧ o.item ≤ 3
 ct : o.ct ≤ 1048576
 pr : 1 ≤ o.pr ∧ o.pr ≤ 1024
theorem OkO.r {o : Od} (h : OkO o) : OkR o := ⟨h.who, h.item, h.ct.2, h.pr⟩
theorem tradeP_ok {o x : Od} (ho : OkR o) (hx : OkO x) (hm : meetP o x = true) (h0 : 0 < o.ct) : TdOk (tradeP o x (mn o.ct x.ct)) := by
 have h1 := mn_le (a := o.ct) (b := x.ct)
 have h2 : 1 ≤ mn o.ct x.ct := mn_pos (by omega) hx.ct.1
 have h3 := ho.ct
 have h4 := ho.pr
 have h5 := hx.pr
 unfold tradeP
 unfold meetP at hm
 cases hb : o.buy with
 | true =>
  rw [hb] at hm
  simp at hm
  exact ⟨ho.item, by show 0 ≤ mn o.ct x.ct ∧ mn o.ct x.ct ≤ 1048576; omega, by show 0 ≤ x.pr ∧ x.pr ≤ o.pr; omega, by show o.pr ≤ 1024; omega, keyOk_of ho.who, keyOk_of hx.who⟩
 | false =>
  exact ⟨ho.item, by show 0 ≤ mn o.ct x.ct ∧ mn o.ct x.ct ≤ 1048576; omega, by show 0 ≤ x.pr ∧ x.pr ≤ x.pr; omega, by show x.pr ≤ 1024; omega, keyOk_of hx.who, keyOk_of ho.who⟩
theorem Places.tds {o : Od} {L : List Od} {T : List Td} {o1 : Od} {L1 : List Od} {last : Int} (h : Places o L T o1 L1) : OkR o → Bk L last → ∀ t ∈ T, TdOk t := by
 induction h with
 | done o L h => intro _ _ t ht; cases ht
 | step o x L T o' L' h0 hb h ih =>
  intro ho hk t ht
  have hx := hk.ok x hb.1
  have hm : meetP o x = true := by
   have := hb.2.1
   unfold meets at this
   simp only [Bool.and_eq_true] at this
   exact this.2
  have h2 : 1 ≤ mn o.ct x.ct := mn_pos (by omega) hx.ct.1
  rcases List.mem_cons.1 ht with rfl | ht
  · exact tradeP_ok ho hx hm h0
  · exact ih ⟨ho.who, ho.item, by show o.ct - mn o.ct x.ct ≤ 1048576; have := ho.ct; omega, ho.pr⟩ (hk.takeN hb.1 (by omega) (mn_le).2) t ht
def Od.num (o : Od) (g : Int) : Od := ⟨g, o.who, o.buy, o.item, o.ct, o.pr⟩
theorem ofK_one (o : Od) : OfK [o] ↔ OkO o := by
 constructor
 ·
  intro h
  exact (h.2 0 (by simp) (by simp)).1
 ·
  intro h
  refine ⟨by simp, fun j hj hlt => ?_⟩
  simp at hlt
  subst hlt
  exact ⟨h, by show (0 : Int) < o.id; have := h.id; omega, fun y hy => by simp at hy⟩
theorem held_num (o : Od) (g : Int) : heldP (o.num g) = heldP o := rfl
theorem held_is {o : Od} (h : OkO o) : isI (heldP o) = true := by
 have hp := prod_ok (a := o.ct) (c := o.pr) (m := 1048576) (n := 1024) (by have := h.ct; omega) (by have := h.pr; omega)
 have hc := h.ct
 unfold heldP
 split
 · unfold isI; rw [isP_iff]; simp; omega
 ·
  split
  · unfold isI; rw [isP_iff]; simp; omega
  ·
   split
   · unfold isI; rw [isP_iff]; simp; omega
   ·
    split
    · unfold isI; rw [isP_iff]; simp; omega
    · unfold isI; rw [isP_iff]; simp; omega
def VtAt (w : World) (b : Nat) (p : Value) (v : Nat → Value) (l : Pm) (L : List Od) (last gone : Int) : Prop :=
 ∃ S, VtH w b p v S l last gone ∧ RelS S L ∧ Bk L last ∧ L.length ≤ 32 ∧ last ≤ gone ∧ gone ≤ 1099511627776
theorem VtAt.book {w : World} {b : Nat} {p : Value} {v : Nat → Value} {l : Pm} {L : List Od} {last gone : Int} (h : VtAt w b p v l L last gone) : BookAt (lay1 p (.int .i64 gone)) w b v L last := by
 obtain ⟨S, h1, h2, h3, h4, _⟩ := h
 exact ⟨S, h1.bk, h2, h3, h4⟩
theorem newVault (w : World) : Calls Tryz.prog 15 #[] w fun e w' => e = .returned (.pointer (some ⟨w.heap.size, 0, none⟩)) ∧ VtAt w' w.heap.size (.map none) (fun _ => .slice none 0 0) [] [] 0 0 ∧ Below w.heap.size w w' := by
 go_enter Tryz.func15, Tryz.ntmps15
 go_wp2_with fail
 go_ret
 exact ⟨rfl, ⟨fun _ => [], ⟨⟨Whl.new rfl, fun i hi => World.ownsRow_nil _ _ _ _, fun i hi e => (by cases e), fun i j hi hj hij x hx => (by cases hx)⟩, .inl ⟨rfl, rfl⟩, PmOk.nil, (by intro e; cases e), fun i hi x hx => (by cases hx)⟩, RelS.nil, Bk.nil, by simp, by omega, by omega⟩, (Below.refl _ _).alloc (Nat.le_refl _) _⟩
end Go.Proofs.YtdlbiobjnohfbaaGreat
