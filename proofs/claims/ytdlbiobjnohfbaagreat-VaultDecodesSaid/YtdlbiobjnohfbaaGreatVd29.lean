/- Book: orders as a book, pure. book.Of. vault: pure: what trades are like; the whole state. -/
import Derived.Test.YtdlbiobjnohfbaaGreatVd28
namespace Go.Proofs.YtdlbiobjnohfbaaGreat
open Go.RowKit
set_option linter.unusedVariables false
set_option linter.unusedSimpArgs false
theorem take_succ' {L : List Od} {i : Nat} (h : i < L.length) : L.take (i + 1) = L.take i ++ [L[i]] := by rw [List.take_add_one, List.getElem?_eq_getElem h]; rfl
theorem cells_orderAt {w : World} {B c : Nat} {A : Option Addr} {L : List Od} (h : Cells w B A L.length c 6 (flatO L)) {j : Nat} (hj : j < L.length) :
    ∃ b o, A = some ⟨b, o, none⟩ ∧ b < B ∧ w.cell? ⟨b, o + j * 6, none⟩ = some (.int .i64 L[j].id) ∧ w.cell? ⟨b, o + j * 6 + 1, none⟩ = some (.string L[j].who) ∧ w.cell? ⟨b, o + j * 6 + 2, none⟩ = some (.bool L[j].buy) ∧ w.cell? ⟨b, o + j * 6 + 3, none⟩ = some (.int .i64 L[j].item) ∧ w.cell? ⟨b, o + j * 6 + 4, none⟩ = some (.int .i64 L[j].ct) ∧ w.cell? ⟨b, o + j * 6 + 5, none⟩ = some (.int .i64 L[j].pr) := by
  obtain ⟨r0, r1, r2, r3, r4, r5⟩ := flatO_at L j hj
  obtain ⟨b, o, e, hb, h0⟩ := h.2.2 _ _ r0
  have key : ∀ k v, (flatO L)[j * 6 + k]? = some v → w.cell? ⟨b, o + j * 6 + k, none⟩ = some v := fun k v hv => by
    obtain ⟨b1, o1, e1, _, h1⟩ := h.2.2 _ _ hv
    rw [e] at e1
    injection e1 with e1
    injection e1 with e2 e3
    subst e2 e3
    rw [Nat.add_assoc]; exact h1
  exact ⟨b, o, e, hb, h0, key 1 _ r1, key 2 _ r2, key 3 _ r3, key 4 _ r4, key 5 _ r5⟩
set_option maxHeartbeats 4000000 in
set_option maxRecDepth 10000 in
def lastOf (L : List Od) : Int := ((L.getLast?).map Od.id).getD 0
theorem lastOf_snoc (L : List Od) (o : Od) : lastOf (L ++ [o]) = o.id := by simp [lastOf]
theorem lastOf_nil : lastOf [] = 0 := rfl
/-- this one may be laid behind those, and meets none -/
def Fits (L : List Od) (o : Od) : Prop := OkO o ∧ lastOf L < o.id ∧ NoneMeets o L
/-- those ahead of i fit, one behind the other -/
def OfAt (xs : List Od) (i : Nat) : Prop := ∀ j (hj : j < xs.length), j < i → Fits (xs.take j) xs[j]
/-- all fit, and there are not too many -/
def OfK (xs : List Od) : Prop := xs.length ≤ 32 ∧ OfAt xs xs.length
theorem OfAt.zero (xs : List Od) : OfAt xs 0 := fun j hj h => by omega
theorem OfAt.step {xs : List Od} {i : Nat} (h : OfAt xs i) (hi : i < xs.length) (hf : Fits (xs.take i) xs[i]) : OfAt xs (i + 1) := fun j hj hlt => by
  by_cases e : j = i
  · subst e; exact hf
  · exact h j hj (by omega)
theorem OfAt.bk {xs : List Od} : ∀ {i : Nat}, OfAt xs i → i ≤ xs.length → Bk (xs.take i) (lastOf (xs.take i))
  | 0, _, _ => by rw [List.take_zero]; exact Bk.nil
  | i + 1, h, hi => by
    have hb := OfAt.bk (fun j hj hlt => h j hj (by omega) : OfAt xs i) (by omega)
    have hf := h i (by omega) (by omega)
    rw [take_succ' (show i < xs.length by omega), lastOf_snoc]
    have := hb.laid hf.1 hf.2.1 (o1 := xs[i]) rfl rfl rfl rfl (Int.le_refl _)
    rwa [show laid xs[i] (xs.take i) = xs.take i ++ [xs[i]] from if_pos (by have := hf.1.ct; omega)] at this
theorem Placed.fits {L : List Od} {o : Od} {T : List Td} {n e : Int} {L' : List Od} {last' : Int} (h : Placed L (lastOf L) o T n e L' last') (hk : Bk L (lastOf L)) :
    (e = 0 ∧ T = [] ∧ L.length < 32 ∧ Fits L o ∧ L' = L ++ [o] ∧ last' = lastOf (L ++ [o]) ∧ n = o.ct) ∨ ((e ≠ 0 ∨ T ≠ []) ∧ ¬ (L.length < 32 ∧ Fits L o)) := by
  cases h with
  | bad h => exact .inr ⟨.inl (by decide), fun hf => h ⟨hf.2.1, hf.2.2.1⟩⟩
  | full h1 h2 h => exact .inr ⟨.inl (by decide), fun hf => by have := hf.1; omega⟩
  | ok h1 h2 h T o1 L1 hp hl =>
    cases hp with
    | done _ _ hd =>
      rcases hd with hd | hd
      · have := h1.ct; omega
      · exact .inl ⟨rfl, rfl, h, ⟨h1, h2, hd⟩, if_pos (by have := h1.ct; omega), (lastOf_snoc _ _).symm, rfl⟩
    | step _ x _ T o' L' h0 hb _ =>
      refine .inr ⟨.inr (by simp), fun hf => ?_⟩
      have := hf.2.2.2 x hb.1
      rw [hb.2.1] at this; cases this
theorem Placed.fit1 {L : List Od} {o : Od} {T : List Td} {n e : Int} {L' : List Od} {last' : Int} (h : Placed L (lastOf L) o T n e L' last') (hk : Bk L (lastOf L)) (hf : L.length < 32 ∧ Fits L o) : e = 0 ∧ T = [] ∧ L' = L ++ [o] ∧ last' = lastOf (L ++ [o]) ∧ n = o.ct := by
  rcases h.fits hk with ⟨h1, h2, _, _, h3, h4, h5⟩ | ⟨_, h⟩
  · exact ⟨h1, h2, h3, h4, h5⟩
  · exact absurd hf h
theorem Placed.fitE {L : List Od} {last : Int} {o : Od} {T : List Td} {n e : Int} {L' : List Od} {last' : Int} (h : Placed L last o T n e L' last') (hf : ¬ (OkO o ∧ last < o.id ∧ L.length < 32)) : e = 1 ∨ e = 6 := by
  cases h with
  | bad h => exact .inl rfl
  | full h1 h2 h => exact .inr rfl
  | ok h1 h2 h T o1 L1 hp hl => exact absurd ⟨h1, h2, h⟩ hf
theorem Placed.fitT {L : List Od} {last : Int} {o : Od} {T : List Td} {n e : Int} {L' : List Od} {last' : Int} (h : Placed L last o T n e L' last') (hf : OkO o ∧ last < o.id ∧ L.length < 32) (hn : ¬ NoneMeets o L) : e = 0 ∧ 0 < T.length := by
  cases h with
  | bad h => exact absurd ⟨hf.1, hf.2.1⟩ h
  | full h1 h2 h => omega
  | ok h1 h2 h T o1 L1 hp hl =>
    refine ⟨rfl, ?_⟩
    cases hp with
    | done _ _ hd =>
      rcases hd with hd | hd
      · have := h1.ct; omega
      · exact absurd hd hn
    | step _ x _ T o' L' h0 hb _ => simp
theorem not_of {xs : List Od} {i : Nat} (hi : i < xs.length) (h : ¬ ((xs.take i).length < 32 ∧ Fits (xs.take i) xs[i])) : ¬ OfK xs := fun hk => h ⟨by rw [List.length_take]; have := hk.1; omega, hk.2 i hi hi⟩
theorem not_of' {xs : List Od} {i : Nat} (hi : i < xs.length) (h : ¬ Fits (xs.take i) xs[i]) : ¬ OfK xs := fun hk => h (hk.2 i hi hi)
end Go.Proofs.YtdlbiobjnohfbaaGreat
namespace Go.Proofs.YtdlbiobjnohfbaaGreat
open Go.RowKit
set_option linter.unusedVariables false
set_option linter.unusedSimpArgs false
set_option maxHeartbeats 20000000 in
set_option maxRecDepth 10000 in
theorem bkOf (B : Nat) (A : Option Addr) (c : Nat) (xs : List Od) (w : World) (hx : Cells w B A xs.length c 6 (flatO xs)) (hB : B ≤ w.heap.size) (hl : xs.length ≤ 20000) :
    Calls Tryz.prog 40 #[.slice A xs.length c] w fun e w' => Below w.heap.size w w' ∧ ((OfK xs ∧ ∃ (b : Nat) (v : Nat → Value), e = .returned (.tuple #[.pointer (some ⟨b, 0, none⟩), .int .i64 0]) ∧ BookAt lay0 w' b v xs (lastOf xs) ∧ (∀ k, Ft b v k → w.heap.size ≤ k)) ∨ (¬ OfK xs ∧ e = .returned (.tuple #[.pointer none, .int .i64 1]))) := by
  have HX := Lib.hid hx
  clear hx
  go_enter Tryz.func40, Tryz.ntmps40
  go_wp2_with (first
    | (go_at_call 82; go_loud (refine (newBook _).mono ?_; rintro e w1 ⟨rfl, hb1, hb⟩; have hs1 := hb.size; have HB1 := Lib.hid hb1; have HBL := Lib.hid hb; clear hb1 hb))
    | fail)
  have HF1 : Hid (∀ k, Ft w.heap.size (fun _ => .slice none 0 0) k → w.heap.size ≤ k) := Lib.hid (fun k hk => by
    rcases hk with e | ⟨i, _, e⟩
    · omega
    · cases e)
  go_loopw [13] (fun iv wr => ∃ (i : Nat) (v : Nat → Value), i ≤ xs.length ∧ iv = .int .i64 i ∧ BookAt lay0 wr w.heap.size v (xs.take i) (lastOf (xs.take i)) ∧ OfAt xs i ∧ (∀ k, Ft w.heap.size v k → w.heap.size ≤ k) ∧ Below w.heap.size w wr) (fun iv _ => xs.length - (intOf iv).toNat)
  case atStart => exact ⟨0, _, Nat.zero_le _, rfl, HB1.out, OfAt.zero xs, HF1.out, HBL.out⟩
  case round =>
    obtain ⟨i, v, hil, rfl, hBk, hOf, hF, hBw⟩ := hrel
    have HB := Lib.hid hBk
    have HO := Lib.hid hOf
    have HF := Lib.hid hF
    have HW := Lib.hid hBw
    have hsw := hBw.size
    by_cases hlt : i < xs.length
    · have q3 : (i : Int) < (xs.length : Int) := by omega
      obtain ⟨qb, qo, rfl, hqb', a0, a1, a2, a3, a4, a5⟩ := cells_orderAt HX.out hlt
      have hqb : qb < w.heap.size := by omega
      have a0 := bkeep hBw a0 hqb
      have a1 := bkeep hBw a1 hqb
      have a2 := bkeep hBw a2 hqb
      have a3 := bkeep hBw a3 hqb
      have a4 := bkeep hBw a4 hqb
      have a5 := bkeep hBw a5 hqb
      obtain ⟨o, ho⟩ : ∃ o, o = xs[i] := ⟨_, rfl⟩
      rw [← ho] at a0 a1 a2 a3 a4 a5
      have HOE := Lib.hid ho
      clear hBk hOf hF hBw ho
      by_cases hok : (xs.take i).length < 32 ∧ Fits (xs.take i) o
      · have HK := Lib.hid hok
        clear hok
        go_wp2_with (first
          | (go_at_call 43; go_loud (refine (place lay0 w.heap.size v _ _ o _ (HB.out.below (by ((repeat (first | (with_reducible exact Below.refl _ _) | (with_reducible assumption) | ((with_reducible refine b_set ?_ ?_); · (first | omega | (simp; done) | (simp; omega))) | ((with_reducible refine b_alloc ?_ ?_); · (first | omega | (simp; done) | (simp; omega))) | (with_reducible refine Below.drew ?_) | (with_reducible refine b_drewN ?_) | ((with_reducible refine b_call (by assumption) ?_ ?_); · (first | omega | (simp; done) | (simp; omega))))); done)))).mono ?_; rintro e w4 ⟨Td, n, e', L', last', v4, tv, rfl, hp, hb, ho, ha, ht, hf⟩; obtain ⟨rfl, rfl, rfl, rfl, rfl⟩ := hp.fit1 HB.out.bk HK.out; have HB4 := Lib.hid hb; have HT4 := Lib.hid ht; have HF4 := Lib.hid hf; have hs4 := ht.size; obtain ⟨At, kt, hvt, _, _, _⟩ := own_slice ho; subst hvt; clear ho hb ha hf hp ht))
          | fail)
        have e := take_succ' hlt
        rw [← HOE.out] at e
        refine ⟨⟨i + 1, v4, hlt, by go_num, by rw [e]; exact HB4.out, HO.out.step hlt (by rw [← HOE.out]; exact HK.out.2), fun k hk => ?_, (HW.out.trans (by ((repeat (first | (with_reducible exact Below.refl _ _) | (with_reducible assumption) | ((with_reducible refine b_set ?_ ?_); · (first | omega | (simp; done) | (simp; omega))) | ((with_reducible refine b_alloc ?_ ?_); · (first | omega | (simp; done) | (simp; omega))) | (with_reducible refine Below.drew ?_) | (with_reducible refine b_drewN ?_) | ((with_reducible refine b_call (by assumption) ?_ ?_); · (first | omega | (simp; done) | (simp; omega))))); done))).trans (HT4.out.below (by (first | omega | (simp; done) | (simp; omega))) (fun k hk => HF.out k hk))⟩, measI hlt⟩
        rcases HF4.out k hk with h | h
        · exact HF.out k h
        · simp at h; omega
      · have hno : ¬ OfK xs := not_of hlt (by rw [← HOE.out]; exact hok)
        have HNO := Lib.hid hno
        by_cases hE : OkO o ∧ lastOf (xs.take i) < o.id ∧ (xs.take i).length < 32
        · have hnm : ¬ NoneMeets o (xs.take i) := fun h => hok ⟨hE.2.2, hE.1, hE.2.1, h⟩
          have HE := Lib.hid hE
          have HNM := Lib.hid hnm
          clear hok hE hnm hno
          go_wp2_with (first
            | (go_at_call 43; go_loud (refine (place lay0 w.heap.size v _ _ o _ (HB.out.below (by ((repeat (first | (with_reducible exact Below.refl _ _) | (with_reducible assumption) | ((with_reducible refine b_set ?_ ?_); · (first | omega | (simp; done) | (simp; omega))) | ((with_reducible refine b_alloc ?_ ?_); · (first | omega | (simp; done) | (simp; omega))) | (with_reducible refine Below.drew ?_) | (with_reducible refine b_drewN ?_) | ((with_reducible refine b_call (by assumption) ?_ ?_); · (first | omega | (simp; done) | (simp; omega))))); done)))).mono ?_; rintro e w4 ⟨Td, n, e', L', last', v4, tv, rfl, hp, hb, ho, ha, ht, hf⟩; obtain ⟨rfl, hTp⟩ := hp.fitT HE.out HNM.out; have hTq : (0 : Int) < (Td.length : Int) := (by omega); have HT4 := Lib.hid ht; have hs4 := ht.size; have hTl := hp.len; obtain ⟨At, kt, hvt, _, _, _⟩ := own_slice ho; subst hvt; clear ho hb ha hf hp ht))
            | fail)
          refine bodyPost_ret (v := .tuple #[.pointer none, .int .i64 1]) (by simp [results, Tryz.results40, go_sem]) rfl ⟨(HW.out.trans (by ((repeat (first | (with_reducible exact Below.refl _ _) | (with_reducible assumption) | ((with_reducible refine b_set ?_ ?_); · (first | omega | (simp; done) | (simp; omega))) | ((with_reducible refine b_alloc ?_ ?_); · (first | omega | (simp; done) | (simp; omega))) | (with_reducible refine Below.drew ?_) | (with_reducible refine b_drewN ?_) | ((with_reducible refine b_call (by assumption) ?_ ?_); · (first | omega | (simp; done) | (simp; omega))))); done))).trans (HT4.out.below (by (first | omega | (simp; done) | (simp; omega))) (fun k hk => HF.out k hk)), .inr ⟨HNO.out, rfl⟩⟩
        · have HE := Lib.hid hE
          clear hok hE hno
          go_wp2_with (first
            | (go_at_call 43; go_loud (refine (place lay0 w.heap.size v _ _ o _ (HB.out.below (by ((repeat (first | (with_reducible exact Below.refl _ _) | (with_reducible assumption) | ((with_reducible refine b_set ?_ ?_); · (first | omega | (simp; done) | (simp; omega))) | ((with_reducible refine b_alloc ?_ ?_); · (first | omega | (simp; done) | (simp; omega))) | (with_reducible refine Below.drew ?_) | (with_reducible refine b_drewN ?_) | ((with_reducible refine b_call (by assumption) ?_ ?_); · (first | omega | (simp; done) | (simp; omega))))); done)))).mono ?_; rintro e w4 ⟨Td, n, e', L', last', v4, tv, rfl, hp, hb, ho, ha, ht, hf⟩; have hne : e' ≠ 0 := (by have := hp.fitE HE.out; omega); have HT4 := Lib.hid ht; have hs4 := ht.size; have hTl := hp.len; obtain ⟨At, kt, hvt, _, _, _⟩ := own_slice ho; subst hvt; clear ho hb ha hf hp ht))
            | fail)
          refine bodyPost_ret (v := .tuple #[.pointer none, .int .i64 1]) (by simp [results, Tryz.results40, go_sem]) rfl ⟨(HW.out.trans (by ((repeat (first | (with_reducible exact Below.refl _ _) | (with_reducible assumption) | ((with_reducible refine b_set ?_ ?_); · (first | omega | (simp; done) | (simp; omega))) | ((with_reducible refine b_alloc ?_ ?_); · (first | omega | (simp; done) | (simp; omega))) | (with_reducible refine Below.drew ?_) | (with_reducible refine b_drewN ?_) | ((with_reducible refine b_call (by assumption) ?_ ?_); · (first | omega | (simp; done) | (simp; omega))))); done))).trans (HT4.out.below (by (first | omega | (simp; done) | (simp; omega))) (fun k hk => HF.out k hk)), .inr ⟨HNO.out, rfl⟩⟩
    · obtain rfl : xs.length = i := by omega
      go_wp2_with fail
      have hb := HB.out
      rw [List.take_length] at hb
      by_cases h32 : xs.length ≤ 32
      · refine bodyPost_ret (v := .tuple #[.pointer (some ⟨w.heap.size, 0, none⟩), .int .i64 0]) (by simp [results, Tryz.results40, go_sem]) rfl ⟨HW.out, .inl ⟨⟨h32, HO.out⟩, _, v, rfl, hb, HF.out⟩⟩
      · have := hb.len; omega
end Go.Proofs.YtdlbiobjnohfbaaGreat
namespace Go.Proofs.YtdlbiobjnohfbaaGreat
open Go.RowKit Go.ChangeMaps Go.MapKept
set_option linter.unusedVariables false
set_option linter.unusedSimpArgs false
theorem keyOk_of {s : ByteArray} (h : 1 ≤ s.size ∧ s.size ≤ 16) : KeyOk s.data.toList := by
  have e : s.data.toList.length = s.size := Array.length_toList
  exact ⟨by omega, by omega⟩
/-- an order that may be, all of it but how much is left -/
structure OkR (o : Od) : Prop where
  who : 1 ≤ o.who.size ∧ o.who.size ≤ 16
  item : 1 ≤ o.item ∧ o.item ≤ 3
  ct : o.ct ≤ 1048576
  pr : 1 ≤ o.pr ∧ o.pr ≤ 1024
theorem OkO.r {o : Od} (h : OkO o) : OkR o := ⟨h.who, h.item, h.ct.2, h.pr⟩
theorem tradeP_ok {o x : Od} (ho : OkR o) (hx : OkO x) (hm : meetP o x = true) (h0 : 0 < o.ct) : TdOk (tradeP o x (mn o.ct x.ct)) := by
  have h1 := mn_le (a := o.ct) (b := x.ct)
  have h2 : 1 ≤ mn o.ct x.ct := mn_pos (by omega) hx.ct.1
  have h3 := ho.ct
  have h4 := ho.pr
  have h5 := hx.pr
  unfold tradeP
  unfold meetP at hm
  cases hb : o.buy with
  | true =>
    rw [hb] at hm
    simp at hm
    exact ⟨ho.item, by show 0 ≤ mn o.ct x.ct ∧ mn o.ct x.ct ≤ 1048576; omega, by show 0 ≤ x.pr ∧ x.pr ≤ o.pr; omega, by show o.pr ≤ 1024; omega, keyOk_of ho.who, keyOk_of hx.who⟩
  | false =>
    exact ⟨ho.item, by show 0 ≤ mn o.ct x.ct ∧ mn o.ct x.ct ≤ 1048576; omega, by show 0 ≤ x.pr ∧ x.pr ≤ x.pr; omega, by show x.pr ≤ 1024; omega, keyOk_of hx.who, keyOk_of ho.who⟩
theorem Places.tds {o : Od} {L : List Od} {T : List Td} {o1 : Od} {L1 : List Od} {last : Int} (h : Places o L T o1 L1) : OkR o → Bk L last → ∀ t ∈ T, TdOk t := by
  induction h with
  | done o L h => intro _ _ t ht; cases ht
  | step o x L T o' L' h0 hb h ih =>
    intro ho hk t ht
    have hx := hk.ok x hb.1
    have hm : meetP o x = true := by
      have := hb.2.1
      unfold meets at this
      simp only [Bool.and_eq_true] at this
      exact this.2
    have h2 : 1 ≤ mn o.ct x.ct := mn_pos (by omega) hx.ct.1
    rcases List.mem_cons.1 ht with rfl | ht
    · exact tradeP_ok ho hx hm h0
    · exact ih ⟨ho.who, ho.item, by show o.ct - mn o.ct x.ct ≤ 1048576; have := ho.ct; omega, ho.pr⟩ (hk.takeN hb.1 (by omega) (mn_le).2) t ht
/-- an order under another number -/
def Od.num (o : Od) (g : Int) : Od := ⟨g, o.who, o.buy, o.item, o.ct, o.pr⟩
theorem ofK_one (o : Od) : OfK [o] ↔ OkO o := by
  constructor
  · intro h
    exact (h.2 0 (by simp) (by simp)).1
  · intro h
    refine ⟨by simp, fun j hj hlt => ?_⟩
    simp at hlt
    subst hlt
    exact ⟨h, by show (0 : Int) < o.id; have := h.id; omega, fun y hy => by simp at hy⟩
theorem held_num (o : Od) (g : Int) : heldP (o.num g) = heldP o := rfl
theorem held_is {o : Od} (h : OkO o) : isI (heldP o) = true := by
  have hp := prod_ok (a := o.ct) (c := o.pr) (m := 1048576) (n := 1024) (by have := h.ct; omega) (by have := h.pr; omega)
  have hc := h.ct
  unfold heldP
  split
  · unfold isI; rw [isP_iff]; simp; omega
  · split
    · unfold isI; rw [isP_iff]; simp; omega
    · split
      · unfold isI; rw [isP_iff]; simp; omega
      · split
        · unfold isI; rw [isP_iff]; simp; omega
        · unfold isI; rw [isP_iff]; simp; omega
/-- block b is a vault: its purses, its orders, the last number that was laid, how many were given out -/
def VtAt (w : World) (b : Nat) (p : Value) (v : Nat → Value) (l : Pm) (L : List Od) (last gone : Int) : Prop :=
  ∃ S, VtH w b p v S l last gone ∧ RelS S L ∧ Bk L last ∧ L.length ≤ 32 ∧ last ≤ gone ∧ gone ≤ 1099511627776
theorem newVault (w : World) : Calls Tryz.prog 15 #[] w fun e w' => e = .returned (.pointer (some ⟨w.heap.size, 0, none⟩)) ∧ VtAt w' w.heap.size (.map none) (fun _ => .slice none 0 0) [] [] 0 0 ∧ Below w.heap.size w w' := by
  go_enter Tryz.func15, Tryz.ntmps15
  go_wp2_with fail
  go_ret
  exact ⟨rfl, ⟨fun _ => [], ⟨⟨Whl.new rfl, fun i hi => World.ownsRow_nil _ _ _ _, fun i hi e => (by cases e), fun i j hi hj hij x hx => (by cases hx)⟩, .inl ⟨rfl, rfl⟩, PmOk.nil, (by intro e; cases e), fun i hi x hx => (by cases hx)⟩, RelS.nil, Bk.nil, by simp, by omega, by omega⟩, (Below.refl _ _).alloc (Nat.le_refl _) _⟩
end Go.Proofs.YtdlbiobjnohfbaaGreat
