/- book: what a call leaves, in one word; known. -/
import Derived.Test.YtekelnkjigaofaaBqL
import Derived.Test.YtekelnkjigaofaaBqO
namespace Go.Proofs.Ytekelnkjigaofaa
open Go.RowKit
set_option linter.unusedVariables false
set_option linter.unusedSimpArgs false

/-- block b is the book of these orders -/
def BookAt (w : World) (b : Nat) (v : Nat → Value) (L : List Od) (last : Int) : Prop := ∃ S, BkH w b v S last ∧ RelS S L ∧ Bk L last ∧ L.length ≤ 32
theorem BookAt.keep {D : Nat → Prop} {w w' : World} {b : Nat} {v : Nat → Value} {L : List Od} {last : Int} (h : BookAt w b v L last) (ht : Touch D w w') (hD : ∀ x, Ft b v x → ¬ D x) : BookAt w' b v L last := by
  obtain ⟨S, h1, h2⟩ := h
  exact ⟨S, h1.keep ht hD, h2⟩
theorem BookAt.below {w w' : World} {b : Nat} {v : Nat → Value} {L : List Od} {last : Int} (h : BookAt w b v L last) (hb : Below w.heap.size w w') : BookAt w' b v L last := by
  obtain ⟨S, h1, h2⟩ := h
  exact ⟨S, h1.below hb, h2⟩
theorem BookAt.drew {w : World} {b : Nat} {v : Nat → Value} {L : List Od} {last : Int} (h : BookAt w b v L last) : BookAt w.drew b v L last := h.keep (D := fun _ => False) (Touch.refl _ _).drew' (fun _ _ h => h)
theorem BookAt.lows {w : World} {b : Nat} {v : Nat → Value} {L : List Od} {last : Int} (h : BookAt w b v L last) : ∀ x, Ft b v x → x < w.heap.size := by
  obtain ⟨S, h1, h2⟩ := h
  exact h1.lows
theorem BookAt.bk {w : World} {b : Nat} {v : Nat → Value} {L : List Od} {last : Int} (h : BookAt w b v L last) : Bk L last := by
  obtain ⟨S, _, _, h2, _⟩ := h
  exact h2
theorem BookAt.len {w : World} {b : Nat} {v : Nat → Value} {L : List Od} {last : Int} (h : BookAt w b v L last) : L.length ≤ 32 := by
  obtain ⟨S, _, _, _, h2⟩ := h
  exact h2
/-- what Place answers, and the book behind it -/
inductive Placed (L : List Od) (last : Int) (o : Od) : List Td → Int → Int → List Od → Int → Prop
  | bad (h : ¬ (OkO o ∧ last < o.id)) : Placed L last o [] 0 1 L last
  | full (h1 : OkO o) (h2 : last < o.id) (h : 32 ≤ L.length) : Placed L last o [] 0 6 L last
  | ok (h1 : OkO o) (h2 : last < o.id) (h : L.length < 32) (T : List Td) (o1 : Od) (L1 : List Od) (hp : Places o L T o1 L1) (hl : T.length ≤ 1048576) : Placed L last o T o1.ct 0 (laid o1 L1) o.id
theorem Placed.len {L : List Od} {last : Int} {o : Od} {T : List Td} {n e : Int} {L' : List Od} {last' : Int} (h : Placed L last o T n e L' last') : T.length ≤ 1048576 := by
  cases h with
  | bad => simp
  | full => simp
  | ok _ _ _ _ _ _ _ hl => exact hl
theorem Placed.bk {L : List Od} {last : Int} {o : Od} {T : List Td} {n e : Int} {L' : List Od} {last' : Int} (h : Placed L last o T n e L' last') (hk : Bk L last) (hl : L.length ≤ 32) : Bk L' last' ∧ L'.length ≤ 32 := by
  cases h with
  | bad => exact ⟨hk, hl⟩
  | full => exact ⟨hk, hl⟩
  | ok h1 h2 h _ o1 L1 hp _ =>
    obtain ⟨a1, a2, a3, a4, a5, a6, a7, a8, a9, a10⟩ := hp.bk hk
    refine ⟨a1.laid h1 h2 a2 a3 a5 a6 a7, ?_⟩
    unfold laid
    split
    · rw [List.length_append]; simp; omega
    · omega
theorem newBook (w : World) : Calls Try.prog 18 #[] w fun e w' => e = .returned (.pointer (some ⟨w.heap.size, 0, none⟩)) ∧ BookAt w' w.heap.size (fun _ => .slice none 0 0) [] 0 ∧ Below w.heap.size w w' := by
  refine (bkNew w).mono ?_
  rintro e w' ⟨rfl, rfl⟩
  exact ⟨rfl, ⟨fun _ => [], ⟨Whl.new rfl, fun i hi => World.ownsRow_nil _ _ _ _, fun i hi e => (by cases e), fun i j hi hj hij x hx => (by cases hx)⟩, RelS.nil, Bk.nil, by simp⟩, (Below.refl _ _).alloc (Nat.le_refl _) _⟩
theorem place (b : Nat) (v : Nat → Value) (L : List Od) (last : Int) (o : Od) (w : World) (h : BookAt w b v L last) :
    Calls Try.prog 16 #[.pointer (some ⟨b, 0, none⟩), odA o] w fun e w' => ∃ (T : List Td) (n c : Int) (L' : List Od) (last' : Int) (v' : Nat → Value) (tv : Value), e = .returned (.tuple #[tv, .int .i64 n, .int .i64 c]) ∧ Placed L last o T n c L' last' ∧ BookAt w' b v' L' last' ∧ w'.ownsRow w.heap.size 54 8 tv T.length (flatT T) ∧ (∀ x, tv.ownBlock = some x → ¬ Ft b v' x) ∧ Touch (Ft b v) w w' ∧ (∀ x, Ft b v' x → Ft b v x ∨ w.heap.size ≤ x) := by
  obtain ⟨S, h1, h2, h3, h4⟩ := h
  refine (bkPlace b v S last L o w h1 h2 h3 (by omega)).mono ?_
  rintro e w' (⟨h, rfl, hb⟩ | ⟨q1, q2, q3, rfl, hb⟩ | ⟨q1, q2, q3, T, o1, L1, v', S', tv, p1, p2, rfl, p3, p4, p5, p6, p7, p8⟩)
  · exact ⟨[], 0, 1, L, last, v, _, rfl, .bad h, ⟨S, h1.below hb, h2, h3, h4⟩, World.ownsRow_nil _ _ _ _, (fun x hx => (by cases hx)), (Touch.of_below hb).mono' (fun k hk hd => by omega), fun x hx => .inl hx⟩
  · exact ⟨[], 0, 6, L, last, v, _, rfl, .full q1 q2 q3, ⟨S, h1.below hb, h2, h3, h4⟩, World.ownsRow_nil _ _ _ _, (fun x hx => (by cases hx)), (Touch.of_below hb).mono' (fun k hk hd => by omega), fun x hx => .inl hx⟩
  · have hpl : Placed L last o T o1.ct 0 (laid o1 L1) o.id := .ok q1 q2 q3 T o1 L1 p1 p2
    have hbk := hpl.bk h3 h4
    exact ⟨T, o1.ct, 0, laid o1 L1, o.id, v', tv, rfl, hpl, ⟨S', p3, p4, hbk.1, hbk.2⟩, p5, p6, p7, p8⟩
theorem list (b : Nat) (v : Nat → Value) (L : List Od) (last : Int) (w : World) (h : BookAt w b v L last) :
    Calls Try.prog 12 #[.pointer (some ⟨b, 0, none⟩)] w fun e w' => ∃ u, e = .returned u ∧ w'.ownsRow w.heap.size 35 6 u L.length (flatO L) ∧ Below w.heap.size w w' := by
  obtain ⟨S, h1, h2, h3, h4⟩ := h
  exact bkList b v S last L w h1 h2 h3 (by omega)
theorem cancel (b : Nat) (v : Nat → Value) (L : List Od) (last id : Int) (w : World) (h : BookAt w b v L last) :
    Calls Try.prog 19 #[.pointer (some ⟨b, 0, none⟩), .int .i64 id] w fun e w' => ∃ (x : Od) (c : Int) (v' : Nat → Value), e = .returned (.tuple #[odA x, .int .i64 c]) ∧ ((x ∈ L ∧ x.id = id ∧ c = 0) ∨ ((∀ y ∈ L, y.id ≠ id) ∧ x = ⟨0, ⟨#[]⟩, false, 0, 0, 0⟩ ∧ c = 7)) ∧ BookAt w' b v' (goneO id L) last ∧ Touch (Ft b v) w w' ∧ (∀ x, Ft b v' x → Ft b v x) := by
  obtain ⟨S, h1, h2, h3, h4⟩ := h
  refine (bkCancel b v S last L id w h1 h2 h3 (by omega)).mono ?_
  rintro e w' (⟨x, hx, hid, v', S', rfl, q1, q2, q3, q4⟩ | ⟨hn, rfl, hb⟩)
  · exact ⟨x, 0, v', rfl, .inl ⟨hx, hid, rfl⟩, ⟨S', q1, q2, h3.gone id, Nat.le_trans (List.length_filter_le _ _) h4⟩, q3, q4⟩
  · have e : goneO id L = L := List.filter_eq_self.2 (fun y hy => decide_eq_true (hn y hy))
    rw [e]
    exact ⟨⟨0, ⟨#[]⟩, false, 0, 0, 0⟩, 7, v, rfl, .inr ⟨hn, rfl, rfl⟩, ⟨S, h1.below hb, h2, h3, h4⟩, (Touch.of_below hb).mono' (fun k hk hd => by omega), fun x hx => hx⟩
def kn1 : Od := ⟨1, ⟨#[97]⟩, false, 1, 3, 5⟩
def kn2 : Od := ⟨2, ⟨#[98]⟩, true, 1, 2, 7⟩
theorem kn1_placed {T : List Td} {n e : Int} {L' : List Od} {last' : Int} (h : Placed [] 0 kn1 T n e L' last') : L' = [kn1] ∧ last' = 1 := by
  have ok : OkO kn1 := ⟨by decide, by decide, by decide, by decide, by decide⟩
  cases h with
  | bad h => exact absurd ⟨ok, by decide⟩ h
  | full _ _ h => simp at h
  | ok _ _ _ _ o1 L1 hp _ =>
    obtain ⟨_, rfl, rfl⟩ := Places.det (Places.done kn1 [] (.inr (fun y hy => by cases hy))) Bk.nil hp
    exact ⟨by simp [laid, kn1], rfl⟩
theorem kn2_placed {T : List Td} {n e : Int} {L' : List Od} {last' : Int} (h : Placed [kn1] 1 kn2 T n e L' last') (hk : Bk [kn1] 1) : T = [tradeP kn2 kn1 2] ∧ n = 0 ∧ e = 0 := by
  have ok : OkO kn2 := ⟨by decide, by decide, by decide, by decide, by decide⟩
  cases h with
  | bad h => exact absurd ⟨ok, by decide⟩ h
  | full _ _ h => simp at h
  | ok _ _ _ _ o1 L1 hp _ =>
    have hm : mn kn2.ct kn1.ct = 2 := by decide
    have := Places.step kn2 kn1 [kn1] [] (less kn2 2) (takeN kn1 2 [kn1]) (by decide) ⟨by simp, by decide, fun y hy _ => by simp at hy; subst hy; exact Int.le_refl _⟩ (by rw [hm]; exact .done _ _ (.inl (by decide)))
    rw [hm] at this
    obtain ⟨rfl, rfl, _⟩ := Places.det this hk hp
    exact ⟨rfl, rfl, rfl⟩
set_option maxHeartbeats 2000000 in
set_option maxRecDepth 10000 in
theorem bkKnown (w : World) : Calls Try.prog 13 #[] w fun e w' => e = .returned (.bool true) ∧ Below w.heap.size w w' := by
  go_enter Try.func13, Try.ntmps13
  go_wp2_with (first
    | (go_at_call 16; have hgg := HB2; clear hgg; go_loud (refine (place w.heap.size _ [kn1] 1 kn2 _ HB2.out).mono ?_; rintro e w3 ⟨T, n, c, L', last', v', tv, rfl, hp, hb, ho, ha, ht, hf⟩; obtain ⟨rfl, rfl, rfl⟩ := kn2_placed hp HB2.out.bk; have HO := Lib.hid ho; have HT3 := Lib.hid ht; obtain ⟨gt, ct, rfl, _, _, _, _⟩ := own_form ho (by decide); have y0 := ho.cellAt 0 (by decide); have y1 := ho.cellAt 1 (by decide); have y2 := ho.cellAt 2 (by decide); have y3 := ho.cellAt 3 (by decide); have y4 := ho.cellAt 4 (by decide); have y5 := ho.cellAt 5 (by decide); have y6 := ho.cellAt 6 (by decide); have y7 := ho.cellAt 7 (by decide); simp only [flatT, tdV, tradeP, kn1, kn2, List.flatMap_cons, List.flatMap_nil, List.cons_append, List.nil_append, List.getElem?_cons_zero, List.getElem?_cons_succ, if_true] at y0 y1 y2 y3 y4 y5 y6 y7; clear ho hb ha hf hp ht))
    | (go_at_call 16; go_loud (refine (place w.heap.size _ [] 0 kn1 _ HB1.out).mono ?_; rintro e w2 ⟨T, n, c, L', last', v', tv, rfl, hp, hb, ho, ha, ht, hf⟩; obtain ⟨rfl, rfl⟩ := kn1_placed hp; have HB2 := Lib.hid hb; have HT2 := Lib.hid ht; have HF2 := Lib.hid hf; clear hb ho ha hf hp ht))
    | (go_at_call 18; refine (newBook _).mono ?_; rintro e w1 ⟨rfl, hb1, hb⟩; have HB1 := Lib.hid hb1; have HBL := Lib.hid hb; clear hb1 hb)
    | fail)
  go_ret
  have hz : ∀ x, Ft w.heap.size (fun _ => .slice none 0 0) x → w.heap.size ≤ x := fun x hx => by
    rcases hx with e | ⟨i, _, e⟩
    · omega
    · cases e
  refine ⟨rfl, (HBL.out.trans (HT2.out.below HBL.out.size hz)).trans (HT3.out.below (Nat.le_trans HBL.out.size HT2.out.size) (fun x hx => ?_))⟩
  rcases HF2.out x hx with h | h
  · exact hz x h
  · have := HBL.out.size; omega
end Go.Proofs.Ytekelnkjigaofaa
