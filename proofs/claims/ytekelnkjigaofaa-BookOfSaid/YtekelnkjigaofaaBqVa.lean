/- BookSums, pure: the counts of trades; the table of sums in memory. -/
import Derived.Test.YtekelnkjigaofaaBqU
namespace Go.Proofs.Ytekelnkjigaofaa
open Go.RowKit
set_option linter.unusedVariables false
set_option linter.unusedSimpArgs false

theorem Places.cts {o : Od} {L : List Od} {T : List Td} {o1 : Od} {L1 : List Od} {last : Int} (h : Places o L T o1 L1) : Bk L last → ∀ t ∈ T, 1 ≤ t.ct := by
  induction h with
  | done o L h => intro hb t ht; cases ht
  | step o x L T o' L' h0 hbst _ ih =>
    intro hb t ht
    have hm := mn_le (a := o.ct) (b := x.ct)
    have hp := mn_pos (show (1 : Int) ≤ o.ct by omega) (hb.ok x hbst.1).ct.1
    rcases List.mem_cons.1 ht with rfl | ht
    · have e4 : (tradeP o x (mn o.ct x.ct)).ct = mn o.ct x.ct := by unfold tradeP; split <;> rfl
      rw [e4]; exact hp
    · exact ih (hb.takeN hbst.1 (by omega) hm.2) t ht
theorem Placed.cts {L : List Od} {last : Int} {o : Od} {T : List Td} {n e : Int} {L' : List Od} {last' : Int} (h : Placed L last o T n e L' last') (hb : Bk L last) : ∀ t ∈ T, 1 ≤ t.ct := by
  cases h with
  | bad => intro t ht; cases ht
  | full => intro t ht; cases ht
  | ok _ _ _ _ _ _ hp _ => exact hp.cts hb
theorem suS_bound (b : Bool) (it : Int) : ∀ {L : List Od}, (∀ o ∈ L, OkO o) → 0 ≤ suS b it L ∧ suS b it L ≤ L.length * 1048576
  | [], _ => by simp [suS]
  | a :: r, h => by
    have h1 := h a (by simp)
    have h2 := suS_bound b it (fun o ho => h o (by simp [ho]) : ∀ o ∈ r, OkO o)
    have h3 := h1.ct
    have e : suS b it (a :: r) = oneS b it a + suS b it r := rfl
    rw [e, List.length_cons]
    unfold oneS
    split <;> omega
theorem stS_pos (it : Int) : ∀ {T : List Td}, (∀ t ∈ T, 1 ≤ t.ct) → 0 ≤ stS it T
  | [], _ => by simp [stS]
  | t :: r, h => by
    have h1 := h t (by simp)
    have h2 := stS_pos it (fun o ho => h o (by simp [ho]) : ∀ o ∈ r, 1 ≤ o.ct)
    show 0 ≤ (if t.item = it then t.ct else 0) + stS it r
    split <;> omega
theorem stS_drop (it : Int) {T : List Td} {p : Nat} (hp : p < T.length) : stS it (T.drop p) = (if T[p].item = it then T[p].ct else 0) + stS it (T.drop (p + 1)) := by
  rw [List.drop_eq_getElem_cons hp]; rfl
theorem stS_app (it : Int) : ∀ A B : List Td, stS it (A ++ B) = stS it A + stS it B
  | [], B => by simp [stS]
  | a :: r, B => by
    show (if a.item = it then a.ct else 0) + stS it (r ++ B) = (if a.item = it then a.ct else 0) + stS it r + stS it B
    rw [stS_app it r B]; omega
theorem stS_le (it : Int) {T : List Td} (h : ∀ t ∈ T, 1 ≤ t.ct) (p : Nat) : stS it (T.drop p) ≤ stS it T := by
  have e := stS_app it (T.take p) (T.drop p)
  rw [List.take_append_drop] at e
  have := stS_pos it (T := T.take p) (fun t ht => h t (List.mem_of_mem_take ht))
  omega
theorem suS_drop (b : Bool) (it : Int) {L : List Od} {p : Nat} (hp : p < L.length) : suS b it (L.drop p) = oneS b it L[p] + suS b it (L.drop (p + 1)) := by
  rw [List.drop_eq_getElem_cons hp]; rfl
/-- block g is the table of these sums: of each side four -/
def off (b : Bool) : Nat := if b then 4 else 0
structure NB (w : World) (g : Nat) (f : Bool → Int → Int) : Prop where
  cell : ∀ (b : Bool) (i : Nat), i < 4 → w.cell? ⟨g, off b + i, none⟩ = some (.int .i64 (f b i))
  free : ∀ k, w.frozen? ⟨g, k, none⟩ = false
  low : g < w.heap.size
theorem NB.congr {w : World} {g : Nat} {f f' : Bool → Int → Int} (h : NB w g f) (e : ∀ b (i : Nat), i < 4 → f b i = f' b i) : NB w g f' :=
  ⟨fun b i hi => by rw [← e b i hi]; exact h.cell b i hi, h.free, h.low⟩
theorem NB.keep {D : Nat → Prop} {w w' : World} {g : Nat} {f : Bool → Int → Int} (h : NB w g f) (ht : Touch D w w') (hD : ¬ D g) : NB w' g f :=
  ⟨fun b i hi => ht.cell (h.cell b i hi) hD, fun k => ht.frozen h.low (h.free k) hD, Nat.lt_of_lt_of_le h.low ht.size⟩
theorem NB.below {w w' : World} {g : Nat} {f : Bool → Int → Int} (h : NB w g f) (hb : Below w.heap.size w w') : NB w' g f := h.keep (Touch.of_below hb) (fun hd => by have := h.low; omega)
theorem NB.set {w : World} {g : Nat} {f : Bool → Int → Int} (h : NB w g f) (b : Bool) (i : Nat) (hi : i < 4) (z : Int) : NB (w.setCell ⟨g, off b + i, none⟩ (.int .i64 z)) g (fun c j => if c = b ∧ j = i then z else f c j) := by
  refine ⟨fun c j hj => ?_, fun k => ?_, by simpa [World.setCell] using h.low⟩
  · by_cases e : c = b ∧ (j : Int) = i
    · obtain ⟨rfl, e2⟩ := e
      obtain rfl : j = i := by omega
      rw [if_pos ⟨rfl, rfl⟩]
      exact World.cell?_setCell_same _ _ _ (h.cell c j hj)
    · rw [if_neg e, World.cell?_setCell_other]
      · exact h.cell c j hj
      · intro e2
        injection e2 with _ e3
        apply e
        unfold off at e3
        cases c <;> cases b <;> simp at e3 ⊢ <;> omega
  · rw [World.frozen?_setCell]; exact h.free k
theorem NB.zero {w : World} {t : TypeId} : NB (w.alloc (.cells #[.int .i64 0, .int .i64 0, .int .i64 0, .int .i64 0, .int .i64 0, .int .i64 0, .int .i64 0, .int .i64 0] t)) w.heap.size (fun b it => suS b it []) := by
  refine ⟨fun b i hi => ?_, fun k => World.frozen?_alloc_at _ _ _ k rfl, by simp⟩
  rw [World.cell?_alloc_at _ _ _ _ rfl]
  have : i = 0 ∨ i = 1 ∨ i = 2 ∨ i = 3 := by omega
  rcases this with rfl | rfl | rfl | rfl <;> cases b <;> rfl
/-- what the table holds while the trades are taken off -/
def lf (L : List Od) (T : List Td) (p : Nat) (b : Bool) (j : Int) : Int := suS b j L + stS j (T.drop p)
theorem lf_bound {L : List Od} {T : List Td} {p : Nat} {b : Bool} {j M : Int} (h : ∀ o ∈ L, OkO o) (hl : L.length ≤ 32) (hT : ∀ t ∈ T, 1 ≤ t.ct) (hM : stS j T ≤ M) : 0 ≤ lf L T p b j ∧ lf L T p b j ≤ 33554432 + M := by
  have h1 := suS_bound b j h
  have h2 := stS_pos j (T := T.drop p) (fun t ht => hT t (List.mem_of_mem_drop ht))
  have h3 := stS_le j hT p
  unfold lf
  omega
theorem lf_step {L : List Od} {T : List Td} {p : Nat} {b : Bool} {j it : Int} (hp : p < T.length) (hi : T[p].item = it) : lf L T (p + 1) b j = if j = it then lf L T p b j - T[p].ct else lf L T p b j := by
  unfold lf
  rw [stS_drop j hp, hi]
  by_cases e : it = j
  · rw [if_pos e, if_pos e.symm]; omega
  · rw [if_neg e, if_neg (fun h => e h.symm)]; omega
theorem lf_end (L : List Od) (T : List Td) (b : Bool) (j : Int) : lf L T T.length b j = suS b j L := by
  unfold lf; rw [List.drop_length]; show suS b j L + 0 = _; omega
theorem NB.begin {w : World} {g : Nat} {L L' : List Od} {T : List Td} {o : Od} {bb : Bool} {it : Nat} {oc : Int} (h : NB w g (fun c j => if c = bb ∧ j = (it : Int) then suS bb it L + oc else suS c j L)) (hb : o.buy = bb) (hit : (it : Int) = o.item) (hoc : oc = o.ct) (hs : ∀ b j, suS b j L + oneS b j o = suS b j L' + stS j T) : NB w g (lf L' T 0) := by
  refine h.congr (fun c j hj => ?_)
  have := hs c j
  unfold lf
  rw [List.drop_zero, ← this]
  unfold oneS
  rw [hb, ← hit, ← hoc]
  by_cases e : c = bb ∧ (j : Int) = it
  · obtain ⟨rfl, e⟩ := e
    rw [if_pos ⟨rfl, e⟩, if_pos ⟨rfl, e.symm⟩, e]
  · rw [if_neg e, if_neg (fun h => e ⟨h.1.symm, h.2.symm⟩)]; omega
theorem NB.next {w : World} {g : Nat} {L : List Od} {T : List Td} {p it : Nat} {F0 F1 : Int} (h : NB w g (fun c j => if c = true ∧ j = (it : Int) then F1 else if c = false ∧ j = (it : Int) then F0 else lf L T p c j)) (hp : p < T.length) (hi : T[p].item = it) (h0 : F0 = lf L T p false it - T[p].ct) (h1 : F1 = lf L T p true it - T[p].ct) : NB w g (lf L T (p + 1)) := by
  refine h.congr (fun c j hj => ?_)
  rw [lf_step hp hi]
  by_cases e : (j : Int) = it
  · cases c
    · rw [if_neg (by simp), if_pos ⟨rfl, e⟩, if_pos e, h0, e]
    · rw [if_pos ⟨rfl, e⟩, if_pos e, h1, e]
  · rw [if_neg (fun h => e h.2), if_neg (fun h => e h.2), if_neg e]
theorem NB.gone {w : World} {g : Nat} {L : List Od} {last : Int} {y : Od} {it : Nat} {F : Int} {bb : Bool} (h : NB w g (fun c j => if c = bb ∧ j = (it : Int) then F else suS c j L)) (hk : Bk L last) (hy : y ∈ L) (hb : y.buy = bb) (hit : (it : Int) = y.item) (hF : F = suS bb it L - y.ct) : NB w g (fun b j => suS b j (goneO y.id L)) := by
  refine h.congr (fun c j hj => ?_)
  show _ = suS c j (goneO y.id L)
  rw [gone_sums hk hy]
  unfold oneS
  rw [hb, ← hit]
  by_cases e : c = bb ∧ (j : Int) = it
  · obtain ⟨rfl, e⟩ := e
    rw [if_pos ⟨rfl, e⟩, if_pos ⟨rfl, e.symm⟩, hF, e]
  · rw [if_neg e, if_neg (fun h => e ⟨h.1.symm, h.2.symm⟩)]; omega
theorem NB.off {w : World} {g : Nat} {L : List Od} {q it : Nat} {F : Int} {bb : Bool} (h : NB w g (fun c j => if c = bb ∧ j = (it : Int) then F else suS c j (L.drop q))) (hq : q < L.length) (hb : L[q].buy = bb) (hit : (it : Int) = L[q].item) (hF : F = suS bb it (L.drop q) - L[q].ct) : NB w g (fun b j => suS b j (L.drop (q + 1))) := by
  refine h.congr (fun c j hj => ?_)
  have := suS_drop c j hq
  unfold oneS at this
  rw [hb, ← hit] at this
  by_cases e : c = bb ∧ (j : Int) = it
  · obtain ⟨rfl, e⟩ := e
    rw [if_pos ⟨rfl, e.symm⟩, e] at this
    rw [if_pos ⟨rfl, e⟩, hF]
    show _ = suS c j (L.drop (q + 1))
    rw [e]; omega
  · rw [if_neg (fun h => e ⟨h.1.symm, h.2.symm⟩)] at this
    rw [if_neg e]; omega
theorem suS_drop_bound (b : Bool) (it : Int) {L : List Od} (h : ∀ o ∈ L, OkO o) (hl : L.length ≤ 32) (q : Nat) : 0 ≤ suS b it (L.drop q) ∧ suS b it (L.drop q) ≤ 33554432 := by
  have h1 := suS_bound b it (L := L.drop q) (fun o ho => h o (List.mem_of_mem_drop ho))
  rw [List.length_drop] at h1
  omega
theorem canc_one {L : List Od} {last nn c : Int} (hk : Bk L last) {x y z : Od} (hy : y ∈ L) (hid : y.id = nn) (h : (x ∈ L ∧ x.id = nn ∧ c = 0) ∨ ((∀ y ∈ L, y.id ≠ nn) ∧ x = z ∧ c = 7)) : x = y ∧ c = 0 := by
  rcases h with ⟨h1, h2, h3⟩ | ⟨h1, _⟩
  · exact ⟨hk.ids.inj h1 hy (by rw [h2, hid]), h3⟩
  · exact absurd hid (h1 _ hy)
theorem canc_none {L : List Od} {nn c : Int} {x z : Od} (hn : ∀ y ∈ L, y.id ≠ nn) (h : (x ∈ L ∧ x.id = nn ∧ c = 0) ∨ ((∀ y ∈ L, y.id ≠ nn) ∧ x = z ∧ c = 7)) : x = z ∧ c = 7 := by
  rcases h with ⟨h1, h2, h3⟩ | ⟨_, h1, h2⟩
  · exact absurd h2 (hn _ h1)
  · exact ⟨h1, h2⟩
theorem zeros_eq (w : World) : Sem.run Try.prog (Op.equalIn 10000 50 (.agg #[.int .i64 0, .int .i64 0, .int .i64 0, .int .i64 0, .int .i64 0, .int .i64 0, .int .i64 0, .int .i64 0]) (.agg #[.int .i64 0, .int .i64 0, .int .i64 0, .int .i64 0, .int .i64 0, .int .i64 0, .int .i64 0, .int .i64 0])) w = .ok true w := by kernel_rfl
end Go.Proofs.Ytekelnkjigaofaa
