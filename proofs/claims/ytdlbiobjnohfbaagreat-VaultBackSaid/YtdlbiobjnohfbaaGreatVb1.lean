/- Words for all walks of this seat: cells and marks behind new blocks and behind a call, in a form that linear arithmetic decides. append(s, x...) onto a row of the call's own, whatever the source: nil, empty or not. Frames by touched blocks; append as one step. -/
import Derived.Test.YtdlbiobjnohfbaaGreatProg
import Derived.WalkSpells
import Derived.WalkLawsBesides
import Derived.BigQuiet
import Derived.Lib.Hide
import Derived.Deep.RegionHeld3
import Derived.Laws.AppendOwnNone
import Derived.Deep.AppendLies
namespace Go.Proofs.YtdlbiobjnohfbaaGreat
open Go.RowKit
set_option linter.unusedVariables false
set_option linter.unusedSimpArgs false
theorem ret_bool {a b : Bool} (h : a = b) : Ending.returned (.bool a) = .returned (.bool b) := by rw [h]
@[go_sem] theorem cell_alloc_ite (w : World) (c : Array Value) (t : TypeId) (n i : Nat) : (w.alloc (.cells c t)).cell? ⟨n, i, none⟩ = if n < w.heap.size then w.cell? ⟨n, i, none⟩ else if n = w.heap.size then c[i]? else none := by
 by_cases h : n < w.heap.size
 · rw [if_pos h]; exact World.cell?_alloc_past _ n i h
 ·
  rw [if_neg h]
  by_cases h2 : n = w.heap.size
  · rw [if_pos h2]; exact World.cell?_alloc_at c t n i h2
  ·
   rw [if_neg h2]
   simp only [World.cell?, World.alloc]
   rw [Array.getElem?_eq_none (by simp; omega)]
@[go_sem] theorem frozen_alloc_ite (w : World) (c : Array Value) (t : TypeId) (n i : Nat) : (w.alloc (.cells c t)).frozen? ⟨n, i, none⟩ = if n < w.heap.size then w.frozen? ⟨n, i, none⟩ else false := by
 by_cases h : n < w.heap.size
 · rw [if_pos h]; exact World.frozen?_alloc_past _ n i h
 ·
  rw [if_neg h]
  by_cases h2 : n = w.heap.size
  · exact World.frozen?_alloc_at c t n i h2
  ·
   simp only [World.frozen?, World.alloc]
   rw [Array.getElem?_eq_none (by simp; omega)]
def cellElse (w : World) (b o : Nat) : Option Value := w.cell? ⟨b, o, none⟩
def frozenElse (w : World) (b o : Nat) : Bool := w.frozen? ⟨b, o, none⟩
theorem bcell {B : Nat} {W w1 : World} (hb : Below B W w1) : (∀ b o, w1.cell? ⟨b, o, none⟩ = if b < B then W.cell? ⟨b, o, none⟩ else cellElse w1 b o) ∧ (∀ b o, w1.frozen? ⟨b, o, none⟩ = if b < B then W.frozen? ⟨b, o, none⟩ else frozenElse w1 b o) := by
 refine ⟨fun b o => ?_, fun b o => ?_⟩
 ·
  by_cases h : b < B
  · rw [if_pos h]; exact hb.cell (p := ⟨b, o, none⟩) h
  · rw [if_neg h]; rfl
 ·
  by_cases h : b < B
  · rw [if_pos h]; exact hb.frozen (p := ⟨b, o, none⟩) h
  · rw [if_neg h]; rfl
theorem bkeep {B : Nat} {W w1 : World} (hb : Below B W w1) {b o : Nat} {v : Value} (hv : W.cell? ⟨b, o, none⟩ = some v) (h : b < B) : w1.cell? ⟨b, o, none⟩ = some v := (hb.cell (p := ⟨b, o, none⟩) h).trans hv
theorem bfree {B : Nat} {W w1 : World} (hb : Below B W w1) {b o : Nat} {v : Bool} (hv : W.frozen? ⟨b, o, none⟩ = v) (h : b < B) : w1.frozen? ⟨b, o, none⟩ = v := (hb.frozen (p := ⟨b, o, none⟩) h).trans hv
def has (w : World) (b o : Nat) : Prop := ∃ v, w.cell? ⟨b, o, none⟩ = some v
theorem h_of {w : World} {b o : Nat} {v : Value} (h : w.cell? ⟨b, o, none⟩ = some v) : has w b o := ⟨v, h⟩
theorem h_set {w : World} {b o : Nat} {a : Addr} {v : Value} (h : has w b o) : has (w.setCell a v) b o := by
 obtain ⟨x, hx⟩ := h
 by_cases e : a = ⟨b, o, none⟩
 · subst e; exact ⟨v, World.cell?_setCell_same _ _ _ hx⟩
 · exact ⟨x, by rw [World.cell?_setCell_other _ _ _ _ e]; exact hx⟩
theorem h_alloc {w : World} {ob : Obj} {b o : Nat} (hlt : b < w.heap.size) (h : has w b o) : has (w.alloc ob) b o := by
 obtain ⟨x, hx⟩ := h
 exact ⟨x, by rw [World.cell?_alloc_lt w ob ⟨b, o, none⟩ hlt]; exact hx⟩
theorem h_new {w : World} {c : Array Value} {t : TypeId} {b o : Nat} (hb : b = w.heap.size) (h : o < c.size) : has (w.alloc (.cells c t)) b o :=
 ⟨c[o], by rw [World.cell?_alloc_at c t b o hb]; exact Array.getElem?_eq_getElem h⟩
theorem h_drew {w : World} {b o : Nat} (h : has w b o) : has w.drew b o := h
theorem h_keep {B : Nat} {W w1 : World} (hb : Below B W w1) {b o : Nat} (h : b < B) (hv : has W b o) : has w1 b o := hv.imp fun _ hv => bkeep hb hv h
theorem c_set_same {w : World} {b o : Nat} {v : Value} (h : has w b o) : (w.setCell ⟨b, o, none⟩ v).cell? ⟨b, o, none⟩ = some v := by
 obtain ⟨x, hx⟩ := h; exact World.cell?_setCell_same _ _ _ hx
theorem c_set_other {w : World} {b o b' o' : Nat} {v x : Value} (hne : b' ≠ b ∨ o' ≠ o) (h : w.cell? ⟨b, o, none⟩ = some x) : (w.setCell ⟨b', o', none⟩ v).cell? ⟨b, o, none⟩ = some x := by
 rw [World.cell?_setCell_other _ _ _ _ (by intro e; injection e; omega)]; exact h
theorem c_alloc {w : World} {ob : Obj} {b o : Nat} {x : Value} (hlt : b < w.heap.size) (h : w.cell? ⟨b, o, none⟩ = some x) : (w.alloc ob).cell? ⟨b, o, none⟩ = some x := by
 rw [World.cell?_alloc_lt w ob ⟨b, o, none⟩ hlt]; exact h
theorem c_new {w : World} {c : Array Value} {t : TypeId} {b o : Nat} {x : Value} (hb : b = w.heap.size) (h : c[o]? = some x) : (w.alloc (.cells c t)).cell? ⟨b, o, none⟩ = some x := by
 rw [World.cell?_alloc_at c t b o hb]; exact h
theorem c_drew {w : World} {a : Addr} {x : Value} (h : w.cell? a = some x) : w.drew.cell? a = some x := h
theorem f_set {w : World} {a : Addr} {b o : Nat} {v : Value} {x : Bool} (h : w.frozen? ⟨b, o, none⟩ = x) : (w.setCell a v).frozen? ⟨b, o, none⟩ = x := by rw [World.frozen?_setCell]; exact h
theorem f_alloc {w : World} {ob : Obj} {b o : Nat} {x : Bool} (hlt : b < w.heap.size) (h : w.frozen? ⟨b, o, none⟩ = x) : (w.alloc ob).frozen? ⟨b, o, none⟩ = x := by
 rw [World.frozen?_alloc_past ob b o hlt]; exact h
theorem f_new {w : World} {c : Array Value} {t : TypeId} {b o : Nat} (hb : b = w.heap.size) : (w.alloc (.cells c t)).frozen? ⟨b, o, none⟩ = false := World.frozen?_alloc_at c t b o hb
theorem f_drew {w : World} {a : Addr} {x : Bool} (h : w.frozen? a = x) : w.drew.frozen? a = x := h
theorem c_keep {B : Nat} {W w1 : World} (hb : Below B W w1) {b o : Nat} {v : Value} (h : b < B) (hv : W.cell? ⟨b, o, none⟩ = some v) : w1.cell? ⟨b, o, none⟩ = some v := bkeep hb hv h
theorem f_keep {B : Nat} {W w1 : World} (hb : Below B W w1) {b o : Nat} {v : Bool} (h : b < B) (hv : W.frozen? ⟨b, o, none⟩ = v) : w1.frozen? ⟨b, o, none⟩ = v := bfree hb hv h
theorem b_set {B : Nat} {a w : World} {p : Addr} {u : Value} (hp : B ≤ p.block) (h : Below B a w) : Below B a (w.setCell p u) := h.setCell hp u
theorem b_alloc {B : Nat} {a w : World} {o : Obj} (hB : B ≤ w.heap.size) (h : Below B a w) : Below B a (w.alloc o) := h.alloc hB o
theorem b_call {B B' : Nat} {a b c : World} (k : Below B' b c) (hB : B ≤ B') (h : Below B a b) : Below B a c := h.trans (k.mono hB)
theorem b_drewN {B n : Nat} {a w : World} (h : Below B a w) : Below B a (w.drewN n) := ⟨h.os, h.tape, h.output, h.size, h.block⟩
theorem c_drewN {w : World} {a : Addr} {n : Nat} {x : Value} (h : w.cell? a = some x) : (w.drewN n).cell? a = some x := h
theorem f_drewN {w : World} {a : Addr} {n : Nat} {x : Bool} (h : w.frozen? a = x) : (w.drewN n).frozen? a = x := h
theorem h_drewN {w : World} {b o n : Nat} (h : has w b o) : has (w.drewN n) b o := h
theorem add_none (b o j : Nat) : (⟨b, o, none⟩ : Addr).add j = ⟨b, o + j, none⟩ := by
 unfold Addr.add; split <;> simp_all
theorem own_form {w : World} {base e size n : Nat} {v : Value} {xs : List Value} (h : w.ownsRow base e size v n xs) (hn : 0 < n) : ∃ g cap, v = .slice (some ⟨g, 0, none⟩) n cap ∧ base ≤ g ∧ g < w.heap.size ∧ n ≤ cap ∧ cap ≤ maxLen := by
 rcases h.2 with ⟨_, h0⟩ | ⟨g, cap, cur, hv, hg, hh, hc, hm, _⟩
 · omega
 · exact ⟨g, cap, hv, hg, (Array.getElem?_eq_some_iff.1 hh).1, hc, hm⟩
theorem own_slice {w : World} {base e size n : Nat} {v : Value} {xs : List Value} (h : w.ownsRow base e size v n xs) : ∃ A cap, v = .slice A n cap ∧ (A = none → cap = 0) ∧ n ≤ cap ∧ cap ≤ maxLen := by
 rcases h.2 with ⟨hv, h0⟩ | ⟨g, cap, cur, hv, hg, hh, hc, hm, _⟩
 · subst h0; exact ⟨_, _, hv, fun _ => rfl, Nat.le_refl _, by unfold maxLen; omega⟩
 · exact ⟨_, _, hv, (fun e => by cases e), hc, hm⟩
def Cells (w : World) (B : Nat) (A : Option Addr) (m c : Nat) (size : Nat) (news : List Value) : Prop :=
 news.length = m * size ∧ (A = none → m = 0 ∧ c = 0) ∧ ∀ j u, news[j]? = some u → ∃ b o, A = some ⟨b, o, none⟩ ∧ b < B ∧ w.cell? ⟨b, o + j, none⟩ = some u
theorem cells_keep {w w1 : World} {B B' : Nat} {A : Option Addr} {m c size : Nat} {news : List Value} (h : Cells w B A m c size news) (hb : Below B w w1) (hB : B ≤ B') : Cells w1 B' A m c size news :=
 ⟨h.1, h.2.1, fun j u hu => by obtain ⟨b, o, e, hlt, hc⟩ := h.2.2 j u hu; exact ⟨b, o, e, by omega, bkeep hb hc hlt⟩⟩
theorem wpList_append_row {P : Program} {w : World} {ops : Array Oper} {rest : List Oper} {o : Oper} {a : Act} {Q : Exit → Act → World → Prop} (hgd : o.guard = none) (s x : Operand) (t : TypeId)
  (ho : o.op = .call { callee := .builtin .append, args := #[s, x], argTypes := #[t, t] })
  (base : Nat) (e : TypeId) (i : TypeInfo) (z : Value) (size bytes : Nat) (ht : P.underlying t = some (.slice e)) (hi : P.info? e = some i) (hz : i.zero = some z)
  (hsize : i.size = size) (hby : i.bytes = bytes) (hzs : z.cells.size = size) (hsz : 0 < size)
  (v : Value) (n : Nat) (xs : List Value) (hs : a.eval s = v) (hown : w.ownsRow base e size v n xs)
  (B : Nat) (A : Option Addr) (m c : Nat) (news : List Value) (hx : a.eval x = .slice A m c) (hr : Cells w B A m c size news) (h1 : ∀ u ∈ news, u.oneCell' = true)
  (h63 : n + m ≤ maxLen) (hbytes : (n + m) * bytes ≤ 140737488355328) (hbase : base ≤ w.heap.size)
  (h : ∀ v' w', w'.ownsRow base e size v' (n + m) (xs ++ news) → Below base w w' → wpList P ops Q rest (a.put o.dst v') w') : wpList P ops Q (o :: rest) a w := by
 have hlow : ∀ k, v.ownBlock = some k → base ≤ k := fun k hk => (hown.lt k hk).1
 cases A with
 | none =>
  obtain ⟨rfl, rfl⟩ := hr.2.1 rfl
  have hn : news = [] := List.eq_nil_of_length_eq_zero (by simpa using hr.1)
  subst hn
  refine wpList_append_own_none hgd s x t ho base e i size ht hi v n xs hs hown hx (h v w (by simpa using hown) (Below.refl _ _))
 | some ad =>
  refine wpList_append_own w hgd s x t ho base e i z size bytes ht hi hz hsize hby hzs hsz v n xs hs hown ad m c news hx hr.1 (fun j u hu => ?_) h1 h63 hbytes hbase (fun v' w' h2 h3 _ => h v' w' h2 ((Below.refl base w).grown h3 hbase hlow))
  obtain ⟨b, o, e, _, hc⟩ := hr.2.2 j u hu
  injection e with e
  subst e
  rw [add_none]; exact hc
theorem owns_lit0 {w : World} {base e size n : Nat} (hn : n = w.heap.size) (hb : base ≤ w.heap.size) : (w.alloc (.cells #[] e)).ownsRow base e size (.slice (some ⟨n, 0, none⟩) 0 0) 0 [] := by
 subst hn
 exact World.ownsRow_lit w #[] 0 hb (by unfold maxLen; omega) (by simp)
structure Touch (D : Nat → Prop) (w w' : World) : Prop where
 os : w'.os = w.os
 tape : w'.tape = w.tape
 output : w'.output = w.output
 size : w.heap.size ≤ w'.heap.size
 block : ∀ k, k < w.heap.size → ¬ D k → w'.heap[k]? = w.heap[k]?
theorem Touch.of_below {B : Nat} {w w' : World} (h : Below B w w') : Touch (B ≤ ·) w w' := ⟨h.os, h.tape, h.output, h.size, fun k _ hk => h.block k (by omega)⟩
theorem Touch.below {D : Nat → Prop} {w w' : World} (h : Touch D w w') {B : Nat} (hB : B ≤ w.heap.size) (hD : ∀ k, D k → B ≤ k) : Below B w w' := ⟨h.os, h.tape, h.output, h.size, fun k hk => h.block k (by omega) (fun hd => by have := hD k hd; omega)⟩
theorem Touch.cell {D : Nat → Prop} {w w' : World} (h : Touch D w w') {b o : Nat} {v : Value} (hv : w.cell? ⟨b, o, none⟩ = some v) (hD : ¬ D b) : w'.cell? ⟨b, o, none⟩ = some v :=
 (World.cell?_of_block (h.block b (World.block_lt_of_cell? w ⟨b, o, none⟩ hv) hD)).trans hv
theorem Touch.frozen {D : Nat → Prop} {w w' : World} (h : Touch D w w') {b o : Nat} {x : Bool} (hb : b < w.heap.size) (hv : w.frozen? ⟨b, o, none⟩ = x) (hD : ¬ D b) : w'.frozen? ⟨b, o, none⟩ = x :=
 (World.frozen?_of_block (h.block b hb hD)).trans hv
theorem Touch.own {D : Nat → Prop} {w w' : World} (h : Touch D w w') {base e size n : Nat} {v : Value} {xs : List Value} (ho : w.ownsRow base e size v n xs) (hD : ∀ g, v.ownBlock = some g → ¬ D g) : w'.ownsRow base e size v n xs := by
 refine ⟨ho.1, ?_⟩
 rcases ho.2 with h0 | ⟨g, cap, cur, hv, hg, hh, hr⟩
 · exact .inl h0
 · exact .inr ⟨g, cap, cur, hv, hg, by rw [h.block g (Array.getElem?_eq_some_iff.1 hh).1 (hD g (by rw [hv]; rfl))]; exact hh, hr⟩
theorem Touch.cells {D : Nat → Prop} {w w' : World} (h : Touch D w w') {B : Nat} {A : Option Addr} {m c size : Nat} {news : List Value} (hx : Cells w B A m c size news) (hD : ∀ a, A = some a → ¬ D a.block) : Cells w' B A m c size news :=
 ⟨hx.1, hx.2.1, fun j u hu => by obtain ⟨b, o, e, hb, hc⟩ := hx.2.2 j u hu; exact ⟨b, o, e, hb, h.cell hc (hD _ e)⟩⟩
theorem Touch.mono {D D' : Nat → Prop} {w w' : World} (h : Touch D w w') (hD : ∀ k, D k → D' k) : Touch D' w w' := ⟨h.os, h.tape, h.output, h.size, fun k hk hn => h.block k hk (fun hd => hn (hD k hd))⟩
theorem Touch.refl (D : Nat → Prop) (w : World) : Touch D w w := ⟨rfl, rfl, rfl, Nat.le_refl _, fun _ _ _ => rfl⟩
theorem Touch.drewN {D : Nat → Prop} {w w' : World} (h : Touch D w w') (n : Nat) : Touch D w (w'.drewN n) := ⟨h.os, h.tape, h.output, h.size, h.block⟩
theorem Touch.trans {D D' : Nat → Prop} {a b c : World} (h : Touch D a b) (k : Touch D' b c) (hD : ∀ n, n < a.heap.size → D' n → D n) : Touch D a c :=
 ⟨k.os.trans h.os, k.tape.trans h.tape, k.output.trans h.output, Nat.le_trans h.size k.size, fun i hi hn => (k.block i (Nat.lt_of_lt_of_le hi h.size) (fun hd => hn (hD i hi hd))).trans (h.block i hi hn)⟩
theorem Touch.of_grown {w w' : World} {row : Option Nat} (h : w.grownBy w' row) : Touch (fun k => row = some k) w w' := ⟨h.os, h.tape, h.output, h.size, fun k hk hn => h.block k hk (fun e => hn e.symm)⟩
theorem Touch.set {D : Nat → Prop} {w w' : World} (h : Touch D w w') {a : Addr} {v : Value} (ha : a.block < w.heap.size → D a.block) : Touch D w (w'.setCell a v) :=
 ⟨h.os, h.tape, h.output, by simpa [World.setCell] using h.size, fun k hk hn => (Below.heap_setCell _ _ _ _ (fun e => hn (by subst e; exact ha hk))).trans (h.block k hk hn)⟩
theorem Touch.alloc {D : Nat → Prop} {w w' : World} (h : Touch D w w') (o : Obj) : Touch D w (w'.alloc o) :=
 ⟨h.os, h.tape, h.output, Nat.le_trans h.size (by simp), fun k hk hn => (Below.heap_alloc _ _ _ (Nat.lt_of_lt_of_le hk h.size)).trans (h.block k hk hn)⟩
theorem own_set_ne {w : World} {base e size n : Nat} {v : Value} {xs : List Value} (h : w.ownsRow base e size v n xs) {a : Addr} {u : Value} (ha : ∀ g, v.ownBlock = some g → g ≠ a.block) : (w.setCell a u).ownsRow base e size v n xs :=
 Touch.own (D := fun k => k = a.block) ((Touch.refl _ w).set (fun _ => rfl)) h ha
theorem wpList_append_touch {P : Program} {w : World} {ops : Array Oper} {rest : List Oper} {o : Oper} {a : Act} {Q : Exit → Act → World → Prop} (hgd : o.guard = none) (s x : Operand) (t : TypeId)
  (ho : o.op = .call { callee := .builtin .append, args := #[s, x], argTypes := #[t, t] })
  (base : Nat) (e : TypeId) (i : TypeInfo) (z : Value) (size bytes : Nat) (ht : P.underlying t = some (.slice e)) (hi : P.info? e = some i) (hz : i.zero = some z)
  (hsize : i.size = size) (hby : i.bytes = bytes) (hzs : z.cells.size = size) (hsz : 0 < size)
  (v : Value) (n : Nat) (xs : List Value) (hs : a.eval s = v) (hown : w.ownsRow base e size v n xs)
  (B : Nat) (A : Option Addr) (m c : Nat) (news : List Value) (hx : a.eval x = .slice A m c) (hr : Cells w B A m c size news) (h1 : ∀ u ∈ news, u.oneCell' = true)
  (h63 : n + m ≤ maxLen) (hbytes : (n + m) * bytes ≤ 140737488355328) (hbase : base ≤ w.heap.size)
  (h : ∀ v' w', w'.ownsRow base e size v' (n + m) (xs ++ news) → Touch (fun k => v.ownBlock = some k) w w' → (v'.ownBlock = v.ownBlock ∨ v'.ownBlock = some w.heap.size) → wpList P ops Q rest (a.put o.dst v') w') : wpList P ops Q (o :: rest) a w := by
 cases A with
 | none =>
  obtain ⟨rfl, rfl⟩ := hr.2.1 rfl
  have hn : news = [] := List.eq_nil_of_length_eq_zero (by simpa using hr.1)
  subst hn
  refine wpList_append_own_none hgd s x t ho base e i size ht hi v n xs hs hown hx (h v w (by simpa using hown) (Touch.refl _ _) (.inl rfl))
 | some ad =>
  refine wpList_append_own_at w hgd s x t ho base e i z size bytes ht hi hz hsize hby hzs hsz v n xs hs hown ad m c news hx hr.1 (fun j u hu => ?_) h1 h63 hbytes hbase (fun v' w' h2 h3 _ h5 => h v' w' h2 (Touch.of_grown h3) h5)
  obtain ⟨b, o, e, _, hc⟩ := hr.2.2 j u hu
  injection e with e
  subst e
  rw [add_none]; exact hc
theorem Touch.of_drew (D : Nat → Prop) (w : World) : Touch D w w.drew := ⟨rfl, rfl, rfl, Nat.le_refl _, fun _ _ _ => rfl⟩
theorem run_append_nothing {P : Program} (w : World) (base : Nat) (t ty e : TypeId) (i : TypeInfo) (size : Nat) (ht : P.underlying t = some (.slice e)) (hi : P.info? e = some i)
  (v : Value) (n : Nat) (xs : List Value) (hown : w.ownsRow base e size v n xs) (c : Nat) : (Builtin.append_ #[t, t] ty #[v, .slice none 0 c]).run P w = .ok v w := by
 rcases hown.2 with ⟨rfl, rfl⟩ | ⟨g, cap, cur, rfl, _, _, hnc, _⟩
 · simp [Builtin.append_, run_underlying ht, sizeOf, typeInfo, hi, Builtin.lenOf, Builtin.firstCells]
 · simp [Builtin.append_, run_underlying ht, sizeOf, typeInfo, hi, Builtin.lenOf, Builtin.firstCells, hnc, storeCells]
theorem step_append_cells {P : Program} {w : World} {ops : Array Oper} {o : Oper} {a : Act} {K : Act → World → Prop} {Q : Exit → Act → World → Prop} {E : Prop} (hgd : o.guard = none) (s x : Operand) (t : TypeId)
  (ho : o.op = .call { callee := .builtin .append, args := #[s, x], argTypes := #[t, t] })
  (base : Nat) (e : TypeId) (i : TypeInfo) (z : Value) (size bytes : Nat) (ht : P.underlying t = some (.slice e)) (hi : P.info? e = some i) (hz : i.zero = some z)
  (hsize : i.size = size) (hby : i.bytes = bytes) (hzs : z.cells.size = size) (hsz : 0 < size)
  (v : Value) (n : Nat) (xs : List Value) (hs : a.eval s = v) (hown : w.ownsRow base e size v n xs)
  (B : Nat) (A : Option Addr) (m c : Nat) (news : List Value) (hx : a.eval x = .slice A m c) (hr : Cells w B A m c size news) (h1 : ∀ u ∈ news, u.oneCell' = true)
  (h63 : n + m ≤ maxLen) (hbytes : (n + m) * bytes ≤ 140737488355328) (hbase : base ≤ w.heap.size)
  (h : ∀ v' w', w'.ownsRow base e size v' (n + m) (xs ++ news) → Touch (fun k => v.ownBlock = some k) w w' → (v'.ownBlock = v.ownBlock ∨ v'.ownBlock = some w.heap.size) → K (a.put o.dst v') w') :
  if Region.wanted o (yielded ops a.tmps) = true then Oper.wp P o a w K Q else E := by
 have hw : Region.wanted o (yielded ops a.tmps) = true := by simp [Region.wanted, hgd]
 rw [if_pos hw]
 have key : ∃ v' w', (Builtin.append_ #[t, t] o.type #[v, .slice A m c]).run P w = .ok v' w' ∧ w'.ownsRow base e size v' (n + m) (xs ++ news) ∧ Touch (fun k => v.ownBlock = some k) w w' ∧ (v'.ownBlock = v.ownBlock ∨ v'.ownBlock = some w.heap.size) := by
  cases A with
  | none =>
   obtain ⟨rfl, rfl⟩ := hr.2.1 rfl
   have hn : news = [] := List.eq_nil_of_length_eq_zero (by simpa using hr.1)
   subst hn
   exact ⟨v, w, run_append_nothing w base t o.type e i size ht hi v n xs hown 0, by simpa using hown, Touch.refl _ _, .inl rfl⟩
  | some ad =>
   obtain ⟨v', w', hrun, h2, h3, _, h5⟩ := run_append_own_at (P := P) w base t o.type e i z size bytes ht hi hz hsize hby hzs hsz v n xs hown ad m c news hr.1 (fun j u hu => by
    obtain ⟨b, q, e, _, hc⟩ := hr.2.2 j u hu
    injection e with e
    subst e
    rw [add_none]; exact hc) h1 h63 hbytes hbase
   exact ⟨v', w', hrun, h2, Touch.of_grown h3, h5⟩
 obtain ⟨v', w', hrun, h2, h3, h5⟩ := key
 unfold Oper.wp
 simp [execOp, ho, resolve, invoke, builtin, hs, hx, hrun, Result.andThen]
 exact h v' w' h2 h3 h5
def Whl (w : World) (g : Nat) (t : TypeId) (cs : Array Value) : Prop := w.heap[g]? = some (.cells cs t (0, 0))
theorem Whl.low {w : World} {g : Nat} {t : TypeId} {cs : Array Value} (h : Whl w g t cs) : g < w.heap.size := (Array.getElem?_eq_some_iff.1 h).1
theorem Whl.cell {w : World} {g : Nat} {t : TypeId} {cs : Array Value} (h : Whl w g t cs) (i : Nat) : w.cell? ⟨g, i, none⟩ = cs[i]? := cell_of_row w g i cs t (0, 0) h
theorem Whl.free {w : World} {g : Nat} {t : TypeId} {cs : Array Value} (h : Whl w g t cs) (i : Nat) : w.frozen? ⟨g, i, none⟩ = false := by
 unfold Whl at h
 simp [World.frozen?, h]
theorem Whl.below {w w' : World} {g B : Nat} {t : TypeId} {cs : Array Value} (h : Whl w g t cs) (hb : Below B w w') (hB : g < B) : Whl w' g t cs := (hb.block g hB).trans h
theorem Whl.set {w : World} {g : Nat} {t : TypeId} {cs : Array Value} (h : Whl w g t cs) (i : Nat) (v : Value) : Whl (w.setCell ⟨g, i, none⟩ v) g t (cs.setIfInBounds i v) := by
 unfold Whl at *
 simp [World.setCell, Array.getElem?_modify, h]
theorem Whl.far {w : World} {g : Nat} {t : TypeId} {cs : Array Value} (h : Whl w g t cs) {a : Addr} {v : Value} (ha : g ≠ a.block) : Whl (w.setCell a v) g t cs := (Below.heap_setCell w a v g ha).trans h
theorem Whl.new {w : World} {t : TypeId} {cs : Array Value} {n : Nat} (hn : n = w.heap.size) : Whl (w.alloc (.cells cs t)) n t cs := by subst hn; exact heap_alloc_new w _
theorem Whl.alloc {w : World} {g : Nat} {t : TypeId} {cs : Array Value} (h : Whl w g t cs) (o : Obj) : Whl (w.alloc o) g t cs := (Below.heap_alloc w o g h.low).trans h
theorem Whl.drew {w : World} {g : Nat} {t : TypeId} {cs : Array Value} (h : Whl w g t cs) : Whl w.drew g t cs := h
end Go.Proofs.YtdlbiobjnohfbaaGreat
