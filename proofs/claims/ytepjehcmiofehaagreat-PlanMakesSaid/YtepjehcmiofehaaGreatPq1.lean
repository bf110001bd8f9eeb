/- The directory, pure: zones, changes, what a change does. append(s, x...) onto a row of the call's own, whatever the source: nil, empty or not. Frames by touched blocks; append as one step. -/
import Derived.Laws.AppendOwnNone
import Derived.Deep.AppendLies
import Derived.Maps.AppendAt
import Derived.Laws.Rows
import Derived.Test.YtepjehcmiofehaaGreatPq0
namespace Go.Proofs.YtepjehcmiofehaaGreat
set_option linter.unusedVariables false
set_option linter.unusedSimpArgs false
structure Zn where
  id : Int
  fr : ByteArray
  tt : ByteArray
  ow : Int
  ep : Int
  pd : Int
  mv : Int
  ky : ByteArray
  nw : Int
def znV (z : Zn) : List Value := [.int .i64 z.id, .string z.fr, .string z.tt, .int .i64 z.ow, .int .i64 z.ep, .int .i64 z.pd, .int .i64 z.mv, .string z.ky, .int .i64 z.nw]
def flatZ (l : List Zn) : List Value := l.flatMap znV
structure Ch where
  kd : Int
  zo : Int
  ep : Int
  mv : Int
  ky : ByteArray
structure Mp where
  ver : Int
  nxt : Int
  zs : List Zn
/-- may a change be? -/
structure OkCh (c : Ch) : Prop where
  zo : 1 ≤ c.zo ∧ c.zo ≤ 1099511627776
  kd : 1 ≤ c.kd ∧ c.kd ≤ 5
  ky : (c.kd = 1 → 1 ≤ c.ky.size ∧ c.ky.size ≤ 16) ∧ (c.kd ≠ 1 → c.ky.size = 0)
  mv : (c.kd = 3 → 1 ≤ c.mv ∧ c.mv ≤ 1048576) ∧ (c.kd ≠ 3 → c.mv = 0)
  ep : (c.kd = 4 ∨ c.kd = 5 → 1 ≤ c.ep ∧ c.ep ≤ 1099511627776) ∧ (c.kd ≠ 4 → c.kd ≠ 5 → c.ep = 0)
def pendN (k : Int) (l : List Zn) : Nat := (l.filter fun z => decide (z.pd = k)).length
def topN : Int := 1099511627776
/-- nothing is under way with it any more -/
def settled (z : Zn) (e : Int) : Zn := ⟨z.id, z.fr, z.tt, z.ow, e, 0, 0, ⟨#[]⟩, 0⟩
/-- what a change does to the zone at a place -/
inductive Deed (hosts : List Int) (m : Mp) (c : Ch) (i : Nat) (h : i < m.zs.length) : Mp → Prop
  | split (k : c.kd = 1) (p : m.zs[i].pd = 0) (q : cutB m.zs[i].fr m.zs[i].tt c.ky = true) (n : (m.zs.length : Int) + pendN 1 m.zs < 16) (x : m.nxt < topN) :
      Deed hosts m c i h ⟨m.ver, m.nxt + 1, m.zs.set i { m.zs[i] with pd := 1, ky := c.ky, nw := m.nxt }⟩
  | merge (k : c.kd = 2) (h2 : i + 1 < m.zs.length) (p : m.zs[i].pd = 0) (q : m.zs[i + 1].pd = 0) (o : m.zs[i].ow = m.zs[i + 1].ow) :
      Deed hosts m c i h ⟨m.ver, m.nxt, (m.zs.set i { m.zs[i] with pd := 2, nw := m.zs[i + 1].id }).set (i + 1) { m.zs[i + 1] with pd := 2, nw := m.zs[i].id }⟩
  | move (k : c.kd = 3) (p : m.zs[i].pd = 0) (q : c.mv ∈ hosts) (o : c.mv ≠ m.zs[i].ow) (n : (pendN 3 m.zs : Int) < 2) :
      Deed hosts m c i h ⟨m.ver, m.nxt, m.zs.set i { m.zs[i] with pd := 3, mv := c.mv }⟩
  | splitDone (k : c.kd = 4) (p : m.zs[i].pd = 1) (e : m.zs[i].ep = c.ep) (q : cutB m.zs[i].fr m.zs[i].tt m.zs[i].ky = true) (x : m.zs[i].ep < topN) :
      Deed hosts m c i h ⟨m.ver, m.nxt, m.zs.take i ++ settled { m.zs[i] with tt := m.zs[i].ky } (m.zs[i].ep + 1) :: ⟨m.zs[i].nw, m.zs[i].ky, m.zs[i].tt, m.zs[i].ow, m.zs[i].ep + 1, 0, 0, ⟨#[]⟩, 0⟩ :: m.zs.drop (i + 1)⟩
  | mergeDone (k : c.kd = 4) (p : m.zs[i].pd = 2) (e : m.zs[i].ep = c.ep) (h2 : i + 1 < m.zs.length) (o : m.zs[i + 1].id = m.zs[i].nw) (q : joinB m.zs[i].fr m.zs[i].tt m.zs[i + 1].fr m.zs[i + 1].tt = true) (x : max m.zs[i].ep m.zs[i + 1].ep < topN) :
      Deed hosts m c i h ⟨m.ver, m.nxt, m.zs.take i ++ settled { m.zs[i] with tt := m.zs[i + 1].tt } (max m.zs[i].ep m.zs[i + 1].ep + 1) :: m.zs.drop (i + 2)⟩
  | moveDone (k : c.kd = 4) (p : m.zs[i].pd ≠ 0) (p1 : m.zs[i].pd ≠ 1) (p2 : m.zs[i].pd ≠ 2) (e : m.zs[i].ep = c.ep) (x : m.zs[i].ep < topN) :
      Deed hosts m c i h ⟨m.ver, m.nxt, m.zs.set i (settled { m.zs[i] with ow := m.zs[i].mv } (m.zs[i].ep + 1))⟩
  | abort (k : c.kd = 5) (p : m.zs[i].pd = 3) (e : m.zs[i].ep = c.ep) (x : m.zs[i].ep < topN) :
      Deed hosts m c i h ⟨m.ver, m.nxt, m.zs.set i (settled m.zs[i] (m.zs[i].ep + 1))⟩
/-- a change applies -/
structure Applies (hosts : List Int) (m : Mp) (c : Ch) (m' : Mp) : Prop where
  ok : OkCh c
  ver : m.ver < topN
  deed : ∃ (i : Nat) (h : i < m.zs.length), m.zs[i].id = c.zo ∧ (∀ j (hj : j < m.zs.length), j < i → m.zs[j].id ≠ c.zo) ∧ ∃ m1, Deed hosts m c i h m1 ∧ m' = ⟨m1.ver + 1, m1.nxt, m1.zs⟩
/-- the IDs of zones, and those that are kept for the splits that are under way -/
def idsZ (z : Zn) : List Int := z.id :: if z.pd = 1 then [z.nw] else []
def idsA (l : List Zn) : List Int := l.flatMap idsZ
structure InvZ (m : Mp) : Prop where
  nodup : (idsA m.zs).Nodup
  low : ∀ a ∈ idsA m.zs, a < m.nxt
theorem idsA_cons (a : Zn) (r : List Zn) : idsA (a :: r) = idsZ a ++ idsA r := rfl
theorem idsA_app (l r : List Zn) : idsA (l ++ r) = idsA l ++ idsA r := by simp [idsA]
theorem id_mem {z : Zn} {l : List Zn} (h : z ∈ l) : z.id ∈ idsA l := List.mem_flatMap.2 ⟨z, h, by simp [idsZ]⟩
theorem nw_mem {z : Zn} {l : List Zn} (h : z ∈ l) (hp : z.pd = 1) : z.nw ∈ idsA l := List.mem_flatMap.2 ⟨z, h, by simp [idsZ, hp]⟩
theorem idsA_new : ∀ {l : List Zn}, (idsA l).Nodup → ∀ {z y : Zn}, z ∈ l → z.pd = 1 → y ∈ l → y.id ≠ z.nw
  | [], _, _, _, hx, _, _ => by cases hx
  | a :: r, h, z, y, hz, hp, hy => by
    rw [idsA_cons, List.nodup_append] at h
    obtain ⟨h1, h2, h3⟩ := h
    rcases List.mem_cons.1 hz with e1 | hz2
    · have hn : z.nw ∈ idsZ a := by rw [← e1]; simp [idsZ, hp]
      rcases List.mem_cons.1 hy with e2 | hy2
      · intro e
        unfold idsZ at h1
        rw [← e1, if_pos hp, e1, ← e2, e] at h1
        rw [show y = z from e2.trans e1.symm] at h1
        simp at h1
      · exact fun e => h3 _ hn _ (id_mem hy2) e.symm
    · rcases List.mem_cons.1 hy with e2 | hy2
      · rw [e2]; exact h3 _ (by simp [idsZ]) _ (nw_mem hz2 hp)
      · exact idsA_new h2 hz2 hp hy2
/-- of one zone, ahead of a change and behind it: its Epoch -/
def EpOk (x y : Zn) : Prop := x.ep ≤ y.ep ∧ (y.ow ≠ x.ow → x.ep < y.ep) ∧ ((y.fr ≠ x.fr ∨ y.tt ≠ x.tt) → x.ep < y.ep)
theorem EpOk.refl (x : Zn) : EpOk x x := ⟨Int.le_refl _, fun h => absurd rfl h, fun h => by rcases h with h | h <;> exact absurd rfl h⟩
end Go.Proofs.YtepjehcmiofehaaGreat
namespace Go.Proofs.YtepjehcmiofehaaGreat
open Go.RowKit
set_option linter.unusedVariables false
set_option linter.unusedSimpArgs false
theorem add_none (b o j : Nat) : (⟨b, o, none⟩ : Addr).add j = ⟨b, o + j, none⟩ := by
  unfold Addr.add; split <;> simp_all
theorem own_form {w : World} {base e size n : Nat} {v : Value} {xs : List Value} (h : w.ownsRow base e size v n xs) (hn : 0 < n) : ∃ g cap, v = .slice (some ⟨g, 0, none⟩) n cap ∧ base ≤ g ∧ g < w.heap.size ∧ n ≤ cap ∧ cap ≤ maxLen := by
  rcases h.2 with ⟨_, h0⟩ | ⟨g, cap, cur, hv, hg, hh, hc, hm, _⟩
  · omega
  · exact ⟨g, cap, hv, hg, (Array.getElem?_eq_some_iff.1 hh).1, hc, hm⟩
theorem own_slice {w : World} {base e size n : Nat} {v : Value} {xs : List Value} (h : w.ownsRow base e size v n xs) : ∃ A cap, v = .slice A n cap ∧ (A = none → cap = 0) ∧ n ≤ cap ∧ cap ≤ maxLen := by
  rcases h.2 with ⟨hv, h0⟩ | ⟨g, cap, cur, hv, hg, hh, hc, hm, _⟩
  · subst h0; exact ⟨_, _, hv, fun _ => rfl, Nat.le_refl _, by unfold maxLen; omega⟩
  · exact ⟨_, _, hv, (fun e => by cases e), hc, hm⟩
/-- what a slice that comes in holds, cell by cell -/
def Cells (w : World) (B : Nat) (A : Option Addr) (m c : Nat) (size : Nat) (news : List Value) : Prop :=
  news.length = m * size ∧ (A = none → m = 0 ∧ c = 0) ∧ ∀ j u, news[j]? = some u → ∃ b o, A = some ⟨b, o, none⟩ ∧ b < B ∧ w.cell? ⟨b, o + j, none⟩ = some u
theorem cells_keep {w w1 : World} {B B' : Nat} {A : Option Addr} {m c size : Nat} {news : List Value} (h : Cells w B A m c size news) (hb : Below B w w1) (hB : B ≤ B') : Cells w1 B' A m c size news :=
  ⟨h.1, h.2.1, fun j u hu => by obtain ⟨b, o, e, hlt, hc⟩ := h.2.2 j u hu; exact ⟨b, o, e, by omega, bkeep hb hc hlt⟩⟩
theorem wpList_append_row {P : Program} {w : World} {ops : Array Oper} {rest : List Oper} {o : Oper} {a : Act} {Q : Exit → Act → World → Prop} (hgd : o.guard = none) (s x : Operand) (t : TypeId)
    (ho : o.op = .call { callee := .builtin .append, args := #[s, x], argTypes := #[t, t] })
    (base : Nat) (e : TypeId) (i : TypeInfo) (z : Value) (size bytes : Nat) (ht : P.underlying t = some (.slice e)) (hi : P.info? e = some i) (hz : i.zero = some z)
    (hsize : i.size = size) (hby : i.bytes = bytes) (hzs : z.cells.size = size) (hsz : 0 < size)
    (v : Value) (n : Nat) (xs : List Value) (hs : a.eval s = v) (hown : w.ownsRow base e size v n xs)
    (B : Nat) (A : Option Addr) (m c : Nat) (news : List Value) (hx : a.eval x = .slice A m c) (hr : Cells w B A m c size news) (h1 : ∀ u ∈ news, u.oneCell' = true)
    (h63 : n + m ≤ maxLen) (hbytes : (n + m) * bytes ≤ 140737488355328) (hbase : base ≤ w.heap.size)
    (h : ∀ v' w', w'.ownsRow base e size v' (n + m) (xs ++ news) → Below base w w' → wpList P ops Q rest (a.put o.dst v') w') : wpList P ops Q (o :: rest) a w := by
  have hlow : ∀ k, v.ownBlock = some k → base ≤ k := fun k hk => (hown.lt k hk).1
  cases A with
  | none =>
    obtain ⟨rfl, rfl⟩ := hr.2.1 rfl
    have hn : news = [] := List.eq_nil_of_length_eq_zero (by simpa using hr.1)
    subst hn
    refine wpList_append_own_none hgd s x t ho base e i size ht hi v n xs hs hown hx (h v w (by simpa using hown) (Below.refl _ _))
  | some ad =>
    refine wpList_append_own w hgd s x t ho base e i z size bytes ht hi hz hsize hby hzs hsz v n xs hs hown ad m c news hx hr.1 (fun j u hu => ?_) h1 h63 hbytes hbase (fun v' w' h2 h3 _ => h v' w' h2 ((Below.refl base w).grown h3 hbase hlow))
    obtain ⟨b, o, e, _, hc⟩ := hr.2.2 j u hu
    injection e with e
    subst e
    rw [add_none]; exact hc
/-- a literal without an element, its block's number spelled as one likes -/
theorem owns_lit0 {w : World} {base e size n : Nat} (hn : n = w.heap.size) (hb : base ≤ w.heap.size) : (w.alloc (.cells #[] e)).ownsRow base e size (.slice (some ⟨n, 0, none⟩) 0 0) 0 [] := by
  subst hn
  exact World.ownsRow_lit w #[] 0 hb (by unfold maxLen; omega) (by simp)
end Go.Proofs.YtepjehcmiofehaaGreat
namespace Go.Proofs.YtepjehcmiofehaaGreat
open Go.RowKit
set_option linter.unusedVariables false
set_option linter.unusedSimpArgs false
/-- os, tape, output as they were; no block is gone; but for those of D all are as they were -/
structure Touch (D : Nat → Prop) (w w' : World) : Prop where
  os : w'.os = w.os
  tape : w'.tape = w.tape
  output : w'.output = w.output
  size : w.heap.size ≤ w'.heap.size
  block : ∀ k, k < w.heap.size → ¬ D k → w'.heap[k]? = w.heap[k]?
theorem Touch.of_below {B : Nat} {w w' : World} (h : Below B w w') : Touch (B ≤ ·) w w' := ⟨h.os, h.tape, h.output, h.size, fun k _ hk => h.block k (by omega)⟩
theorem Touch.below {D : Nat → Prop} {w w' : World} (h : Touch D w w') {B : Nat} (hB : B ≤ w.heap.size) (hD : ∀ k, D k → B ≤ k) : Below B w w' := ⟨h.os, h.tape, h.output, h.size, fun k hk => h.block k (by omega) (fun hd => by have := hD k hd; omega)⟩
theorem Touch.cell {D : Nat → Prop} {w w' : World} (h : Touch D w w') {b o : Nat} {v : Value} (hv : w.cell? ⟨b, o, none⟩ = some v) (hD : ¬ D b) : w'.cell? ⟨b, o, none⟩ = some v :=
  (World.cell?_of_block (h.block b (World.block_lt_of_cell? w ⟨b, o, none⟩ hv) hD)).trans hv
theorem Touch.frozen {D : Nat → Prop} {w w' : World} (h : Touch D w w') {b o : Nat} {x : Bool} (hb : b < w.heap.size) (hv : w.frozen? ⟨b, o, none⟩ = x) (hD : ¬ D b) : w'.frozen? ⟨b, o, none⟩ = x :=
  (World.frozen?_of_block (h.block b hb hD)).trans hv
theorem Touch.own {D : Nat → Prop} {w w' : World} (h : Touch D w w') {base e size n : Nat} {v : Value} {xs : List Value} (ho : w.ownsRow base e size v n xs) (hD : ∀ g, v.ownBlock = some g → ¬ D g) : w'.ownsRow base e size v n xs := by
  refine ⟨ho.1, ?_⟩
  rcases ho.2 with h0 | ⟨g, cap, cur, hv, hg, hh, hr⟩
  · exact .inl h0
  · exact .inr ⟨g, cap, cur, hv, hg, by rw [h.block g (Array.getElem?_eq_some_iff.1 hh).1 (hD g (by rw [hv]; rfl))]; exact hh, hr⟩
theorem Touch.cells {D : Nat → Prop} {w w' : World} (h : Touch D w w') {B : Nat} {A : Option Addr} {m c size : Nat} {news : List Value} (hx : Cells w B A m c size news) (hD : ∀ a, A = some a → ¬ D a.block) : Cells w' B A m c size news :=
  ⟨hx.1, hx.2.1, fun j u hu => by obtain ⟨b, o, e, hb, hc⟩ := hx.2.2 j u hu; exact ⟨b, o, e, hb, h.cell hc (hD _ e)⟩⟩
theorem Touch.mono {D D' : Nat → Prop} {w w' : World} (h : Touch D w w') (hD : ∀ k, D k → D' k) : Touch D' w w' := ⟨h.os, h.tape, h.output, h.size, fun k hk hn => h.block k hk (fun hd => hn (hD k hd))⟩
theorem Touch.refl (D : Nat → Prop) (w : World) : Touch D w w := ⟨rfl, rfl, rfl, Nat.le_refl _, fun _ _ _ => rfl⟩
theorem Touch.drewN {D : Nat → Prop} {w w' : World} (h : Touch D w w') (n : Nat) : Touch D w (w'.drewN n) := ⟨h.os, h.tape, h.output, h.size, h.block⟩
/-- one after the other: of what the second touches, only what was there ahead of the first one counts -/
theorem Touch.trans {D D' : Nat → Prop} {a b c : World} (h : Touch D a b) (k : Touch D' b c) (hD : ∀ n, n < a.heap.size → D' n → D n) : Touch D a c :=
  ⟨k.os.trans h.os, k.tape.trans h.tape, k.output.trans h.output, Nat.le_trans h.size k.size, fun i hi hn => (k.block i (Nat.lt_of_lt_of_le hi h.size) (fun hd => hn (hD i hi hd))).trans (h.block i hi hn)⟩
theorem Touch.of_grown {w w' : World} {row : Option Nat} (h : w.grownBy w' row) : Touch (fun k => row = some k) w w' := ⟨h.os, h.tape, h.output, h.size, fun k hk hn => h.block k hk (fun e => hn e.symm)⟩
theorem Touch.set {D : Nat → Prop} {w w' : World} (h : Touch D w w') {a : Addr} {v : Value} (ha : a.block < w.heap.size → D a.block) : Touch D w (w'.setCell a v) :=
  ⟨h.os, h.tape, h.output, by simpa [World.setCell] using h.size, fun k hk hn => (Below.heap_setCell _ _ _ _ (fun e => hn (by subst e; exact ha hk))).trans (h.block k hk hn)⟩
theorem Touch.alloc {D : Nat → Prop} {w w' : World} (h : Touch D w w') (o : Obj) : Touch D w (w'.alloc o) :=
  ⟨h.os, h.tape, h.output, Nat.le_trans h.size (by simp), fun k hk hn => (Below.heap_alloc _ _ _ (Nat.lt_of_lt_of_le hk h.size)).trans (h.block k hk hn)⟩
theorem own_set_ne {w : World} {base e size n : Nat} {v : Value} {xs : List Value} (h : w.ownsRow base e size v n xs) {a : Addr} {u : Value} (ha : ∀ g, v.ownBlock = some g → g ≠ a.block) : (w.setCell a u).ownsRow base e size v n xs :=
  Touch.own (D := fun k => k = a.block) ((Touch.refl _ w).set (fun _ => rfl)) h ha
theorem wpList_append_touch {P : Program} {w : World} {ops : Array Oper} {rest : List Oper} {o : Oper} {a : Act} {Q : Exit → Act → World → Prop} (hgd : o.guard = none) (s x : Operand) (t : TypeId)
    (ho : o.op = .call { callee := .builtin .append, args := #[s, x], argTypes := #[t, t] })
    (base : Nat) (e : TypeId) (i : TypeInfo) (z : Value) (size bytes : Nat) (ht : P.underlying t = some (.slice e)) (hi : P.info? e = some i) (hz : i.zero = some z)
    (hsize : i.size = size) (hby : i.bytes = bytes) (hzs : z.cells.size = size) (hsz : 0 < size)
    (v : Value) (n : Nat) (xs : List Value) (hs : a.eval s = v) (hown : w.ownsRow base e size v n xs)
    (B : Nat) (A : Option Addr) (m c : Nat) (news : List Value) (hx : a.eval x = .slice A m c) (hr : Cells w B A m c size news) (h1 : ∀ u ∈ news, u.oneCell' = true)
    (h63 : n + m ≤ maxLen) (hbytes : (n + m) * bytes ≤ 140737488355328) (hbase : base ≤ w.heap.size)
    (h : ∀ v' w', w'.ownsRow base e size v' (n + m) (xs ++ news) → Touch (fun k => v.ownBlock = some k) w w' → (v'.ownBlock = v.ownBlock ∨ v'.ownBlock = some w.heap.size) → wpList P ops Q rest (a.put o.dst v') w') : wpList P ops Q (o :: rest) a w := by
  cases A with
  | none =>
    obtain ⟨rfl, rfl⟩ := hr.2.1 rfl
    have hn : news = [] := List.eq_nil_of_length_eq_zero (by simpa using hr.1)
    subst hn
    refine wpList_append_own_none hgd s x t ho base e i size ht hi v n xs hs hown hx (h v w (by simpa using hown) (Touch.refl _ _) (.inl rfl))
  | some ad =>
    refine wpList_append_own_at w hgd s x t ho base e i z size bytes ht hi hz hsize hby hzs hsz v n xs hs hown ad m c news hx hr.1 (fun j u hu => ?_) h1 h63 hbytes hbase (fun v' w' h2 h3 _ h5 => h v' w' h2 (Touch.of_grown h3) h5)
    obtain ⟨b, o, e, _, hc⟩ := hr.2.2 j u hu
    injection e with e
    subst e
    rw [add_none]; exact hc
theorem run_append_nothing {P : Program} (w : World) (base : Nat) (t ty e : TypeId) (i : TypeInfo) (size : Nat) (ht : P.underlying t = some (.slice e)) (hi : P.info? e = some i)
    (v : Value) (n : Nat) (xs : List Value) (hown : w.ownsRow base e size v n xs) (c : Nat) : (Builtin.append_ #[t, t] ty #[v, .slice none 0 c]).run P w = .ok v w := by
  rcases hown.2 with ⟨rfl, rfl⟩ | ⟨g, cap, cur, rfl, _, _, hnc, _⟩
  · simp [Builtin.append_, run_underlying ht, sizeOf, typeInfo, hi, Builtin.lenOf, Builtin.firstCells]
  · simp [Builtin.append_, run_underlying ht, sizeOf, typeInfo, hi, Builtin.lenOf, Builtin.firstCells, hnc, storeCells]
theorem step_append_cells {P : Program} {w : World} {ops : Array Oper} {o : Oper} {a : Act} {K : Act → World → Prop} {Q : Exit → Act → World → Prop} {E : Prop} (hgd : o.guard = none) (s x : Operand) (t : TypeId)
    (ho : o.op = .call { callee := .builtin .append, args := #[s, x], argTypes := #[t, t] })
    (base : Nat) (e : TypeId) (i : TypeInfo) (z : Value) (size bytes : Nat) (ht : P.underlying t = some (.slice e)) (hi : P.info? e = some i) (hz : i.zero = some z)
    (hsize : i.size = size) (hby : i.bytes = bytes) (hzs : z.cells.size = size) (hsz : 0 < size)
    (v : Value) (n : Nat) (xs : List Value) (hs : a.eval s = v) (hown : w.ownsRow base e size v n xs)
    (B : Nat) (A : Option Addr) (m c : Nat) (news : List Value) (hx : a.eval x = .slice A m c) (hr : Cells w B A m c size news) (h1 : ∀ u ∈ news, u.oneCell' = true)
    (h63 : n + m ≤ maxLen) (hbytes : (n + m) * bytes ≤ 140737488355328) (hbase : base ≤ w.heap.size)
    (h : ∀ v' w', w'.ownsRow base e size v' (n + m) (xs ++ news) → Touch (fun k => v.ownBlock = some k) w w' → (v'.ownBlock = v.ownBlock ∨ v'.ownBlock = some w.heap.size) → K (a.put o.dst v') w') :
    if Region.wanted o (yielded ops a.tmps) = true then Oper.wp P o a w K Q else E := by
  have hw : Region.wanted o (yielded ops a.tmps) = true := by simp [Region.wanted, hgd]
  rw [if_pos hw]
  have key : ∃ v' w', (Builtin.append_ #[t, t] o.type #[v, .slice A m c]).run P w = .ok v' w' ∧ w'.ownsRow base e size v' (n + m) (xs ++ news) ∧ Touch (fun k => v.ownBlock = some k) w w' ∧ (v'.ownBlock = v.ownBlock ∨ v'.ownBlock = some w.heap.size) := by
    cases A with
    | none =>
      obtain ⟨rfl, rfl⟩ := hr.2.1 rfl
      have hn : news = [] := List.eq_nil_of_length_eq_zero (by simpa using hr.1)
      subst hn
      exact ⟨v, w, run_append_nothing w base t o.type e i size ht hi v n xs hown 0, by simpa using hown, Touch.refl _ _, .inl rfl⟩
    | some ad =>
      obtain ⟨v', w', hrun, h2, h3, _, h5⟩ := run_append_own_at (P := P) w base t o.type e i z size bytes ht hi hz hsize hby hzs hsz v n xs hown ad m c news hr.1 (fun j u hu => by
        obtain ⟨b, q, e, _, hc⟩ := hr.2.2 j u hu
        injection e with e
        subst e
        rw [add_none]; exact hc) h1 h63 hbytes hbase
      exact ⟨v', w', hrun, h2, Touch.of_grown h3, h5⟩
  obtain ⟨v', w', hrun, h2, h3, h5⟩ := key
  unfold Oper.wp
  simp [execOp, ho, resolve, invoke, builtin, hs, hx, hrun, Result.andThen]
  exact h v' w' h2 h3 h5
end Go.Proofs.YtepjehcmiofehaaGreat
