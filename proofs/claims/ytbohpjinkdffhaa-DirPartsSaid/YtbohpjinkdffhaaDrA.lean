/- The directory, pure: zones, changes, what a change does. -/
import Derived.Test.YtbohpjinkdffhaaSqP
namespace Go.Proofs.Ytbohpjinkdffhaa
set_option linter.unusedVariables false
set_option linter.unusedSimpArgs false

structure Zn where
  id : Int
  fr : ByteArray
  tt : ByteArray
  ow : Int
  ep : Int
  pd : Int
  mv : Int
  ky : ByteArray
  nw : Int
def znV (z : Zn) : List Value := [.int .i64 z.id, .string z.fr, .string z.tt, .int .i64 z.ow, .int .i64 z.ep, .int .i64 z.pd, .int .i64 z.mv, .string z.ky, .int .i64 z.nw]
def flatZ (l : List Zn) : List Value := l.flatMap znV
structure Ch where
  kd : Int
  zo : Int
  ep : Int
  mv : Int
  ky : ByteArray
structure Mp where
  ver : Int
  nxt : Int
  zs : List Zn
/-- may a change be? -/
structure OkCh (c : Ch) : Prop where
  zo : 1 ≤ c.zo ∧ c.zo ≤ 1099511627776
  kd : 1 ≤ c.kd ∧ c.kd ≤ 5
  ky : (c.kd = 1 → 1 ≤ c.ky.size ∧ c.ky.size ≤ 16) ∧ (c.kd ≠ 1 → c.ky.size = 0)
  mv : (c.kd = 3 → 1 ≤ c.mv ∧ c.mv ≤ 1048576) ∧ (c.kd ≠ 3 → c.mv = 0)
  ep : (c.kd = 4 ∨ c.kd = 5 → 1 ≤ c.ep ∧ c.ep ≤ 1099511627776) ∧ (c.kd ≠ 4 → c.kd ≠ 5 → c.ep = 0)
def pendN (k : Int) (l : List Zn) : Nat := (l.filter fun z => decide (z.pd = k)).length
def topN : Int := 1099511627776
/-- nothing is under way with it any more -/
def settled (z : Zn) (e : Int) : Zn := ⟨z.id, z.fr, z.tt, z.ow, e, 0, 0, ⟨#[]⟩, 0⟩
/-- what a change does to the zone at a place -/
inductive Deed (hosts : List Int) (m : Mp) (c : Ch) (i : Nat) (h : i < m.zs.length) : Mp → Prop
  | split (k : c.kd = 1) (p : m.zs[i].pd = 0) (q : cutB m.zs[i].fr m.zs[i].tt c.ky = true) (n : (m.zs.length : Int) + pendN 1 m.zs < 16) (x : m.nxt < topN) :
      Deed hosts m c i h ⟨m.ver, m.nxt + 1, m.zs.set i { m.zs[i] with pd := 1, ky := c.ky, nw := m.nxt }⟩
  | merge (k : c.kd = 2) (h2 : i + 1 < m.zs.length) (p : m.zs[i].pd = 0) (q : m.zs[i + 1].pd = 0) (o : m.zs[i].ow = m.zs[i + 1].ow) :
      Deed hosts m c i h ⟨m.ver, m.nxt, (m.zs.set i { m.zs[i] with pd := 2, nw := m.zs[i + 1].id }).set (i + 1) { m.zs[i + 1] with pd := 2, nw := m.zs[i].id }⟩
  | move (k : c.kd = 3) (p : m.zs[i].pd = 0) (q : c.mv ∈ hosts) (o : c.mv ≠ m.zs[i].ow) (n : (pendN 3 m.zs : Int) < 2) :
      Deed hosts m c i h ⟨m.ver, m.nxt, m.zs.set i { m.zs[i] with pd := 3, mv := c.mv }⟩
  | splitDone (k : c.kd = 4) (p : m.zs[i].pd = 1) (e : m.zs[i].ep = c.ep) (q : cutB m.zs[i].fr m.zs[i].tt m.zs[i].ky = true) (x : m.zs[i].ep < topN) :
      Deed hosts m c i h ⟨m.ver, m.nxt, m.zs.take i ++ settled { m.zs[i] with tt := m.zs[i].ky } (m.zs[i].ep + 1) :: ⟨m.zs[i].nw, m.zs[i].ky, m.zs[i].tt, m.zs[i].ow, m.zs[i].ep + 1, 0, 0, ⟨#[]⟩, 0⟩ :: m.zs.drop (i + 1)⟩
  | mergeDone (k : c.kd = 4) (p : m.zs[i].pd = 2) (e : m.zs[i].ep = c.ep) (h2 : i + 1 < m.zs.length) (o : m.zs[i + 1].id = m.zs[i].nw) (q : joinB m.zs[i].fr m.zs[i].tt m.zs[i + 1].fr m.zs[i + 1].tt = true) (x : max m.zs[i].ep m.zs[i + 1].ep < topN) :
      Deed hosts m c i h ⟨m.ver, m.nxt, m.zs.take i ++ settled { m.zs[i] with tt := m.zs[i + 1].tt } (max m.zs[i].ep m.zs[i + 1].ep + 1) :: m.zs.drop (i + 2)⟩
  | moveDone (k : c.kd = 4) (p : m.zs[i].pd ≠ 0) (p1 : m.zs[i].pd ≠ 1) (p2 : m.zs[i].pd ≠ 2) (e : m.zs[i].ep = c.ep) (x : m.zs[i].ep < topN) :
      Deed hosts m c i h ⟨m.ver, m.nxt, m.zs.set i (settled { m.zs[i] with ow := m.zs[i].mv } (m.zs[i].ep + 1))⟩
  | abort (k : c.kd = 5) (p : m.zs[i].pd = 3) (e : m.zs[i].ep = c.ep) (x : m.zs[i].ep < topN) :
      Deed hosts m c i h ⟨m.ver, m.nxt, m.zs.set i (settled m.zs[i] (m.zs[i].ep + 1))⟩
/-- a change applies -/
structure Applies (hosts : List Int) (m : Mp) (c : Ch) (m' : Mp) : Prop where
  ok : OkCh c
  ver : m.ver < topN
  deed : ∃ (i : Nat) (h : i < m.zs.length), m.zs[i].id = c.zo ∧ (∀ j (hj : j < m.zs.length), j < i → m.zs[j].id ≠ c.zo) ∧ ∃ m1, Deed hosts m c i h m1 ∧ m' = ⟨m1.ver + 1, m1.nxt, m1.zs⟩
/-- the IDs of zones, and those that are kept for the splits that are under way -/
def idsZ (z : Zn) : List Int := z.id :: if z.pd = 1 then [z.nw] else []
def idsA (l : List Zn) : List Int := l.flatMap idsZ
structure InvZ (m : Mp) : Prop where
  nodup : (idsA m.zs).Nodup
  low : ∀ a ∈ idsA m.zs, a < m.nxt
theorem idsA_cons (a : Zn) (r : List Zn) : idsA (a :: r) = idsZ a ++ idsA r := rfl
theorem idsA_app (l r : List Zn) : idsA (l ++ r) = idsA l ++ idsA r := by simp [idsA]
theorem id_mem {z : Zn} {l : List Zn} (h : z ∈ l) : z.id ∈ idsA l := List.mem_flatMap.2 ⟨z, h, by simp [idsZ]⟩
theorem nw_mem {z : Zn} {l : List Zn} (h : z ∈ l) (hp : z.pd = 1) : z.nw ∈ idsA l := List.mem_flatMap.2 ⟨z, h, by simp [idsZ, hp]⟩
theorem idsA_inj : ∀ {l : List Zn}, (idsA l).Nodup → ∀ {x y : Zn}, x ∈ l → y ∈ l → x.id = y.id → x = y
  | [], _, _, _, hx, _, _ => by cases hx
  | a :: r, h, x, y, hx, hy, e => by
    rw [idsA_cons, List.nodup_append] at h
    obtain ⟨_, h2, h3⟩ := h
    have ha : a.id ∈ idsZ a := by simp [idsZ]
    rcases List.mem_cons.1 hx with e1 | hx2
    · rcases List.mem_cons.1 hy with e2 | hy2
      · rw [e1, e2]
      · rw [e1] at e; exact absurd e (h3 _ ha _ (id_mem hy2))
    · rcases List.mem_cons.1 hy with e2 | hy2
      · rw [e2] at e; exact absurd e.symm (h3 _ ha _ (id_mem hx2))
      · exact idsA_inj h2 hx2 hy2 e
theorem idsA_new : ∀ {l : List Zn}, (idsA l).Nodup → ∀ {z y : Zn}, z ∈ l → z.pd = 1 → y ∈ l → y.id ≠ z.nw
  | [], _, _, _, hx, _, _ => by cases hx
  | a :: r, h, z, y, hz, hp, hy => by
    rw [idsA_cons, List.nodup_append] at h
    obtain ⟨h1, h2, h3⟩ := h
    rcases List.mem_cons.1 hz with e1 | hz2
    · have hn : z.nw ∈ idsZ a := by rw [← e1]; simp [idsZ, hp]
      rcases List.mem_cons.1 hy with e2 | hy2
      · intro e
        unfold idsZ at h1
        rw [← e1, if_pos hp, e1, ← e2, e] at h1
        rw [show y = z from e2.trans e1.symm] at h1
        simp at h1
      · exact fun e => h3 _ hn _ (id_mem hy2) e.symm
    · rcases List.mem_cons.1 hy with e2 | hy2
      · rw [e2]; exact h3 _ (by simp [idsZ]) _ (nw_mem hz2 hp)
      · exact idsA_new h2 hz2 hp hy2
theorem set_td {l : List Zn} {i : Nat} (h : i < l.length) (a : Zn) : l.set i a = l.take i ++ a :: l.drop (i + 1) := List.set_eq_take_append_cons_drop ▸ by simp [h]
theorem split_td {l : List Zn} {i : Nat} (h : i < l.length) : l = l.take i ++ l[i] :: l.drop (i + 1) := by rw [← List.drop_eq_getElem_cons h, List.take_append_drop]
theorem idsA_set {l : List Zn} {i : Nat} (h : i < l.length) {a : Zn} (e : idsZ a = idsZ l[i]) : idsA (l.set i a) = idsA l := by
  rw [set_td h]
  conv => rhs; rw [split_td h]
  rw [idsA_app, idsA_app, idsA_cons, idsA_cons, e]
theorem InvZ.begin {v : Int} (z : Zn) (hz : z.id = 1) (hp : z.pd = 0) : InvZ ⟨v, 2, [z]⟩ := by
  have e : idsA [z] = [1] := by simp [idsA, idsZ, hz, hp]
  exact ⟨by show (idsA [z]).Nodup; rw [e]; simp, fun a ha => by change a ∈ idsA [z] at ha; rw [e] at ha; simp at ha; subst ha; show (1 : Int) < 2; omega⟩
theorem Deed.inv {hosts : List Int} {m m' : Mp} {c : Ch} {i : Nat} {h : i < m.zs.length} (hd : Deed hosts m c i h m') (hi : InvZ m) : InvZ m' := by
  cases hd with
  | split k p q n x =>
    have e : idsA (m.zs.set i { m.zs[i] with pd := 1, ky := c.ky, nw := m.nxt }) = idsA (m.zs.take i) ++ (m.zs[i].id :: m.nxt :: idsA (m.zs.drop (i + 1))) := by
      rw [set_td h, idsA_app, idsA_cons]; rfl
    have e0 : idsA m.zs = idsA (m.zs.take i) ++ (m.zs[i].id :: idsA (m.zs.drop (i + 1))) := by
      conv => lhs; rw [split_td h]
      rw [idsA_app, idsA_cons]; simp [idsZ, p]
    have hp : (idsA (m.zs.set i { m.zs[i] with pd := 1, ky := c.ky, nw := m.nxt })).Perm (m.nxt :: idsA m.zs) := by
      rw [e, e0]
      exact ((List.Perm.append_left _ (List.Perm.swap _ _ _)).trans List.perm_middle)
    have hn : m.nxt ∉ idsA m.zs := fun hm => by have := hi.low _ hm; omega
    refine ⟨hp.nodup_iff.2 (List.nodup_cons.2 ⟨hn, hi.nodup⟩), fun a ha => ?_⟩
    show a < m.nxt + 1
    rcases List.mem_cons.1 (hp.mem_iff.1 ha) with e | ha
    · omega
    · have := hi.low a ha; omega
  | merge k h2 p q o =>
    have e : idsA ((m.zs.set i { m.zs[i] with pd := 2, nw := m.zs[i + 1].id }).set (i + 1) { m.zs[i + 1] with pd := 2, nw := m.zs[i].id }) = idsA m.zs := by
      rw [idsA_set (by rw [List.length_set]; exact h2) (by rw [List.getElem_set_ne (by omega)]; simp [idsZ, q]), idsA_set h (by simp [idsZ, p])]
    exact ⟨by show (idsA _).Nodup; rw [e]; exact hi.nodup, by show ∀ a ∈ idsA _, _; rw [e]; exact hi.low⟩
  | move k p q o n =>
    have e : idsA (m.zs.set i { m.zs[i] with pd := 3, mv := c.mv }) = idsA m.zs := idsA_set h (by simp [idsZ, p])
    exact ⟨by show (idsA _).Nodup; rw [e]; exact hi.nodup, by show ∀ a ∈ idsA _, _; rw [e]; exact hi.low⟩
  | splitDone k p e q x =>
    have e : idsA (m.zs.take i ++ settled { m.zs[i] with tt := m.zs[i].ky } (m.zs[i].ep + 1) :: ⟨m.zs[i].nw, m.zs[i].ky, m.zs[i].tt, m.zs[i].ow, m.zs[i].ep + 1, 0, 0, ⟨#[]⟩, 0⟩ :: m.zs.drop (i + 1)) = idsA m.zs := by
      conv => rhs; rw [split_td h]
      rw [idsA_app, idsA_app, idsA_cons, idsA_cons, idsA_cons]
      simp [idsZ, settled, p]
    exact ⟨by show (idsA _).Nodup; rw [e]; exact hi.nodup, by show ∀ a ∈ idsA _, _; rw [e]; exact hi.low⟩
  | mergeDone k p e h2 o q x =>
    have e0 : idsA m.zs = idsA (m.zs.take i) ++ (idsZ m.zs[i] ++ (idsZ m.zs[i + 1] ++ idsA (m.zs.drop (i + 2)))) := by
      conv => lhs; rw [split_td h]
      rw [idsA_app, idsA_cons, List.drop_eq_getElem_cons h2, idsA_cons]
    have e1 : idsA (m.zs.take i ++ settled { m.zs[i] with tt := m.zs[i + 1].tt } (max m.zs[i].ep m.zs[i + 1].ep + 1) :: m.zs.drop (i + 2)) = idsA (m.zs.take i) ++ ([m.zs[i].id] ++ idsA (m.zs.drop (i + 2))) := by
      rw [idsA_app, idsA_cons]; simp [idsZ, settled]
    have hs : (idsA (m.zs.take i ++ settled { m.zs[i] with tt := m.zs[i + 1].tt } (max m.zs[i].ep m.zs[i + 1].ep + 1) :: m.zs.drop (i + 2))).Sublist (idsA m.zs) := by
      rw [e0, e1]
      refine List.Sublist.append (List.Sublist.refl _) (List.Sublist.append ?_ (List.sublist_append_right _ _))
      simp [idsZ]
    exact ⟨hi.nodup.sublist hs, fun a ha => hi.low a (hs.subset ha)⟩
  | moveDone k p p1 p2 e x =>
    have e : idsA (m.zs.set i (settled { m.zs[i] with ow := m.zs[i].mv } (m.zs[i].ep + 1))) = idsA m.zs := idsA_set h (by simp [idsZ, settled, p1])
    exact ⟨by show (idsA _).Nodup; rw [e]; exact hi.nodup, by show ∀ a ∈ idsA _, _; rw [e]; exact hi.low⟩
  | abort k p e x =>
    have e : idsA (m.zs.set i (settled m.zs[i] (m.zs[i].ep + 1))) = idsA m.zs := idsA_set h (by simp [idsZ, settled, p])
    exact ⟨by show (idsA _).Nodup; rw [e]; exact hi.nodup, by show ∀ a ∈ idsA _, _; rw [e]; exact hi.low⟩
/-- of one zone, ahead of a change and behind it: its Epoch -/
def EpOk (x y : Zn) : Prop := x.ep ≤ y.ep ∧ (y.ow ≠ x.ow → x.ep < y.ep) ∧ ((y.fr ≠ x.fr ∨ y.tt ≠ x.tt) → x.ep < y.ep)
theorem EpOk.refl (x : Zn) : EpOk x x := ⟨Int.le_refl _, fun h => absurd rfl h, fun h => by rcases h with h | h <;> exact absurd rfl h⟩
theorem EpOk.up {x y : Zn} (h : x.ep < y.ep) : EpOk x y := ⟨by omega, fun _ => h, fun _ => h⟩
theorem mem_set' {l : List Zn} {i : Nat} {a y : Zn} (h : y ∈ l.set i a) : y = a ∨ y ∈ l := (List.mem_or_eq_of_mem_set h).symm
theorem Deed.eps {hosts : List Int} {m m' : Mp} {c : Ch} {i : Nat} {h : i < m.zs.length} (hd : Deed hosts m c i h m') (hi : InvZ m) : ∀ x ∈ m.zs, ∀ y ∈ m'.zs, x.id = y.id → EpOk x y := by
  intro x hx y hy e
  have hin : ∀ {x y : Zn}, x ∈ m.zs → y ∈ m.zs → x.id = y.id → x = y := fun h1 h2 h3 => idsA_inj hi.nodup h1 h2 h3
  have old : y ∈ m.zs → EpOk x y := fun hy => by rw [hin hx hy e]; exact EpOk.refl _
  have here : ∀ {j : Nat} (hj : j < m.zs.length), x.id = m.zs[j].id → x = m.zs[j] := fun hj e => hin hx (List.getElem_mem hj) e
  cases hd with
  | split k p q n xx =>
    rcases mem_set' hy with rfl | hy
    · rw [here h e]; exact ⟨Int.le_refl _, fun h => absurd rfl h, fun h => by rcases h with h | h <;> exact absurd rfl h⟩
    · exact old hy
  | merge k h2 p q o =>
    rcases mem_set' hy with rfl | hy
    · rw [here h2 e]; exact ⟨Int.le_refl _, fun h => absurd rfl h, fun h => by rcases h with h | h <;> exact absurd rfl h⟩
    · rcases mem_set' hy with rfl | hy
      · rw [here h e]; exact ⟨Int.le_refl _, fun h => absurd rfl h, fun h => by rcases h with h | h <;> exact absurd rfl h⟩
      · exact old hy
  | move k p q o n =>
    rcases mem_set' hy with rfl | hy
    · rw [here h e]; exact ⟨Int.le_refl _, fun h => absurd rfl h, fun h => by rcases h with h | h <;> exact absurd rfl h⟩
    · exact old hy
  | splitDone k p ee q xx =>
    rcases List.mem_append.1 hy with hy | hy
    · exact old (List.mem_of_mem_take hy)
    · rcases List.mem_cons.1 hy with rfl | hy
      · rw [here h e]; exact EpOk.up (by show m.zs[i].ep < m.zs[i].ep + 1; omega)
      · rcases List.mem_cons.1 hy with rfl | hy
        · exact absurd e (idsA_new hi.nodup (List.getElem_mem h) p hx)
        · exact old (List.mem_of_mem_drop hy)
  | mergeDone k p ee h2 o q xx =>
    rcases List.mem_append.1 hy with hy | hy
    · exact old (List.mem_of_mem_take hy)
    · rcases List.mem_cons.1 hy with rfl | hy
      · rw [here h e]; exact EpOk.up (by show m.zs[i].ep < max m.zs[i].ep m.zs[i + 1].ep + 1; omega)
      · exact old (List.mem_of_mem_drop hy)
  | moveDone k p p1 p2 ee xx =>
    rcases mem_set' hy with rfl | hy
    · rw [here h e]; exact EpOk.up (by show m.zs[i].ep < m.zs[i].ep + 1; omega)
    · exact old hy
  | abort k p ee xx =>
    rcases mem_set' hy with rfl | hy
    · rw [here h e]; exact EpOk.up (by show m.zs[i].ep < m.zs[i].ep + 1; omega)
    · exact old hy
theorem Applies.inv {hosts : List Int} {m m' : Mp} {c : Ch} (h : Applies hosts m c m') (hi : InvZ m) : InvZ m' := by
  obtain ⟨i, hl, _, _, m1, hd, rfl⟩ := h.deed
  have := hd.inv hi
  exact ⟨this.nodup, this.low⟩
theorem Applies.eps {hosts : List Int} {m m' : Mp} {c : Ch} (h : Applies hosts m c m') (hi : InvZ m) : ∀ x ∈ m.zs, ∀ y ∈ m'.zs, x.id = y.id → EpOk x y := by
  obtain ⟨i, hl, _, _, m1, hd, rfl⟩ := h.deed
  exact hd.eps hi
end Go.Proofs.Ytbohpjinkdffhaa
