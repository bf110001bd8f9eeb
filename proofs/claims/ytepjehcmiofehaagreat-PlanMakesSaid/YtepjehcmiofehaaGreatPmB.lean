/- the document's plan in memory. -/
import Derived.Test.YtepjehcmiofehaaGreatPmA
namespace Go.Proofs.YtepjehcmiofehaaGreat
open Go.RowKit
set_option linter.unusedVariables false
set_option linter.unusedSimpArgs false

/-- what a plan is made of -/
structure Rc where
  A : Option Addr
  cp : Nat
  Ah : Option Addr
  ch : Nat
  Al : Option Addr
  cl : Nat
  m : Mp
  hs : List Int
  l : List Lr
def boolsV (l : List Bool) : List Value := l.map Value.bool
/-- zones by the document's way: which are named -/
structure Lk (m : Mp) (l : List Lr) (nm : List Bool) (ps : List Pz) : Prop where
  ln : ps.length = m.zs.length
  lb : nm.length = m.zs.length
  z : ∀ i (h : i < ps.length) (h2 : i < m.zs.length), ps[i].z = m.zs[i] ∧ ps[i].hits = (hm l m.zs[i].id).1 ∧ ps[i].mid = (hm l m.zs[i].id).2
  f : ∀ i (h : i < ps.length) (h2 : i < nm.length), ps[i].fr = (decide (ps[i].z.pd = 0) && !nm[i])
structure Ok (c : Rc) : Prop where
  may : MayP c.m
  hb : hostsB c.hs = true
  ll : c.l.length ≤ 100000
structure RsH (w : World) (B x : Nat) (c : Rc) (nv ov tv : Value) (nm : List Bool) (ps : List Pz) (cs : List Ch) (mv : Int) : Prop where
  blk : Whl w x 63 #[.int .i64 c.m.ver, .int .i64 c.m.nxt, .slice c.A c.m.zs.length c.cp, .slice c.Ah c.hs.length c.ch, .slice c.Al c.l.length c.cl, nv, ov, tv, .int .i64 mv]
  zr : Cells w B c.A c.m.zs.length c.cp 9 (flatZ c.m.zs)
  hr : Cells w B c.Ah c.hs.length c.ch 1 (intsV c.hs)
  lr : Cells w B c.Al c.l.length c.cl 3 (flatL c.l)
  nr : w.ownsRow B 4 1 nv c.m.zs.length (boolsV nm)
  orow : w.ownsRow B 58 5 ov cs.length (cs.flatMap chV)
  tr : w.ownsRow B 3 1 tv c.m.zs.length (intsV (ps.map fun p => p.nd))
  na : ∀ g, nv.ownBlock = some g → g ≠ x
  oa : ∀ g, ov.ownBlock = some g → g ≠ x
  ta : ∀ g, tv.ownBlock = some g → g ≠ x
  no : ∀ q, nv.ownBlock = some q → ov.ownBlock ≠ some q
  nt : ∀ q, nv.ownBlock = some q → tv.ownBlock ≠ some q
  ot : ∀ q, ov.ownBlock = some q → tv.ownBlock ≠ some q
  low : B ≤ x
  lk : Lk c.m c.l nm ps
  ok : Ok c
theorem RsH.bw {w : World} {B x : Nat} {c : Rc} {nv ov tv : Value} {nm : List Bool} {ps : List Pz} {cs : List Ch} {mv : Int} (h : RsH w B x c nv ov tv nm ps cs mv) : B ≤ w.heap.size := by have := h.low; have := h.blk.low; omega
theorem RsH.below {w w' : World} {B x : Nat} {c : Rc} {nv ov tv : Value} {nm : List Bool} {ps : List Pz} {cs : List Ch} {mv : Int} (h : RsH w B x c nv ov tv nm ps cs mv) (hb : Below w.heap.size w w') : RsH w' B x c nv ov tv nm ps cs mv :=
  have hB := hb.mono h.bw
  ⟨h.blk.below hb h.blk.low, cells_keep h.zr hB (Nat.le_refl _), cells_keep h.hr hB (Nat.le_refl _), cells_keep h.lr hB (Nat.le_refl _), row_belowZ h.nr hb, row_belowZ h.orow hb, row_belowZ h.tr hb, h.na, h.oa, h.ta, h.no, h.nt, h.ot, h.low, h.lk, h.ok⟩
theorem RsH.len {w : World} {B x : Nat} {c : Rc} {nv ov tv : Value} {nm : List Bool} {ps : List Pz} {cs : List Ch} {mv : Int} (h : RsH w B x c nv ov tv nm ps cs mv) : 1 ≤ c.m.zs.length ∧ c.m.zs.length ≤ 16 ∧ ps.length = c.m.zs.length ∧ nm.length = c.m.zs.length := ⟨mayP_pos h.ok.may, h.ok.may.len, h.lk.ln, h.lk.lb⟩
/-- the state's cells, by number -/
theorem RsH.cells {w : World} {B x : Nat} {c : Rc} {nv ov tv : Value} {nm : List Bool} {ps : List Pz} {cs : List Ch} {mv : Int} (h : RsH w B x c nv ov tv nm ps cs mv) : w.cell? ⟨x, 2, none⟩ = some (.slice c.A c.m.zs.length c.cp) ∧ w.cell? ⟨x, 3, none⟩ = some (.slice c.Ah c.hs.length c.ch) ∧ w.cell? ⟨x, 4, none⟩ = some (.slice c.Al c.l.length c.cl) ∧ w.cell? ⟨x, 5, none⟩ = some nv ∧ w.cell? ⟨x, 6, none⟩ = some ov ∧ w.cell? ⟨x, 7, none⟩ = some tv ∧ w.cell? ⟨x, 8, none⟩ = some (.int .i64 mv) :=
  ⟨(h.blk.cell 2).trans rfl, (h.blk.cell 3).trans rfl, (h.blk.cell 4).trans rfl, (h.blk.cell 5).trans rfl, (h.blk.cell 6).trans rfl, (h.blk.cell 7).trans rfl, (h.blk.cell 8).trans rfl⟩
theorem lr_cells {w : World} {B : Nat} {A : Option Addr} {c : Nat} {l : List Lr} (h : Cells w B A l.length c 3 (flatL l)) {i : Nat} (hi : i < l.length) :
    ∃ g o, A = some ⟨g, o, none⟩ ∧ g < B ∧ w.cell? ⟨g, o + i * 3, none⟩ = some (.int .i64 l[i].zo) ∧ w.cell? ⟨g, o + i * 3 + 1, none⟩ = some (.int .i64 l[i].hits) ∧ w.cell? ⟨g, o + i * 3 + 2, none⟩ = some (.string l[i].mid) := by
  obtain ⟨r0, r1, r2⟩ := flatL_at l i hi
  obtain ⟨g, o, e, hg, h0⟩ := h.2.2 _ _ r0
  obtain ⟨g1, o1, e1, _, h1⟩ := h.2.2 _ _ r1
  obtain ⟨g2, o2, e2, _, h2⟩ := h.2.2 _ _ r2
  rw [e] at e1 e2
  injection e1 with e1; injection e1 with e11 e12
  injection e2 with e2; injection e2 with e21 e22
  subst e11 e12 e21 e22
  exact ⟨g, o, e, hg, h0, by rw [Nat.add_assoc]; exact h1, by rw [Nat.add_assoc]; exact h2⟩
/-- the first row of a zone, as it counts -/
def rowD (l : List Lr) (id : Int) : Lr := match l.find? (fun r => decide (r.zo = id)) with
  | none => ⟨0, 0, ⟨#[]⟩⟩
  | some r => ⟨r.zo, min (max r.hits 0) 1099511627776, r.mid⟩
theorem rowD_hm (l : List Lr) (id : Int) : (rowD l id).hits = (hm l id).1 ∧ (rowD l id).mid = (hm l id).2 := by
  unfold rowD hm
  cases l.find? (fun r => decide (r.zo = id)) <;> exact ⟨rfl, rfl⟩
theorem rowD_no {l : List Lr} {id : Int} (h : ∀ j (hj : j < l.length), l[j].zo ≠ id) : rowD l id = ⟨0, 0, ⟨#[]⟩⟩ := by
  unfold rowD
  rw [List.find?_eq_none.2 (fun r hr => by obtain ⟨j, hj, rfl⟩ := List.getElem_of_mem hr; simpa using h j hj)]
theorem rowD_yes : ∀ {l : List Lr} {id : Int} {i : Nat} (h : i < l.length), l[i].zo = id → (∀ j (hj : j < l.length), j < i → l[j].zo ≠ id) → rowD l id = ⟨l[i].zo, min (max l[i].hits 0) 1099511627776, l[i].mid⟩
  | [], _, i, h, _, _ => by simp at h
  | a :: r, id, 0, h, e, _ => by
    unfold rowD
    rw [List.find?_cons_of_pos (by simpa using e)]
    rfl
  | a :: r, id, i + 1, h, e, hn => by
    have h0 : ¬ a.zo = id := by have := hn 0 (Nat.succ_pos _) (Nat.succ_pos _); simpa using this
    have ih := rowD_yes (l := r) (id := id) (i := i) (by simpa using h) (by simpa using e) (fun j hj hji => by have := hn (j + 1) (by simpa using hj) (by omega); simpa using this)
    unfold rowD at ih ⊢
    rw [List.find?_cons_of_neg (by simpa using h0)]
    exact ih
theorem bools_at {l : List Bool} {i : Nat} (h : i < l.length) : (boolsV l)[i]? = some (.bool l[i]) := by simp [boolsV, h]
theorem own_bool {w : World} {B g n c m : Nat} {l : List Bool} (h : w.ownsRow B 4 1 (.slice (some ⟨g, 0, none⟩) n c) m (boolsV l)) {i : Nat} (hi : i < l.length) : w.cell? ⟨g, i, none⟩ = some (.bool l[i]) := by
  have := h.cells (g := g) rfl i _ (bools_at hi)
  rw [add_none] at this
  simpa using this
theorem own_int {w : World} {B g n c m : Nat} {l : List Int} (h : w.ownsRow B 3 1 (.slice (some ⟨g, 0, none⟩) n c) m (intsV l)) {i : Nat} (hi : i < l.length) : w.cell? ⟨g, i, none⟩ = some (.int .i64 l[i]) := by
  have := h.cells (g := g) rfl i _ (intsV_at hi)
  rw [add_none] at this
  simpa using this
end Go.Proofs.YtepjehcmiofehaaGreat
