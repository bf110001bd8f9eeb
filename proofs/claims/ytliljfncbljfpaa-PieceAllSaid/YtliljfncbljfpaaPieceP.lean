/- PieceAll: what is true of the pieces at every step. -/
import Derived.Test.YtliljfncbljfpaaQueue
namespace Go.Proofs.Ytliljfncbljfpaa
open Go.RowKit
set_option linter.unusedVariables false
set_option linter.unusedSimpArgs false

/-- the piece from a place on -/
def pc (p : List Nat) (at' : Nat) : List Nat := (p.drop at').take (min 512 (p.length - at'))
theorem pc_length (p : List Nat) (at' : Nat) : (pc p at').length = min 512 (p.length - at') := by unfold pc; rw [List.length_take, List.length_drop]; omega
theorem take_pc (p : List Nat) (a : Nat) : p.take a ++ pc p a = p.take (a + min 512 (p.length - a)) := by
  unfold pc; rw [List.take_add]
/-- the late pieces as cells -/
def qcells (l : List (Nat × Value)) : List Value := l.flatMap fun x => [.int .i64 x.1, x.2]
theorem qcells_app (l m : List (Nat × Value)) : qcells (l ++ m) = qcells l ++ qcells m := by simp [qcells]
theorem qcells_length (l : List (Nat × Value)) : (qcells l).length = l.length * 2 := by
  induction l with
  | nil => rfl
  | cons x r ih => simp only [qcells, List.flatMap_cons, List.length_append, List.length_cons, List.length_nil] at ih ⊢; omega

structure PA (w0 w : World) (bo bi L M : Nat) (p : List Nat) (come a : Nat) (v : Value) (l : List (Nat × Value)) : Prop where
  po : Po w bo L p come
  pi : Pi w bi M (p.take a) p.length
  be : Below w0.heap.size w0 w
  ca : come ≤ a
  al : a ≤ p.length
  qu : Qu w M 69 v l.length (qcells l)
  bm : bo < M
  lw : w0.heap.size ≤ L
  lb : L ≤ bo
  x0 : v.ownBlock ≠ some bi
  x1 : ∀ g, rowBlk w bi = some g → v.ownBlock ≠ some g
  el : ∀ x ∈ l, x.1 ≤ p.length ∧ w.ownsRow M 5 1 x.2 (pc p x.1).length (flatU (pc p x.1)) ∧ ∀ g, x.2.ownBlock = some g → g ≠ bi ∧ rowBlk w bi ≠ some g ∧ v.ownBlock ≠ some g

section
variable {w0 w w' : World} {bo bi L M : Nat} {p : List Nat} {come a : Nat} {v : Value} {l : List (Nat × Value)}
theorem PA.m_le (h : PA w0 w bo bi L M p come a v l) : w0.heap.size ≤ M := by have := h.lw; have := h.lb; have := h.bm; omega
theorem PA.fresh (h : PA w0 w bo bi L M p come a v l) (hb : Below w.heap.size w w') : PA w0 w' bo bi L M p come a v l := by
  have t := Touch.of_below hb
  have e1 : rowBlk w' bi = rowBlk w bi := rowBlk_touch t h.pi.low (by have := h.pi.low; omega)
  refine ⟨h.po.below hb h.po.low, h.pi.touch t (by have := h.pi.low; omega) (fun g hg => by have := (h.pi.blk_lt hg).2; omega), h.be.trans (hb.mono h.be.size), h.ca, h.al, h.qu.touch t (fun g hg => by have := (h.qu.lt g hg).2; omega), h.bm, h.lw, h.lb, h.x0, by rw [e1]; exact h.x1, fun x hx => ?_⟩
  obtain ⟨g1, g2, g3⟩ := h.el x hx
  exact ⟨g1, row_below g2 hb, by rw [e1]; exact g3⟩
/-- a late piece is laid away -/
theorem PA.push {at' : Nat} {sv v' : Value} (h : PA w0 w bo bi L M p come a v l) (hq : Qu w' M 69 v' (l.length + 1) (qcells l ++ [.int .i64 at', sv])) (ht : Touch (fun k => v.ownBlock = some k) w w') (hl : v'.ownBlock = v.ownBlock ∨ v'.ownBlock = some w.heap.size)
    (hat : at' ≤ p.length) (ho : w.ownsRow M 5 1 sv (pc p at').length (flatU (pc p at'))) (hx : ∀ g, sv.ownBlock = some g → g ≠ bi ∧ rowBlk w bi ≠ some g ∧ v.ownBlock ≠ some g) : PA w0 w' bo bi L M p come a v' (l ++ [(at', sv)]) := by
  have hvM : ∀ g, v.ownBlock = some g → M ≤ g := fun g hg => (h.qu.lt g hg).1
  have hm := h.m_le
  have e1 : rowBlk w' bi = rowBlk w bi := rowBlk_touch ht h.pi.low h.x0
  have hne : ∀ g, g < w.heap.size → v.ownBlock ≠ some g → v'.ownBlock ≠ some g := by
    intro g hg hn he
    rcases hl with e | e
    · exact hn (e ▸ he)
    · rw [e] at he; injection he; omega
  refine ⟨h.po.touch ht (fun e => by have := hvM _ e; have := h.bm; omega) (fun g _ hg e => by have := hvM _ e; have := h.bm; omega), h.pi.touch ht h.x0 (fun g hg => h.x1 g hg), h.be.trans (ht.below h.be.size (fun k hk => by have := hvM k hk; omega)), h.ca, h.al, by rw [qcells_app, List.length_append]; exact hq, h.bm, h.lw, h.lb, hne bi h.pi.low h.x0, by rw [e1]; exact fun g hg => hne g (h.pi.blk_lt hg).2 (h.x1 g hg), ?_⟩
  intro x hx'
  rw [e1]
  rcases List.mem_append.1 hx' with h1 | h1
  · obtain ⟨g1, g2, g3⟩ := h.el x h1
    exact ⟨g1, ht.own g2 (fun g hg => (g3 g hg).2.2), fun g hg => ⟨(g3 g hg).1, (g3 g hg).2.1, hne g (g2.lt g hg).2 (g3 g hg).2.2⟩⟩
  · simp only [List.mem_singleton] at h1
    subst h1
    exact ⟨hat, ht.own ho (fun g hg => (hx g hg).2.2), fun g hg => ⟨(hx g hg).1, (hx g hg).2.1, hne g (ho.lt g hg).2 (hx g hg).2.2⟩⟩
/-- the first late piece is cut off -/
theorem PA.pop {x : Nat × Value} {v' : Value} (h : PA w0 w bo bi L M p come a v (x :: l)) (hq : Qu w M 69 v' l.length (qcells l)) (hv : v'.ownBlock = v.ownBlock) : PA w0 w bo bi L M p come a v' l :=
  ⟨h.po, h.pi, h.be, h.ca, h.al, hq, h.bm, h.lw, h.lb, by rw [hv]; exact h.x0, by rw [hv]; exact h.x1, fun y hy => by rw [hv]; exact h.el y (by simp [hy])⟩
/-- how many there are behind a piece -/
def took (p : List Nat) (a at' : Nat) : Nat := if at' = a then a + min 512 (p.length - a) else a
theorem took_le {p : List Nat} {a at' : Nat} (h : a ≤ p.length) : a ≤ took p a at' ∧ took p a at' ≤ p.length := by unfold took; split <;> omega
theorem PA.take {a' : Nat} (h : PA w0 w bo bi L M p come a v l) (hpi : Pi w' bi M (p.take a') p.length) (ht : Touch (fun k => k = bi ∨ rowBlk w bi = some k) w w') (hk : rowBlk w' bi = rowBlk w bi ∨ rowBlk w' bi = some w.heap.size) (ha : a ≤ a') (hl : a' ≤ p.length) : PA w0 w' bo bi L M p come a' v l := by
  have hm := h.m_le
  have hbi := h.pi.high
  have hr : ∀ g, rowBlk w bi = some g → M ≤ g := fun g hg => (h.pi.blk_lt hg).1
  have hne : ∀ g, g < w.heap.size → rowBlk w bi ≠ some g → rowBlk w' bi ≠ some g := by
    intro g hg hn he
    rcases hk with e | e
    · exact hn (e ▸ he)
    · rw [e] at he; injection he; omega
  refine ⟨h.po.touch ht ?_ ?_, hpi, h.be.trans (ht.below h.be.size ?_), Nat.le_trans h.ca ha, hl, h.qu.touch ht ?_, h.bm, h.lw, h.lb, h.x0, ?_, ?_⟩
  · rintro (e | e)
    · have := h.bm; omega
    · have := hr _ e; have := h.bm; omega
  · rintro g _ hg (e | e)
    · have := h.bm; omega
    · have := hr _ e; have := h.bm; omega
  · rintro k (rfl | e)
    · omega
    · have := hr _ e; omega
  · rintro g hg (e | e)
    · exact h.x0 (e ▸ hg)
    · exact h.x1 g e hg
  · intro g hg hv
    exact hne g (h.qu.lt g hv).2 (fun e => h.x1 g e hv) hg
  · intro x hx
    obtain ⟨g1, g2, g3⟩ := h.el x hx
    exact ⟨g1, ht.own g2 (by rintro g hg (e | e); · exact (g3 g hg).1 e
                             · exact (g3 g hg).2.1 e), fun g hg => ⟨(g3 g hg).1, hne g (g2.lt g hg).2 (g3 g hg).2.1, (g3 g hg).2.2⟩⟩
theorem PA.ack (h : PA w0 w bo bi L M p come a v l) (hpo : Po w' bo L p a) (ht : Touch (fun k => k = bo) w w') : PA w0 w' bo bi L M p a a v l := by
  have hm := h.m_le
  have hbi := h.pi.high
  have hbm := h.bm
  have e1 : rowBlk w' bi = rowBlk w bi := rowBlk_touch ht h.pi.low (by omega)
  refine ⟨hpo, h.pi.touch ht (by omega) (fun g hg => by have := (h.pi.blk_lt hg).1; omega), h.be.trans (ht.below h.be.size (by rintro k rfl; have := h.lw; have := h.lb; omega)), Nat.le_refl _, h.al, h.qu.touch ht (fun g hg => by have := (h.qu.lt g hg).1; omega), h.bm, h.lw, h.lb, h.x0, by rw [e1]; exact h.x1, fun x hx => ?_⟩
  obtain ⟨g1, g2, g3⟩ := h.el x hx
  exact ⟨g1, ht.own g2 (fun g hg => by have := (g2.lt g hg).1; omega), by rw [e1]; exact g3⟩
end

/-- Take of a piece -/
theorem stepTake {w0 w : World} {bo bi L M : Nat} {p : List Nat} {come a : Nat} {v : Value} {l : List (Nat × Value)} (h : PA w0 w bo bi L M p come a v l) (hp : p.length ≤ 3000) (at' : Nat) (hat : at' ≤ p.length) (base : Nat) (sv : Value) (ho : w.ownsRow base 5 1 sv (pc p at').length (flatU (pc p at'))) :
    Calls Try.prog 39 #[.pointer (some ⟨bi, 0, none⟩), .int .i64 at', sv] w fun e w' => e = .returned (.int .i64 (took p a at' : Nat)) ∧ PA w0 w' bo bi L M p come (took p a at') v l ∧ Touch (fun k => k = bi ∨ rowBlk w bi = some k) w w' := by
  have hal := h.al
  obtain ⟨A, c, rfl, _, _, hx⟩ := row_cells ho
  have hlt : (p.take a).length = a := by rw [List.length_take]; omega
  have hpl := pc_length p at'
  obtain ⟨t1, t2⟩ := took_le (p := p) (at' := at') hal
  by_cases he : at' = a
  · have e1 : took p a at' = a + min 512 (p.length - a) := by unfold took; rw [if_pos he]
    subst he
    have := piTake bi M (p.take at') (pc p at') p.length w.heap.size A c w h.pi (by omega) (by omega) (by omega) (by omega) hx (by omega)
    rw [hlt] at this
    refine this.mono fun e w' ⟨g1, g2, g3, g4⟩ => ?_
    rw [take_pc, ← e1] at g2
    refine ⟨by rw [g1, e1, hpl], h.take g2 g3 g4 t1 t2, g3⟩
  · have e1 : took p a at' = a := by unfold took; rw [if_neg he]
    have := piTakeNo bi M (p.take a) p.length at' A (pc p at').length c w h.pi (by omega) (by omega) (by omega) (by omega) (Or.inl (by omega))
    rw [hlt] at this
    refine this.mono fun e w' ⟨g1, n, g2⟩ => ?_
    subst g2
    rw [e1]
    exact ⟨g1, h.fresh (b_drewN (Below.refl _ _)), (Touch.refl _ _).drewN n⟩
/-- Ack of all that there are -/
theorem stepAck {w0 w : World} {bo bi L M : Nat} {p : List Nat} {come a : Nat} {v : Value} {l : List (Nat × Value)} (h : PA w0 w bo bi L M p come a v l) (hp : p.length ≤ 3000) :
    ∃ r : Bool, Calls Try.prog 34 #[.pointer (some ⟨bo, 0, none⟩), .int .i64 a] w fun e w' => e = .returned (.bool r) ∧ PA w0 w' bo bi L M p a a v l ∧ Touch (fun k => k = bo) w w' := by
  have hal := h.al
  have hca := h.ca
  by_cases he : come + 1 ≤ a
  · refine ⟨true, (poAck bo L p come a w h.po (by omega) he hal).mono fun e w' ⟨g1, g2, g3⟩ => ?_⟩
    have ht : Touch (fun k => k = bo) w w' := by rw [g3]; exact (Touch.of_drew _ w).set (fun _ => rfl)
    exact ⟨g1, h.ack g2 ht, ht⟩
  · have e1 : come = a := by omega
    refine ⟨false, (poAckNo bo L p come a w h.po (by omega) (by omega) (Or.inl (by omega))).mono fun e w' ⟨g1, g3⟩ => ?_⟩
    subst g3
    subst e1
    exact ⟨g1, h.fresh (Below.refl _ _).drew, Touch.of_drew _ w⟩

end Go.Proofs.Ytliljfncbljfpaa
