/- Shorter forms of what the texts say often. -/
import Derived.Test.YtdlbiobjnohfbaaGreatVb1
namespace Go.Proofs.YtdlbiobjnohfbaaGreat
open Go.RowKit
theorem q1 {α : Type} (l : List α) (i : Nat) (a : α) : l.toArray.setIfInBounds i a = (l.set i a).toArray := List.setIfInBounds_toArray ..
theorem q2 {α : Type} (a : α) (l : List α) (b : α) : (a :: l).set 0 b = b :: l := rfl
theorem q3 {α : Type} (a : α) (l : List α) (n : Nat) (b : α) : (a :: l).set (n + 1) b = a :: l.set n b := rfl
theorem q4 (a : Act) (d : Tmp) (v : Value) : a.put (some d) v = { a with tmps := a.tmps.setIfInBounds d v } := rfl
theorem q5 (a : Act) (v : Value) : a.put none v = a := rfl
theorem tB {b : Nat} {a w : World} (h : Below b a w := by ((repeat (first | (with_reducible exact Below.refl _ _) | (with_reducible assumption) | ((with_reducible refine b_set ?_ ?_); · (first | omega | (simp; done) | (simp; omega))) | ((with_reducible refine b_alloc ?_ ?_); · (first | omega | (simp; done) | (simp; omega))) | (with_reducible refine Below.drew ?_) | (with_reducible refine b_drewN ?_) | ((with_reducible refine b_call (by assumption) ?_ ?_); · (first | omega | (simp; done) | (simp; omega))))); done)) : Below b a w := h
theorem tC {w : World} {a : Addr} {v : Option Value} (h : w.cell? a = v := by ((repeat (first | (with_reducible assumption) | ((with_reducible refine c_set_same ?_); ((repeat (first | (with_reducible exact h_of (by assumption)) | (with_reducible assumption) | (with_reducible refine h_set ?_) | ((with_reducible refine h_alloc ?_ ?_); · (first | omega | (simp; done) | (simp; omega))) | ((with_reducible refine h_new ?_ ?_) <;> (first | omega | (simp; done) | (simp; omega))) | (with_reducible refine h_drew ?_) | (with_reducible refine h_drewN ?_) | ((with_reducible refine h_keep (by assumption) ?_ ?_); · (first | omega | (simp; done) | (simp; omega))))); done)) | ((with_reducible refine c_set_other ?_ ?_); · (first | omega | (simp; done) | (simp; omega))) | ((with_reducible refine c_alloc ?_ ?_); · (first | omega | (simp; done) | (simp; omega))) | ((with_reducible refine c_new ?_ ?_) <;> (first | omega | (simp; done) | (simp; omega))) | (with_reducible refine c_drew ?_) | (with_reducible refine c_drewN ?_) | ((with_reducible refine c_keep (by assumption) ?_ ?_); · (first | omega | (simp; done) | (simp; omega))))); done)) : w.cell? a = v := h
theorem tF {w : World} {a : Addr} {v : Bool} (h : w.frozen? a = v := by ((repeat (first | (with_reducible assumption) | (with_reducible refine f_set ?_) | ((with_reducible refine f_alloc ?_ ?_); · (first | omega | (simp; done) | (simp; omega))) | ((with_reducible refine f_new ?_); (first | omega | (simp; done) | (simp; omega)); done) | (with_reducible refine f_drew ?_) | (with_reducible refine f_drewN ?_) | ((with_reducible refine f_keep (by assumption) ?_ ?_); · (first | omega | (simp; done) | (simp; omega))))); done)) : w.frozen? a = v := h
theorem tY {p : Prop} (h : p := by (intro w hSw; (try dsimp only at hSw); (try go_split_ands); go_simp); (try with_reducible rfl)) : p := h
theorem tkY {P : Program} {md : Region.Mode} {ops : Array Oper} {Q : Exit → Act → World → Prop} {S : World → Prop} (i : Nat) (d : Option Tmp) (v : Value) {o : Op} {t : TypeId} {p : String} {f : Array Edge} {g : Option (Nat × Bool)} {fuel : Nat} {listed : Array Bool} {a : Act} {w : World} (hi : ops[i]? = some ⟨d, o, t, p, f, g⟩)
    (hy : ∀ w, S w → (execOp a.eval ⟨d, o, t, p, f, g⟩).run P w = .ok (.value v) w) (h : wpAnyH P md ops Q S fuel (listed.setIfInBounds i true) (a.put d v) w)
    (hs : Region.noSelect ops = true := by kernel_rfl) (hf : Region.free md ops listed i = true := by kernel_rfl) (hr : (Region.ready md ops listed).contains i = true := by kernel_rfl)
    (hQ : ∀ c a w, Q (.panic c) (a.put d v) w → Q (.panic c) a w := by exact fun _ _ _ h => h) (hg : Region.wanted ⟨d, o, t, p, f, g⟩ (yielded ops a.tmps) = true := by rfl) (hS : S w := by assumption) :
    wpAnyH P md ops Q S (fuel + 1) listed a w :=
  wpAnyH_take (oi := ⟨d, o, t, p, f, g⟩) hi hs hf hr hQ (Or.inl ⟨hg, hy⟩) hS h
theorem tkN {P : Program} {md : Region.Mode} {ops : Array Oper} {Q : Exit → Act → World → Prop} {S : World → Prop} (i : Nat) (d : Option Tmp) {o : Op} {t : TypeId} {p : String} {f : Array Edge} {g : Option (Nat × Bool)} {fuel : Nat} {listed : Array Bool} {a : Act} {w : World} (hi : ops[i]? = some ⟨d, o, t, p, f, g⟩)
    (h : wpAnyH P md ops Q S fuel (listed.setIfInBounds i true) (a.put d undef) w)
    (hs : Region.noSelect ops = true := by kernel_rfl) (hf : Region.free md ops listed i = true := by kernel_rfl) (hr : (Region.ready md ops listed).contains i = true := by kernel_rfl)
    (hQ : ∀ c a w, Q (.panic c) (a.put d undef) w → Q (.panic c) a w := by exact fun _ _ _ h => h) (hg : Region.wanted ⟨d, o, t, p, f, g⟩ (yielded ops a.tmps) = false := by rfl) (hS : S w := by assumption) :
    wpAnyH P md ops Q S (fuel + 1) listed a w :=
  wpAnyH_take (oi := ⟨d, o, t, p, f, g⟩) hi hs hf hr hQ (Or.inr ⟨hg, rfl⟩) hS h
end Go.Proofs.YtdlbiobjnohfbaaGreat
