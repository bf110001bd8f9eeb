/- An evaluator of Go code whose memory has names of its own (21): a tree of questions, node by node. -/
import Derived.Test.YtljhlnpbomehkaaEwV
namespace Go.Proofs.Ytljhlnpbomehkaa
theorem check_same {ok : KB → Bool} {K Ky Kn : KB} {k : Nat} {c : Int} {y n : DT} {i : Info} (hi : K.find k = some i) (ey : K.put k (i.eq c) = Ky) (en : K.put k (i.not c) = Kn)
    (hy : decide (c < i.lo ∨ i.hi < c) = true ∨ y.check ok Ky = true) (hn : (i.not c).dead = true ∨ n.check ok Kn = true) : (DT.same k c y n).check ok K = true := by
  subst ey; subst en
  unfold DT.check
  rw [hi]
  simp only [Bool.and_eq_true, Bool.or_eq_true]
  exact ⟨hy, hn⟩
theorem check_less {ok : KB → Bool} {K Ky Kn : KB} {k : Nat} {c : Int} {y n : DT} {i : Info} (hi : K.find k = some i) (ey : K.put k (i.below c) = Ky) (en : K.put k (i.from c) = Kn)
    (hy : (i.below c).dead = true ∨ y.check ok Ky = true) (hn : (i.from c).dead = true ∨ n.check ok Kn = true) : (DT.less k c y n).check ok K = true := by
  subst ey; subst en
  unfold DT.check
  rw [hi]
  simp only [Bool.and_eq_true, Bool.or_eq_true]
  exact ⟨hy, hn⟩
theorem check_leaf {ok : KB → Bool} {K : KB} (h : ok K = true) : DT.leaf.check ok K = true := h
end Go.Proofs.Ytljhlnpbomehkaa
