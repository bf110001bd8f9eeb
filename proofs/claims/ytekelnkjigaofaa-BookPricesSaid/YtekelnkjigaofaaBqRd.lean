/- BookPrices: what a trade is. -/
import Derived.Test.YtekelnkjigaofaaBqP
import Derived.Test.YtekelnkjigaofaaOpenBacts
import Derived.Deep.RegionLaw
namespace Go.Proofs.Ytekelnkjigaofaa
open Go.RowKit
set_option linter.unusedVariables false
set_option linter.unusedSimpArgs false

/-- a trade is at the price of the one that stood there, and never worse than either offered -/
def Fair (o : Od) (L : List Od) (t : Td) : Prop := ∃ x ∈ L, x.id = (if o.buy then t.sell else t.buy) ∧ t.pr = x.pr ∧ t.pr ≤ t.bid ∧ (o.buy = true → t.bid = o.pr) ∧ (o.buy = false → o.pr ≤ t.pr)
theorem Places.fair {o : Od} {L : List Od} {T : List Td} {o1 : Od} {L1 : List Od} (h : Places o L T o1 L1) : ∀ t ∈ T, Fair o L t := by
  induction h with
  | done o L h => intro t ht; cases ht
  | step o x L T o' L' h0 hb h ih =>
    intro t ht
    rcases List.mem_cons.1 ht with rfl | ht
    · have hm := hb.2.1
      unfold meets at hm
      simp only [Bool.and_eq_true] at hm
      have hm := hm.2
      unfold meetP at hm
      refine ⟨x, hb.1, ?_⟩
      unfold tradeP
      cases hq : o.buy <;> rw [hq] at hm <;> simp at hm ⊢ <;> omega
    · obtain ⟨y, hy, h1, h2, h3, h4, h5⟩ := ih t ht
      obtain ⟨z, hz, e, hc⟩ := takeN_mem hy
      have hp : y.pr = z.pr := by
        rcases hc with ⟨_, rfl⟩ | ⟨_, _, rfl⟩ <;> rfl
      exact ⟨z, hz, e.trans h1, h2.trans hp, h3, h4, h5⟩
theorem Placed.fair {L : List Od} {last : Int} {o : Od} {T : List Td} {n e : Int} {L' : List Od} {last' : Int} (h : Placed L last o T n e L' last') : ∀ t ∈ T, Fair o L t := by
  cases h with
  | bad => intro t ht; cases ht
  | full => intro t ht; cases ht
  | ok _ _ _ _ _ _ hp _ => exact hp.fair
end Go.Proofs.Ytekelnkjigaofaa
