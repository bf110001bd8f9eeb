/- A run of which all is known, with octet's two tables and parts: it leaves true, and nothing of before is changed. -/
import Derived.Test.YteibnmohoclocaaDoorEwM9
import Derived.Test.YteibnmohoclocaaDoorGateK
import Derived.ProofKit
namespace Go.Proofs.YteibnmohoclocaaDoor
open Go.RowKit
set_option linter.unusedVariables false
set_option linter.unusedSimpArgs false
set_option maxRecDepth 100000

def leafSym : List (Nat × Value) := [(5000000, .nilFunc), (5000001, .nilFunc)]
theorem gateLeaf {es : List EnF} (hes : ∀ e ∈ es, EnFOK Tryd.prog SQG e) {orc : OrcL} (ho : OrcLOK Tryd.prog SQG orc) {f : FuncId} {args : Array Value} (hargs : ∀ r : Ren, args.map (ren r) = args) (s t : TypeId) (w : World) (g0 : w.heap[0]? = some (.cells gateLow.toArray s (0, 0))) (g1 : w.heap[1]? = some (.cells gateHigh.toArray t (0, 0)))
    (h : isTrueL (fCallT Tryd.prog orc 100000 (cFnL Tryd.prog) (tabOr (tabE es) (knTab 4 gateLow gateHigh)) 90 f args.toList ⟨twoRows gateLow gateHigh s t, 2, 2, [], []⟩) = true) :
    Calls Tryd.prog f args w fun e w' => e = .returned (.bool true) ∧ Below w.heap.size w w' := by
  have hone : ∀ q, (symF leafSym q).oneCell' = true := symF_one (by intro p hp; simp [leafSym] at hp; rcases hp with rfl | rfl <;> rfl)
  have hsq : SQG (symF leafSym) := ⟨by simp [symF, leafSym, gsym], by simp [symF, leafSym, gsym]⟩
  have hgl : ∀ g, symF leafSym (gsym g) = .nilFunc → g < 2 := fun g hg => by
    rcases Nat.lt_or_ge g 2 with h | h
    · exact h
    · exfalso
      have n : ∀ k : Nat, k < 5000002 → ¬ k = 5000000 + g := fun k hk => by omega
      simp only [gsym, symF, leafSym] at hg
      simp only [n 5000000 (by decide), n 5000001 (by decide), if_false] at hg
      cases hg
  have hmono : ∀ x, x = symF leafSym → SQG x := fun x hx => by rw [hx]; exact hsq
  exact Calls.of_fastT evMixed evNames hone ⟨OrcOK.weak hmono ho.1, ho.2⟩ (tableL_self _) (TabOK.or ((tabE_ok (es := es) hes).mono hmono) (knTab_ok (fun s hs => (hmono s hs).1) (fun s hs => (hmono s hs).2) rfl rfl gateKKnown)) (args := args) (fun r _ => hargs r) w hgl twoRows_none (twoRows_holds (σ := symF leafSym) (a := gateLow) (b := gateHigh) rfl rfl g0 g1) h
end Go.Proofs.YteibnmohoclocaaDoor
