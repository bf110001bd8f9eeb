/- An evaluator of Go code whose memory has names of its own: trees of questions, calls that come to more than one end, part by part. -/
import Derived.Test.YtljhlnpbomehkaaEwT
import Derived.Test.YtljhlnpbomehkaaEwX
import Derived.Test.YtljhlnpbomehkaaEwW
namespace Go.Proofs.Ytljhlnpbomehkaa
set_option linter.unusedVariables false
set_option linter.unusedSimpArgs false

def orcK (P : Program) (X : Orc) (hk : FuncId → Option (Array Value → LM Value)) (c : FuncId → Bool) (S : List Nat) (E : ET) (K : KB) : OrcL := ⟨orcOr (kOrc P S E K) X, hk, c⟩
def okT (P : Program) (X : Orc) (hk : FuncId → Option (Array Value → LM Value)) (c : FuncId → Bool) (S : List Nat) (E : ET) (fuel : Nat) (T : FuncId → Option FF) (tab : FTab) (n : Nat) (f : FuncId) (args : Array Value) (h : AH) (K : KB) : Bool :=
  isTrueL (fCallT P (orcK P X hk c S E K) fuel T tab n f args.toList h)
theorem Calls.of_treeT {P : Program} (hm : P.follows .mixedOrders = true) (hn : NameOK P) {X : Orc} {hk : FuncId → Option (Array Value → LM Value)} {c : FuncId → Bool} {S : List Nat} {E : ET} {K : KB} {σ : Nat → Value} (hσ : ∀ k, (σ k).oneCell' = true) (hX : OrcOK P (· = σ) X) (hhk : ∀ f m, hk f = some m → FunOKL P f m)
    (hE : EqOK P E) (hK : KOK K σ) (hS : SOK S σ) {fuel n : Nat} {f : FuncId} {args args' : Array Value} {T : FuncId → Option FF} (hT : TableOKL P T) {tab : FTab} (htab : TabOK P (· = σ) tab)
    (ha : ∀ r : Ren, r.σ = σ → args.map (ren r) = args') {t : DT} {m0 : Tr} {n0 : Nat} (ht : t.check (okT P X hk c S E fuel T tab n f args ⟨m0, n0, n0, [], []⟩) K = true) (w : World) (hg : ∀ g, σ (gsym g) = .nilFunc → g < n0) (hw0 : ∀ g, n0 ≤ g → m0.get g = none)
    (hh : ∀ g o, m0.get g = some o → Holds (fun g => g < n0) ⟨fun g => g, fun _ => 0, σ⟩ g w o) : Calls P f args' w fun e w' => e = .returned (.bool true) ∧ RowKit.Below w.heap.size w w' := by
  obtain ⟨K', h1, h2⟩ := DT.sound t K ht hK
  exact Calls.of_fastT hm hn hσ ⟨orcOr_ok (kOrc_ok hE h1 hS) hX, hhk⟩ hT htab ha w hg hw0 hh h2
/-- .. that looks at no memory of before -/
theorem Calls.of_treeN {P : Program} (hm : P.follows .mixedOrders = true) (hn : NameOK P) {X : Orc} {hk : FuncId → Option (Array Value → LM Value)} {c : FuncId → Bool} {S : List Nat} {E : ET} {K : KB} {σ : Nat → Value} (hσ : ∀ k, (σ k).oneCell' = true) (hX : OrcOK P (· = σ) X) (hhk : ∀ f m, hk f = some m → FunOKL P f m)
    (hE : EqOK P E) (hK : KOK K σ) (hS : SOK S σ) {fuel n : Nat} {f : FuncId} {args args' : Array Value} {T : FuncId → Option FF} (hT : TableOKL P T) {tab : FTab} (htab : TabOK P (· = σ) tab)
    (ha : ∀ r : Ren, r.σ = σ → args.map (ren r) = args') {t : DT} (ht : t.check (okT P X hk c S E fuel T tab n f args ⟨.lf, 0, 0, [], []⟩) K = true) (w : World) (hg : ∀ g, σ (gsym g) ≠ .nilFunc) : Calls P f args' w fun e w' => e = .returned (.bool true) ∧ RowKit.Below w.heap.size w w' :=
  Calls.of_treeT hm hn hσ hX hhk hE hK hS hT htab ha ht w (fun g h => absurd h (hg g)) (fun g _ => Tr.get_lf g) (fun g o h => by rw [Tr.get_lf] at h; cases h)
end Go.Proofs.Ytljhlnpbomehkaa
