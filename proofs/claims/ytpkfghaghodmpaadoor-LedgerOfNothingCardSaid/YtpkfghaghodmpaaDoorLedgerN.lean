/- ledger: a nil Ledger has nothing: the walk of the statement, by the evaluator. -/
import Derived.Test.YtpkfghaghodmpaaDoorEvS
import Derived.Test.YtpkfghaghodmpaaDoorEvZc
import Derived.Test.YtpkfghaghodmpaaDoorTabLedger
import Derived.Test.YtpkfghaghodmpaaDoorSortedAt
namespace Go.Proofs.YtpkfghaghodmpaaDoor
open Go.RowKit
set_option linter.unusedVariables false
set_option linter.unusedSimpArgs false
set_option maxRecDepth 100000

def gateLow : List Value := [.int .u32 0, .int .u32 1996959894, .int .u32 3993919788, .int .u32 2567524794, .int .u32 124634137, .int .u32 1886057615, .int .u32 3915621685, .int .u32 2657392035, .int .u32 249268274, .int .u32 2044508324, .int .u32 3772115230, .int .u32 2547177864, .int .u32 162941995, .int .u32 2125561021, .int .u32 3887607047, .int .u32 2428444049]
def gateHigh : List Value := [.int .u32 0, .int .u32 498536548, .int .u32 997073096, .int .u32 651767980, .int .u32 1994146192, .int .u32 1802195444, .int .u32 1303535960, .int .u32 1342533948, .int .u32 3988292384, .int .u32 4027552580, .int .u32 3604390888, .int .u32 3412177804, .int .u32 2607071920, .int .u32 2262029012, .int .u32 2685067896, .int .u32 3183342108]
def ledgerHook (f : FuncId) : Option (Array Value → AM Value) := if f = 56 then some (aSortedKeys 9 [65]) else none
def gateArgs : Array Value := #[.chan (some 0), .chan (some 1)]
def gateSym (a1 : Int) (da : Option Addr) (dn dc : Nat) : List (Nat × Value) := [(0, .slice da dn dc), (1, .int .i64 a1), (1000, .int .i64 dn), (5000000, .nilFunc), (5000001, .nilFunc)]
theorem ledgerEval0 (t0 t1 : TypeId) : isTrueW (fCall Tryd.prog (orcOr (lenOrc Tryd.prog [(0, false, 2000, true)]) (orcOr (globOrc [0, 1]) (hookOrc ledgerHook))) 100000 (tblOr Tryd.prog (ctL Tryd.prog)) 60 3 gateArgs.toList ⟨twoRows gateLow gateHigh t0 t1, 2, 2, [], []⟩) = true := by kernel_rfl
theorem ledgerEval1 (t0 t1 : TypeId) : isTrueW (fCall Tryd.prog (orcOr (lenOrc Tryd.prog [(0, false, 2000, false)]) (orcOr (globOrc [0, 1]) (hookOrc ledgerHook))) 100000 (tblOr Tryd.prog (ctL Tryd.prog)) 60 3 gateArgs.toList ⟨twoRows gateLow gateHigh t0 t1, 2, 2, [], []⟩) = true := by kernel_rfl
theorem walkLedgerOfNothing (a1 : Int) (da : Option Addr) (dn dc : Nat) (t0 t1 : TypeId) (w : World) (g0 : w.heap[0]? = some (.cells gateLow.toArray t0 (0, 0))) (g1 : w.heap[1]? = some (.cells gateHigh.toArray t1 (0, 0))) :
    Calls Tryd.prog 3 #[.slice da dn dc, .int .i64 a1] w fun e' w' => e' = .returned (.bool true) ∧ Below w.heap.size w w' := by
  have hone : ∀ q, (symF (gateSym a1 da dn dc) q).oneCell' = true := symF_one (by intro p hp; simp [gateSym] at hp; rcases hp with rfl | rfl | rfl | rfl | rfl <;> rfl)
  have ha : ∀ r : Ren, r.σ = symF (gateSym a1 da dn dc) → gateArgs.map (ren r) = #[.slice da dn dc, .int .i64 a1] := fun r hr => by simp [gateArgs, ren, hr, symF, gateSym]
  have hgo : OrcOK Tryd.prog (· = symF (gateSym a1 da dn dc)) (globOrc [0, 1]) := globOrc_ok _ (by intro g hg; simp at hg; rcases hg with rfl | rfl <;> simp [gsym, symF, gateSym])
  have hgl : ∀ g, symF (gateSym a1 da dn dc) (gsym g) = .nilFunc → g < 2 := fun g hg => by
    rcases Nat.lt_or_ge g 2 with h | h
    · exact h
    · exfalso
      have n : ∀ k : Nat, k < 5000002 → ¬ k = 5000000 + g := fun k hk => by omega
      simp only [gsym, symF, gateSym] at hg
      simp only [n _ (show 0 < 5000002 by decide), n 1 (by decide), n 1000 (by decide), n 5000000 (by decide), n 5000001 (by decide), if_false] at hg
      cases hg
  have hho : OrcOK Tryd.prog (· = symF (gateSym a1 da dn dc)) (hookOrc ledgerHook) := hookOrc_ok _ _ (fun f m h => by
    unfold ledgerHook at h
    split at h
    · rename_i hf; injection h with h; subst h; subst hf
      exact aSortedKeys_sound (fun g hg => by simp at hg; subst hg; exact sortedAt)
    · cases h)
  have hh := twoRows_holds (σ := symF (gateSym a1 da dn dc)) (a := gateLow) (b := gateHigh) rfl rfl g0 g1
  have h0 : ∀ b, decide (2000 < dn) = b → ∃ n : Nat, symF (gateSym a1 da dn dc) (0 + 1000) = .int .i64 n ∧ decide (2000 < n) = b ∧ (if false = true then ∃ x : ByteArray, symF (gateSym a1 da dn dc) 0 = .string x ∧ x.size = n else ∃ a c, symF (gateSym a1 da dn dc) 0 = .slice a n c) := fun b hb => ⟨dn, by simp [symF, gateSym], hb, by rw [if_neg (by simp)]; exact ⟨da, dc, by simp [symF, gateSym]⟩⟩
  cases g100 : decide (2000 < dn) with
  | true => exact Calls.of_fastG evMixed evNames hone (orcOr_ok (lenOrc_ok Tryd.prog [(0, false, 2000, true)] _ (by intro p hp; simp at hp; subst hp; exact h0 _ g100)) (orcOr_ok hgo hho)) (tblOr_ok ctL_ok) ha w hgl twoRows_none hh (ledgerEval0 t0 t1)
  | false =>
    exact Calls.of_fastG evMixed evNames hone (orcOr_ok (lenOrc_ok Tryd.prog [(0, false, 2000, false)] _ (by intro p hp; simp at hp; subst hp; exact h0 _ g100)) (orcOr_ok hgo hho)) (tblOr_ok ctL_ok) ha w hgl twoRows_none hh (ledgerEval1 t0 t1)
end Go.Proofs.YtpkfghaghodmpaaDoor
