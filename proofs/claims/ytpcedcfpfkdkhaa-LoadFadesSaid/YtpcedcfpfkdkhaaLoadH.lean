/- LoadFades: what Hit, Fade, Table make of a load of one zone with one key. -/
import Derived.KernelRfl
import Derived.Test.YtpcedcfpfkdkhaaSortedAt2
import Derived.Test.YtpcedcfpfkdkhaaEwCt
import Derived.Test.YtpcedcfpfkdkhaaEwM10
namespace Go.Proofs.Ytpcedcfpfkdkhaa
open Go.RowKit
set_option linter.unusedVariables false
set_option linter.unusedSimpArgs false
set_option maxRecDepth 100000

def lfHook (f : FuncId) : Option (Array Value → LM Value) := (match Nat.beq f 11 with | true => some (fun args => (LM.ofA (aSortedNil [16] args)).or (.ofA (aSortedInts 3 [16] args))) | false => (match Nat.beq f 17 with | true => some (fun args => .ofA (aSortedKeys 9 [24] args)) | false => none))
def lfCut (f : FuncId) : Bool := hasN [7, 9, 11, 13, 16, 17, 24] f
def lfOrc : OrcL := ⟨noOrc, lfHook, lfCut⟩
theorem lfHook_ok : ∀ f m, lfHook f = some m → FunOKL Try.prog f m := by
  intro f m h
  unfold lfHook at h
  split at h
  · rename_i hb; injection h with h; subst h; rw [Nat.eq_of_beq_eq_true hb]
    refine FunOKL.or (aSortedNil_sound sortedNilAt11).toL ?_
    refine (aSortedInts_sound (fun g hg => ?_)).toL
    simp at hg
    subst hg
    · exact sortedAt16
  · skip
    split at h
    · rename_i hb; injection h with h; subst h; rw [Nat.eq_of_beq_eq_true hb]
      refine (aSortedKeys_sound (fun g hg => ?_)).toL
      simp at hg
      subst hg
      · exact sortedAt24
    · skip
      cases h
def lfσ : Nat → Value := fun _ => .bool false
theorem lfOrc_ok : OrcLOK Try.prog (· = lfσ) lfOrc := OrcLOK.mk' (noOrc_ok _ _) lfHook_ok
/-- one zone with one key that was hit n times -/
def ldT (n : Int) : Tr := .nd (some (.row [.map (some 1)] 33 0 false)) (.nd (some (.map [{ key := .int .i64 3, val := .map (some 2), born := 0 }] 1)) .lf .lf) (.nd (some (.map [{ key := .string ⟨#[107]⟩, val := .int .i64 n, born := 0 }] 1)) .lf .lf)
/-- nothing yet -/
def ldZ : Tr := .nd (some (.row [.map none] 33 0 false)) .lf .lf
/-- nothing left -/
def ldE : Tr := .nd (some (.row [.map (some 1)] 33 0 false)) (.nd (some (.map [] 1)) .lf .lf) (.nd (some (.map [] 1)) .lf .lf)
/-- a table of one row -/
def ldR (k : Nat) (n : Int) : Tr := Tr.set 64 .lf k (some (.row [.int .i64 3, .int .i64 n, .string ⟨#[107]⟩] 29 3 false))
def ldP : Value := .pointer (some ⟨0, 0, none⟩)
def unitV : Value := .tuple #[]
noncomputable def okNew : Bool := runTo Try.prog lfOrc (cFnL Try.prog) noTab 5 [] .lf 0 ldZ 1 ldP
noncomputable def okHit (m : Tr) (k : Nat) (m' : Tr) : Bool := runTo Try.prog lfOrc (cFnL Try.prog) noTab 6 [ldP, .int .i64 3, .string ⟨#[107]⟩] m k m' 3 unitV
noncomputable def okFade (m : Tr) (k : Nat) (m' : Tr) : Bool := runTo Try.prog lfOrc (cFnL Try.prog) noTab 7 [ldP] m k m' k unitV
noncomputable def okTab (m : Tr) (k : Nat) (m' : Tr) (k' : Nat) (v : Value) : Bool := runTo Try.prog lfOrc (cFnL Try.prog) noTab 8 [ldP] m k m' k' v
def allB (f : Nat → Bool) : Nat → Bool
  | 0 => true
  | n + 1 => f n && allB f n
theorem allB_all {f : Nat → Bool} : ∀ {n : Nat}, allB f n = true → ∀ i, i < n → f i = true
  | 0, _, i, hi => absurd hi (Nat.not_lt_zero i)
  | n + 1, h, i, hi => by
    simp only [allB, Bool.and_eq_true] at h
    by_cases e : i = n
    · subst e; exact h.1
    · exact allB_all h.2 i (by omega)
def half (n : Nat) : Tr := match Nat.ble n 1 with
  | true => ldE
  | false => ldT (Int.ofNat (n / 2))
def tabN : Nat := 11
def tabK : Nat := 12
theorem newOK : okNew = true := by kernel_rfl
theorem hitZ : okHit ldZ 1 (ldT 1) = true := by kernel_rfl
theorem fadeZ : okFade ldZ 1 ldZ = true := by kernel_rfl
theorem fadeE : okFade ldE 3 ldE = true := by kernel_rfl
theorem tabZ : okTab ldZ 1 .lf 0 (.slice none 0 0) = true := by kernel_rfl
theorem tabEE : okTab ldE 3 .lf 0 (.slice none 0 0) = true := by kernel_rfl
end Go.Proofs.Ytpcedcfpfkdkhaa
