/- Sorted keys of maps, and nothing gathered, at this program, as steps of the evaluator. -/
import Derived.Test.YtfakfnekcgkelaaLay
import Derived.Test.YtfakfnekcgkelaaEwM8
import Derived.Test.YtfakfnekcgkelaaEwM10
import Derived.Shelf.SlIter.Sorted
import Derived.Shelf.SlIterI.Sorted
import Derived.Shelf.SortM.Plain
import Derived.Shelf.SortM.SortNone
namespace Go.Proofs.Ytfakfnekcgkelaa
open Go.RowKit Go.Maps Go.Sort Go.Shelf
open Go.Proofs
set_option linter.unusedVariables false
set_option linter.unusedSimpArgs false
set_option maxRecDepth 100000
theorem sortsAt20 (m : Nat) : AnyZI.SortsIn Try.prog Try.sorted20_ren Fence.wide m :=
  ⟨fun blk off cap ss W hH hblk hsz => callsIn_wide.2 (AnyM.slices_Sort_int Try.sort24 blk off cap ss W hH hblk hsz),
   fun p cap W => callsIn_wide.2 (AnyM.slices_Sort_int_none Try.sort24 p cap W)⟩
set_option maxHeartbeats 1000000 in
theorem sortedAt25 : SortedIntsAt Try.prog 20 25 3 :=
  ⟨Try.underlying3, fun W Bm b nn D0 R hBm hcell hown hsize => by
    have hseq : SeqGives Fence.wide 2 Try.prog 25 #[.pointer (some ⟨Bm, 0, none⟩)] encZ (fun ss => ss.Perm (intKeys D0)) (Maps.size D0) W :=
      AnyZI.keys_gives (ρ := Try.keys21_ren) { Try.keys21 with } Fence.wide _ trivial rfl (by omega) Bm b nn D0 W hBm hcell hown
    exact (callsIn_wide (n := 5)).1 (AnyZI.sorted_in Try.sorted20 Fence.wide 5 trivial trivial trivial trivial rfl (by omega) (sortsAt20 _) (enters_of Try.func24 (by kernel_rfl) rfl) 25 #[.pointer (some ⟨Bm, 0, none⟩)] trivial (enters_of Try.func25 (by kernel_rfl) rfl) _ _ (by unfold maxLen; omega) (by omega) _ hseq)⟩
theorem sortsAt26 (m : Nat) : AnyZ.SortsIn Try.prog Try.sorted26_ren Fence.wide m :=
  ⟨fun blk off cap ss W hH hblk hsz => callsIn_wide.2 (AnyM.slices_Sort_string Try.sort32 blk off cap ss W hH hblk hsz),
   fun p cap W => callsIn_wide.2 (AnyM.slices_Sort_string_none Try.sort32 p cap W)⟩
set_option maxHeartbeats 1000000 in
theorem sortedAt33 : SortedKeysAt Try.prog 26 33 9 :=
  ⟨Try.underlying9, fun W Bm b nn D0 R hBm hcell hown hsize => by
    have hseq : SeqGives Fence.wide 2 Try.prog 33 #[.pointer (some ⟨Bm, 0, none⟩)] encStr (fun ss => ss.Perm (strKeys D0)) (Maps.size D0) W :=
      AnyZ.keys_gives (ρ := Try.keys27_ren) { Try.keys27 with } Fence.wide _ trivial rfl (by omega) Bm b nn D0 W hBm hcell hown
    exact (callsIn_wide (n := 5)).1 (AnyZ.sorted_in Try.sorted26 Fence.wide 5 trivial trivial trivial trivial rfl (by omega) (sortsAt26 _) (enters_of Try.func32 (by kernel_rfl) rfl) 33 #[.pointer (some ⟨Bm, 0, none⟩)] trivial (enters_of Try.func33 (by kernel_rfl) rfl) _ _ (by unfold maxLen; omega) (by omega) _ hseq)⟩
theorem itNoneAt25 : ItNone Try.prog 25 := itNone_eval evMixed evNames (fuel := 100) (n := 3) (fun l t => by kernel_rfl) (fun l t cl => by kernel_rfl)
theorem appendNoneAt28 : ∀ g ∈ [25], AppendNoneAt Try.prog 28 g := by
  intro g hg w Bm m t hbm hmm
  simp only [List.mem_cons, List.not_mem_nil, or_false] at hg
  subst hg
  · exact appendNone evMixed Try.func28 rfl rfl rfl Try.underlying40 Try.isAgg40 Try.sizeOf40 (enters_of Try.func25 (by kernel_rfl) rfl) itNoneAt25 w Bm m t hbm hmm
def nilHook20 (f : FuncId) : Option (Array Value → LM Value) := match Nat.beq f 28 with
  | true => some (fun args => .ofA (aAppend0 [25] args))
  | false => none
theorem nilHook20_ok : ∀ f m, nilHook20 f = some m → FunOKL Try.prog f m := by
  intro f m h
  unfold nilHook20 at h
  split at h
  · rename_i hb; injection h with h; subst h; rw [Nat.eq_of_beq_eq_true hb]
    exact (aAppend0_sound appendNoneAt28).toL
  · cases h
noncomputable def nilOrc20 : OrcL := ⟨noOrc, nilHook20, fun _ => false⟩
theorem nilOrc20_ok : OrcLOK Try.prog (fun s => s = fun _ => Value.bool false) nilOrc20 := OrcLOK.mk' (noOrc_ok _ _) nilHook20_ok
theorem sortedNilAt20 : ∀ g ∈ [25], SortedNilAt Try.prog 20 g := by
  intro g hg
  simp only [List.mem_cons, List.not_mem_nil, or_false] at hg
  subst hg
  · exact sortedNil_eval evMixed evNames nilOrc20_ok (fuel := 1000) (n := 30) (fun t => by kernel_rfl)
end Go.Proofs.Ytfakfnekcgkelaa
