/- Sorted keys of maps, and nothing gathered, at this program, as steps of the evaluator. -/
import Derived.Test.YtpcedcfpfkdkhaaLay
import Derived.Test.YtpcedcfpfkdkhaaEwM8
import Derived.Test.YtpcedcfpfkdkhaaEwM10
import Derived.Shelf.SlIter.Sorted
import Derived.Shelf.SlIterI.Sorted
import Derived.Shelf.SortM.Plain
import Derived.Shelf.SortM.SortNone
namespace Go.Proofs.Ytpcedcfpfkdkhaa
open Go.RowKit Go.Maps Go.Sort Go.Shelf
open Go.Proofs
set_option linter.unusedVariables false
set_option linter.unusedSimpArgs false
set_option maxRecDepth 100000
theorem sortsAt11 (m : Nat) : AnyZI.SortsIn Try.prog Try.sorted11_ren Fence.wide m :=
  ⟨fun blk off cap ss W hH hblk hsz => callsIn_wide.2 (AnyM.slices_Sort_int Try.sort15 blk off cap ss W hH hblk hsz),
   fun p cap W => callsIn_wide.2 (AnyM.slices_Sort_int_none Try.sort15 p cap W)⟩
set_option maxHeartbeats 1000000 in
theorem sortedAt16 : SortedIntsAt Try.prog 11 16 3 :=
  ⟨Try.underlying3, fun W Bm b nn D0 R hBm hcell hown hsize => by
    have hseq : SeqGives Fence.wide 2 Try.prog 16 #[.pointer (some ⟨Bm, 0, none⟩)] encZ (fun ss => ss.Perm (intKeys D0)) (Maps.size D0) W :=
      AnyZI.keys_gives (ρ := Try.keys12_ren) { Try.keys12 with } Fence.wide _ trivial rfl (by omega) Bm b nn D0 W hBm hcell hown
    exact (callsIn_wide (n := 5)).1 (AnyZI.sorted_in Try.sorted11 Fence.wide 5 trivial trivial trivial trivial rfl (by omega) (sortsAt11 _) (enters_of Try.func15 (by kernel_rfl) rfl) 16 #[.pointer (some ⟨Bm, 0, none⟩)] trivial (enters_of Try.func16 (by kernel_rfl) rfl) _ _ (by unfold maxLen; omega) (by omega) _ hseq)⟩
theorem sortsAt17 (m : Nat) : AnyZ.SortsIn Try.prog Try.sorted17_ren Fence.wide m :=
  ⟨fun blk off cap ss W hH hblk hsz => callsIn_wide.2 (AnyM.slices_Sort_string Try.sort23 blk off cap ss W hH hblk hsz),
   fun p cap W => callsIn_wide.2 (AnyM.slices_Sort_string_none Try.sort23 p cap W)⟩
set_option maxHeartbeats 1000000 in
theorem sortedAt24 : SortedKeysAt Try.prog 17 24 9 :=
  ⟨Try.underlying9, fun W Bm b nn D0 R hBm hcell hown hsize => by
    have hseq : SeqGives Fence.wide 2 Try.prog 24 #[.pointer (some ⟨Bm, 0, none⟩)] encStr (fun ss => ss.Perm (strKeys D0)) (Maps.size D0) W :=
      AnyZ.keys_gives (ρ := Try.keys18_ren) { Try.keys18 with } Fence.wide _ trivial rfl (by omega) Bm b nn D0 W hBm hcell hown
    exact (callsIn_wide (n := 5)).1 (AnyZ.sorted_in Try.sorted17 Fence.wide 5 trivial trivial trivial trivial rfl (by omega) (sortsAt17 _) (enters_of Try.func23 (by kernel_rfl) rfl) 24 #[.pointer (some ⟨Bm, 0, none⟩)] trivial (enters_of Try.func24 (by kernel_rfl) rfl) _ _ (by unfold maxLen; omega) (by omega) _ hseq)⟩
theorem itNoneAt16 : ItNone Try.prog 16 := itNone_eval evMixed evNames (fuel := 100) (n := 3) (fun l t => by kernel_rfl) (fun l t cl => by kernel_rfl)
theorem appendNoneAt19 : ∀ g ∈ [16], AppendNoneAt Try.prog 19 g := by
  intro g hg w Bm m t hbm hmm
  simp only [List.mem_cons, List.not_mem_nil, or_false] at hg
  subst hg
  · exact appendNone evMixed Try.func19 rfl rfl rfl Try.underlying37 Try.isAgg37 Try.sizeOf37 (enters_of Try.func16 (by kernel_rfl) rfl) itNoneAt16 w Bm m t hbm hmm
def nilHook11 (f : FuncId) : Option (Array Value → LM Value) := match Nat.beq f 19 with
  | true => some (fun args => .ofA (aAppend0 [16] args))
  | false => none
theorem nilHook11_ok : ∀ f m, nilHook11 f = some m → FunOKL Try.prog f m := by
  intro f m h
  unfold nilHook11 at h
  split at h
  · rename_i hb; injection h with h; subst h; rw [Nat.eq_of_beq_eq_true hb]
    exact (aAppend0_sound appendNoneAt19).toL
  · cases h
noncomputable def nilOrc11 : OrcL := ⟨noOrc, nilHook11, fun _ => false⟩
theorem nilOrc11_ok : OrcLOK Try.prog (fun s => s = fun _ => Value.bool false) nilOrc11 := OrcLOK.mk' (noOrc_ok _ _) nilHook11_ok
theorem sortedNilAt11 : ∀ g ∈ [16], SortedNilAt Try.prog 11 g := by
  intro g hg
  simp only [List.mem_cons, List.not_mem_nil, or_false] at hg
  subst hg
  · exact sortedNil_eval evMixed evNames nilOrc11_ok (fuel := 1000) (n := 30) (fun t => by kernel_rfl)
end Go.Proofs.Ytpcedcfpfkdkhaa
