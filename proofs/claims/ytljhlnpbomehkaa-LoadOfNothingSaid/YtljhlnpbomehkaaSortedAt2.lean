/- Sorted keys of maps, and nothing gathered, at this program, as steps of the evaluator. -/
import Derived.Test.YtljhlnpbomehkaaLay
import Derived.Test.YtljhlnpbomehkaaEwM8
import Derived.Shelf.SlIter.Sorted
import Derived.Shelf.SlIterI.Sorted
import Derived.Shelf.SortM.Plain
import Derived.Shelf.SortM.SortNone
namespace Go.Proofs.Ytljhlnpbomehkaa
open Go.RowKit Go.Maps Go.Sort Go.Shelf
open Go.Proofs
set_option linter.unusedVariables false
set_option linter.unusedSimpArgs false
set_option maxRecDepth 100000
theorem sortsAt19 (m : Nat) : AnyZI.SortsIn Try.prog Try.sorted19_ren Fence.wide m :=
  ⟨fun blk off cap ss W hH hblk hsz => callsIn_wide.2 (AnyM.slices_Sort_int Try.sort34 blk off cap ss W hH hblk hsz),
   fun p cap W => callsIn_wide.2 (AnyM.slices_Sort_int_none Try.sort34 p cap W)⟩
set_option maxHeartbeats 1000000 in
theorem sortedAt35 : SortedIntsAt Try.prog 19 35 3 :=
  ⟨Try.underlying3, fun W Bm b nn D0 R hBm hcell hown hsize => by
    have hseq : SeqGives Fence.wide 2 Try.prog 35 #[.pointer (some ⟨Bm, 0, none⟩)] encZ (fun ss => ss.Perm (intKeys D0)) (Maps.size D0) W :=
      AnyZI.keys_gives (ρ := Try.keys20_ren) { Try.keys20 with } Fence.wide _ trivial rfl (by omega) Bm b nn D0 W hBm hcell hown
    exact (callsIn_wide (n := 5)).1 (AnyZI.sorted_in Try.sorted19 Fence.wide 5 trivial trivial trivial trivial rfl (by omega) (sortsAt19 _) (enters_of Try.func34 (by kernel_rfl) rfl) 35 #[.pointer (some ⟨Bm, 0, none⟩)] trivial (enters_of Try.func35 (by kernel_rfl) rfl) _ _ (by unfold maxLen; omega) (by omega) _ hseq)⟩
theorem sortsAt36 (m : Nat) : AnyZ.SortsIn Try.prog Try.sorted36_ren Fence.wide m :=
  ⟨fun blk off cap ss W hH hblk hsz => callsIn_wide.2 (AnyM.slices_Sort_string Try.sort58 blk off cap ss W hH hblk hsz),
   fun p cap W => callsIn_wide.2 (AnyM.slices_Sort_string_none Try.sort58 p cap W)⟩
set_option maxHeartbeats 1000000 in
theorem sortedAt59 : SortedKeysAt Try.prog 36 59 9 :=
  ⟨Try.underlying9, fun W Bm b nn D0 R hBm hcell hown hsize => by
    have hseq : SeqGives Fence.wide 2 Try.prog 59 #[.pointer (some ⟨Bm, 0, none⟩)] encStr (fun ss => ss.Perm (strKeys D0)) (Maps.size D0) W :=
      AnyZ.keys_gives (ρ := Try.keys37_ren) { Try.keys37 with } Fence.wide _ trivial rfl (by omega) Bm b nn D0 W hBm hcell hown
    exact (callsIn_wide (n := 5)).1 (AnyZ.sorted_in Try.sorted36 Fence.wide 5 trivial trivial trivial trivial rfl (by omega) (sortsAt36 _) (enters_of Try.func58 (by kernel_rfl) rfl) 59 #[.pointer (some ⟨Bm, 0, none⟩)] trivial (enters_of Try.func59 (by kernel_rfl) rfl) _ _ (by unfold maxLen; omega) (by omega) _ hseq)⟩
theorem itNoneAt40 : ItNone Try.prog 40 := itNone_eval evMixed evNames (fuel := 100) (n := 3) (fun l t => by kernel_rfl) (fun l t cl => by kernel_rfl)
theorem appendNoneAt60 : ∀ g ∈ [40], AppendNoneAt Try.prog 60 g := by
  intro g hg w Bm m t hbm hmm
  simp only [List.mem_cons, List.not_mem_nil, or_false] at hg
  subst hg
  · exact appendNone evMixed Try.func60 rfl rfl rfl Try.underlying25 Try.isAgg25 Try.sizeOf25 (enters_of Try.func40 (by kernel_rfl) rfl) itNoneAt40 w Bm m t hbm hmm
end Go.Proofs.Ytljhlnpbomehkaa
