/- Sorted keys of maps, and nothing gathered, at this program, as steps of the evaluator. -/
import Derived.Test.YtngblgojiofjlaaGreatDoorLay
import Derived.Test.YtngblgojiofjlaaGreatDoorEwM8
import Derived.Shelf.SlIter.Sorted
import Derived.Shelf.SlIterI.Sorted
import Derived.Shelf.SortM.Plain
import Derived.Shelf.SortM.SortNone
namespace Go.Proofs.YtngblgojiofjlaaGreatDoor
open Go.RowKit Go.Maps Go.Sort Go.Shelf
open Go.Proofs
set_option linter.unusedVariables false
set_option linter.unusedSimpArgs false
set_option maxRecDepth 100000
theorem sortsAt83 (m : Nat) : AnyZI.SortsIn Tryz.prog Tryz.sorted83_ren Fence.wide m :=
  ⟨fun blk off cap ss W hH hblk hsz => callsIn_wide.2 (AnyM.slices_Sort_int Tryz.sort155 blk off cap ss W hH hblk hsz),
   fun p cap W => callsIn_wide.2 (AnyM.slices_Sort_int_none Tryz.sort155 p cap W)⟩
set_option maxHeartbeats 1000000 in
theorem sortedAt156 : SortedIntsAt Tryz.prog 83 156 3 :=
  ⟨Tryz.underlying3, fun W Bm b nn D0 R hBm hcell hown hsize => by
    have hseq : SeqGives Fence.wide 2 Tryz.prog 156 #[.pointer (some ⟨Bm, 0, none⟩)] encZ (fun ss => ss.Perm (intKeys D0)) (Maps.size D0) W :=
      AnyZI.keys_gives (ρ := Tryz.keys84_ren) { Tryz.keys84 with } Fence.wide _ trivial rfl (by omega) Bm b nn D0 W hBm hcell hown
    exact (callsIn_wide (n := 5)).1 (AnyZI.sorted_in Tryz.sorted83 Fence.wide 5 trivial trivial trivial trivial rfl (by omega) (sortsAt83 _) (enters_of Tryz.func155 (by kernel_rfl) rfl) 156 #[.pointer (some ⟨Bm, 0, none⟩)] trivial (enters_of Tryz.func156 (by kernel_rfl) rfl) _ _ (by unfold maxLen; omega) (by omega) _ hseq)⟩
theorem sortsAt102 (m : Nat) : AnyZ.SortsIn Tryz.prog Tryz.sorted102_ren Fence.wide m :=
  ⟨fun blk off cap ss W hH hblk hsz => callsIn_wide.2 (AnyM.slices_Sort_string Tryz.sort178 blk off cap ss W hH hblk hsz),
   fun p cap W => callsIn_wide.2 (AnyM.slices_Sort_string_none Tryz.sort178 p cap W)⟩
set_option maxHeartbeats 1000000 in
theorem sortedAt179 : SortedKeysAt Tryz.prog 102 179 9 :=
  ⟨Tryz.underlying9, fun W Bm b nn D0 R hBm hcell hown hsize => by
    have hseq : SeqGives Fence.wide 2 Tryz.prog 179 #[.pointer (some ⟨Bm, 0, none⟩)] encStr (fun ss => ss.Perm (strKeys D0)) (Maps.size D0) W :=
      AnyZ.keys_gives (ρ := Tryz.keys103_ren) { Tryz.keys103 with } Fence.wide _ trivial rfl (by omega) Bm b nn D0 W hBm hcell hown
    exact (callsIn_wide (n := 5)).1 (AnyZ.sorted_in Tryz.sorted102 Fence.wide 5 trivial trivial trivial trivial rfl (by omega) (sortsAt102 _) (enters_of Tryz.func178 (by kernel_rfl) rfl) 179 #[.pointer (some ⟨Bm, 0, none⟩)] trivial (enters_of Tryz.func179 (by kernel_rfl) rfl) _ _ (by unfold maxLen; omega) (by omega) _ hseq)⟩
set_option maxHeartbeats 1000000 in
theorem sortedAt374 : SortedKeysAt Tryz.prog 102 374 9 :=
  ⟨Tryz.underlying9, fun W Bm b nn D0 R hBm hcell hown hsize => by
    have hseq : SeqGives Fence.wide 2 Tryz.prog 374 #[.pointer (some ⟨Bm, 0, none⟩)] encStr (fun ss => ss.Perm (strKeys D0)) (Maps.size D0) W :=
      AnyZ.keys_gives (ρ := Tryz.keys328_ren) { Tryz.keys328 with } Fence.wide _ trivial rfl (by omega) Bm b nn D0 W hBm hcell hown
    exact (callsIn_wide (n := 5)).1 (AnyZ.sorted_in Tryz.sorted102 Fence.wide 5 trivial trivial trivial trivial rfl (by omega) (sortsAt102 _) (enters_of Tryz.func178 (by kernel_rfl) rfl) 374 #[.pointer (some ⟨Bm, 0, none⟩)] trivial (enters_of Tryz.func374 (by kernel_rfl) rfl) _ _ (by unfold maxLen; omega) (by omega) _ hseq)⟩
theorem itNoneAt163 : ItNone Tryz.prog 163 := itNone_eval evMixed evNames (fuel := 100) (n := 3) (fun l t => by kernel_rfl) (fun l t cl => by kernel_rfl)
theorem appendNoneAt247 : ∀ g ∈ [163], AppendNoneAt Tryz.prog 247 g := by
  intro g hg w Bm m t hbm hmm
  simp only [List.mem_cons, List.not_mem_nil, or_false] at hg
  subst hg
  · exact appendNone evMixed Tryz.func247 rfl rfl rfl Tryz.underlying187 Tryz.isAgg187 Tryz.sizeOf187 (enters_of Tryz.func163 (by kernel_rfl) rfl) itNoneAt163 w Bm m t hbm hmm
theorem itNoneAt246 : ItNone Tryz.prog 246 := itNone_eval evMixed evNames (fuel := 100) (n := 3) (fun l t => by kernel_rfl) (fun l t cl => by kernel_rfl)
theorem appendNoneAt303 : ∀ g ∈ [246], AppendNoneAt Tryz.prog 303 g := by
  intro g hg w Bm m t hbm hmm
  simp only [List.mem_cons, List.not_mem_nil, or_false] at hg
  subst hg
  · exact appendNone evMixed Tryz.func303 rfl rfl rfl Tryz.underlying89 Tryz.isAgg89 Tryz.sizeOf89 (enters_of Tryz.func246 (by kernel_rfl) rfl) itNoneAt246 w Bm m t hbm hmm
end Go.Proofs.YtngblgojiofjlaaGreatDoor
