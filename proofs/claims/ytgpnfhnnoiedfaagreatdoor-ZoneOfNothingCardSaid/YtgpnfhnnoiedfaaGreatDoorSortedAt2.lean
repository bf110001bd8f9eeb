/- Sorted keys of maps, and nothing gathered, at this program, as steps of the evaluator. -/
import Derived.Test.YtgpnfhnnoiedfaaGreatDoorLay
import Derived.Test.YtgpnfhnnoiedfaaGreatDoorEwM8
import Derived.Shelf.SlIter.Sorted
import Derived.Shelf.SlIterI.Sorted
import Derived.Shelf.SortM.Plain
import Derived.Shelf.SortM.SortNone
namespace Go.Proofs.YtgpnfhnnoiedfaaGreatDoor
open Go.RowKit Go.Maps Go.Sort Go.Shelf
open Go.Proofs
set_option linter.unusedVariables false
set_option linter.unusedSimpArgs false
set_option maxRecDepth 100000
theorem sortsAt86 (m : Nat) : AnyZI.SortsIn Tryz.prog Tryz.sorted86_ren Fence.wide m :=
  ⟨fun blk off cap ss W hH hblk hsz => callsIn_wide.2 (AnyM.slices_Sort_int Tryz.sort155 blk off cap ss W hH hblk hsz),
   fun p cap W => callsIn_wide.2 (AnyM.slices_Sort_int_none Tryz.sort155 p cap W)⟩
set_option maxHeartbeats 1000000 in
theorem sortedAt156 : SortedIntsAt Tryz.prog 86 156 3 :=
  ⟨Tryz.underlying3, fun W Bm b nn D0 R hBm hcell hown hsize => by
    have hseq : SeqGives Fence.wide 2 Tryz.prog 156 #[.pointer (some ⟨Bm, 0, none⟩)] encZ (fun ss => ss.Perm (intKeys D0)) (Maps.size D0) W :=
      AnyZI.keys_gives (ρ := Tryz.keys87_ren) { Tryz.keys87 with } Fence.wide _ trivial rfl (by omega) Bm b nn D0 W hBm hcell hown
    exact (callsIn_wide (n := 5)).1 (AnyZI.sorted_in Tryz.sorted86 Fence.wide 5 trivial trivial trivial trivial rfl (by omega) (sortsAt86 _) (enters_of Tryz.func155 (by kernel_rfl) rfl) 156 #[.pointer (some ⟨Bm, 0, none⟩)] trivial (enters_of Tryz.func156 (by kernel_rfl) rfl) _ _ (by unfold maxLen; omega) (by omega) _ hseq)⟩
theorem sortsAt150 (m : Nat) : AnyZ.SortsIn Tryz.prog Tryz.sorted150_ren Fence.wide m :=
  ⟨fun blk off cap ss W hH hblk hsz => callsIn_wide.2 (AnyM.slices_Sort_string Tryz.sort196 blk off cap ss W hH hblk hsz),
   fun p cap W => callsIn_wide.2 (AnyM.slices_Sort_string_none Tryz.sort196 p cap W)⟩
set_option maxHeartbeats 1000000 in
theorem sortedAt197 : SortedKeysAt Tryz.prog 150 197 9 :=
  ⟨Tryz.underlying9, fun W Bm b nn D0 R hBm hcell hown hsize => by
    have hseq : SeqGives Fence.wide 2 Tryz.prog 197 #[.pointer (some ⟨Bm, 0, none⟩)] encStr (fun ss => ss.Perm (strKeys D0)) (Maps.size D0) W :=
      AnyZ.keys_gives (ρ := Tryz.keys151_ren) { Tryz.keys151 with } Fence.wide _ trivial rfl (by omega) Bm b nn D0 W hBm hcell hown
    exact (callsIn_wide (n := 5)).1 (AnyZ.sorted_in Tryz.sorted150 Fence.wide 5 trivial trivial trivial trivial rfl (by omega) (sortsAt150 _) (enters_of Tryz.func196 (by kernel_rfl) rfl) 197 #[.pointer (some ⟨Bm, 0, none⟩)] trivial (enters_of Tryz.func197 (by kernel_rfl) rfl) _ _ (by unfold maxLen; omega) (by omega) _ hseq)⟩
set_option maxHeartbeats 1000000 in
theorem sortedAt271 : SortedKeysAt Tryz.prog 150 271 9 :=
  ⟨Tryz.underlying9, fun W Bm b nn D0 R hBm hcell hown hsize => by
    have hseq : SeqGives Fence.wide 2 Tryz.prog 271 #[.pointer (some ⟨Bm, 0, none⟩)] encStr (fun ss => ss.Perm (strKeys D0)) (Maps.size D0) W :=
      AnyZ.keys_gives (ρ := Tryz.keys215_ren) { Tryz.keys215 with } Fence.wide _ trivial rfl (by omega) Bm b nn D0 W hBm hcell hown
    exact (callsIn_wide (n := 5)).1 (AnyZ.sorted_in Tryz.sorted150 Fence.wide 5 trivial trivial trivial trivial rfl (by omega) (sortsAt150 _) (enters_of Tryz.func196 (by kernel_rfl) rfl) 271 #[.pointer (some ⟨Bm, 0, none⟩)] trivial (enters_of Tryz.func271 (by kernel_rfl) rfl) _ _ (by unfold maxLen; omega) (by omega) _ hseq)⟩
theorem itNoneAt163 : ItNone Tryz.prog 163 := itNone_eval evMixed evNames (fuel := 100) (n := 3) (fun l t => by kernel_rfl) (fun l t cl => by kernel_rfl)
theorem appendNoneAt207 : ∀ g ∈ [163], AppendNoneAt Tryz.prog 207 g := by
  intro g hg w Bm m t hbm hmm
  simp only [List.mem_cons, List.not_mem_nil, or_false] at hg
  subst hg
  · exact appendNone evMixed Tryz.func207 rfl rfl rfl Tryz.underlying168 Tryz.isAgg168 Tryz.sizeOf168 (enters_of Tryz.func163 (by kernel_rfl) rfl) itNoneAt163 w Bm m t hbm hmm
theorem itNoneAt206 : ItNone Tryz.prog 206 := itNone_eval evMixed evNames (fuel := 100) (n := 3) (fun l t => by kernel_rfl) (fun l t cl => by kernel_rfl)
theorem appendNoneAt260 : ∀ g ∈ [206], AppendNoneAt Tryz.prog 260 g := by
  intro g hg w Bm m t hbm hmm
  simp only [List.mem_cons, List.not_mem_nil, or_false] at hg
  subst hg
  · exact appendNone evMixed Tryz.func260 rfl rfl rfl Tryz.underlying166 Tryz.isAgg166 Tryz.sizeOf166 (enters_of Tryz.func206 (by kernel_rfl) rfl) itNoneAt206 w Bm m t hbm hmm
end Go.Proofs.YtgpnfhnnoiedfaaGreatDoor
