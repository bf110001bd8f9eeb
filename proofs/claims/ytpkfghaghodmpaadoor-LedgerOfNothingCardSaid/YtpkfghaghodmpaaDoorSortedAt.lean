/- slices.Sorted(maps.Keys(m)) at this program, as a step of the evaluator. -/
import Derived.Test.YtpkfghaghodmpaaDoorLay
import Derived.Test.YtpkfghaghodmpaaDoorEvSk
import Derived.Shelf.SlIter.Sorted
namespace Go.Proofs.YtpkfghaghodmpaaDoor
open Go.RowKit Go.Maps Go.Sort Go.Shelf
open Go.Proofs
set_option linter.unusedVariables false
set_option linter.unusedSimpArgs false
theorem sortsAt (m : Nat) : AnyZ.SortsIn Tryd.prog Tryd.sorted56_ren Fence.wide m :=
  ⟨fun blk off cap ss W hH hblk hsz => callsIn_wide.2 (AnyM.slices_Sort_string Tryd.sort64 blk off cap ss W hH hblk hsz),
   fun p cap W => callsIn_wide.2 (AnyM.slices_Sort_string_none Tryd.sort64 p cap W)⟩
set_option maxHeartbeats 1000000 in
theorem sortedAt : SortedKeysAt Tryd.prog 56 65 9 :=
  ⟨Tryd.underlying9, fun W Bm b nn D0 R hBm hcell hown hsize => by
    have hseq : SeqGives Fence.wide 2 Tryd.prog 65 #[.pointer (some ⟨Bm, 0, none⟩)] encStr (fun ss => ss.Perm (strKeys D0)) (Maps.size D0) W :=
      AnyZ.keys_gives (ρ := Tryd.keys57_ren) { Tryd.keys57 with } Fence.wide _ trivial rfl (by omega) Bm b nn D0 W hBm hcell hown
    exact (callsIn_wide (n := 5)).1 (AnyZ.sorted_in Tryd.sorted56 Fence.wide 5 trivial trivial trivial trivial rfl (by omega) (sortsAt _) (enters_of Tryd.func64 (by kernel_rfl) rfl) 65 #[.pointer (some ⟨Bm, 0, none⟩)] trivial (enters_of Tryd.func65 (by kernel_rfl) rfl) _ _ (by unfold maxLen; omega) (by omega) _ hseq)⟩
end Go.Proofs.YtpkfghaghodmpaaDoor
