/- vault: slices.Sorted(maps.Keys(m)) at this program. -/
import Derived.Test.YtdlbiobjnohfbaaLayK
import Derived.ProofKit
import Derived.Test.YtdlbiobjnohfbaaProg
import Derived.WalkKit
import Derived.WalkSpells
import Derived.WalkLawsBesides
import Derived.Deep.QuietTactic
import Derived.BigQuiet
import Derived.RegionTactic
import Derived.BigRegion
import Derived.Outline
import Derived.LoopTactic
import Derived.Lib.Hide
import Derived.Deep.RegionHeld3
import Derived.Laws.AppendOwnNone
import Derived.Deep.AppendLies
import Derived.Maps.AppendAt
import Derived.Laws.Rows
import Derived.Laws.OwnMore
import Derived.Deep.RegionLaw
import Derived.Deep.Onto
import Derived.Maps.Own
import Derived.Maps.RangeRun
import Derived.Carry
import Derived.Maps.Range
import Derived.Deep.DeepMust
import Derived.WideShapes
import Derived.Sort.KeysCollected
import Derived.StringKeys
import Derived.Shelf.SlIter.Nil
import Derived.Shelf.SlIter.Sorted
import Derived.Shelf.SortM.Plain
import Derived.Shelf.SortM.SortNone
import Derived.Test.YtdlbiobjnohfbaaVi0
import Derived.Test.YtdlbiobjnohfbaaVi1
import Derived.Test.YtdlbiobjnohfbaaVi2
import Derived.Test.YtdlbiobjnohfbaaVi3
import Derived.Test.YtdlbiobjnohfbaaVi4
import Derived.Test.YtdlbiobjnohfbaaVi5
import Derived.Test.YtdlbiobjnohfbaaVi6
import Derived.Test.YtdlbiobjnohfbaaVi7
import Derived.Test.YtdlbiobjnohfbaaVi8
import Derived.Test.YtdlbiobjnohfbaaVi9
import Derived.Test.YtdlbiobjnohfbaaVi10
import Derived.Test.YtdlbiobjnohfbaaVi11
import Derived.Test.YtdlbiobjnohfbaaVi12
import Derived.Test.YtdlbiobjnohfbaaVi13
import Derived.Test.YtdlbiobjnohfbaaVi14
import Derived.Test.YtdlbiobjnohfbaaVi15
import Derived.Test.YtdlbiobjnohfbaaVi16
import Derived.Test.YtdlbiobjnohfbaaVi17
import Derived.Test.YtdlbiobjnohfbaaVi18
import Derived.Test.YtdlbiobjnohfbaaVi19
namespace Go.Proofs.Ytdlbiobjnohfbaa
open Go.RowKit Go.Maps Go.MapKept Go.Sort Go.Shelf
open Go.Proofs
open Go.WideElems (Fit rg)
open Go.WideMaps (keyOf_string_mk)
set_option linter.unusedVariables false
set_option linter.unusedSimpArgs false
set_option maxRecDepth 100000
/-- a sort that the kernel can run -/
def insB (x : List UInt8) : List (List UInt8) → List (List UInt8)
  | [] => [x]
  | y :: r => if leB x y then x :: y :: r else y :: insB x r
def sortB : List (List UInt8) → List (List UInt8)
  | [] => []
  | x :: r => insB x (sortB r)
theorem insB_perm (x : List UInt8) : ∀ l, (insB x l).Perm (x :: l)
  | [] => List.Perm.refl _
  | y :: r => by
    unfold insB
    split
    · exact List.Perm.refl _
    · exact ((insB_perm x r).cons y).trans (List.Perm.swap x y r)
theorem sortB_perm : ∀ l, (sortB l).Perm l
  | [] => List.Perm.refl _
  | x :: r => (insB_perm x _).trans ((sortB_perm r).cons x)
theorem leB_trans (a b c : List UInt8) (h1 : leB a b = true) (h2 : leB b c = true) : leB a c = true := by simp only [leB, decide_eq_true_eq] at *; exact List.le_trans h1 h2
theorem leB_total (a b : List UInt8) : (leB a b || leB b a) = true := by simp only [leB, Bool.or_eq_true, decide_eq_true_eq]; exact List.le_total a b
theorem insB_sorted (x : List UInt8) : ∀ l, l.Pairwise (fun a b => leB a b = true) → (insB x l).Pairwise (fun a b => leB a b = true)
  | [], _ => by simp [insB]
  | y :: r, h => by
    have hy := List.pairwise_cons.1 h
    unfold insB
    split
    · rename_i hxy
      refine List.pairwise_cons.2 ⟨fun z hz => ?_, h⟩
      rcases List.mem_cons.1 hz with rfl | hz
      · exact hxy
      · exact leB_trans _ _ _ hxy (hy.1 z hz)
    · rename_i hxy
      refine List.pairwise_cons.2 ⟨fun z hz => ?_, insB_sorted x r hy.2⟩
      rcases List.mem_cons.1 ((insB_perm x r).mem_iff.1 hz) with rfl | hz
      · have := leB_total z y
        rw [Bool.or_eq_true] at this
        exact this.resolve_left hxy
      · exact hy.1 z hz
theorem sortB_sorted : ∀ l, (sortB l).Pairwise (fun a b => leB a b = true)
  | [] => List.Pairwise.nil
  | x :: r => insB_sorted x _ (sortB_sorted r)
theorem mergeSort_eq {ss l : List (List UInt8)} (h : ss.Perm l) : ss.mergeSort leB = sortB l := by
  rw [mergeSort_of_perm (h.trans (sortB_perm l).symm)]
  exact List.mergeSort_of_pairwise (sortB_sorted l)
/-- what the library says of slices.Sorted(maps.Keys(m)) at a map type of text keys: f: slices.Sorted, g: what maps.Keys hands back -/
structure SortedKeysAt (P : Program) (f g : FuncId) (kt : TypeId) : Prop where
  str : P.underlying kt = some .string
  some : ∀ (W : World) (Bm b nn : Nat) (D0 : DataW Unit) (R : Value → Option (DataW Unit × List MemPlace)), Bm < W.heap.size → W.cell? ⟨Bm, 0, none⟩ = some (.map (some b)) → W.ownsMap P kt R b nn D0 → Maps.size D0 ≤ 1000000 →
    Calls P f #[.func (.func g) #[] #[.pointer (some ⟨Bm, 0, none⟩)]] W fun e w' => ∃ (v : Value) (ss : List (List UInt8)), e = .returned v ∧ ss.Perm (strKeys D0) ∧
      w'.ownsRow W.heap.size kt 1 v ss.length ((ss.mergeSort leB).map encStr) ∧ (v = .slice none 0 0 ↔ ss = []) ∧ Below W.heap.size W w'
theorem owns_of {P : Program} {kt : TypeId} (hs : P.underlying kt = some .string) {w : World} {b cl : Nat} {es' : Array MapEntry} {ks : List ByteArray} (hb : w.heap[b]? = some (.map es' cl)) (hk : es'.toList.map (·.key) = ks.map Value.string)
    (h1 : ∀ x ∈ es'.toList, x.born < cl) (h2 : (es'.toList.map (·.born)).Nodup) (h3 : ks.Nodup) (h4 : es'.size ≤ 1000) (h5 : ∀ k ∈ ks, k.size ≤ 1000) :
    ∃ D0 : DataW Unit, w.ownsMap P kt (fun _ => some (.nil, [])) b es'.size D0 ∧ (ks.map fun k => k.data.toList).Perm (strKeys D0) ∧ Maps.size D0 = es'.size := by
  have hkey : ∀ x ∈ es'.toList, ∃ s ∈ ks, x.key = .string s := fun x hx => by
    have : x.key ∈ es'.toList.map (·.key) := List.mem_map.2 ⟨x, hx, rfl⟩
    rw [hk] at this
    obtain ⟨s, h, e⟩ := List.mem_map.1 this
    exact ⟨s, h, e.symm⟩
  have hrd : ∀ x ∈ es'.toList, ∀ s, x.key = .string s → s ∈ ks → Go.WideElems.rd P kt (fun _ => some ((.nil : DataW Unit), [])) x = some (.string s.data.toList, .nil) := fun x hx s e hs' => by
    unfold Go.WideElems.rd
    rw [e, keyOf_string_mk hs (by have := h5 s hs'; unfold maxLen; omega)]
    rfl
  have F : Fit P kt (fun _ => some ((.nil : DataW Unit), [])) es' cl := ⟨by unfold maxLen; omega, ⟨h1, h2, by
      rw [hk]
      unfold List.Nodup at h3 ⊢
      rw [List.pairwise_map]
      exact h3.imp (fun hne e => hne (by injection e))⟩, fun x hx => by
      obtain ⟨s, hs', e⟩ := hkey x hx
      exact ⟨_, hrd x hx s e hs'⟩⟩
  refine ⟨_, ⟨es', cl, hb, F, Nat.le_refl _, rfl⟩, ?_, ?_⟩
  · unfold strKeys
    have hp := (WideShapes.sorted_perm (es'.toList.map (rg P kt (fun _ => some ((.nil : DataW Unit), []))))).map (fun p => strOf p.1)
    refine List.Perm.trans (List.Perm.of_eq ?_) hp.symm
    have e1 : ks.map (fun k => k.data.toList) = (ks.map Value.string).map (fun v => match v with | .string s => s.data.toList | _ => []) := by rw [List.map_map]; rfl
    rw [e1, ← hk, List.map_map, List.map_map]
    refine List.map_congr_left fun x hx => ?_
    obtain ⟨s, hs', e⟩ := hkey x hx
    simp only [Function.comp, e, rg, hrd x hx s e hs', Option.getD_some, strOf]
  · show ((es'.toList.map _).foldr DataW.insert []).length = _
    rw [(WideShapes.sorted_perm _).length_eq]; simp
theorem sortsAtV (m : Nat) : AnyZ.SortsIn Try.prog Try.sorted29_ren Fence.wide m :=
  ⟨fun blk off cap ss W hH hblk hsz => callsIn_wide.2 (AnyM.slices_Sort_string Try.sort45 blk off cap ss W hH hblk hsz),
   fun p cap W => callsIn_wide.2 (AnyM.slices_Sort_string_none Try.sort45 p cap W)⟩
set_option maxHeartbeats 1000000 in
theorem sortedAtV : SortedKeysAt Try.prog 29 46 9 :=
  ⟨Try.underlying9, fun W Bm b nn D0 R hBm hcell hown hsize => by
    have hseq : SeqGives Fence.wide 2 Try.prog 46 #[.pointer (some ⟨Bm, 0, none⟩)] encStr (fun ss => ss.Perm (strKeys D0)) (Maps.size D0) W :=
      AnyZ.keys_gives (ρ := Try.keys30_ren) { Try.keys30 with } Fence.wide _ trivial rfl (by omega) Bm b nn D0 W hBm hcell hown
    exact (callsIn_wide (n := 5)).1 (AnyZ.sorted_in Try.sorted29 Fence.wide 5 trivial trivial trivial trivial rfl (by omega) (sortsAtV _) (enters_of Try.func45 (by kernel_rfl) rfl) 46 #[.pointer (some ⟨Bm, 0, none⟩)] trivial (enters_of Try.func46 (by kernel_rfl) rfl) _ _ (by unfold maxLen; omega) (by omega) _ hseq)⟩
theorem keysBV (m : Option Nat) (w : World) : Calls Try.prog 30 #[.map m] w fun e w' => e = .returned (.func (.func 46) #[] #[.pointer (some ⟨w.heap.size, 0, none⟩)]) ∧ Whl w' w.heap.size 48 #[.map m] ∧ Below w.heap.size w w' := by
  go_enter Try.func30, Try.ntmps30
  go_wp2_with fail
  go_ret
  exact ⟨rfl, Whl.new rfl, by ((repeat (first | (with_reducible exact Below.refl _ _) | (with_reducible assumption) | ((with_reducible refine b_set ?_ ?_); · (first | omega | (simp; done) | (simp; omega))) | ((with_reducible refine b_alloc ?_ ?_); · (first | omega | (simp; done) | (simp; omega))) | (with_reducible refine Below.drew ?_) | (with_reducible refine b_drewN ?_) | ((with_reducible refine b_call (by assumption) ?_ ?_); · (first | omega | (simp; done) | (simp; omega))))); done)⟩
end Go.Proofs.Ytdlbiobjnohfbaa
