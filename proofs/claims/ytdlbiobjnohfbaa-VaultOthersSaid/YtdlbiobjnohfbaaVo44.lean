/- The statement VaultOthers: for every input the Go function satrapy/satrapylaw11.VaultOthers returns true, and each argument reads behind the call as it did before; without any condition. -/
import Derived.ProofKit
import Derived.Test.YtdlbiobjnohfbaaProg
import Derived.WalkKit
import Derived.WalkSpells
import Derived.WalkLawsBesides
import Derived.Deep.QuietTactic
import Derived.BigQuiet
import Derived.RegionTactic
import Derived.BigRegion
import Derived.Outline
import Derived.LoopTactic
import Derived.Lib.Hide
import Derived.Deep.RegionHeld3
import Derived.Laws.AppendOwnNone
import Derived.Deep.AppendLies
import Derived.Maps.AppendAt
import Derived.Laws.Rows
import Derived.Laws.OwnMore
import Derived.Deep.RegionLaw
import Derived.Deep.Onto
import Derived.Maps.Own
import Derived.Maps.RangeRun
import Derived.Carry
import Derived.Maps.Range
import Derived.Deep.DeepMust
import Derived.Deep.Cut
import Derived.StillTailTactics
import Derived.Deep.Light
import Derived.Test.YtdlbiobjnohfbaaLay
import Derived.Shelf.SlSortCmp.NoneTotal
import Derived.Test.YtdlbiobjnohfbaaRows
import Derived.OpenShut
import Derived.ShutString
import Derived.ChangeOld
import Derived.Below
import Derived.Lib.SmallJoins
import Derived.Test.YtdlbiobjnohfbaaVo0
import Derived.Test.YtdlbiobjnohfbaaVo1
import Derived.Test.YtdlbiobjnohfbaaVo2
import Derived.Test.YtdlbiobjnohfbaaVo3
import Derived.Test.YtdlbiobjnohfbaaVo4
import Derived.Test.YtdlbiobjnohfbaaVo5
import Derived.Test.YtdlbiobjnohfbaaVo6
import Derived.Test.YtdlbiobjnohfbaaVo7
import Derived.Test.YtdlbiobjnohfbaaVo8
import Derived.Test.YtdlbiobjnohfbaaVo9
import Derived.Test.YtdlbiobjnohfbaaVo10
import Derived.Test.YtdlbiobjnohfbaaVo11
import Derived.Test.YtdlbiobjnohfbaaVo12
import Derived.Test.YtdlbiobjnohfbaaVo13
import Derived.Test.YtdlbiobjnohfbaaVo14
import Derived.Test.YtdlbiobjnohfbaaVo15
import Derived.Test.YtdlbiobjnohfbaaVo16
import Derived.Test.YtdlbiobjnohfbaaVo17
import Derived.Test.YtdlbiobjnohfbaaVo18
import Derived.Test.YtdlbiobjnohfbaaVo19
import Derived.Test.YtdlbiobjnohfbaaVo20
import Derived.Test.YtdlbiobjnohfbaaVo21
import Derived.Test.YtdlbiobjnohfbaaVo22
import Derived.Test.YtdlbiobjnohfbaaVo23
import Derived.Test.YtdlbiobjnohfbaaVo24
import Derived.Test.YtdlbiobjnohfbaaVo25
import Derived.Test.YtdlbiobjnohfbaaVo26
import Derived.Test.YtdlbiobjnohfbaaVo27
import Derived.Test.YtdlbiobjnohfbaaVo28
import Derived.Test.YtdlbiobjnohfbaaVo29
import Derived.Test.YtdlbiobjnohfbaaVo30
import Derived.Test.YtdlbiobjnohfbaaVo31
import Derived.Test.YtdlbiobjnohfbaaVo32
import Derived.Test.YtdlbiobjnohfbaaVo33
import Derived.Test.YtdlbiobjnohfbaaVo34
import Derived.Test.YtdlbiobjnohfbaaVo35
import Derived.Test.YtdlbiobjnohfbaaVo36
import Derived.Test.YtdlbiobjnohfbaaVo37
import Derived.Test.YtdlbiobjnohfbaaVo38
import Derived.Test.YtdlbiobjnohfbaaVo39
import Derived.Test.YtdlbiobjnohfbaaVo40
import Derived.Test.YtdlbiobjnohfbaaVo41
import Derived.Test.YtdlbiobjnohfbaaVo42
import Derived.Test.YtdlbiobjnohfbaaVo43
namespace Go.Proofs.Ytdlbiobjnohfbaa
open Go.RowKit Go.ChangeMaps Go.MapKept
theorem vtOthers (a b : ByteArray) (n : Int) (w : World) :
    Calls Try.prog 4 #[.string a, .string b, .int .i64 n] w fun e w' => e = .returned (.bool true) ∧ Below w.heap.size w w' := by
  by_cases q1 : (a.size : Int) < 1
  · exact othersNo1 a b n w q1
  by_cases q2 : (b.size : Int) < 1
  · exact othersNo2 a b n w q1 q2
  by_cases q3 : (16 : Int) < (a.size : Int)
  · exact othersNo3 a b n w q1 q2 q3
  by_cases q4 : (16 : Int) < (b.size : Int)
  · exact othersNo4 a b n w q1 q2 q3 q4
  by_cases q5 : n < 1
  · exact othersNo5 a b n w q1 q2 q3 q4 q5
  by_cases q6 : 1000 < n
  · exact othersNo6 a b n w q1 q2 q3 q4 q5 q6
  cases q7 : (a.toList == b.toList) with
  | true => exact othersNo7 a b n w q1 q2 q3 q4 q5 q6 q7
  | false =>
    have hab : a ≠ b := fun e => by rw [e] at q7; simp at q7
    exact othersYes a b n w (by omega) (by omega) (by omega) hab
end Go.Proofs.Ytdlbiobjnohfbaa
namespace Go.Proofs.Ytdlbiobjnohfbaa.vaultOthers
open Go.ChangeShapes Go.WideShapes Go.ChangeAt Go.RowKit Go.Joins
open Go.ChangeMaps (open_string shut_string)
set_option linter.unusedVariables false
set_option linter.unusedSimpArgs false
theorem own : ownKnob Try.prog.godebug = none := by kernel_rfl
theorem laidOut : laidOutB Try.prog = true := by kernel_rfl
set_option maxHeartbeats 1000000 in
set_option maxRecDepth 100000 in
theorem lifted (os : Os) (started : os.Started) (H : Type) (enc : TypeId × Value → H) :
    ReturnsInHanded {} Try.checked os 4 .any (Rows.vaultOthersSpec.pre6 enc Try.prog Try.f4 Rows.vaultOthersRow.domain false) (Rows.vaultOthersSpec.post enc Try.prog Try.f4 false true false false) := by
  refine returnsInHanded_of_change (C := Try.checked) own started (by kernel_rfl) Try.func4
    (ChangeSpec.witness6 (enc := enc) (C := Try.checked) false ⟨#[], #[.string ⟨#[]⟩, .string ⟨#[]⟩, .int .i64 0], []⟩ 8 (by kernel_rfl) (by kernel_rfl) (by kernel_rfl) (by kernel_rfl)) ?_
  intro W base args ds gs before hval0 hW hcnd _
  have hval : ∀ (j : Nat) t v, Try.f4.params[j]? = some t → args[j]? = some v → Value.okWide Try.prog W .any base t v := hval0
  have hW' := hW
  obtain ⟨p, q, hA0, hV, rfl, hfz, hnd⟩ := hW
  have hA : DataW.TrodAll enc Try.prog W 0 (fun _ => true) true Try.f4.params.toList args.toList ds p := hA0
  skip
  rw [Try.params4] at hA hval
  obtain ⟨v0, vs0, d0, ds0, p0, q0, hargs, rfl, rfl, h0, r0⟩ := trodAll_cons hA
  obtain ⟨v1, vs1, d1, ds1, p1, q1, rfl, rfl, rfl, h1, r1⟩ := trodAll_cons r0
  obtain ⟨v2, vs2, d2, ds2, p2, q2, rfl, rfl, rfl, h2, r2⟩ := trodAll_cons r1
  obtain ⟨rfl, rfl, rfl⟩ := trodAll_nil r2
  obtain rfl : args = #[v0, v1, v2] := by cases args; simp_all
  obtain ⟨rfl, rfl⟩ := trodVars_none hV
  have k0 := h0
  have lt0 : ∀ x ∈ p0, x.block < W.heap.size := by obtain ⟨m, hm⟩ := k0; exact DataW.trod_lt m _ _ _ hm
  obtain ⟨a, rfl, hd0, hp0, w0⟩ := open_string Try.underlying9 (hval 0 9 v0 rfl rfl) h0
  have k1 := h1
  have lt1 : ∀ x ∈ p1, x.block < W.heap.size := by obtain ⟨m, hm⟩ := k1; exact DataW.trod_lt m _ _ _ hm
  obtain ⟨b, rfl, hd1, hp1, w1⟩ := open_string Try.underlying9 (hval 1 9 v1 rfl rfl) h1
  have k2 := h2
  have lt2 : ∀ x ∈ p2, x.block < W.heap.size := by obtain ⟨m, hm⟩ := k2; exact DataW.trod_lt m _ _ _ hm
  obtain ⟨n, rfl, hd2, hp2, w2⟩ := open_int Try.underlying3 (hval 2 3 v2 rfl rfl) h2
  clear hA0 hval0
  refine (vtOthers a b n W).mono fun e W' ⟨he, bel⟩ => ?_
  subst he
  exact ⟨_, rfl, _, _, _, [], _, [], hW', trodAll_mk1 (shut_bool Try.underlying4 _), (trodAll_cons_mk (Below.trod laidOut (by kernel_rfl) (of_decide_eq_true (by kernel_rfl)) k0 bel lt0) (trodAll_cons_mk (Below.trod laidOut (by kernel_rfl) (of_decide_eq_true (by kernel_rfl)) k1 bel lt1) (trodAll_cons_mk (Below.trod laidOut (by kernel_rfl) (of_decide_eq_true (by kernel_rfl)) k2 bel lt2) trodAll_mk0))), rfl, bel.frame _, fun h => by cases h⟩
theorem over : Rows.vaultOthersRow.holds Try.pinned (OpenSpec.ofChange Rows.vaultOthersSpec) :=
  OpenClaim.holds_of_wide 4 Try.f4 rfl rfl rfl rfl rfl rfl rfl ⟨rfl, rfl, rfl, rfl, rfl⟩ rfl rfl rfl rfl rfl (by kernel_rfl) Try.func4 (by kernel_rfl)
    (of_decide_eq_true (by kernel_rfl)) (by unfold Func.isWrapper; first | (rw [if_pos (by decide +kernel)]; kernel_rfl) | (rw [if_neg (by decide +kernel)]; exact ⟨rfl, rfl⟩))
    (fun os started H enc _ => lifted os started H enc)
theorem proved : Rows.VaultOthersSaid := over
end Go.Proofs.Ytdlbiobjnohfbaa.vaultOthers
