/- The statement PurseRows: for every input the Go function satrapy/satrapylaw8.PurseRows returns true, and each argument reads behind the call as it did before; without any condition. -/
import Derived.Test.YtbeebcocedmjkaaRows
import Derived.Test.YtbeebcocedmjkaaPurseRows
import Derived.ProofKit
import Derived.OpenShut
import Derived.ShutString
import Derived.ChangeOld
import Derived.Below
import Derived.Carry
import Derived.SizedLaws
import Derived.Lib.SmallJoins
namespace Go.Proofs.Ytbeebcocedmjkaa.purseRows
open Go.ChangeShapes Go.WideShapes Go.ChangeAt Go.RowKit Go.Joins
open Go.ChangeMaps (open_string shut_string)
set_option linter.unusedVariables false
set_option linter.unusedSimpArgs false

theorem own : ownKnob Try.prog.godebug = none := by kernel_rfl
theorem laidOut : laidOutB Try.prog = true := by kernel_rfl

set_option maxHeartbeats 1000000 in
set_option maxRecDepth 100000 in
theorem lifted (os : Os) (started : os.Started) (H : Type) (enc : TypeId × Value → H) :
    ReturnsInHanded {} Try.checked os 9 .any (Rows.purseRowsSpec.pre6 enc Try.prog Try.f9 Rows.purseRowsRow.domain false) (Rows.purseRowsSpec.post enc Try.prog Try.f9 false true false false) := by
  refine returnsInHanded_of_change_sized (C := Try.checked) own started (by kernel_rfl) Try.func9
    (ChangeSpec.witness6 (enc := enc) (C := Try.checked) false ⟨#[], #[.slice none 0 0, .slice none 0 0], []⟩ 8 (by kernel_rfl) (by kernel_rfl) (by kernel_rfl) (by kernel_rfl)) ?_
  intro W base args ds gs before hval0 hW hcnd hsz0 _
  have hval : ∀ (j : Nat) t v, Try.f9.params[j]? = some t → args[j]? = some v → Value.okWide Try.prog W .any base t v := hval0
  have hW' := hW
  obtain ⟨p, q, hA0, hV, rfl, hfz, hnd⟩ := hW
  have hA : DataW.TrodAll enc Try.prog W 0 (fun _ => true) true Try.f9.params.toList args.toList ds p := hA0
  have hsz : (DataW.weightsEach Try.prog (Try.f9.params.toList ++ Rows.purseRowsSpec.plain.varTypes Try.prog) (ds ++ gs)).all (· ≤ reachBytes) = true := hsz0
  rw [Try.params9] at hA hval hsz
  obtain ⟨v0, vs0, d0, ds0, p0, q0, hargs, rfl, rfl, h0, r0⟩ := trodAll_cons hA
  obtain ⟨v1, vs1, d1, ds1, p1, q1, rfl, rfl, rfl, h1, r1⟩ := trodAll_cons r0
  obtain ⟨rfl, rfl, rfl⟩ := trodAll_nil r1
  obtain rfl : args = #[v0, v1] := by cases args; simp_all
  obtain ⟨rfl, rfl⟩ := trodVars_none hV
  have k0 := h0
  have lt0 : ∀ x ∈ p0, x.block < W.heap.size := by obtain ⟨m, hm⟩ := k0; exact DataW.trod_lt m _ _ _ hm
  obtain ⟨A, c, xs, rfl, hc, hm, hx, hdx⟩ := open_purses (hval 0 29 v0 rfl rfl) h0
  have z0 : xs.length ≤ 140737488355328 := by
    rcases hdx with ⟨_, e⟩ | ⟨el, sp, e, hel⟩
    · rw [e]; simp
    · subst e
      have hh := sized_slice hsz (j := 0) (t := 29) (e := 23) rfl rfl Try.underlying29
      rw [show Try.prog.bytesOf 23 = 32 from by kernel_rfl] at hh
      simp only [reachBytes] at hh
      omega
  have k1 := h1
  have lt1 : ∀ x ∈ p1, x.block < W.heap.size := by obtain ⟨m, hm⟩ := k1; exact DataW.trod_lt m _ _ _ hm
  obtain ⟨B, c2, ys, rfl, hd, hm2, hy, hdy⟩ := open_purses (hval 1 29 v1 rfl rfl) h1
  have z1 : ys.length ≤ 140737488355328 := by
    rcases hdy with ⟨_, e⟩ | ⟨el, sp, e, hel⟩
    · rw [e]; simp
    · subst e
      have hh := sized_slice hsz (j := 1) (t := 29) (e := 23) rfl rfl Try.underlying29
      rw [show Try.prog.bytesOf 23 = 32 from by kernel_rfl] at hh
      simp only [reachBytes] at hh
      omega
  clear hA0 hval0
  refine (Go.Proofs.Ytbeebcocedmjkaa.walkRows A B c c2 xs ys W hc hm hx hd hm2 hy z0 z1).mono fun e W' ⟨he, bel⟩ => ?_
  subst he
  exact ⟨_, rfl, _, _, _, [], _, [], hW', trodAll_mk1 (shut_bool Try.underlying4 _), (trodAll_cons_mk (Below.trod laidOut (by kernel_rfl) (of_decide_eq_true (by kernel_rfl)) k0 bel lt0) (trodAll_cons_mk (Below.trod laidOut (by kernel_rfl) (of_decide_eq_true (by kernel_rfl)) k1 bel lt1) trodAll_mk0)), rfl, bel.frame _, fun h => by cases h⟩

theorem over : Rows.purseRowsRow.holds Try.pinned (OpenSpec.ofChange Rows.purseRowsSpec) :=
  OpenClaim.holds_of_wide 9 Try.f9 rfl rfl rfl rfl rfl rfl rfl ⟨rfl, rfl, rfl, rfl, rfl⟩ rfl rfl rfl rfl rfl (by kernel_rfl) Try.func9 (by kernel_rfl)
    (of_decide_eq_true (by kernel_rfl)) (by unfold Func.isWrapper; first | (rw [if_pos (by decide +kernel)]; kernel_rfl) | (rw [if_neg (by decide +kernel)]; exact ⟨rfl, rfl⟩))
    (fun os started H enc _ => lifted os started H enc)

theorem proved : Rows.PurseRowsSaid := over
end Go.Proofs.Ytbeebcocedmjkaa.purseRows
