/- The statement VaultPlays: for every input the Go function satrapy/satrapylaw11.VaultPlays returns true, and each argument reads behind the call as it did before; without any condition. -/
import Derived.Test.YtdlbiobjnohfbaaGreatRows
import Derived.Lib.SmallJoins
import Derived.Test.YtdlbiobjnohfbaaGreatVp46
import Derived.Test.YtdlbiobjnohfbaaGreatVp48
namespace Go.Proofs.YtdlbiobjnohfbaaGreat
open Go.RowKit Go.ChangeMaps Go.MapKept
set_option linter.unusedVariables false
set_option linter.unusedSimpArgs false
theorem JE.alike {w0 w : World} {b d x : Nat} {l : Pm} {L : List Od} {g : Int} {D : Nat → Prop} (h : JE w0 w b d x l L g l L (g + 1) D) (hlen : l.length ≤ 300) :
  Calls Tryz.prog 8 #[.pointer (some ⟨b, 0, none⟩), .pointer (some ⟨d, 0, none⟩)] w fun e w' => e = .returned (.bool true) ∧ Below w.heap.size w w' := by
 obtain ⟨B, u, u2, last, p, v, lastc, h, _⟩ := h
 exact lwAlike b p v l L lastc g B d x u u2 last (g + 1) w h.vt h.rv rfl hlen
set_option maxHeartbeats 4000000 in
set_option maxRecDepth 10000 in
theorem walkVaultPlays (A : Option Addr) (c : Nat) (xs : List Va) (w : World) (hx : Cells w w.heap.size A xs.length c 13 (xs.flatMap vaV)) :
  Calls Tryz.prog 3 #[.slice A xs.length c] w fun e w' => e = .returned (.bool true) ∧ Below w.heap.size w w' := by
 have HX := Lib.hid hx
 clear hx
 go_enter Tryz.func3, Tryz.ntmps3
 go_wp2_with fail
 refine (vtHeavy A c xs _ HX.out).mono ?_
 rintro e w1 ⟨hv, rfl, hb1⟩
 cases hv with
 | true =>
  go_wp2_with fail
  go_ret
  exact ⟨rfl, hb1⟩
 | false =>
 have HB1 := Lib.hid hb1
 have hs1 := hb1.size
 clear hb1
 go_wp2_with (first
  | (go_at_call 7; refine (played A c xs _ (cells_keep HX.out HB1.out hs1)).mono ?_; rintro e w2 ⟨b, d, x, l, L, g, N, rfl, hj, hnm, hnl⟩; have hll := hnm.len hj.oks.1.1; have HJ := Lib.hid hj; have HB2 := Lib.hid (HB1.out.trans (hj.bel.mono hs1)); clear hj hnm)
  | (go_at_call 8; refine (HJ.out.alike (by omega)).mono ?_; rintro e w3 ⟨rfl, hb3⟩; have HB3 := Lib.hid (HB2.out.trans (hb3.mono HB2.out.size)); clear hb3)
  | (go_at_call 9; refine (vtKnown _).mono ?_; rintro e w4 ⟨rfl, hb4⟩; have HB4 := Lib.hid (HB3.out.trans (hb4.mono HB3.out.size)); clear hb4)
  | fail)
 go_ret
 exact ⟨rfl, HB4.out⟩
end Go.Proofs.YtdlbiobjnohfbaaGreat
namespace Go.Proofs.YtdlbiobjnohfbaaGreat.vaultPlays
open Go.ChangeShapes Go.WideShapes Go.ChangeAt Go.RowKit Go.Joins
open Go.ChangeMaps (open_string shut_string)
set_option linter.unusedVariables false
set_option linter.unusedSimpArgs false
theorem own : ownKnob Tryz.prog.godebug = none := by kernel_rfl
theorem laidOut : laidOutB Tryz.prog = true := by kernel_rfl
set_option maxHeartbeats 1000000 in
set_option maxRecDepth 100000 in
theorem lifted (os : Os) (started : os.Started) (H : Type) (enc : TypeId × Value → H) :
  ReturnsInHanded {} Tryz.checked os 3 .any (Rows.vaultPlaysSpec.pre6 enc Tryz.prog Tryz.f3 Rows.vaultPlaysRow.domain false) (Rows.vaultPlaysSpec.post enc Tryz.prog Tryz.f3 false true false false) := by
 refine returnsInHanded_of_change (C := Tryz.checked) own started (by kernel_rfl) Tryz.func3
  (ChangeSpec.witness6 (enc := enc) (C := Tryz.checked) false ⟨#[], #[.slice none 0 0], []⟩ 8 (by kernel_rfl) (by kernel_rfl) (by kernel_rfl) (by kernel_rfl)) ?_
 intro W base args ds gs before hval0 hW hcnd _
 have hval : ∀ (j : Nat) t v, Tryz.f3.params[j]? = some t → args[j]? = some v → Value.okWide Tryz.prog W .any base t v := hval0
 have hW' := hW
 obtain ⟨p, q, hA0, hV, rfl, hfz, hnd⟩ := hW
 have hA : DataW.TrodAll enc Tryz.prog W 0 (fun _ => true) true Tryz.f3.params.toList args.toList ds p := hA0
 skip
 rw [Tryz.params3] at hA hval
 obtain ⟨v0, vs0, d0, ds0, p0, q0, hargs, rfl, rfl, h0, r0⟩ := trodAll_cons hA
 obtain ⟨rfl, rfl, rfl⟩ := trodAll_nil r0
 obtain rfl : args = #[v0] := by cases args; simp_all
 obtain ⟨rfl, rfl⟩ := trodVars_none hV
 have k0 := h0
 have lt0 : ∀ x ∈ p0, x.block < W.heap.size := by obtain ⟨m, hm⟩ := k0; exact DataW.trod_lt m _ _ _ hm
 obtain ⟨A, c, xs, rfl, hc0, hcm0, hq0, hx0⟩ := open_vacts (hval 0 22 v0 rfl rfl) h0
 clear hA0 hval0
 refine (walkVaultPlays A c xs W hx0).mono fun e W' ⟨he, bel⟩ => ?_
 subst he
 exact ⟨_, rfl, _, _, _, [], _, [], hW', trodAll_mk1 (shut_bool Tryz.underlying4 _), (trodAll_cons_mk (Below.trod laidOut (by kernel_rfl) (of_decide_eq_true (by kernel_rfl)) k0 bel lt0) trodAll_mk0), rfl, bel.frame _, fun h => by cases h⟩
theorem over : Rows.vaultPlaysRow.holds Tryz.pinned (OpenSpec.ofChange Rows.vaultPlaysSpec) :=
 OpenClaim.holds_of_wide 3 Tryz.f3 rfl rfl rfl rfl rfl rfl rfl ⟨rfl, rfl, rfl, rfl, rfl⟩ rfl rfl rfl rfl rfl (by kernel_rfl) Tryz.func3 (by kernel_rfl)
  (of_decide_eq_true (by kernel_rfl)) (by unfold Func.isWrapper; first | (rw [if_pos (by decide +kernel)]; kernel_rfl) | (rw [if_neg (by decide +kernel)]; exact ⟨rfl, rfl⟩))
  (fun os started H enc _ => lifted os started H enc)
theorem proved : Rows.VaultPlaysSaid := over
end Go.Proofs.YtdlbiobjnohfbaaGreat.vaultPlays
