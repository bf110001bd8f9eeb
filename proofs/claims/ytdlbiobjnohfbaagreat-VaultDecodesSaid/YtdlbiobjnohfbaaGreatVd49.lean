/- The statement VaultDecodes: for every input the Go function satrapy/satrapylaw11.VaultDecodes returns true, and each argument reads behind the call as it did before; without any condition. -/
import Derived.Test.YtdlbiobjnohfbaaGreatRows
import Derived.Lib.SmallJoins
import Derived.Test.YtdlbiobjnohfbaaGreatVd40
import Derived.Test.YtdlbiobjnohfbaaGreatVd48
namespace Go.Proofs.YtdlbiobjnohfbaaGreat
open Go.RowKit Go.ChangeMaps Go.MapKept
set_option linter.unusedVariables false
set_option linter.unusedSimpArgs false
theorem vR_sorted (xs : List Nat) : rowsP (vR xs).1 = (vR xs).1 := rowsP_self (rS_chn _ _ _).sorted
theorem vR_len (xs : List Nat) : 5 * (vR xs).1.length ≤ xs.length := by
  have h1 := rS_len5 (nx (some xs)).1 [] (nx (some xs)).2
  have h2 := nx_lenV (some xs)
  simp only [Option.getD_some] at h2
  unfold vR
  omega
set_option maxHeartbeats 8000000 in
set_option maxRecDepth 10000 in
theorem walkVaultDecodes (A : Option Addr) (c : Nat) (xs : List Nat) (w : World) (hc : xs.length ≤ c) (hm : c ≤ maxLen) (h256 : ∀ x ∈ xs, x < 256) (hx : Cells w w.heap.size A xs.length c 1 (flatU xs)) :
    Calls Tryz.prog 5 #[.slice A xs.length c] w fun e w' => e = .returned (.bool true) ∧ Below w.heap.size w w' := by
  obtain ⟨i0, hi, hz0, hz1, hz2⟩ := info_parts Tryz.infoByte
  have HX := Lib.hid hx
  have H256 := Lib.hid h256
  clear hx h256
  by_cases hn : xs.length ≤ 1000
  case neg =>
    have q0 : (1000 : Int) < (xs.length : Int) := by omega
    go_enter Tryz.func5, Tryz.ntmps5
    go_wp2_with fail
    refine bodyPost_ret (v := .bool true) (by simp [results, Tryz.results5, go_sem]) rfl ⟨rfl, Below.refl _ _⟩
  have q0 : ¬ (1000 : Int) < (xs.length : Int) := by omega
  have hbl : Below w.heap.size w (w.alloc (.cells #[] 5)) := (Below.refl _ _).alloc (Nat.le_refl _) _
  have HLIT : Hid ((w.alloc (.cells #[] 5)).ownsRow w.heap.size 5 1 (.slice (some ⟨w.heap.size, 0, none⟩) 0 0) 0 []) := Lib.hid (owns_lit0 rfl (Nat.le_refl _))
  have HC := Lib.hid (cells_keep HX.out hbl (Nat.le_refl _))
  have HBL := Lib.hid hbl
  clear hbl
  go_enter Tryz.func5, Tryz.ntmps5
  go_wp2_with (first
    | (at_builtin; go_must (refine wpList_append_row rfl (.tmp 11) (.tmp 12) 33 rfl w.heap.size 5 i0 (.int .u8 0) 1 1 Tryz.underlying33 hi hz0 hz1 hz2 rfl (by decide) _ 0 [] rfl HLIT.out w.heap.size A xs.length c (flatU xs) rfl HC.out (flatU_one _) (by unfold maxLen; omega) (by omega) (by simp) ?_); intro v1 w1 ho1 hb1; rw [List.nil_append, Nat.zero_add] at ho1; obtain ⟨A1, c1, rfl, _, _, _⟩ := own_slice ho1; have HO1 := Lib.hid ho1; have HB1 := Lib.hid (HBL.out.trans hb1); clear ho1 hb1)
    | fail)
  have hs1 := HB1.out.size
  refine (vtDecode A1 c1 xs _ (own_cellsF HO1.out) H256.out (by omega)).mono ?_
  rintro e w2 ⟨hb2, h2⟩
  have HB2 := Lib.hid (HB1.out.trans (hb2.mono hs1))
  have hs2 := HB2.out.size
  have HX2 := Lib.hid (cells_mono (cells_keep HX.out HB2.out (Nat.le_refl _)) hs2)
  clear hb2 HO1 HLIT HC HBL HB1 hs1
  rcases h2 with ⟨hok, b, p, v, rfl, hvt, hfv⟩ | ⟨hno, rfl⟩
  · have HVT := Lib.hid hvt
    clear hvt hfv
    go_wp2_with fail
    refine (refVDecode A c xs _ HX2.out hc hm H256.out (by omega)).mono ?_
    rintro e w3 ⟨hb3, h3⟩
    obtain ⟨d, x, u, u2, rfl, hrv⟩ := (h3.resolve_right (fun h => h.1 hok)).2
    have HV3 := Lib.hid (HVT.out.below hb3)
    have HB3 := Lib.hid (HB2.out.trans (hb3.mono hs2))
    have hlen := vR_len xs
    rw [← vR_sorted xs] at hrv
    have HR3 := Lib.hid hrv
    clear h3 hrv hb3 HVT HB2 HX2 hok
    go_wp2_with fail
    refine (lwAlike b p v (vR xs).1 (vO xs).1 _ (vN xs - 1) w2.heap.size d x u u2 _ (vN xs) _ HV3.out HR3.out (by omega) (by omega)).mono ?_
    rintro e w4 ⟨rfl, hb4⟩
    have HB4 := Lib.hid (HB3.out.trans (hb4.mono HB3.out.size))
    clear hb4
    go_wp2_with fail
    refine (vtKnown _).mono ?_
    rintro e w5 ⟨rfl, hb5⟩
    have HB5 := Lib.hid (HB4.out.trans (hb5.mono HB4.out.size))
    clear hb5
    go_wp2_with fail
    refine bodyPost_ret (v := .bool true) (by simp [results, Tryz.results5, go_sem]) rfl ⟨rfl, HB5.out⟩
  · go_wp2_with fail
    refine (refVDecode A c xs _ HX2.out hc hm H256.out (by omega)).mono ?_
    rintro e w3 ⟨hb3, h3⟩
    obtain ⟨_, rfl⟩ := h3.resolve_left (fun h => hno h.1)
    have HB3 := Lib.hid (HB2.out.trans (hb3.mono hs2))
    clear hb3 h3 hno
    go_wp2_with fail
    refine (vtKnown _).mono ?_
    rintro e w5 ⟨rfl, hb5⟩
    have HB5 := Lib.hid (HB3.out.trans (hb5.mono HB3.out.size))
    clear hb5
    go_wp2_with fail
    refine bodyPost_ret (v := .bool true) (by simp [results, Tryz.results5, go_sem]) rfl ⟨rfl, HB5.out⟩
end Go.Proofs.YtdlbiobjnohfbaaGreat
namespace Go.Proofs.YtdlbiobjnohfbaaGreat.vaultDecodes
open Go.ChangeShapes Go.WideShapes Go.ChangeAt Go.RowKit Go.Joins
open Go.ChangeMaps (open_string shut_string)
set_option linter.unusedVariables false
set_option linter.unusedSimpArgs false
theorem own : ownKnob Tryz.prog.godebug = none := by kernel_rfl
theorem laidOut : laidOutB Tryz.prog = true := by kernel_rfl
set_option maxHeartbeats 1000000 in
set_option maxRecDepth 100000 in
theorem lifted (os : Os) (started : os.Started) (H : Type) (enc : TypeId × Value → H) :
    ReturnsInHanded {} Tryz.checked os 5 .any (Rows.vaultDecodesSpec.pre6 enc Tryz.prog Tryz.f5 Rows.vaultDecodesRow.domain false) (Rows.vaultDecodesSpec.post enc Tryz.prog Tryz.f5 false true false false) := by
  refine returnsInHanded_of_change (C := Tryz.checked) own started (by kernel_rfl) Tryz.func5
    (ChangeSpec.witness6 (enc := enc) (C := Tryz.checked) false ⟨#[], #[.slice none 0 0], []⟩ 8 (by kernel_rfl) (by kernel_rfl) (by kernel_rfl) (by kernel_rfl)) ?_
  intro W base args ds gs before hval0 hW hcnd _
  have hval : ∀ (j : Nat) t v, Tryz.f5.params[j]? = some t → args[j]? = some v → Value.okWide Tryz.prog W .any base t v := hval0
  have hW' := hW
  obtain ⟨p, q, hA0, hV, rfl, hfz, hnd⟩ := hW
  have hA : DataW.TrodAll enc Tryz.prog W 0 (fun _ => true) true Tryz.f5.params.toList args.toList ds p := hA0
  skip
  rw [Tryz.params5] at hA hval
  obtain ⟨v0, vs0, d0, ds0, p0, q0, hargs, rfl, rfl, h0, r0⟩ := trodAll_cons hA
  obtain ⟨rfl, rfl, rfl⟩ := trodAll_nil r0
  obtain rfl : args = #[v0] := by cases args; simp_all
  obtain ⟨rfl, rfl⟩ := trodVars_none hV
  have k0 := h0
  have lt0 : ∀ x ∈ p0, x.block < W.heap.size := by obtain ⟨m, hm⟩ := k0; exact DataW.trod_lt m _ _ _ hm
  obtain ⟨A, c, xs, rfl, hc1, hm1, h256, hx1⟩ := open_u8s (hval 0 33 v0 rfl rfl) h0
  clear hA0 hval0
  refine (walkVaultDecodes A c xs W hc1 hm1 h256 hx1).mono fun e W' ⟨he, bel⟩ => ?_
  subst he
  exact ⟨_, rfl, _, _, _, [], _, [], hW', trodAll_mk1 (shut_bool Tryz.underlying4 _), (trodAll_cons_mk (Below.trod laidOut (by kernel_rfl) (of_decide_eq_true (by kernel_rfl)) k0 bel lt0) trodAll_mk0), rfl, bel.frame _, fun h => by cases h⟩
theorem over : Rows.vaultDecodesRow.holds Tryz.pinned (OpenSpec.ofChange Rows.vaultDecodesSpec) :=
  OpenClaim.holds_of_wide 5 Tryz.f5 rfl rfl rfl rfl rfl rfl rfl ⟨rfl, rfl, rfl, rfl, rfl⟩ rfl rfl rfl rfl rfl (by kernel_rfl) Tryz.func5 (by kernel_rfl)
    (of_decide_eq_true (by kernel_rfl)) (by unfold Func.isWrapper; first | (rw [if_pos (by decide +kernel)]; kernel_rfl) | (rw [if_neg (by decide +kernel)]; exact ⟨rfl, rfl⟩))
    (fun os started H enc _ => lifted os started H enc)
theorem proved : Rows.VaultDecodesSaid := over
end Go.Proofs.YtdlbiobjnohfbaaGreat.vaultDecodes
