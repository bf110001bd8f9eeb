/- The statement VaultBack: for every input the Go function satrapy/satrapylaw11.VaultBack returns true, and each argument reads behind the call as it did before; without any condition. -/
import Derived.Test.YtdlbiobjnohfbaaGreatRows
import Derived.Lib.SmallJoins
import Derived.Test.YtdlbiobjnohfbaaGreatVb43
import Derived.Test.YtdlbiobjnohfbaaGreatVb48
namespace Go.Proofs.YtdlbiobjnohfbaaGreat
open Go.RowKit Go.ChangeMaps Go.MapKept
set_option linter.unusedVariables false
set_option linter.unusedSimpArgs false
theorem JE.alike {w0 w : World} {b d x : Nat} {l : Pm} {L : List Od} {g : Int} {D : Nat → Prop} (h : JE w0 w b d x l L g l L (g + 1) D) (hlen : l.length ≤ 300) :
  Calls Tryz.prog 8 #[.pointer (some ⟨b, 0, none⟩), .pointer (some ⟨d, 0, none⟩)] w fun e w' => e = .returned (.bool true) ∧ Below w.heap.size w w' := by
 obtain ⟨B, u, u2, last, p, v, lastc, h, _⟩ := h
 exact lwAlike b p v l L lastc g B d x u u2 last (g + 1) w h.vt h.rv rfl hlen
theorem JE.encode {w0 w : World} {b d x : Nat} {l : Pm} {L : List Od} {g : Int} {D : Nat → Prop} (h : JE w0 w b d x l L g l L (g + 1) D) (hlen : l.length ≤ 300) :
  Calls Tryz.prog 11 #[.pointer (some ⟨b, 0, none⟩)] w fun e w' => ∃ v', e = .returned v' ∧ w'.ownsRow w.heap.size 5 1 v' (vB l L (g + 1)).length (flatU (vB l L (g + 1))) ∧ Below w.heap.size w w' := by
 obtain ⟨B, u, u2, last, p, v, lastc, h, _⟩ := h
 exact vtEncode b p v l L lastc g w h.vt hlen
theorem bs_byte (s : ByteArray) : ∀ x ∈ bs s, x < 256 := by
 intro x hx
 unfold bs at hx
 obtain ⟨b, _, rfl⟩ := List.mem_map.1 hx
 exact b.toNat_lt
theorem vB_byte (l : Pm) (L : List Od) (n : Int) : ∀ x ∈ vB l L n, x < 256 := by
 have he : ∀ (l : List Int), ∀ x ∈ encs l, x < 256 := fun l x hx => by
  obtain ⟨a, _, h⟩ := List.mem_flatMap.1 hx
  exact enc_byte _ x h
 have hb : ∀ (s : ByteArray), s.size ≤ 1000000 ∨ True → ∀ x ∈ encb [bs s], x < 256 := fun s _ x hx => by
  simp only [encb, List.flatMap_cons, List.flatMap_nil, List.append_nil, List.mem_append] at hx
  rcases hx with h | h
  · exact enc_byte _ x h
  · exact bs_byte s x h
 intro x hx
 simp only [vB, List.mem_append] at hx
 rcases hx with (((h | h) | h) | h) | h
 · exact he _ x h
 ·
  obtain ⟨r, _, h⟩ := List.mem_flatMap.1 h
  rcases List.mem_append.1 h with h | h
  · exact hb _ (.inr trivial) x h
  · exact he _ x h
 · exact he _ x h
 ·
  obtain ⟨r, _, h⟩ := List.mem_flatMap.1 h
  simp only [oB, List.mem_append] at h
  rcases h with (h | h) | h
  · exact he _ x h
  · exact hb _ (.inr trivial) x h
  · exact he _ x h
 · exact he _ x h
set_option maxHeartbeats 8000000 in
set_option maxRecDepth 10000 in
theorem walkVaultBack (A : Option Addr) (c : Nat) (xs : List Va) (A2 : Option Addr) (c2 : Nat) (ys : List Va) (w : World) (hx : Cells w w.heap.size A xs.length c 13 (xs.flatMap vaV)) (hy : Cells w w.heap.size A2 ys.length c2 13 (ys.flatMap vaV)) :
  Calls Tryz.prog 4 #[.slice A xs.length c, .slice A2 ys.length c2] w fun e w' => e = .returned (.bool true) ∧ Below w.heap.size w w' := by
 have HX := Lib.hid hx
 have HY := Lib.hid hy
 clear hx hy
 go_enter Tryz.func4, Tryz.ntmps4
 go_wp2_with fail
 refine (vtHeavy A c xs _ HX.out).mono ?_
 rintro e w1 ⟨hv, rfl, hb1⟩
 cases hv with
 | true =>
  go_wp2_with fail
  go_ret
  exact ⟨rfl, hb1⟩
 | false =>
 have HB1 := Lib.hid hb1
 have hs1 := hb1.size
 clear hb1
 go_wp2_with fail
 refine (vtHeavy A2 c2 ys _ (cells_mono (cells_keep HY.out HB1.out (Nat.le_refl _)) hs1)).mono ?_
 rintro e w2 ⟨hv, rfl, hb2⟩
 have HB2 := Lib.hid (HB1.out.trans (hb2.mono hs1))
 have hs2 := HB2.out.size
 clear hb2
 cases hv with
 | true =>
  go_wp2_with fail
  go_ret
  exact ⟨rfl, HB2.out⟩
 | false =>
 go_wp2_with fail
 refine (played A c xs _ (cells_mono (cells_keep HX.out HB2.out (Nat.le_refl _)) hs2)).mono ?_
 rintro e w3 ⟨b, d, x, l, L, g, N, rfl, hj, hnm, hnl⟩
 obtain ⟨hok, ⟨last, hbk⟩, _, _, hg0, hg1, h32⟩ := hj.oks
 have hll := hnm.len hok.1
 have HJ3 := Lib.hid hj
 have HB3 := Lib.hid (HB2.out.trans (hj.bel.mono hs2))
 have HNM := Lib.hid hnm
 have HOK := Lib.hid hok
 have hlast : ∃ m, Bk L m ∧ m ≤ g := by
  obtain ⟨B, u, u2, last, p, v, lastc, h, _⟩ := hj
  obtain ⟨S, _, _, h3, _, h5, _⟩ := h.vt
  exact ⟨lastc, h3, h5⟩
 obtain ⟨m, hbm, hmg⟩ := hlast
 have HVB := Lib.hid (v_back hok hbm hnm.2 h32 (by omega) ⟨hmg, hg1⟩)
 have hbl : (vB l L (g + 1)).length ≤ 100000 := by
  have h1 := encs_leV [((rowsP l).length : Int)] 1 (by simp)
  have h2 := encs_leV [(L.length : Int)] 1 (by simp)
  have h3 := encs_leV [g + 1] 1 (by simp)
  have h4 := rsB_len (rowsP l) (fun r hr => (hok.2 r ((rowsP_perm hok.1).mem_iff.1 hr)).2.2.2)
  have h5 := osB_len L (fun o ho => (hbk.ok o ho).who.2)
  have h6 := rowsP_len l
  unfold vB
  rw [List.length_append, List.length_append, List.length_append, List.length_append]
  omega
 clear hj hnm hok hbk hbm
 go_wp2_with fail
 refine (HJ3.out.encode (by omega)).mono ?_
 rintro e w4 ⟨v4, rfl, hown, hb4⟩
 obtain ⟨A4, q4, rfl, _, _, _⟩ := own_slice hown
 have HC4 := Lib.hid (own_cellsF hown)
 have HB4 := Lib.hid (HB3.out.trans (hb4.mono HB3.out.size))
 have HJ4 := Lib.hid (HJ3.out.below hb4)
 clear hown hb4
 go_wp2_with fail
 refine (vtDecode A4 q4 (vB l L (g + 1)) _ HC4.out (vB_byte _ _ _) hbl).mono ?_
 rintro e w5 ⟨hb5, h5⟩
 obtain ⟨hvok, hvr, hvo, hvn⟩ := HVB.out
 obtain ⟨b5, p5, v5, rfl, hvt5, hf5⟩ := (h5.resolve_right (fun h => h.1 hvok)).2
 rw [hvr, hvo, hvn] at hvt5
 have hvt5 : VtAt w5 b5 p5 v5 (rowsP l) L (lastOf L) g := by
  have e : g + 1 - 1 = g := by omega
  rw [e] at hvt5; exact hvt5
 have HJ5 := Lib.hid (HJ4.out.back hb5 hvt5 hf5)
 have HB5 := Lib.hid (HB4.out.trans (hb5.mono HB4.out.size))
 have hrl := rowsP_len l
 have HN5 : Hid (Nms N (rowsP l) L) := Lib.hid (HNM.out.1.rows HOK.out.1)
 generalize rowsP l = l5 at *
 clear h5 hvok hvr hvo hvn hvt5 hf5 hb5 HVB HC4 HJ3 HJ4 HNM HOK HB4 HB3
 go_wp2_with fail
 refine (HJ5.out.alike (by omega)).mono ?_
 rintro e w6 ⟨rfl, hb6⟩
 have HJ6 := Lib.hid (HJ5.out.below hb6)
 have HB6 := Lib.hid (HB5.out.trans (hb6.mono HB5.out.size))
 clear hb6 HJ5 HB5
 go_wp2_with fail
 go_loopw [10] (fun iv wr => ∃ (i : Nat) (l : Pm) (L : List Od) (g : Int) (Nm : List By), i ≤ min ys.length 100 ∧ iv = .int .i64 i ∧ JE w2 wr b5 d x l L g l L (g + 1) (fun _ => False) ∧ Nms Nm l L ∧ Nm.length ≤ 100 + i) (fun iv _ => min ys.length 100 - (intOf iv).toNat)
 case atStart => exact ⟨0, l5, L, g, N, Nat.zero_le _, rfl, HJ6.out, HN5.out, by omega⟩
 case round =>
  clear HJ6 HN5 hbl hll hrl hg0 hg1 h32 hmg hnl
  obtain ⟨i, l, L, g, Nm, hil, rfl, hj, hnm, hnl⟩ := hrel
  have hBw := HB2.out.trans (hj.bel.mono hs2)
  have HJ := Lib.hid hj
  have HNM := Lib.hid hnm
  have hll := hnm.len hj.oks.1.1
  by_cases hlt : i < min ys.length 100
  ·
   have q3 : (i : Int) < (ys.length : Int) := by omega
   have q4 : (i : Int) < 100 := by omega
   obtain ⟨qb, qo, rfl, hqb, hcell⟩ := va_cell HY.out (show i < ys.length by omega)
   obtain ⟨a, ha⟩ : ∃ a, a = ys[i] := ⟨_, rfl⟩
   rw [← ha] at hcell
   have c0 := bkeep hBw (hcell 0 _ (by decide) rfl) hqb
   have c7 := bkeep hBw (hcell 7 _ (by decide) rfl) hqb
   have c8 := bkeep hBw (hcell 8 _ (by decide) rfl) hqb
   have c9 := bkeep hBw (hcell 9 _ (by decide) rfl) hqb
   have c10 := bkeep hBw (hcell 10 _ (by decide) rfl) hqb
   have c11 := bkeep hBw (hcell 11 _ (by decide) rfl) hqb
   have c12 := bkeep hBw (hcell 12 _ (by decide) rfl) hqb
   simp only [Nat.add_zero] at c0
   have HCE := Lib.hid hcell
   obtain ⟨_, ⟨lastk, hbk⟩, _⟩ := hj.oks
   have HBK := Lib.hid hbk
   clear hj hnm hcell ha hBw hbk
   by_cases k3 : a.kind = 3
   ·
    go_wp2_with (first
     | (go_at_call 12; go_loud (refine (jOrdC w2 b5 d x l l L L g (g + 1) a.o (fun _ => False) _ HJ.out).mono ?_; rintro e w8 ⟨n1, e1, l1, L1, g1, rfl, ⟨hj8, _⟩, hx1⟩; have hB8 := HB2.out.trans (hj8.bel.mono hs2); have HJ8 := Lib.hid hj8; have HX1 := Lib.hid hx1; have d7 := bkeep hB8 (HCE.out 7 _ (by decide) rfl) hqb; have d8 := bkeep hB8 (HCE.out 8 _ (by decide) rfl) hqb; have d9 := bkeep hB8 (HCE.out 9 _ (by decide) rfl) hqb; have d10 := bkeep hB8 (HCE.out 10 _ (by decide) rfl) hqb; have d11 := bkeep hB8 (HCE.out 11 _ (by decide) rfl) hqb; have d12 := bkeep hB8 (HCE.out 12 _ (by decide) rfl) hqb; clear hj8 hx1 hB8))
     | (go_at_call 13; go_loud (refine (jOrdD w2 b5 d x l1 l L1 L g1 g a.o Nm (fun _ => False) _ HJ8.out HNM.out (by omega)).mono ?_; rintro e w9 ⟨n2, e2, l2, L2, g2, rfl, ⟨hj9, _⟩, hx2⟩; obtain ⟨rfl, rfl, rfl, rfl, rfl⟩ := HX1.out.det HBK.out hx2; have HJ9 := Lib.hid hj9; clear hj9 hx2))
     | fail)
    refine ⟨⟨i + 1, l1, L1, g1, _, by omega, by go_num, HJ9.out, HX1.out.nms HNM.out, by rw [List.length_cons]; omega⟩, by simp [intOf]; omega⟩
   ·
    go_wp2_with fail
    refine ⟨⟨i + 1, l, L, g, Nm, by omega, by go_num, HJ.out, HNM.out, by omega⟩, by simp [intOf]; omega⟩
  ·
   have HBW := Lib.hid hBw
   clear hj hnm hBw
   by_cases hlt2 : i < ys.length
   ·
    have q3 : (i : Int) < (ys.length : Int) := by omega
    have q4 : ¬ (i : Int) < 100 := by omega
    go_wp2_with (first
     | (go_at_call 8; refine (HJ.out.alike (by omega)).mono ?_; rintro e w9 ⟨rfl, hb9⟩; have HB9 := Lib.hid (HBW.out.trans (hb9.mono HBW.out.size)); clear hb9)
     | (go_at_call 9; refine (vtKnown _).mono ?_; rintro e w10 ⟨rfl, hb10⟩; have HB10 := Lib.hid (HB9.out.trans (hb10.mono HB9.out.size)); clear hb10)
     | fail)
    refine bodyPost_ret (v := .bool true) (by simp [results, Tryz.results4, go_sem]) rfl ⟨rfl, HB10.out⟩
   ·
    have q3 : ¬ (i : Int) < (ys.length : Int) := by omega
    go_wp2_with (first
     | (go_at_call 8; refine (HJ.out.alike (by omega)).mono ?_; rintro e w9 ⟨rfl, hb9⟩; have HB9 := Lib.hid (HBW.out.trans (hb9.mono HBW.out.size)); clear hb9)
     | (go_at_call 9; refine (vtKnown _).mono ?_; rintro e w10 ⟨rfl, hb10⟩; have HB10 := Lib.hid (HB9.out.trans (hb10.mono HB9.out.size)); clear hb10)
     | fail)
    refine bodyPost_ret (v := .bool true) (by simp [results, Tryz.results4, go_sem]) rfl ⟨rfl, HB10.out⟩
end Go.Proofs.YtdlbiobjnohfbaaGreat
namespace Go.Proofs.YtdlbiobjnohfbaaGreat.vaultBack
open Go.ChangeShapes Go.WideShapes Go.ChangeAt Go.RowKit Go.Joins
open Go.ChangeMaps (open_string shut_string)
set_option linter.unusedVariables false
set_option linter.unusedSimpArgs false
theorem own : ownKnob Tryz.prog.godebug = none := by kernel_rfl
theorem laidOut : laidOutB Tryz.prog = true := by kernel_rfl
set_option maxHeartbeats 1000000 in
set_option maxRecDepth 100000 in
theorem lifted (os : Os) (started : os.Started) (H : Type) (enc : TypeId × Value → H) :
  ReturnsInHanded {} Tryz.checked os 4 .any (Rows.vaultBackSpec.pre6 enc Tryz.prog Tryz.f4 Rows.vaultBackRow.domain false) (Rows.vaultBackSpec.post enc Tryz.prog Tryz.f4 false true false false) := by
 refine returnsInHanded_of_change (C := Tryz.checked) own started (by kernel_rfl) Tryz.func4
  (ChangeSpec.witness6 (enc := enc) (C := Tryz.checked) false ⟨#[], #[.slice none 0 0, .slice none 0 0], []⟩ 8 (by kernel_rfl) (by kernel_rfl) (by kernel_rfl) (by kernel_rfl)) ?_
 intro W base args ds gs before hval0 hW hcnd _
 have hval : ∀ (j : Nat) t v, Tryz.f4.params[j]? = some t → args[j]? = some v → Value.okWide Tryz.prog W .any base t v := hval0
 have hW' := hW
 obtain ⟨p, q, hA0, hV, rfl, hfz, hnd⟩ := hW
 have hA : DataW.TrodAll enc Tryz.prog W 0 (fun _ => true) true Tryz.f4.params.toList args.toList ds p := hA0
 skip
 rw [Tryz.params4] at hA hval
 obtain ⟨v0, vs0, d0, ds0, p0, q0, hargs, rfl, rfl, h0, r0⟩ := trodAll_cons hA
 obtain ⟨v1, vs1, d1, ds1, p1, q1, rfl, rfl, rfl, h1, r1⟩ := trodAll_cons r0
 obtain ⟨rfl, rfl, rfl⟩ := trodAll_nil r1
 obtain rfl : args = #[v0, v1] := by cases args; simp_all
 obtain ⟨rfl, rfl⟩ := trodVars_none hV
 have k0 := h0
 have lt0 : ∀ x ∈ p0, x.block < W.heap.size := by obtain ⟨m, hm⟩ := k0; exact DataW.trod_lt m _ _ _ hm
 obtain ⟨A, c, xs, rfl, hc0, hcm0, hq0, hx0⟩ := open_vacts (hval 0 22 v0 rfl rfl) h0
 have k1 := h1
 have lt1 : ∀ x ∈ p1, x.block < W.heap.size := by obtain ⟨m, hm⟩ := k1; exact DataW.trod_lt m _ _ _ hm
 obtain ⟨A2, c2, ys, rfl, hc1, hcm1, hq1, hx1⟩ := open_vacts (hval 1 22 v1 rfl rfl) h1
 clear hA0 hval0
 refine (walkVaultBack A c xs A2 c2 ys W hx0 hx1).mono fun e W' ⟨he, bel⟩ => ?_
 subst he
 exact ⟨_, rfl, _, _, _, [], _, [], hW', trodAll_mk1 (shut_bool Tryz.underlying4 _), (trodAll_cons_mk (Below.trod laidOut (by kernel_rfl) (of_decide_eq_true (by kernel_rfl)) k0 bel lt0) (trodAll_cons_mk (Below.trod laidOut (by kernel_rfl) (of_decide_eq_true (by kernel_rfl)) k1 bel lt1) trodAll_mk0)), rfl, bel.frame _, fun h => by cases h⟩
theorem over : Rows.vaultBackRow.holds Tryz.pinned (OpenSpec.ofChange Rows.vaultBackSpec) :=
 OpenClaim.holds_of_wide 4 Tryz.f4 rfl rfl rfl rfl rfl rfl rfl ⟨rfl, rfl, rfl, rfl, rfl⟩ rfl rfl rfl rfl rfl (by kernel_rfl) Tryz.func4 (by kernel_rfl)
  (of_decide_eq_true (by kernel_rfl)) (by unfold Func.isWrapper; first | (rw [if_pos (by decide +kernel)]; kernel_rfl) | (rw [if_neg (by decide +kernel)]; exact ⟨rfl, rfl⟩))
  (fun os started H enc _ => lifted os started H enc)
theorem proved : Rows.VaultBackSaid := over
end Go.Proofs.YtdlbiobjnohfbaaGreat.vaultBack
