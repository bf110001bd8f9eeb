/- PurseBytes returns true. -/
import Derived.Test.YtehcbagllcogaaaPurseRD2
import Derived.Test.YtehcbagllcogaaaPurseEnc
import Derived.Test.YtehcbagllcogaaaPurseKn
import Derived.Test.YtehcbagllcogaaaOpenBytes
import Derived.Test.YtehcbagllcogaaaOpenItems
namespace Go.Proofs.Ytehcbagllcogaaa
open Go.RowKit
set_option linter.unusedVariables false
set_option linter.unusedSimpArgs false

theorem encs_byte (l : List Int) : ∀ x ∈ encs l, x < 256 := by
  intro x hx
  simp only [encs, List.mem_flatMap] at hx
  obtain ⟨n, _, h⟩ := hx
  exact enc_byte _ x h
theorem clamp_of {n : Int} (h0 : 0 ≤ n) (h1 : n ≤ 1152921504606846976) : (clamp n : Int) = n := by unfold clamp; omega
theorem clamp_le2 (n : Int) : clamp n ≤ 4611686018427387904 := clamp_le n
/-- what a purse may be comes back -/
theorem dec_enc {i0 i1 i2 i3 : Int} (h : isP i0 i1 i2 i3 = true) : decV (encs [i0, i1, i2, i3]) = .tuple #[.agg #[.int .i64 i0, .int .i64 i1, .int .i64 i2, .int .i64 i3], .int .i64 0] := by
  obtain ⟨⟨a1, a2⟩, ⟨b1, b2⟩, ⟨c1, c2⟩, ⟨d1, d2⟩⟩ := isP_iff.1 h
  have e : encs [i0, i1, i2, i3] = enc (clamp i0) ++ (enc (clamp i1) ++ (enc (clamp i2) ++ (enc (clamp i3) ++ []))) := by simp [encs]
  have s0 : nx (some (encs [i0, i1, i2, i3])) = (clamp i0, some (enc (clamp i1) ++ (enc (clamp i2) ++ (enc (clamp i3) ++ [])))) := by rw [e]; exact nx_enc (clamp_le _) _
  have s1 := nx_enc (clamp_le i1) (enc (clamp i2) ++ (enc (clamp i3) ++ []))
  have s2 := nx_enc (clamp_le i2) (enc (clamp i3) ++ [])
  have s3 := nx_enc (clamp_le i3) []
  have q0 : it0 (some (encs [i0, i1, i2, i3])) = i0 := by unfold it0; rw [s0]; exact clamp_of a1 a2
  have q1 : it1 (some (encs [i0, i1, i2, i3])) = i1 := by unfold it1; rw [s0]; simp only; rw [s1]; exact clamp_of b1 b2
  have q2 : it2 (some (encs [i0, i1, i2, i3])) = i2 := by unfold it2; rw [s0]; simp only; rw [s1]; simp only; rw [s2]; exact clamp_of c1 c2
  have q3 : it3 (some (encs [i0, i1, i2, i3])) = i3 := by unfold it3; rw [s0]; simp only; rw [s1]; simp only; rw [s2]; simp only; rw [s3]; exact clamp_of d1 d2
  have qr : itR (some (encs [i0, i1, i2, i3])) = some [] := by unfold itR; rw [s0]; simp only; rw [s1]; simp only; rw [s2]; simp only; rw [s3]
  have hb : decB (encs [i0, i1, i2, i3]) = true := by unfold decB; rw [q0, q1, q2, q3, qr, h]; rfl
  unfold decV
  rw [hb, q0, q1, q2, q3]; rfl
/-- what Decode returns, its four numbers and its error named -/
theorem decV_form (xs : List Nat) : ∃ a b c d e : Int, decV xs = .tuple #[.agg #[.int .i64 a, .int .i64 b, .int .i64 c, .int .i64 d], .int .i64 e] := by
  unfold decV
  cases decB xs
  · exact ⟨_, _, _, _, _, rfl⟩
  · exact ⟨_, _, _, _, _, rfl⟩

set_option maxHeartbeats 2000000 in
set_option maxRecDepth 10000 in
theorem walkPurseBytes1 (i0 i1 i2 i3 : Int) (A : Option Addr) (c : Nat) (xs : List Nat) (w : World) (hn : xs.length ≤ 100) (hcap : xs.length ≤ c) (hcm : c ≤ maxLen) (h256 : ∀ x ∈ xs, x < 256) (hx : Cells w w.heap.size A xs.length c 1 (flatU xs)) :
    Calls Try.prog 3 #[.agg #[.int .i64 i0, .int .i64 i1, .int .i64 i2, .int .i64 i3], .slice A xs.length c] w fun e w' => e = .returned (.bool true) ∧ Below w.heap.size w w' := by
  have B0 : Below w.heap.size w (w.alloc (.cells #[.int .i64 i0, .int .i64 i1, .int .i64 i2, .int .i64 i3] 23)) := (Below.refl _ _).alloc (Nat.le_refl _) _
  have HXw := Lib.hid hx
  have HX0 := Lib.hid (cells_keep (B' := (w.alloc (.cells #[.int .i64 i0, .int .i64 i1, .int .i64 i2, .int .i64 i3] 23)).heap.size) hx B0 (by simp))
  have P0 : Whl (w.alloc (.cells #[.int .i64 i0, .int .i64 i1, .int .i64 i2, .int .i64 i3] 23)) w.heap.size 23 #[.int .i64 i0, .int .i64 i1, .int .i64 i2, .int .i64 i3] := Whl.new rfl
  have H256 := Lib.hid h256
  have q100 : ¬ (100 : Int) < (xs.length : Int) := by omega
  obtain ⟨x0, x1, x2, x3, er, hdec⟩ := decV_form xs
  have HDEC := Lib.hid hdec
  have hel := encs_len [i0, i1, i2, i3]
  simp only [List.length_cons, List.length_nil] at hel
  clear hx h256 hdec
  go_enter Try.func3, Try.ntmps3
  go_wp2_with fail
  refine (purseDecode A c xs _ (by omega) H256.out HX0.out).mono ?_
  rintro e w1 ⟨he, hb1⟩
  rw [HDEC.out] at he
  subst he
  have hs1 := hb1.size
  simp at hs1
  have P1 := P0.below hb1 (by simp)
  have B1 := B0.trans (hb1.mono (by simp))
  clear P0 B0 hb1
  go_wp2_with fail
  obtain ⟨gx, hgx⟩ : ∃ z, z = w1.heap.size := ⟨_, rfl⟩
  rw [← hgx]
  have X2 : Whl (w1.alloc (.cells #[.int .i64 x0, .int .i64 x1, .int .i64 x2, .int .i64 x3] 23)) gx 23 #[.int .i64 x0, .int .i64 x1, .int .i64 x2, .int .i64 x3] := Whl.new hgx
  have P2 := P1.alloc (.cells #[.int .i64 x0, .int .i64 x1, .int .i64 x2, .int .i64 x3] 23)
  have B2 := B1.alloc (by omega) (.cells #[.int .i64 x0, .int .i64 x1, .int .i64 x2, .int .i64 x3] 23)
  have hz2 : (w1.alloc (.cells #[.int .i64 x0, .int .i64 x1, .int .i64 x2, .int .i64 x3] 23)).heap.size = gx + 1 := by simp [hgx]
  have hgx2 : w.heap.size < gx := by omega
  generalize w1.alloc (.cells #[.int .i64 x0, .int .i64 x1, .int .i64 x2, .int .i64 x3] 23) = U2 at *
  clear hgx hs1 P1 B1
  clear HX0
  have hU2 : w.heap.size ≤ U2.heap.size := by omega
  refine (refDecode A c xs _ (by omega) hcap hcm H256.out (cells_keep HXw.out B2 hU2)).mono ?_
  rintro e w3 ⟨he, hb3⟩
  rw [HDEC.out] at he
  subst he
  have hs3 := hb3.size
  have P3 := P2.below hb3 (by omega)
  have X3 := X2.below hb3 (by omega)
  have B3 := B2.trans (hb3.mono (by omega))
  clear P2 X2 B2 hb3
  have d0 := P3.cell 0
  have d1 := P3.cell 1
  have d2 := P3.cell 2
  have d3 := P3.cell 3
  simp only [List.getElem?_toArray, List.getElem?_cons_succ, List.getElem?_cons_zero] at d0 d1 d2 d3
  go_wp2_with fail
  clear d0 d1 d2 d3
  obtain ⟨gy, hgy⟩ : ∃ z, z = w3.heap.size := ⟨_, rfl⟩
  rw [← hgy]
  have Y4 : Whl (w3.alloc (.cells #[.int .i64 x0, .int .i64 x1, .int .i64 x2, .int .i64 x3] 23)) gy 23 #[.int .i64 x0, .int .i64 x1, .int .i64 x2, .int .i64 x3] := Whl.new hgy
  have P4 := P3.alloc (.cells #[.int .i64 x0, .int .i64 x1, .int .i64 x2, .int .i64 x3] 23)
  have X4 := X3.alloc (.cells #[.int .i64 x0, .int .i64 x1, .int .i64 x2, .int .i64 x3] 23)
  have B4 := B3.alloc (by omega) (.cells #[.int .i64 x0, .int .i64 x1, .int .i64 x2, .int .i64 x3] 23)
  have hz4 : (w3.alloc (.cells #[.int .i64 x0, .int .i64 x1, .int .i64 x2, .int .i64 x3] 23)).heap.size = gy + 1 := by simp [hgy]
  have hgy2 : gx < gy := by omega
  generalize w3.alloc (.cells #[.int .i64 x0, .int .i64 x1, .int .i64 x2, .int .i64 x3] 23) = U4 at *
  clear hgy hs3 P3 X3 B3
  refine (purseEncode i0 i1 i2 i3 _).mono ?_
  rintro e w5 ⟨v5, rfl, hown5, hb5⟩
  have hs5 := hb5.size
  obtain ⟨A5, c5, rfl, hc5, hm5, hx5⟩ := row_cells hown5
  have HX5 := Lib.hid hx5
  have P5 := P4.below hb5 (by omega)
  have X5 := X4.below hb5 (by omega)
  have Y5 := Y4.below hb5 (by omega)
  have B5 := B4.trans (hb5.mono (by omega))
  clear P4 X4 Y4 B4 hb5 hown5 hx5
  obtain ⟨z0, z1, z2, z3, ez, hz⟩ := decV_form (encs [i0, i1, i2, i3])
  have HZ := Lib.hid hz
  clear hz
  go_wp2_with fail
  refine (purseDecode A5 c5 (encs [i0, i1, i2, i3]) _ (by omega) (encs_byte _) HX5.out).mono ?_
  rintro e w6 ⟨he, hb6⟩
  rw [HZ.out] at he
  subst he
  have hs6 := hb6.size
  have P6 := P5.below hb6 (by omega)
  have X6 := X5.below hb6 (by omega)
  have Y6 := Y5.below hb6 (by omega)
  have B6 := B5.trans (hb6.mono (by omega))
  clear P5 X5 Y5 B5 hb6
  go_wp2_with fail
  obtain ⟨gz, hgz⟩ : ∃ z, z = w6.heap.size := ⟨_, rfl⟩
  rw [← hgz]
  have Z7 : Whl (w6.alloc (.cells #[.int .i64 z0, .int .i64 z1, .int .i64 z2, .int .i64 z3] 23)) gz 23 #[.int .i64 z0, .int .i64 z1, .int .i64 z2, .int .i64 z3] := Whl.new hgz
  have P7 := P6.alloc (.cells #[.int .i64 z0, .int .i64 z1, .int .i64 z2, .int .i64 z3] 23)
  have X7 := X6.alloc (.cells #[.int .i64 z0, .int .i64 z1, .int .i64 z2, .int .i64 z3] 23)
  have Y7 := Y6.alloc (.cells #[.int .i64 z0, .int .i64 z1, .int .i64 z2, .int .i64 z3] 23)
  have B7 := B6.alloc (by omega) (.cells #[.int .i64 z0, .int .i64 z1, .int .i64 z2, .int .i64 z3] 23)
  have hz7 : (w6.alloc (.cells #[.int .i64 z0, .int .i64 z1, .int .i64 z2, .int .i64 z3] 23)).heap.size = gz + 1 := by simp [hgz]
  have hgz2 : gy < gz := by omega
  generalize w6.alloc (.cells #[.int .i64 z0, .int .i64 z1, .int .i64 z2, .int .i64 z3] 23) = V at *
  clear hgz hs6 P6 X6 Y6 B6
  have p0 := P7.cell 0
  have p1 := P7.cell 1
  have p2 := P7.cell 2
  have p3 := P7.cell 3
  have u0 := X7.cell 0
  have u1 := X7.cell 1
  have u2 := X7.cell 2
  have u3 := X7.cell 3
  have y0 := Y7.cell 0
  have y1 := Y7.cell 1
  have y2 := Y7.cell 2
  have y3 := Y7.cell 3
  have s0 := Z7.cell 0
  have s1 := Z7.cell 1
  have s2 := Z7.cell 2
  have s3 := Z7.cell 3
  simp only [List.getElem?_toArray, List.getElem?_cons_succ, List.getElem?_cons_zero] at p0 p1 p2 p3 u0 u1 u2 u3 y0 y1 y2 y3 s0 s1 s2 s3
  have hkeep : ∀ W, Below V.heap.size V W → (Below V.heap.size V W ∧ W.cell? ⟨w.heap.size, 0, none⟩ = some (.int .i64 i0) ∧ W.cell? ⟨w.heap.size, 1, none⟩ = some (.int .i64 i1) ∧ W.cell? ⟨w.heap.size, 2, none⟩ = some (.int .i64 i2) ∧ W.cell? ⟨w.heap.size, 3, none⟩ = some (.int .i64 i3) ∧ W.cell? ⟨gx, 0, none⟩ = some (.int .i64 x0) ∧ W.cell? ⟨gx, 1, none⟩ = some (.int .i64 x1) ∧ W.cell? ⟨gx, 2, none⟩ = some (.int .i64 x2) ∧ W.cell? ⟨gx, 3, none⟩ = some (.int .i64 x3) ∧ W.cell? ⟨gy, 0, none⟩ = some (.int .i64 x0) ∧ W.cell? ⟨gy, 1, none⟩ = some (.int .i64 x1) ∧ W.cell? ⟨gy, 2, none⟩ = some (.int .i64 x2) ∧ W.cell? ⟨gy, 3, none⟩ = some (.int .i64 x3)) :=
    fun W hh => ⟨hh, bkeep hh p0 (by omega), bkeep hh p1 (by omega), bkeep hh p2 (by omega), bkeep hh p3 (by omega), bkeep hh u0 (by omega), bkeep hh u1 (by omega), bkeep hh u2 (by omega), bkeep hh u3 (by omega), bkeep hh y0 (by omega), bkeep hh y1 (by omega), bkeep hh y2 (by omega), bkeep hh y3 (by omega)⟩
  refine wp_region_held_drew (S := (fun W => Below V.heap.size V W ∧ W.cell? ⟨w.heap.size, 0, none⟩ = some (.int .i64 i0) ∧ W.cell? ⟨w.heap.size, 1, none⟩ = some (.int .i64 i1) ∧ W.cell? ⟨w.heap.size, 2, none⟩ = some (.int .i64 i2) ∧ W.cell? ⟨w.heap.size, 3, none⟩ = some (.int .i64 i3) ∧ W.cell? ⟨gx, 0, none⟩ = some (.int .i64 x0) ∧ W.cell? ⟨gx, 1, none⟩ = some (.int .i64 x1) ∧ W.cell? ⟨gx, 2, none⟩ = some (.int .i64 x2) ∧ W.cell? ⟨gx, 3, none⟩ = some (.int .i64 x3) ∧ W.cell? ⟨gy, 0, none⟩ = some (.int .i64 x0) ∧ W.cell? ⟨gy, 1, none⟩ = some (.int .i64 x1) ∧ W.cell? ⟨gy, 2, none⟩ = some (.int .i64 x2) ∧ W.cell? ⟨gy, 3, none⟩ = some (.int .i64 x3))) (by kernel_rfl) (hkeep _ (Below.refl _ _).drew) (fun hHeld => ?_)
  refine wpAnyH_take (i := 0) (oi := ⟨some 30, _, _, _, _, _⟩) (v := ?v0) rfl (by kernel_rfl) (by kernel_rfl) (by kernel_rfl) (fun _ _ _ h => h) (Or.inl ⟨by rfl, ?y0⟩) (by assumption) ?r0
  case y0 => (intro w hSw; (try dsimp only at hSw); (try go_split_ands); go_simp); (try with_reducible rfl)
  case r0 =>
  (try simp only [Act.put, List.setIfInBounds_toArray, List.set_cons_zero, List.set_cons_succ])
  refine wpAnyH_take (i := 2) (oi := ⟨some 32, _, _, _, _, _⟩) (v := ?v2) rfl (by kernel_rfl) (by kernel_rfl) (by kernel_rfl) (fun _ _ _ h => h) (Or.inl ⟨by rfl, ?y2⟩) (by assumption) ?r2
  case y2 => (intro w hSw; (try dsimp only at hSw); (try go_split_ands); go_simp); (try with_reducible rfl)
  case r2 =>
  (try simp only [Act.put, List.setIfInBounds_toArray, List.set_cons_zero, List.set_cons_succ])
  refine wpAnyH_ready (rs := [1]) (by kernel_rfl) (by simp) ?_
  refine AllReadyH.cons (o := ⟨some 31, _, _, _, _, _⟩) rfl (fun K hK => ?_) AllReadyH.nil
  go_simp
  refine (purseEncode i0 i1 i2 i3 _).mono ?_
  rintro e w8 ⟨v8, rfl, hown8, hb8⟩
  have hb3 : Below V.heap.size V w8 := (Below.refl _ _).drew.trans hb8
  have HO8 := Lib.hid hown8
  clear hown8 hb8
  go_wp2_with fail
  refine hK.out _ _ (hkeep _ hb3) (fun hHeld => ?_)
  clear hK K
  (try simp only [Act.put, List.setIfInBounds_toArray, List.set_cons_zero, List.set_cons_succ])
  refine wpAnyH_ready (rs := [3]) (by kernel_rfl) (by simp) ?_
  refine AllReadyH.cons (o := ⟨some 33, _, _, _, _, _⟩) rfl (fun K hK => ?_) AllReadyH.nil
  go_simp
  refine (refEncode i0 i1 i2 i3 _).mono ?_
  rintro e w9 ⟨v9, rfl, hown9, hb9⟩
  have HO9 := Lib.hid hown9
  have HO8' := Lib.hid (row_below HO8.out hb9)
  replace hb3 := hb3.trans (hb9.mono hb3.size)
  clear hown9 hb9
  go_wp2_with fail
  refine hK.out _ _ (hkeep _ hb3) (fun hHeld => ?_)
  clear hK K
  (try simp only [Act.put, List.setIfInBounds_toArray, List.set_cons_zero, List.set_cons_succ])
  refine wpAnyH_ready (rs := [4]) (by kernel_rfl) (by simp) ?_
  refine AllReadyH.cons (o := ⟨some 34, _, _, _, _, _⟩) rfl (fun K hK => ?_) AllReadyH.nil
  go_simp
  refine (lawBytes8 _ _ v8 v9 (encs [i0, i1, i2, i3]) _ HO8'.out HO9.out).mono ?_
  rintro e w10 ⟨rfl, rfl⟩
  go_wp2_with fail
  refine hK.out _ _ (hkeep _ hb3) (fun hHeld => ?_)
  clear hK K
  (try simp only [Act.put, List.setIfInBounds_toArray, List.set_cons_zero, List.set_cons_succ])
  refine wpAnyH_take (i := 5) (oi := ⟨some 35, _, _, _, _, _⟩) (v := ?v5) rfl (by kernel_rfl) (by kernel_rfl) (by kernel_rfl) (fun _ _ _ h => h) (Or.inl ⟨by rfl, ?y5⟩) (by assumption) ?r5
  case y5 => (intro w hSw; (try dsimp only at hSw); (try go_split_ands); go_simp); (try with_reducible rfl)
  case r5 =>
  (try simp only [Act.put, List.setIfInBounds_toArray, List.set_cons_zero, List.set_cons_succ])
  refine wpAnyH_take (i := 6) (oi := ⟨some 36, _, _, _, _, _⟩) (v := ?v6) rfl (by kernel_rfl) (by kernel_rfl) (by kernel_rfl) (fun _ _ _ h => h) (Or.inl ⟨by rfl, ?y6⟩) (by assumption) ?r6
  case y6 => (intro w hSw; (try dsimp only at hSw); (try go_split_ands); go_simp); (try with_reducible rfl)
  case r6 =>
  (try simp only [Act.put, List.setIfInBounds_toArray, List.set_cons_zero, List.set_cons_succ])
  refine wpAnyH_take (i := 7) (oi := ⟨some 37, _, _, _, _, _⟩) (v := ?v7) rfl (by kernel_rfl) (by kernel_rfl) (by kernel_rfl) (fun _ _ _ h => h) (Or.inl ⟨by rfl, ?y7⟩) (by assumption) ?r7
  case y7 => (intro w hSw; (try dsimp only at hSw); (try go_split_ands); go_simp); (try with_reducible rfl)
  case r7 =>
  (try simp only [Act.put, List.setIfInBounds_toArray, List.set_cons_zero, List.set_cons_succ])
  refine wpAnyH_take (i := 8) (oi := ⟨some 38, _, _, _, _, _⟩) (v := ?v8) rfl (by kernel_rfl) (by kernel_rfl) (by kernel_rfl) (fun _ _ _ h => h) (Or.inl ⟨by rfl, ?y8⟩) (by assumption) ?r8
  case y8 => (intro w hSw; (try dsimp only at hSw); (try go_split_ands); go_simp); (try with_reducible rfl)
  case r8 =>
  (try simp only [Act.put, List.setIfInBounds_toArray, List.set_cons_zero, List.set_cons_succ])
  refine wpAnyH_take (i := 9) (oi := ⟨some 39, _, _, _, _, _⟩) (v := ?v9) rfl (by kernel_rfl) (by kernel_rfl) (by kernel_rfl) (fun _ _ _ h => h) (Or.inl ⟨by rfl, ?y9⟩) (by assumption) ?r9
  case y9 => (intro w hSw; (try dsimp only at hSw); (try go_split_ands); go_simp); (try with_reducible rfl)
  case r9 =>
  (try simp only [Act.put, List.setIfInBounds_toArray, List.set_cons_zero, List.set_cons_succ])
  refine wpAnyH_take (i := 10) (oi := ⟨some 40, _, _, _, _, _⟩) (v := ?v10) rfl (by kernel_rfl) (by kernel_rfl) (by kernel_rfl) (fun _ _ _ h => h) (Or.inl ⟨by rfl, ?y10⟩) (by assumption) ?r10
  case y10 => (intro w hSw; (try dsimp only at hSw); (try go_split_ands); go_simp); (try with_reducible rfl)
  case r10 =>
  (try simp only [Act.put, List.setIfInBounds_toArray, List.set_cons_zero, List.set_cons_succ])
  refine wpAnyH_take (i := 11) (oi := ⟨some 41, _, _, _, _, _⟩) (v := ?v11) rfl (by kernel_rfl) (by kernel_rfl) (by kernel_rfl) (fun _ _ _ h => h) (Or.inl ⟨by rfl, ?y11⟩) (by assumption) ?r11
  case y11 => (intro w hSw; (try dsimp only at hSw); (try go_split_ands); go_simp); (try with_reducible rfl)
  case r11 =>
  (try simp only [Act.put, List.setIfInBounds_toArray, List.set_cons_zero, List.set_cons_succ])
  refine wpAnyH_take (i := 12) (oi := ⟨some 42, _, _, _, _, _⟩) (v := ?v12) rfl (by kernel_rfl) (by kernel_rfl) (by kernel_rfl) (fun _ _ _ h => h) (Or.inl ⟨by rfl, ?y12⟩) (by assumption) ?r12
  case y12 => (intro w hSw; (try dsimp only at hSw); (try go_split_ands); go_simp); (try with_reducible rfl)
  case r12 =>
  (try simp only [Act.put, List.setIfInBounds_toArray, List.set_cons_zero, List.set_cons_succ])
  refine wpAnyH_take (i := 13) (oi := ⟨some 43, _, _, _, _, _⟩) (v := ?v13) rfl (by kernel_rfl) (by kernel_rfl) (by kernel_rfl) (fun _ _ _ h => h) (Or.inl ⟨by rfl, ?y13⟩) (by assumption) ?r13
  case y13 => (intro w hSw; (try dsimp only at hSw); (try go_split_ands); go_simp); (try with_reducible rfl)
  case r13 =>
  (try simp only [Act.put, List.setIfInBounds_toArray, List.set_cons_zero, List.set_cons_succ])
  refine wpAnyH_take (i := 14) (oi := ⟨some 44, _, _, _, _, _⟩) (v := ?v14) rfl (by kernel_rfl) (by kernel_rfl) (by kernel_rfl) (fun _ _ _ h => h) (Or.inl ⟨by rfl, ?y14⟩) (by assumption) ?r14
  case y14 => (intro w hSw; (try dsimp only at hSw); (try go_split_ands); go_simp); (try with_reducible rfl)
  case r14 =>
  (try simp only [Act.put, List.setIfInBounds_toArray, List.set_cons_zero, List.set_cons_succ])
  refine wpAnyH_take (i := 15) (oi := ⟨some 45, _, _, _, _, _⟩) (v := ?v15) rfl (by kernel_rfl) (by kernel_rfl) (by kernel_rfl) (fun _ _ _ h => h) (Or.inl ⟨by rfl, ?y15⟩) (by assumption) ?r15
  case y15 => (intro w hSw; (try dsimp only at hSw); (try go_split_ands); go_simp); (try with_reducible rfl)
  case r15 =>
  (try simp only [Act.put, List.setIfInBounds_toArray, List.set_cons_zero, List.set_cons_succ])
  refine wpAnyH_done (by kernel_rfl) ?_ _
  have hB9 : Below V.heap.size V w9 := hHeld.1
  have hs9 := hB9.size
  have p0 := bkeep hB9 p0 (by omega)
  have p1 := bkeep hB9 p1 (by omega)
  have p2 := bkeep hB9 p2 (by omega)
  have p3 := bkeep hB9 p3 (by omega)
  have s0 := bkeep hB9 s0 (by omega)
  have s1 := bkeep hB9 s1 (by omega)
  have s2 := bkeep hB9 s2 (by omega)
  have s3 := bkeep hB9 s3 (by omega)
  have B9 := B7.trans (hB9.mono (by omega))
  clear hHeld hkeep
  go_wp2_with fail
  refine (refPIs i0 i1 i2 i3 _).mono ?_
  rintro e wa ⟨rfl, hba⟩
  have hsa := hba.size
  replace p0 := bkeep hba p0 (by omega)
  replace p1 := bkeep hba p1 (by omega)
  replace p2 := bkeep hba p2 (by omega)
  replace p3 := bkeep hba p3 (by omega)
  replace s0 := bkeep hba s0 (by omega)
  replace s1 := bkeep hba s1 (by omega)
  replace s2 := bkeep hba s2 (by omega)
  replace s3 := bkeep hba s3 (by omega)
  have Ba := B9.trans (hba.mono (by omega))
  cases hp : isP i0 i1 i2 i3
  · go_wp2_with fail
    refine (purseKnown _).mono ?_
    rintro e wb ⟨rfl, hbb⟩
    go_wp2_with fail
    go_ret
    exact ⟨rfl, Ba.trans (hbb.mono (by omega))⟩
  · have hz := HZ.out
    rw [dec_enc hp] at hz
    simp only [Value.tuple.injEq, Array.mk.injEq, List.cons.injEq, Value.agg.injEq, Value.int.injEq, true_and, and_true] at hz
    obtain ⟨⟨rfl, rfl, rfl, rfl⟩, rfl⟩ := hz
    clear HZ
    go_wp2_with fail
    refine (purseKnown _).mono ?_
    rintro e wb ⟨rfl, hbb⟩
    go_wp2_with fail
    go_ret
    exact ⟨rfl, Ba.trans (hbb.mono (by omega))⟩

theorem walkPurseBytes (i0 i1 i2 i3 : Int) (A : Option Addr) (c : Nat) (xs : List Nat) (w : World) (hcap : xs.length ≤ c) (hcm : c ≤ maxLen) (h256 : ∀ x ∈ xs, x < 256) (hx : Cells w w.heap.size A xs.length c 1 (flatU xs)) :
    Calls Try.prog 3 #[.agg #[.int .i64 i0, .int .i64 i1, .int .i64 i2, .int .i64 i3], .slice A xs.length c] w fun e w' => e = .returned (.bool true) ∧ Below w.heap.size w w' := by
  by_cases hn : xs.length ≤ 100
  · exact walkPurseBytes1 i0 i1 i2 i3 A c xs w hn hcap hcm h256 hx
  · have q100 : (100 : Int) < (xs.length : Int) := by omega
    clear hx h256
    go_enter Try.func3, Try.ntmps3
    go_wp2_with fail
    go_ret
    exact ⟨rfl, (Below.refl _ _).alloc (Nat.le_refl _) _⟩

end Go.Proofs.Ytehcbagllcogaaa
