/- What the document's own Num and Nums return. -/
import Derived.Test.YtblknjclkecglaaOctetA
import Derived.Lib.VarintBits
namespace Go.Proofs.Ytblknjclkecglaa
open Go.RowKit
set_option linter.unusedVariables false
set_option linter.unusedSimpArgs false

theorem and127 {r : Nat} (h : r ≤ 4611686018427387904) : bits BinOp.and IntKind.u64 (r : Int) 127 = (r : Int) % 128 := bits_mask .u64 64 (by decide) wraps_u64 7 (by decide) (r : Int) (by omega) (by omega)
theorem or128c (r : Nat) : bits BinOp.or IntKind.u8 ((r : Int) % 128 % 256) 128 = ((r % 128 + 128 : Nat) : Int) := by
  have h := or128 (r % 128)
  have e1 : (((r % 128 : Nat)) : Int) = (r : Int) % 128 := by omega
  have e2 : r % 128 % 128 = r % 128 := by omega
  rw [e1, e2] at h; exact h
theorem or128d (r : Nat) : bits BinOp.or IntKind.u8 ((r : Int) % 128) 128 = ((r % 128 + 128 : Nat) : Int) := by
  have h := or128c r
  rw [show (r : Int) % 128 % 256 = (r : Int) % 128 from by omega] at h; exact h

set_option maxHeartbeats 1000000 in
set_option maxRecDepth 10000 in
theorem refNum (n : Int) (w : World) :
    Calls Try.prog 44 #[.int .i64 n] w fun e w' => ∃ v', e = .returned v' ∧ w'.ownsRow w.heap.size 5 1 v' (enc (clamp n)).length (flatU (enc (clamp n))) ∧ Below w.heap.size w w' := by
  obtain ⟨i0, hi, hz0, hz1, hz2⟩ := info_parts Try.infoByte
  have hcl : clamp n ≤ 4611686018427387904 := by unfold clamp; omega
  have hc0 : n ≤ 0 → clamp n = 0 := by unfold clamp; omega
  have hc1 : 0 ≤ n → n ≤ 4611686018427387904 → (clamp n : Int) = n := by unfold clamp; omega
  have hc2 : 4611686018427387904 < n → clamp n = 4611686018427387904 := by unfold clamp; omega
  generalize hr0 : clamp n = r0 at *
  have h3 : (decide (4611686018427387904 < n) = true ∧ Hid (r0 = 4611686018427387904)) ∨ (decide (4611686018427387904 < n) = false ∧ decide (0 < n) = true ∧ (0 < n ∧ n ≤ 4611686018427387904) ∧ Hid ((r0 : Int) = n)) ∨ (decide (4611686018427387904 < n) = false ∧ decide (0 < n) = false ∧ Hid (r0 = 0)) := by
    unfold Hid
    by_cases h1 : 4611686018427387904 < n
    · exact .inl ⟨by simpa using h1, hc2 h1⟩
    · by_cases h2 : 0 < n
      · exact .inr (.inl ⟨by simpa using h1, by simpa using h2, ⟨h2, by omega⟩, hc1 (by omega) (by omega)⟩)
      · exact .inr (.inr ⟨by simpa using h1, by simpa using h2, hc0 (by omega)⟩)
  clear hc0 hc1 hc2 hr0
  rcases h3 with ⟨d1, f1⟩ | ⟨d1, d2, ⟨d3, d4⟩, f1⟩ | ⟨d1, d2, f1⟩
  all_goals go_enter Try.func44, Try.ntmps44
  all_goals go_wp2_with fail
  all_goals go_loopw [3, 4] (fun i s wr => ∃ (r : Nat) (done : List Nat), i = .int .u64 r ∧ r ≤ 4611686018427387904 ∧ enc r0 = done ++ enc r ∧ Hid (wr.ownsRow w.heap.size 5 1 s done.length (flatU done)) ∧ Below w.heap.size w wr) (fun i _ _ => (intOf i).toNat)
  all_goals first
    | (have f2 := f1.out; exact ⟨r0, [], by congr 1; omega, hcl, rfl, Lib.hid (by simpa [flatU] using World.ownsRow_nil _ _ _ _), Below.refl _ _⟩)
    | skip
  all_goals obtain ⟨r, done, rfl, hr, he, HW, hB⟩ := hrel
  all_goals have hBs := hB.size
  all_goals have hlen : (enc r0).length ≤ 10 := enc_len hcl
  all_goals rw [he, List.length_append] at hlen
  all_goals by_cases h128 : 128 ≤ r
  all_goals first
    | (have h128b : (128 : Int) ≤ (r : Int) := by omega
       have e2 : enc r = (r % 128 + 128) :: enc (r / 128) := by rw [enc, dif_pos h128]
       have hand := and127 hr
       have hpos := enc_pos r
       go_wp2_with (at_builtin; go_must (refine wpList_append_row rfl (.tmp 13) (.tmp 18) 27 rfl w.heap.size 5 i0 (.int .u8 0) 1 1 Try.underlying27 hi hz0 hz1 hz2 rfl (by decide) _ done.length (flatU done) rfl (World.ownsRow.alloc HW.out _) _ (some ⟨wr.heap.size, 0, none⟩) 1 1 [_] rfl (cells1 (Nat.lt_succ_self _) (c_new rfl rfl)) (by intro u hu; simp at hu; subst hu; rfl) (by unfold maxLen; omega) (by omega) (by (first | omega | (simp; done) | (simp; omega))) ?_); intro v5 w5 hown5 hb5)
       have h6 := hown5
       (first | rw [or128] at h6 | rw [or128c] at h6 | rw [or128d] at h6)
       go_roundw
       case rel => exact ⟨r / 128, done ++ [r % 128 + 128], by congr 1, by omega, by rw [he, e2]; simp, Lib.hid (by simpa [flatU, List.append_assoc, Nat.add_assoc] using h6), (hB.alloc (by omega) _).trans hb5⟩
       case measure => simp [intOf]; omega)
    | (have h128b : ¬ (128 : Int) ≤ (r : Int) := by omega
       have e2 : enc r = [r] := by rw [enc, dif_neg h128]
       have hpos := enc_pos r
       go_wp2_with (at_builtin; go_must (refine wpList_append_row rfl (.tmp 22) (.tmp 25) 27 rfl w.heap.size 5 i0 (.int .u8 0) 1 1 Try.underlying27 hi hz0 hz1 hz2 rfl (by decide) _ done.length (flatU done) rfl (World.ownsRow.alloc HW.out _) _ (some ⟨wr.heap.size, 0, none⟩) 1 1 [_] rfl (cells1 (Nat.lt_succ_self _) (c_new rfl rfl)) (by intro u hu; simp at hu; subst hu; rfl) (by unfold maxLen; omega) (by omega) (by (first | omega | (simp; done) | (simp; omega))) ?_); intro v5 w5 hown5 hb5)
       go_ret
       refine ⟨v5, rfl, ?_, (hB.alloc (by omega) _).trans hb5⟩
       have h6 := hown5
       (try rw [low256 h128] at h6)
       first
         | (simpa [flatU, List.append_assoc, Nat.add_assoc, he, e2] using h6)
         | (have hz : r0 = 0 := by omega
            rw [hz] at he
            simpa [flatU, List.append_assoc, Nat.add_assoc, he, e2] using h6))

end Go.Proofs.Ytblknjclkecglaa
