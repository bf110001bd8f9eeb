/- What slices.Clone (of bytes) and octet's appendNum return. -/
import Derived.Test.YtblknjclkecglaaAppend
import Derived.Deep.Light
namespace Go.Proofs.Ytblknjclkecglaa
open Go.RowKit
set_option linter.unusedVariables false
set_option linter.unusedSimpArgs false

/-- bytes as cells -/
def flatU (xs : List Nat) : List Value := xs.map fun x : Nat => Value.int .u8 (x : Int)
theorem flatU_length (xs : List Nat) : (flatU xs).length = xs.length := by simp [flatU]
theorem flatU_app (xs ys : List Nat) : flatU (xs ++ ys) = flatU xs ++ flatU ys := by simp [flatU]
theorem flatU_one (xs : List Nat) : ∀ u ∈ flatU xs, u.oneCell' = true := by
  intro u hu; simp only [flatU, List.mem_map] at hu; obtain ⟨x, _, rfl⟩ := hu; rfl
theorem Try.infoByte : (Try.prog.info? 5).map (fun i => (i.zero, i.size, i.bytes)) = some (some (.int .u8 0), 1, 1) := by kernel_rfl

theorem cells1 {w : World} {b B c : Nat} {v : Value} (hb : b < B) (h0 : w.cell? ⟨b, 0, none⟩ = some v) : Cells w B (some ⟨b, 0, none⟩) 1 c 1 [v] := by
  refine ⟨rfl, (fun e => by cases e), ?_⟩
  intro j u hu
  refine ⟨b, 0, rfl, hb, ?_⟩
  rw [Nat.zero_add]
  match j, hu with
  | 0, hu => rw [h0]; exact hu

theorem octClone0 (n c : Nat) (w : World) :
    Calls Try.prog 43 #[.slice none n c] w fun e w' => e = .returned (.slice none 0 0) ∧ w = w' := by
  have q : ∀ (w : World) (a : Option Addr) (n c n' c' : Nat), (binOp .eql 27 (.slice a n c) (.slice none n' c')).run Try.prog w = .ok (.bool a.isNone) w := fun w a n c n' c' => Lib.run_eql_slice_nil w _ _ a n c n' c' Try.underlying27
  go_enter Try.func43, Try.ntmps43
  go_wp2_with fail
  go_ret
  exact ⟨rfl, rfl⟩

theorem octClone1 (ad : Addr) (n c : Nat) (news : List Value) (w : World) (hn : n ≤ 1000000) (hx : Cells w w.heap.size (some ad) n c 1 news) (h1 : ∀ u ∈ news, u.oneCell' = true) :
    Calls Try.prog 43 #[.slice (some ad) n c] w fun e w' => ∃ v', e = .returned v' ∧ w'.ownsRow w.heap.size 5 1 v' n news ∧ Below w.heap.size w w' := by
  obtain ⟨i0, hi, hz0, hz1, hz2⟩ := info_parts Try.infoByte
  have q : ∀ (w : World) (a : Option Addr) (n c n' c' : Nat), (binOp .eql 27 (.slice a n c) (.slice none n' c')).run Try.prog w = .ok (.bool a.isNone) w := fun w a n c n' c' => Lib.run_eql_slice_nil w _ _ a n c n' c' Try.underlying27
  have HX := Lib.hid (cells_keep (w1 := w.alloc (.cells #[] 5)) (B' := w.heap.size) hx ((Below.refl _ _).alloc (Nat.le_refl _) _) (Nat.le_refl _))
  have H1 := Lib.hid h1
  clear hx h1
  go_enter Try.func43, Try.ntmps43
  go_wp2_with (at_builtin; go_must (refine wpList_append_row rfl (.tmp 5) (.tmp 6) 27 rfl w.heap.size 5 i0 (.int .u8 0) 1 1 Try.underlying27 hi hz0 hz1 hz2 rfl (by decide) _ 0 [] rfl (World.ownsRow_lit w #[] 0 (Nat.le_refl _) (by decide) rfl) w.heap.size (some ad) n c news rfl HX.out H1.out (by unfold maxLen; omega) (by omega) (by (first | omega | (simp; done) | (simp; omega))) ?_); intro v1 w1 hown hb)
  simp only [Nat.zero_add, List.nil_append] at hown
  go_ret
  exact ⟨_, rfl, hown, ((Below.refl w.heap.size w).alloc (Nat.le_refl _) _).trans hb⟩

/-- a number in sevens, the lowest first -/
def enc (n : Nat) : List Nat := if h : 128 ≤ n then (n % 128 + 128) :: enc (n / 128) else [n]
decreasing_by omega
def clamp (n : Int) : Nat := (min (max n 0) 4611686018427387904).toNat

theorem or128_below : ∀ x : Fin 256, bits BinOp.or IntKind.u8 ((x.val : Nat) : Int) 128 = ((x.val % 128 + 128 : Nat) : Int) := by decide +kernel
theorem or128 (r : Nat) : bits BinOp.or IntKind.u8 ((r : Int) % 256) 128 = ((r % 128 + 128 : Nat) : Int) := by
  have h := or128_below ⟨r % 256, Nat.mod_lt _ (by decide)⟩
  have e1 : (((r % 256 : Nat)) : Int) = (r : Int) % 256 := by omega
  have e2 : r % 256 % 128 = r % 128 := by omega
  simp only [e2] at h
  rw [← e1]; exact h
theorem low256 {r : Nat} (h : ¬ 128 ≤ r) : (r : Int) % 256 = (r : Int) := by omega
theorem enc_pos (n : Nat) : 0 < (enc n).length := by
  rw [enc]; split <;> simp
theorem enc_len_pow : ∀ (k n : Nat), n < 128 ^ (k + 1) → (enc n).length ≤ k + 1
  | 0, n, h => by rw [enc]; split
                  · omega
                  · simp
  | k + 1, n, h => by
    rw [enc]; split
    · have := enc_len_pow k (n / 128) (by rw [Nat.pow_succ] at h; omega)
      simp; omega
    · simp
theorem enc_len {n : Nat} (h : n ≤ 4611686018427387904) : (enc n).length ≤ 10 := by
  have := enc_len_pow 8 n (by omega)
  omega

set_option maxHeartbeats 1000000 in
set_option maxRecDepth 10000 in
theorem octAppend (v : Value) (N : Nat) (xs : List Value) (n : Int) (base : Nat) (w : World) (hN : N ≤ 1000000) (hbase : base ≤ w.heap.size) (hown : w.ownsRow base 5 1 v N xs) :
    Calls Try.prog 42 #[v, .int .i64 n] w fun e w' => ∃ v', e = .returned v' ∧ w'.ownsRow base 5 1 v' (N + (enc (clamp n)).length) (xs ++ flatU (enc (clamp n))) ∧ Below base w w' := by
  obtain ⟨i0, hi, hz0, hz1, hz2⟩ := info_parts Try.infoByte
  have HO := Lib.hid hown
  clear hown
  go_enter Try.func42, Try.ntmps42
  have hcl : clamp n ≤ 4611686018427387904 := by unfold clamp; omega
  have hc0 : n < 0 → clamp n = 0 := by unfold clamp; omega
  have hc1 : 0 ≤ n → n ≤ 4611686018427387904 → (clamp n : Int) = n := by unfold clamp; omega
  have hc2 : ¬ n ≤ 4611686018427387904 → clamp n = 4611686018427387904 := by unfold clamp; omega
  generalize hr0 : clamp n = r0 at *
  go_wp2_with fail
  all_goals go_loopw [0, 1] (fun s i wr => ∃ (r : Nat) (done : List Nat), i = .int .i64 r ∧ r ≤ 4611686018427387904 ∧ enc r0 = done ++ enc r ∧ Hid (wr.ownsRow base 5 1 s (N + done.length) (xs ++ flatU done)) ∧ Below base w wr) (fun _ i _ => (intOf i).toNat)
  all_goals first
    | (exact ⟨r0, [], by congr 1; omega, hcl, rfl, Lib.hid (by simpa [flatU] using HO.out), Below.refl _ _⟩)
    | skip
  all_goals obtain ⟨r, done, rfl, hr, he, HW, hB⟩ := hrel
  all_goals have hBs := hB.size
  all_goals have hlen : (enc r0).length ≤ 10 := enc_len hcl
  all_goals rw [he, List.length_append] at hlen
  all_goals by_cases h128 : 128 ≤ r
  all_goals first
    | (have h128b : (128 : Int) ≤ (r : Int) := by omega
       have e2 : enc r = (r % 128 + 128) :: enc (r / 128) := by rw [enc, dif_pos h128]
       have hpos := enc_pos r
       go_wp2_with (at_builtin; go_must (refine wpList_append_row rfl (.tmp 10) (.tmp 14) 27 rfl base 5 i0 (.int .u8 0) 1 1 Try.underlying27 hi hz0 hz1 hz2 rfl (by decide) _ (N + done.length) (xs ++ flatU done) rfl (World.ownsRow.alloc HW.out _) _ (some ⟨wr.heap.size, 0, none⟩) 1 1 [_] rfl (cells1 (Nat.lt_succ_self _) (c_new rfl rfl)) (by intro u hu; simp at hu; subst hu; rfl) (by unfold maxLen; omega) (by omega) (by (first | omega | (simp; done) | (simp; omega))) ?_); intro v5 w5 hown5 hb5)
       refine ⟨⟨r / 128, done ++ [r % 128 + 128], by congr 1, by omega, by rw [he, e2]; simp, Lib.hid (by have h6 := hown5; rw [or128] at h6; simpa [flatU, List.append_assoc, Nat.add_assoc] using h6), (hB.alloc (by omega) _).trans hb5⟩, ?_⟩
       simp [intOf]; omega)
    | (have h128b : ¬ (128 : Int) ≤ (r : Int) := by omega
       have e2 : enc r = [r] := by rw [enc, dif_neg h128]
       have hpos := enc_pos r
       go_wp2_with (at_builtin; go_must (refine wpList_append_row rfl (.tmp 18) (.tmp 21) 27 rfl base 5 i0 (.int .u8 0) 1 1 Try.underlying27 hi hz0 hz1 hz2 rfl (by decide) _ (N + done.length) (xs ++ flatU done) rfl (World.ownsRow.alloc HW.out _) _ (some ⟨wr.heap.size, 0, none⟩) 1 1 [_] rfl (cells1 (Nat.lt_succ_self _) (c_new rfl rfl)) (by intro u hu; simp at hu; subst hu; rfl) (by unfold maxLen; omega) (by omega) (by (first | omega | (simp; done) | (simp; omega))) ?_); intro v5 w5 hown5 hb5)
       go_ret
       refine ⟨v5, rfl, ?_, (hB.alloc (by omega) _).trans hb5⟩
       have h6 := hown5
       (try rw [low256 h128] at h6)
       first
         | (simpa [flatU, List.append_assoc, Nat.add_assoc, he, e2] using h6)
         | (have hz : r0 = 0 := by omega
            rw [hz] at he
            simpa [flatU, List.append_assoc, Nat.add_assoc, he, e2] using h6))

end Go.Proofs.Ytblknjclkecglaa
