/- OpReplies returns true. -/
import Derived.Test.YtblknjclkecglaaRepF
import Derived.Test.YtblknjclkecglaaRepR
import Derived.Test.YtblknjclkecglaaOpKn
import Derived.Test.YtblknjclkecglaaItemsEq
namespace Go.Proofs.Ytblknjclkecglaa
open Go.RowKit
set_option linter.unusedVariables false
set_option linter.unusedSimpArgs false

/-- bytes as a text -/
def strU (xs : List Nat) : ByteArray := strOfNums (xs.map fun x : Nat => (x : Int))
theorem own_cases' {w : World} {base : Nat} {v : Value} {xs : List Nat} (h : w.ownsRow base 5 1 v xs.length (flatU xs)) : (v = .slice none 0 0 ∧ xs = []) ∨ ∃ g cap, v = .slice (some ⟨g, 0, none⟩) xs.length cap := by
  rcases h.2 with ⟨hv, h0⟩ | ⟨g, cap, cur, hv, _⟩
  · exact .inl ⟨hv, List.eq_nil_of_length_eq_zero h0⟩
  · exact .inr ⟨g, cap, hv⟩
theorem conv_own {w : World} {base : Nat} {v : Value} {xs : List Nat} (h : w.ownsRow base 5 1 v xs.length (flatU xs)) : (convert 27 9 v).run Try.prog w = .ok (.string (strU xs)) w := by
  rcases own_cases' h with ⟨rfl, rfl⟩ | ⟨g, cap, rfl⟩
  · exact run_convert_bytes_nil w _ _ Try.underlying27 Try.underlying5 0 0 _ Try.underlying9
  · refine run_convert_bytes_arg w _ _ Try.underlying27 Try.underlying5 g 0 _ cap _ (by simp) (fun i hi => ?_) _ Try.underlying9
    have := h.cells (g := g) rfl i (.int .u8 (xs[i] : Nat)) (by simp [flatU, hi])
    rw [add_none] at this
    rw [this]
    simp [List.getD, hi]
theorem conv_nil (w : World) : (convert 27 9 (.slice none 0 0)).run Try.prog w = .ok (.string (strU [])) w := run_convert_bytes_nil w _ _ Try.underlying27 Try.underlying5 0 0 _ Try.underlying9
theorem encs_byte (l : List Int) : ∀ x ∈ encs l, x < 256 := by
  intro x hx
  simp only [encs, List.mem_flatMap] at hx
  obtain ⟨n, _, h⟩ := hx
  exact enc_byte _ x h
theorem repBs_byte (e i a b c d : Int) : ∀ x ∈ repBs e i a b c d, x < 256 := by
  intro x hx
  rcases List.mem_append.1 hx with h | h
  · exact encs_byte _ x h
  · exact encs_byte _ x h
theorem clamp_of' {n m : Int} (h0 : 0 ≤ n) (h1 : n ≤ m) (h2 : m ≤ 4611686018427387904) : (clamp n : Int) = n := by unfold clamp; omega
theorem isP_iff' {a b c d : Int} : isP a b c d = true ↔ (0 ≤ a ∧ a ≤ 1152921504606846976) ∧ (0 ≤ b ∧ b ≤ 1152921504606846976) ∧ (0 ≤ c ∧ c ≤ 1152921504606846976) ∧ (0 ≤ d ∧ d ≤ 1152921504606846976) := by
  unfold isP; simp only [Bool.and_eq_true, heldB_iff]; omega
/-- a reply that may be comes back -/
theorem rp_enc {e i a b c d : Int} (h : repB e i a b c d = true) : rpV (repBs e i a b c d) = .tuple #[.agg #[.int .i64 e, .int .i64 i, .int .i64 a, .int .i64 b, .int .i64 c, .int .i64 d], .int .i64 0] := by
  have h0 := h
  simp only [repB, Bool.and_eq_true, wiB_iff, isP_iff'] at h0
  obtain ⟨⟨e1, e2⟩, ⟨i1, i2⟩, ⟨a1, a2⟩, ⟨b1, b2⟩, ⟨c1, c2⟩, ⟨d1, d2⟩⟩ := h0
  have e0 : repBs e i a b c d = enc (clamp e) ++ (enc (clamp i) ++ (enc (clamp a) ++ (enc (clamp b) ++ (enc (clamp c) ++ (enc (clamp d) ++ []))))) := by simp [repBs, encs]
  have s0 : nx (some (repBs e i a b c d)) = (clamp e, some (enc (clamp i) ++ (enc (clamp a) ++ (enc (clamp b) ++ (enc (clamp c) ++ (enc (clamp d) ++ [])))))) := by rw [e0]; exact nx_enc (clamp_le _) _
  have s1 := nx_enc (clamp_le i) (enc (clamp a) ++ (enc (clamp b) ++ (enc (clamp c) ++ (enc (clamp d) ++ []))))
  have s2 := nx_enc (clamp_le a) (enc (clamp b) ++ (enc (clamp c) ++ (enc (clamp d) ++ [])))
  have s3 := nx_enc (clamp_le b) (enc (clamp c) ++ (enc (clamp d) ++ []))
  have s4 := nx_enc (clamp_le c) (enc (clamp d) ++ [])
  have s5 := nx_enc (clamp_le d) []
  have q0 : rnum (repBs e i a b c d) 0 = e := by unfold rnum; simp only [s0]; exact clamp_of' e1 e2 (by decide)
  have q1 : rnum (repBs e i a b c d) 1 = i := by unfold rnum; simp only [s0, s1]; exact clamp_of' i1 i2 (by decide)
  have q2 : rnum (repBs e i a b c d) 2 = a := by unfold rnum; simp only [s0, s1, s2]; exact clamp_of' a1 a2 (by decide)
  have q3 : rnum (repBs e i a b c d) 3 = b := by unfold rnum; simp only [s0, s1, s2, s3]; exact clamp_of' b1 b2 (by decide)
  have q4 : rnum (repBs e i a b c d) 4 = c := by unfold rnum; simp only [s0, s1, s2, s3, s4]; exact clamp_of' c1 c2 (by decide)
  have q5 : rnum (repBs e i a b c d) 5 = d := by unfold rnum; simp only [s0, s1, s2, s3, s4, s5]; exact clamp_of' d1 d2 (by decide)
  have hb : rpB (repBs e i a b c d) = true := by
    unfold rpB
    rw [q0, q1, q2, q3, q4, q5, h, s0]
    simp only [s1, s2, s3, s4, s5]
    rfl
  unfold rpV
  rw [hb, q0, q1, q2, q3, q4, q5]; rfl
theorem rpV_form (xs : List Nat) : ∃ x0 x1 x2 x3 x4 x5 e : Int, rpV xs = .tuple #[.agg #[.int .i64 x0, .int .i64 x1, .int .i64 x2, .int .i64 x3, .int .i64 x4, .int .i64 x5], .int .i64 e] := by
  unfold rpV
  cases rpB xs
  · exact ⟨_, _, _, _, _, _, _, rfl⟩
  · exact ⟨_, _, _, _, _, _, _, rfl⟩
@[go_sem] theorem eqItems9 (w : World) (a b c d e f g h : Int) :
    (Op.equalIn 9999 41 (.agg #[.int .i64 a, .int .i64 b, .int .i64 c, .int .i64 d]) (.agg #[.int .i64 e, .int .i64 f, .int .i64 g, .int .i64 h])).run Try.prog w = .ok (a == e && b == f && c == g && d == h) w := eqItemsAt w 9997 a b c d e f g h
set_option maxHeartbeats 1000000 in
theorem repEq (x0 x1 x2 x3 x4 x5 : Int) (w : World) : (binOp .eql 43 (.agg #[.int .i64 x0, .int .i64 x1, .int .i64 x2, .int .i64 x3, .int .i64 x4, .int .i64 x5]) (.agg #[.int .i64 x0, .int .i64 x1, .int .i64 x2, .int .i64 x3, .int .i64 x4, .int .i64 x5])).run Try.prog w = .ok (.bool true) w := by
  go_simp
set_option maxHeartbeats 1000000 in
theorem repNe (x0 x1 x2 x3 x4 x5 : Int) (w : World) : (binOp .neq 43 (.agg #[.int .i64 x0, .int .i64 x1, .int .i64 x2, .int .i64 x3, .int .i64 x4, .int .i64 x5]) (.agg #[.int .i64 x0, .int .i64 x1, .int .i64 x2, .int .i64 x3, .int .i64 x4, .int .i64 x5])).run Try.prog w = .ok (.bool false) w := by
  go_simp
end Go.Proofs.Ytblknjclkecglaa
