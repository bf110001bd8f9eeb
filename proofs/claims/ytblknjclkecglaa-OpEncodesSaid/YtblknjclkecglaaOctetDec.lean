/- Numbers out of bytes: a function of the list. -/
import Derived.Test.YtblknjclkecglaaOctetA
namespace Go.Proofs.Ytblknjclkecglaa
set_option linter.unusedVariables false
set_option linter.unusedSimpArgs false

/-- one number, i bytes of it (acc) taken; none: it errs -/
def rd (i acc : Nat) : List Nat → Option (Nat × List Nat)
  | [] => none
  | b :: r => if 9 ≤ i then none else
    if 128 ≤ b then rd (i + 1) (acc + b % 128 * 128 ^ i) r
    else if (0 < i ∧ b = 0) ∨ 4611686018427387904 < acc + b * 128 ^ i then none else some (acc + b * 128 ^ i, r)

theorem enc_byte : ∀ (n : Nat), ∀ x ∈ enc n, x < 256 := by
  intro n
  induction n using Nat.strongRecOn with
  | _ n ih =>
    rw [enc]
    split
    · intro x hx
      simp only [List.mem_cons] at hx
      rcases hx with rfl | hx
      · omega
      · exact ih (n / 128) (by omega) x hx
    · intro x hx; simp at hx; omega

/-- what was laid reads back -/
theorem rd_enc : ∀ (n i acc : Nat) (r : List Nat), (0 < i → 0 < n) → acc + n * 128 ^ i ≤ 4611686018427387904 → rd i acc (enc n ++ r) = some (acc + n * 128 ^ i, r) := by
  intro n
  induction n using Nat.strongRecOn with
  | _ n ih =>
    intro i acc r h0 h1
    have hi : i < 9 ∨ n = 0 := by
      rcases Nat.lt_or_ge i 9 with h | h
      · exact .inl h
      · rcases Nat.eq_zero_or_pos n with h2 | h2
        · exact .inr h2
        · have h3 : 128 ^ 9 ≤ 128 ^ i := Nat.pow_le_pow_right (by decide) h
          have h4 : 1 * 128 ^ i ≤ n * 128 ^ i := Nat.mul_le_mul_right _ h2
          omega
    have hi9 : i < 9 := by
      rcases hi with h | h
      · exact h
      · subst h
        rcases Nat.eq_zero_or_pos i with h2 | h2
        · omega
        · exact absurd (h0 h2) (by omega)
    rw [enc]
    split
    · rename_i h128
      have e1 : (n % 128 + 128) % 128 = n % 128 := by omega
      have e2 : acc + n % 128 * 128 ^ i + n / 128 * 128 ^ (i + 1) = acc + n * 128 ^ i := by
        have : n / 128 * 128 ^ (i + 1) = (128 * (n / 128)) * 128 ^ i := by rw [Nat.pow_succ, Nat.mul_comm (128 ^ i) 128, ← Nat.mul_assoc, Nat.mul_comm (n / 128) 128]
        rw [this, Nat.add_assoc, ← Nat.add_mul, Nat.mod_add_div]
      have := ih (n / 128) (by omega) (i + 1) (acc + n % 128 * 128 ^ i) r (fun _ => by omega) (by rw [e2]; exact h1)
      rw [List.cons_append, rd, if_neg (by omega), if_pos (by omega), e1, this, e2]
    · rename_i h128
      rw [List.singleton_append, rd, if_neg (by omega), if_neg (by omega), if_neg]
      rintro (⟨h2, h3⟩ | h2)
      · have := h0 h2; omega
      · omega

end Go.Proofs.Ytblknjclkecglaa
