/- What octet.NewReader and Reader's Good, Bad and Whole do. Numbers out of bytes: a function of the list. The document's own Reader: Num. octet's Reader: Num. Both Readers, erred or not: one state, one function. A Reader beside a block that is known whole (XBlk' -/
import Derived.Test.YtdlbiobjnohfbaaGreatTkVb
import Derived.Lib.AtoiErrMem
import Derived.Test.YtdlbiobjnohfbaaGreatVb18
namespace Go.Proofs.YtdlbiobjnohfbaaGreat
open Go.RowKit
set_option linter.unusedVariables false
set_option linter.unusedSimpArgs false
structure Rd (w : World) (b : Nat) (rest : List Nat) (bad : Bool) : Prop where
 row : ∃ A c, w.cell? ⟨b, 0, none⟩ = some (.slice A rest.length c) ∧ rest.length ≤ c ∧ c ≤ maxLen ∧ Cells w b A rest.length c 1 (flatU rest)
 flag : w.cell? ⟨b, 1, none⟩ = some (.bool bad)
 free : ∀ j, w.frozen? ⟨b, j, none⟩ = false
 low : b < w.heap.size
theorem newReader1 (ad : Addr) (c : Nat) (rest : List Nat) (w : World) (hn : rest.length ≤ 1000000) (hx : Cells w w.heap.size (some ad) rest.length c 1 (flatU rest)) :
  Calls Tryz.prog 31 #[.slice (some ad) rest.length c] w fun e w' => ∃ b, e = .returned (.pointer (some ⟨b, 0, none⟩)) ∧ w.heap.size ≤ b ∧ Rd w' b rest false ∧ Below w.heap.size w w' := by
 have HX := Lib.hid hx
 clear hx
 go_enter Tryz.func31, Tryz.ntmps31
 go_wp2_with fail
 refine (octClone1 ad _ _ _ _ hn HX.out (flatU_one _)).mono ?_
 rintro e w1 ⟨v1, rfl, hown1, hb1⟩
 have hs1 := hb1.size
 obtain ⟨A1, c1, rfl, hc1, hm1, hx1⟩ := row_cells hown1
 have HC := Lib.hid hx1
 clear hx1 hown1
 go_wp2_with fail
 go_ret
 exact ⟨_, rfl, hs1, ⟨⟨_, _, by exact tC, hc1, hm1, cells_keep HC.out ((Below.refl _ _).alloc (Nat.le_refl _) _) (Nat.le_refl _)⟩, by exact tC, by intro j; exact tF, by simp⟩, by exact tB⟩
theorem newReader0 (n c : Nat) (w : World) :
  Calls Tryz.prog 31 #[.slice none n c] w fun e w' => ∃ b, e = .returned (.pointer (some ⟨b, 0, none⟩)) ∧ w.heap.size ≤ b ∧ Rd w' b [] false ∧ Below w.heap.size w w' := by
 go_enter Tryz.func31, Tryz.ntmps31
 go_wp2_with fail
 refine (octClone0 _ _ _).mono ?_
 rintro e w1 ⟨rfl, rfl⟩
 go_wp2_with fail
 go_ret
 exact ⟨_, rfl, Nat.le_refl _, ⟨⟨none, 0, by exact tC, Nat.le_refl _, by unfold maxLen; omega, ⟨rfl, fun _ => ⟨rfl, rfl⟩, fun j u hu => by simp [flatU] at hu⟩⟩, by exact tC, by intro j; exact tF, by simp⟩, by exact tB⟩
theorem rdGood (b : Nat) (rest : List Nat) (bad : Bool) (w : World) (hr : Rd w b rest bad) :
  Calls Tryz.prog 77 #[.pointer (some ⟨b, 0, none⟩)] w fun e w' => e = .returned (.bool (!bad)) ∧ w = w' := by
 have h1 := hr.flag
 cases bad
 all_goals go_enter Tryz.func77, Tryz.ntmps77
 all_goals go_wp2_with fail
 all_goals go_ret
 all_goals exact ⟨rfl, rfl⟩
theorem rdWhole (b : Nat) (rest : List Nat) (bad : Bool) (w : World) (hr : Rd w b rest bad) (hl : rest.length ≤ 1000000) :
  Calls Tryz.prog 35 #[.pointer (some ⟨b, 0, none⟩)] w fun e w' => e = .returned (.bool (!bad && rest.isEmpty)) ∧ w = w' := by
 obtain ⟨A, c, h0, _, _, _⟩ := hr.row
 have HR := Lib.hid hr
 clear hr
 go_enter Tryz.func35, Tryz.ntmps35
 go_wp2_with fail
 refine (rdGood b rest bad _ HR.out).mono ?_
 rintro e w1 ⟨rfl, rfl⟩
 cases bad
 ·
  cases rest with
  | nil =>
   simp only [List.length_nil] at h0
   go_wp2_with fail
   go_ret
   exact ⟨rfl, rfl⟩
  | cons x r =>
   simp only [List.length_cons] at h0
   have hne : (((r.length + 1 : Nat) : Int) == 0) = false := by rw [beq_eq_false_iff_ne]; omega
   have hne2 : (((r.length : Int) + 1) == 0) = false := by rw [beq_eq_false_iff_ne]; omega
   go_wp2_with fail
   go_ret
   exact ⟨rfl, rfl⟩
 ·
  go_wp2_with fail
  go_ret
  exact ⟨rfl, rfl⟩
end Go.Proofs.YtdlbiobjnohfbaaGreat
namespace Go.Proofs.YtdlbiobjnohfbaaGreat
set_option linter.unusedVariables false
set_option linter.unusedSimpArgs false
def rd (i acc : Nat) : List Nat → Option (Nat × List Nat)
 | [] => none
 | b :: r => if 9 ≤ i then none else
  if 128 ≤ b then rd (i + 1) (acc + b % 128 * 128 ^ i) r
  else if (0 < i ∧ b = 0) ∨ 4611686018427387904 < acc + b * 128 ^ i then none else some (acc + b * 128 ^ i, r)
theorem enc_byte : ∀ (n : Nat), ∀ x ∈ enc n, x < 256 := by
 intro n
 induction n using Nat.strongRecOn with
 | _ n ih =>
  rw [enc]
  split
  ·
   intro x hx
   simp only [List.mem_cons] at hx
   rcases hx with rfl | hx
   · omega
   · exact ih (n / 128) (by omega) x hx
  · intro x hx; simp at hx; omega
theorem rd_enc : ∀ (n i acc : Nat) (r : List Nat), (0 < i → 0 < n) → acc + n * 128 ^ i ≤ 4611686018427387904 → rd i acc (enc n ++ r) = some (acc + n * 128 ^ i, r) := by
 intro n
 induction n using Nat.strongRecOn with
 | _ n ih =>
  intro i acc r h0 h1
  have hi : i < 9 ∨ n = 0 := by
   rcases Nat.lt_or_ge i 9 with h | h
   · exact .inl h
   ·
    rcases Nat.eq_zero_or_pos n with h2 | h2
    · exact .inr h2
    ·
     have h3 : 128 ^ 9 ≤ 128 ^ i := Nat.pow_le_pow_right (by decide) h
     have h4 : 1 * 128 ^ i ≤ n * 128 ^ i := Nat.mul_le_mul_right _ h2
     omega
  have hi9 : i < 9 := by
   rcases hi with h | h
   · exact h
   ·
    subst h
    rcases Nat.eq_zero_or_pos i with h2 | h2
    · omega
    · exact absurd (h0 h2) (by omega)
  rw [enc]
  split
  ·
   rename_i h128
   have e1 : (n % 128 + 128) % 128 = n % 128 := by omega
   have e2 : acc + n % 128 * 128 ^ i + n / 128 * 128 ^ (i + 1) = acc + n * 128 ^ i := by
    have : n / 128 * 128 ^ (i + 1) = (128 * (n / 128)) * 128 ^ i := by rw [Nat.pow_succ, Nat.mul_comm (128 ^ i) 128, ← Nat.mul_assoc, Nat.mul_comm (n / 128) 128]
    rw [this, Nat.add_assoc, ← Nat.add_mul, Nat.mod_add_div]
   have := ih (n / 128) (by omega) (i + 1) (acc + n % 128 * 128 ^ i) r (fun _ => by omega) (by rw [e2]; exact h1)
   rw [List.cons_append, rd, if_neg (by omega), if_pos (by omega), e1, this, e2]
  ·
   rename_i h128
   rw [List.singleton_append, rd, if_neg (by omega), if_neg (by omega), if_neg]
   rintro (⟨h2, h3⟩ | h2)
   · have := h0 h2; omega
   · omega
open Go.RowKit
theorem pow128 (k : Nat) : 128 ^ k = 2 ^ (7 * k) := by rw [show (128 : Nat) = 2 ^ 7 from rfl, ← Nat.pow_mul]
theorem cast_shift (x k : Nat) : (x : Int) % 128 * 2 ^ (7 * k) = ((x % 128 * 128 ^ k : Nat) : Int) := by
 rw [pow128]; push_cast; rfl
theorem small_shift {k x : Nat} (hk : k ≤ 8) : x % 128 * 128 ^ k < 9223372036854775808 := by
 have h1 : 128 ^ k ≤ 128 ^ 8 := Nat.pow_le_pow_right (by decide) hk
 have h2 : x % 128 ≤ 127 := by omega
 have h3 : x % 128 * 128 ^ k ≤ 127 * 128 ^ 8 := Nat.mul_le_mul h2 h1
 have h4 : 127 * 128 ^ 8 < 9223372036854775808 := by decide
 omega
def NumPost (w' : World) (b : Nat) (e : Ending) : Option (Nat × List Nat) → Prop
 | none => e = .returned (.int .i64 0) ∧ Rd w' b [] true
 | some (n, r) => e = .returned (.int .i64 n) ∧ Rd w' b r false
theorem numBad {w' : World} {b : Nat} {e : Ending} {o : Option (Nat × List Nat)} (ho : o = none) (he : e = .returned (.int .i64 0)) (hr : Rd w' b [] true) : NumPost w' b e o := by subst ho; exact ⟨he, hr⟩
theorem numGood {w' : World} {b n : Nat} {e : Ending} {r : List Nat} {o : Option (Nat × List Nat)} (ho : o = some (n, r)) (he : e = .returned (.int .i64 n)) (hr : Rd w' b r false) : NumPost w' b e o := by subst ho; exact ⟨he, hr⟩
theorem wraps_i64_63 (n : Int) (h₀ : 0 ≤ n) (h₁ : n < 2 ^ 63) : IntKind.i64.wrap n = n := by
 have : (9223372036854775808 : Int) = 2 ^ 63 := by decide
 exact IntWalk.i64_in n (by omega)
theorem orI {k acc x : Nat} (hk : k ≤ 8) (hacc : acc < 128 ^ k) :
  bits BinOp.or IntKind.i64 (acc : Int) (IntKind.i64.wrap ((x : Int) % 128 * 2 ^ (7 * k))) = ((acc + x % 128 * 128 ^ k : Nat) : Int) := by
 have hy := small_shift (x := x) hk
 have hp : 128 ^ k ≤ 128 ^ 8 := Nat.pow_le_pow_right (by decide) hk
 have hp8 : 128 ^ 8 < 9223372036854775808 := by decide
 have h64 : (9223372036854775808 : Int) = 2 ^ 63 := by decide
 have h7 : ((2 : Int) ^ (7 * k)) = ((128 ^ k : Nat) : Int) := by rw [pow128]; push_cast; rfl
 have g1 : ((x % 128 * 128 ^ k : Nat) : Int) < 2 ^ 63 := by rw [← h64]; omega
 have g2 : (acc : Int) < 2 ^ 63 := by rw [← h64]; omega
 have g3 : (acc : Int) < 2 ^ (7 * k) := by rw [h7]; omega
 have g4 : ((x % 128 * 128 ^ k : Nat) : Int) % 2 ^ (7 * k) = 0 := by rw [h7, ← Int.natCast_emod, Nat.mul_mod_left]; rfl
 rw [cast_shift, wraps_i64_63 _ (by omega) g1, bits_join_low .i64 63 (by decide) wraps_i64_63 (7 * k) (acc : Int) _ (by omega) g3 g2 (by omega) g4 g1]
 push_cast; rfl
theorem andNot128_all : ∀ x : Fin 256, bits BinOp.andNot IntKind.u8 ((x.val : Nat) : Int) 128 = ((x.val % 128 : Nat) : Int) := by decide +kernel
theorem andNot128 {x : Nat} (h : x < 256) : bits BinOp.andNot IntKind.u8 (x : Int) 128 = (x : Int) % 128 := by
 have := andNot128_all ⟨x, h⟩
 simp only at this
 rw [this]; omega
theorem and128_all : ∀ x : Fin 256, bits BinOp.and IntKind.u8 ((x.val : Nat) : Int) 128 = if 128 ≤ x.val then 128 else 0 := by decide +kernel
theorem and128_yes {x : Nat} (h : x < 256) (h1 : 128 ≤ x) : bits BinOp.and IntKind.u8 (x : Int) 128 = 128 := by
 have := and128_all ⟨x, h⟩
 simp only at this
 rw [this, if_pos h1]
theorem and128_no {x : Nat} (h : x < 256) (h1 : ¬ 128 ≤ x) : bits BinOp.and IntKind.u8 (x : Int) 128 = 0 := by
 have := and128_all ⟨x, h⟩
 simp only at this
 rw [this, if_neg h1]
theorem cells_dropO {w : World} {b o n c i B : Nat} {xs : List Nat} (h : Cells w B (some ⟨b, o, none⟩) n c 1 (flatU xs)) (hi : i ≤ n) (c' : Nat) : Cells w B (some ⟨b, o + i, none⟩) (n - i) c' 1 (flatU (xs.drop i)) := by
 have hl := h.1
 rw [flatU_length, Nat.mul_one] at hl
 refine ⟨by rw [flatU_length, List.length_drop]; omega, (fun e => by cases e), fun k u hu => ?_⟩
 obtain ⟨b', o', e, hb, hc⟩ := h.2.2 (i + k) u (by
  simp only [flatU, List.getElem?_map, List.getElem?_drop] at hu ⊢
  exact hu)
 injection e with e; injection e with e1 e2 e3; subst e1 e2
 exact ⟨b, o + i, rfl, hb, by rw [Nat.add_assoc]; exact hc⟩
theorem Rd.cut {w : World} {b ab ao c i : Nat} {rest : List Nat} (h : Rd w b rest false) (hs : w.cell? ⟨b, 0, none⟩ = some (.slice (some ⟨ab, ao, none⟩) rest.length c)) (hx : Cells w b (some ⟨ab, ao, none⟩) rest.length c 1 (flatU rest)) (hc : rest.length ≤ c) (hm : c ≤ maxLen) (hi : i ≤ rest.length) :
  Rd (w.setCell ⟨b, 0, none⟩ (.slice (some ⟨ab, ao + i, none⟩) (rest.length - i) (c - i))) b (rest.drop i) false := by
 refine ⟨⟨some ⟨ab, ao + i, none⟩, c - i, by rw [List.length_drop]; exact c_set_same (h_of hs), by rw [List.length_drop]; omega, by omega, ?_⟩, c_set_other (Or.inr (by decide)) h.flag, fun j => f_set (h.free j), by have := h.low; simpa [World.setCell] using this⟩
 rw [List.length_drop]
 have h2 := cells_dropO hx hi (c - i)
 exact ⟨h2.1, h2.2.1, fun j u hu => by obtain ⟨q, o, e, hq, hc⟩ := h2.2.2 j u hu; exact ⟨q, o, e, hq, c_set_other (Or.inl (by omega)) hc⟩⟩
theorem Rd.cutAll {w : World} {b c : Nat} {ad : Addr} {rest : List Nat} {i : Nat} (h : Rd w b rest false) (hs : w.cell? ⟨b, 0, none⟩ = some (.slice (some ad) rest.length c)) (hi : rest.length ≤ i) :
  Rd (w.setCell ⟨b, 0, none⟩ (.slice (some ad) 0 0)) b (rest.drop i) false := by
 rw [List.drop_eq_nil_of_le hi]
 exact ⟨⟨some ad, 0, by simp only [List.length_nil]; exact c_set_same (h_of hs), Nat.le_refl _, by unfold maxLen; omega, rfl, (fun e => by cases e), fun j u hu => by simp [flatU] at hu⟩, c_set_other (Or.inr (by decide)) h.flag, fun j => f_set (h.free j), by have := h.low; simpa [World.setCell] using this⟩
theorem rd_suffix : ∀ (l : List Nat) (i acc n : Nat) (r : List Nat), rd i acc l = some (n, r) → r.length ≤ l.length ∧ (∀ x ∈ r, x ∈ l) ∧ n ≤ 4611686018427387904 := by
 intro l
 induction l with
 | nil => intro i acc n r h; simp [rd] at h
 | cons b t ih =>
  intro i acc n r h
  rw [rd] at h
  split at h
  · cases h
  ·
   split at h
   ·
    obtain ⟨h1, h2, h3⟩ := ih _ _ _ _ h
    exact ⟨by simp; omega, fun x hx => by simp [h2 x hx], h3⟩
   ·
    split at h
    · cases h
    ·
     rename_i hc
     injection h with h; injection h with h1 h2; subst h1 h2
     exact ⟨by simp, fun x hx => by simp [hx], by omega⟩
def nx : Option (List Nat) → Nat × Option (List Nat)
 | none => (0, none)
 | some r => match rd 0 0 r with
  | none => (0, none)
  | some (n, t) => (n, some t)
structure RS (w : World) (b : Nat) (st : Option (List Nat)) : Prop where
 rd : Rd w b (st.getD []) st.isNone
 len : (st.getD []).length ≤ 100000
 byt : ∀ x ∈ st.getD [], x < 256
theorem RS.of {w : World} {b : Nat} {r : List Nat} (h : Rd w b r false) (hl : r.length ≤ 100000) (hb : ∀ x ∈ r, x < 256) : RS w b (some r) := ⟨h, hl, hb⟩
theorem RS.bad {w : World} {b : Nat} (h : Rd w b [] true) : RS w b none := ⟨h, by simp, by simp⟩
theorem nx_le (st : Option (List Nat)) : (nx st).1 ≤ 4611686018427387904 := by
 cases st with
 | none => simp [nx]
 | some r =>
  simp only [nx]
  cases h : rd 0 0 r with
  | none => simp
  | some p => obtain ⟨n, t⟩ := p; exact (rd_suffix r 0 0 n t h).2.2
theorem nx_enc {n : Nat} (h : n ≤ 4611686018427387904) (r : List Nat) : nx (some (enc n ++ r)) = (n, some r) := by
 have := rd_enc n 0 0 r (fun h => absurd h (by omega)) (by simpa using h)
 simp only [Nat.pow_zero, Nat.mul_one, Nat.zero_add] at this
 simp only [nx, this]
theorem Rd.touchBelow {w w' : World} {b B : Nat} {rest : List Nat} {bad : Bool} (h : Rd w b rest bad) (hb : Below B w w') (hB : b < B) : Rd w' b rest bad := by
 obtain ⟨A, c, h0, h1, h2, h3⟩ := h.row
 exact ⟨⟨A, c, bkeep hb h0 hB, h1, h2, cells_keep h3 (hb.mono (Nat.le_of_lt hB)) (Nat.le_refl _)⟩, bkeep hb h.flag hB, fun j => bfree hb (h.free j) hB, Nat.lt_of_lt_of_le h.low hb.size⟩
theorem RS.below {w w' : World} {b B : Nat} {st : Option (List Nat)} (h : RS w b st) (hb : Below B w w') (hB : b < B) : RS w' b st := ⟨h.rd.touchBelow hb hB, h.len, h.byt⟩
theorem RS.low {w : World} {b : Nat} {st : Option (List Nat)} (h : RS w b st) : b < w.heap.size := h.rd.low
theorem numPost_of {w' : World} {b : Nat} {e : Ending} {r : List Nat} (hl : r.length ≤ 100000) (h256 : ∀ x ∈ r, x < 256) (h : NumPost w' b e (rd 0 0 r)) : e = .returned (.int .i64 (nx (some r)).1) ∧ RS w' b (nx (some r)).2 := by
 cases hr : rd 0 0 r with
 | none => rw [hr] at h; simp only [nx, hr]; exact ⟨h.1, RS.bad h.2⟩
 | some p =>
  obtain ⟨n, t⟩ := p
  rw [hr] at h
  obtain ⟨h1, h2, _⟩ := rd_suffix r 0 0 n t hr
  simp only [nx, hr]
  exact ⟨h.1, RS.of h.2 (by omega) (fun x hx => h256 x (h2 x hx))⟩
def allOf (st : Option (List Nat)) : Bool := match st with | some [] => true | _ => false
theorem octAll (b : Nat) (st : Option (List Nat)) (w : World) (hr : RS w b st) :
  Calls Tryz.prog 35 #[.pointer (some ⟨b, 0, none⟩)] w fun e w' => e = .returned (.bool (allOf st)) ∧ w = w' :=
 (rdWhole b _ _ w hr.rd (Nat.le_trans hr.len (by decide))).mono fun e w' ⟨he, hw⟩ => ⟨by rw [he]; cases st with | none => rfl | some r => cases r <;> rfl, hw⟩
theorem octNew (A : Option Addr) (c : Nat) (xs : List Nat) (w : World) (hn : xs.length ≤ 100000) (h256 : ∀ x ∈ xs, x < 256) (hx : Cells w w.heap.size A xs.length c 1 (flatU xs)) :
  Calls Tryz.prog 31 #[.slice A xs.length c] w fun e w' => ∃ b, e = .returned (.pointer (some ⟨b, 0, none⟩)) ∧ w.heap.size ≤ b ∧ RS w' b (some xs) ∧ Below w.heap.size w w' := by
 cases A with
 | none =>
  obtain ⟨h1, h2⟩ := hx.2.1 rfl
  obtain rfl : xs = [] := List.eq_nil_of_length_eq_zero h1
  exact (newReader0 0 c w).mono fun e w' ⟨b, he, hb, hr, hB⟩ => ⟨b, he, hb, RS.of hr (by simp) (by simp), hB⟩
 | some ad => exact (newReader1 ad c xs w (by omega) hx).mono fun e w' ⟨b, he, hb, hr, hB⟩ => ⟨b, he, hb, RS.of hr hn h256, hB⟩
def noU8 (cs : Array Value) : Prop := ∀ (i : Nat) (x : Int), cs[i]? ≠ some (.int .u8 x)
theorem flatU_is {xs : List Nat} {j : Nat} {u : Value} (h : (flatU xs)[j]? = some u) : ∃ x : Int, u = .int .u8 x := by
 simp only [flatU, List.getElem?_map, Option.map_eq_some_iff] at h
 obtain ⟨x, _, rfl⟩ := h
 exact ⟨_, rfl⟩
theorem RS.setBlk {w : World} {b g i : Nat} {t : TypeId} {cs : Array Value} {st : Option (List Nat)} (h : RS w b st) (hg : Whl w g t cs) (hn : noU8 cs) (hne : g ≠ b) (v : Value) : RS (w.setCell ⟨g, i, none⟩ v) b st := by
 obtain ⟨A, c, h0, h1, h2, h3⟩ := h.rd.row
 refine ⟨⟨⟨A, c, c_set_other (Or.inl hne) h0, h1, h2, h3.1, h3.2.1, fun j u hu => ?_⟩, c_set_other (Or.inl hne) h.rd.flag, fun j => f_set (h.rd.free j), by have := h.low; simpa [World.setCell] using this⟩, h.len, h.byt⟩
 obtain ⟨q, o, e, hq, hc⟩ := h3.2.2 j u hu
 refine ⟨q, o, e, hq, c_set_other (Or.inl ?_) hc⟩
 rintro rfl
 obtain ⟨x, rfl⟩ := flatU_is hu
 rw [hg.cell] at hc
 exact hn _ _ hc
theorem RS.alloc {w : World} {b : Nat} {st : Option (List Nat)} (h : RS w b st) (o : Obj) : RS (w.alloc o) b st := h.below (B := w.heap.size) ((Below.refl _ _).alloc (Nat.le_refl _) _) h.low
def encb (l : List (List Nat)) : List Nat := l.flatMap fun x => enc x.length ++ x
theorem encb_snoc {l : List (List Nat)} {k : Nat} (h : k < l.length) : encb (l.take (k + 1)) = encb (l.take k) ++ (enc l[k].length ++ l[k]) := by
 unfold encb
 rw [List.take_succ_eq_append_getElem h, List.flatMap_append, List.flatMap_singleton]
theorem clamp_nat {n : Nat} (h : n ≤ 1000000) : clamp (n : Int) = n := by unfold clamp; omega
theorem Wr.below {w w' : World} {b base : Nat} {xs : List Nat} (h : Wr w b base xs) (hb : Below w.heap.size w w') : Wr w' b base xs := by
 obtain ⟨⟨s, hs, ho⟩, hf, hl, hh⟩ := h
 have h1 : b < w.heap.size := by omega
 exact ⟨⟨s, bkeep hb hs h1, row_below ho hb⟩, bfree hb hf h1, hl, Nat.le_trans hh hb.size⟩
def bs (s : ByteArray) : List Nat := s.data.toList.map UInt8.toNat
theorem bs_length (s : ByteArray) : (bs s).length = s.size := by simp [bs]
@[go_sem] theorem bw_cell (w : World) (e : TypeId) (s : ByteArray) (n i : Nat) : (Lib.bytesWorld w e s).cell? ⟨n, i, none⟩ = if n < w.heap.size then w.cell? ⟨n, i, none⟩ else cellElse (Lib.bytesWorld w e s) n i := by
 by_cases h : n < w.heap.size
 · rw [if_pos h]; exact Lib.bytesWorld_old w e s ⟨n, i, none⟩ h
 · rw [if_neg h]; rfl
@[go_sem] theorem bw_frozen (w : World) (e : TypeId) (s : ByteArray) (n i : Nat) : (Lib.bytesWorld w e s).frozen? ⟨n, i, none⟩ = if n < w.heap.size then w.frozen? ⟨n, i, none⟩ else frozenElse (Lib.bytesWorld w e s) n i := by
 by_cases h : n < w.heap.size
 · rw [if_pos h]; exact World.frozen?_of_block (w := w) (a := ⟨n, i, none⟩) (Lib.bytesWorld_at_old w e s n h)
 · rw [if_neg h]; rfl
@[simp, go_sem] theorem bw_size (w : World) (e : TypeId) (s : ByteArray) : (Lib.bytesWorld w e s).heap.size = w.heap.size + 1 := Lib.bytesWorld_size w e s
theorem bw_below (w : World) (e : TypeId) (s : ByteArray) : Below w.heap.size w (Lib.bytesWorld w e s) := Lib.bytesWorld_below w e s
theorem bw_cells (w : World) (e : TypeId) (s : ByteArray) (B c : Nat) (hB : w.heap.size < B) : Cells (Lib.bytesWorld w e s) B (some ⟨w.heap.size, 0, none⟩) (bs s).length c 1 (flatU (bs s)) := by
 refine ⟨by simp [flatU], (fun e => by cases e), fun j u hu => ⟨w.heap.size, 0, rfl, hB, ?_⟩⟩
 have hj : j < s.size := by have := (List.getElem?_eq_some_iff.1 hu).1; simpa [flatU, bs_length] using this
 rw [Nat.zero_add, Lib.bytesWorld_cell w e s j hj, ← hu]
 have hj2 : j < s.data.toList.length := by simpa using hj
 simp only [flatU, bs, List.map_map, List.getElem?_map, List.getElem?_eq_getElem hj2, Option.map_some, List.getD, Option.getD_some, Function.comp]
end Go.Proofs.YtdlbiobjnohfbaaGreat
