/- Both Readers, erred or not: one state, one function. -/
import Derived.Test.YtblknjclkecglaaOctetNumO
namespace Go.Proofs.Ytblknjclkecglaa
open Go.RowKit
set_option linter.unusedVariables false
set_option linter.unusedSimpArgs false

theorem rd_suffix : ∀ (l : List Nat) (i acc n : Nat) (r : List Nat), rd i acc l = some (n, r) → r.length ≤ l.length ∧ (∀ x ∈ r, x ∈ l) ∧ n ≤ 4611686018427387904 := by
  intro l
  induction l with
  | nil => intro i acc n r h; simp [rd] at h
  | cons b t ih =>
    intro i acc n r h
    rw [rd] at h
    split at h
    · cases h
    · split at h
      · obtain ⟨h1, h2, h3⟩ := ih _ _ _ _ h
        exact ⟨by simp; omega, fun x hx => by simp [h2 x hx], h3⟩
      · split at h
        · cases h
        · rename_i hc
          injection h with h; injection h with h1 h2; subst h1 h2
          exact ⟨by simp, fun x hx => by simp [hx], by omega⟩

/-- one number out of what is left; none: it erred -/
def nx : Option (List Nat) → Nat × Option (List Nat)
  | none => (0, none)
  | some r => match rd 0 0 r with
    | none => (0, none)
    | some (n, t) => (n, some t)
/-- a Reader in a state -/
structure RS (w : World) (b : Nat) (st : Option (List Nat)) : Prop where
  rd : Rd w b (st.getD []) st.isNone
  len : (st.getD []).length ≤ 100000
  byt : ∀ x ∈ st.getD [], x < 256
theorem RS.of {w : World} {b : Nat} {r : List Nat} (h : Rd w b r false) (hl : r.length ≤ 100000) (hb : ∀ x ∈ r, x < 256) : RS w b (some r) := ⟨h, hl, hb⟩
theorem RS.bad {w : World} {b : Nat} (h : Rd w b [] true) : RS w b none := ⟨h, by simp, by simp⟩
theorem nx_le (st : Option (List Nat)) : (nx st).1 ≤ 4611686018427387904 := by
  cases st with
  | none => simp [nx]
  | some r =>
    simp only [nx]
    cases h : rd 0 0 r with
    | none => simp
    | some p => obtain ⟨n, t⟩ := p; exact (rd_suffix r 0 0 n t h).2.2
theorem nx_enc {n : Nat} (h : n ≤ 4611686018427387904) (r : List Nat) : nx (some (enc n ++ r)) = (n, some r) := by
  have := rd_enc n 0 0 r (fun h => absurd h (by omega)) (by simpa using h)
  simp only [Nat.pow_zero, Nat.mul_one, Nat.zero_add] at this
  simp only [nx, this]
theorem Rd.touchBelow {w w' : World} {b B : Nat} {rest : List Nat} {bad : Bool} (h : Rd w b rest bad) (hb : Below B w w') (hB : b < B) : Rd w' b rest bad := by
  obtain ⟨A, c, h0, h1, h2, h3⟩ := h.row
  exact ⟨⟨A, c, bkeep hb h0 hB, h1, h2, cells_keep h3 (hb.mono (Nat.le_of_lt hB)) (Nat.le_refl _)⟩, bkeep hb h.flag hB, fun j => bfree hb (h.free j) hB, Nat.lt_of_lt_of_le h.low hb.size⟩
theorem RS.below {w w' : World} {b B : Nat} {st : Option (List Nat)} (h : RS w b st) (hb : Below B w w') (hB : b < B) : RS w' b st := ⟨h.rd.touchBelow hb hB, h.len, h.byt⟩
theorem RS.low {w : World} {b : Nat} {st : Option (List Nat)} (h : RS w b st) : b < w.heap.size := h.rd.low

theorem numPost_of {w' : World} {b : Nat} {e : Ending} {r : List Nat} (hl : r.length ≤ 100000) (h256 : ∀ x ∈ r, x < 256) (h : NumPost w' b e (rd 0 0 r)) : e = .returned (.int .i64 (nx (some r)).1) ∧ RS w' b (nx (some r)).2 := by
  cases hr : rd 0 0 r with
  | none => rw [hr] at h; simp only [nx, hr]; exact ⟨h.1, RS.bad h.2⟩
  | some p =>
    obtain ⟨n, t⟩ := p
    rw [hr] at h
    obtain ⟨h1, h2, _⟩ := rd_suffix r 0 0 n t hr
    simp only [nx, hr]
    exact ⟨h.1, RS.of h.2 (by omega) (fun x hx => h256 x (h2 x hx))⟩

set_option maxHeartbeats 1000000 in
set_option maxRecDepth 10000 in
theorem octNumErr (b : Nat) (w : World) (hr : Rd w b [] true) :
    Calls Try.prog 39 #[.pointer (some ⟨b, 0, none⟩)] w fun e w' => e = .returned (.int .i64 0) ∧ Rd w' b [] true ∧ Below b w w' := by
  obtain ⟨A, c, h0, hc, hm, hx⟩ := hr.row
  simp only [List.length_nil] at h0
  have hc0 : (0 : Int) ≤ (c : Int) := by omega
  have HR := Lib.hid hr
  clear hr hx
  go_enter Try.func39, Try.ntmps39
  go_wp2_with fail
  go_quiet (fail)
  generalize hV : w.drewN nq = V
  have HV : Hid (Rd V b [] true) := by subst hV; exact Lib.hid ⟨HR.out.row, HR.out.flag, HR.out.free, HR.out.low⟩
  have hBV : Below b w V := by subst hV; exact b_drewN (Below.refl _ _)
  clear hV
  go_wp2_with fail
  go_loop [3, 20] (fun n i => i = .int .i64 0) (fun _ i => 0)
  case atStart => rfl
  case round =>
    obtain rfl := hrel
    go_wp2_with fail
    refine (rdBad b _ _ _ HV.out).mono ?_
    rintro e w2 ⟨rfl, hw2, hb2⟩
    go_wp2_with fail
    go_ret
    exact ⟨rfl, hw2, hBV.trans hb2⟩

set_option maxHeartbeats 1000000 in
set_option maxRecDepth 10000 in
theorem rfNumErr (b : Nat) (w : World) (hr : Rd w b [] true) :
    Calls Try.prog 33 #[.pointer (some ⟨b, 0, none⟩)] w fun e w' => e = .returned (.int .i64 0) ∧ Rd w' b [] true ∧ Below b w w' := by
  have HR := Lib.hid hr
  clear hr
  go_enter Try.func33, Try.ntmps33
  go_wp2_with fail
  go_loopw [3, 4] (fun u i wr => i = .int .i64 0 ∧ wr = w) (fun _ i _ => 0)
  case atStart => exact ⟨rfl, rfl⟩
  case round =>
    obtain ⟨rfl, rfl⟩ := hrel
    go_wp2_with fail
    refine (rfRaw0 b true _ HR.out).mono ?_
    rintro e w1 ⟨rfl, hw1, hb1⟩
    have h1 := hw1.flag
    go_wp2_with fail
    go_ret
    exact ⟨rfl, hw1, hb1⟩

theorem octNx (b : Nat) (st : Option (List Nat)) (w : World) (hr : RS w b st) :
    Calls Try.prog 39 #[.pointer (some ⟨b, 0, none⟩)] w fun e w' => e = .returned (.int .i64 (nx st).1) ∧ RS w' b (nx st).2 ∧ Below b w w' := by
  cases st with
  | none => exact (octNumErr b w hr.rd).mono fun e w' ⟨he, h1, h2⟩ => ⟨he, RS.bad h1, h2⟩
  | some r => exact (octNum b r w (Nat.le_trans hr.len (by decide)) hr.byt hr.rd).mono fun e w' ⟨hp, hb⟩ => ⟨(numPost_of hr.len hr.byt hp).1, (numPost_of hr.len hr.byt hp).2, hb⟩
theorem rfNx (b : Nat) (st : Option (List Nat)) (w : World) (hr : RS w b st) :
    Calls Try.prog 33 #[.pointer (some ⟨b, 0, none⟩)] w fun e w' => e = .returned (.int .i64 (nx st).1) ∧ RS w' b (nx st).2 ∧ Below b w w' := by
  cases st with
  | none => exact (rfNumErr b w hr.rd).mono fun e w' ⟨he, h1, h2⟩ => ⟨he, RS.bad h1, h2⟩
  | some r => exact (rfNum b r w (Nat.le_trans hr.len (by decide)) hr.byt hr.rd).mono fun e w' ⟨hp, hb⟩ => ⟨(numPost_of hr.len hr.byt hp).1, (numPost_of hr.len hr.byt hp).2, hb⟩

/-- nothing erred, and nothing is left -/
def allOf (st : Option (List Nat)) : Bool := match st with | some [] => true | _ => false
theorem octAll (b : Nat) (st : Option (List Nat)) (w : World) (hr : RS w b st) :
    Calls Try.prog 32 #[.pointer (some ⟨b, 0, none⟩)] w fun e w' => e = .returned (.bool (allOf st)) ∧ w = w' :=
  (rdWhole b _ _ w hr.rd (Nat.le_trans hr.len (by decide))).mono fun e w' ⟨he, hw⟩ => ⟨by rw [he]; cases st with | none => rfl | some r => cases r <;> rfl, hw⟩
theorem rfAll (b : Nat) (st : Option (List Nat)) (w : World) (hr : RS w b st) :
    Calls Try.prog 35 #[.pointer (some ⟨b, 0, none⟩)] w fun e w' => e = .returned (.bool (allOf st)) ∧ w = w' :=
  (rfWhole b _ _ w hr.rd (Nat.le_trans hr.len (by decide))).mono fun e w' ⟨he, hw⟩ => ⟨by rw [he]; cases st with | none => rfl | some r => cases r <;> rfl, hw⟩
theorem rfBadS (b : Nat) (st : Option (List Nat)) (w : World) (hr : RS w b st) :
    Calls Try.prog 54 #[.pointer (some ⟨b, 0, none⟩)] w fun e w' => e = .returned (.tuple #[]) ∧ RS w' b none ∧ Below b w w' :=
  (rfBad b _ _ w hr.rd).mono fun e w' ⟨he, h1, h2⟩ => ⟨he, RS.bad h1, h2⟩
/-- a Reader over any slice of bytes -/
theorem octNew (A : Option Addr) (c : Nat) (xs : List Nat) (w : World) (hn : xs.length ≤ 100000) (h256 : ∀ x ∈ xs, x < 256) (hx : Cells w w.heap.size A xs.length c 1 (flatU xs)) :
    Calls Try.prog 29 #[.slice A xs.length c] w fun e w' => ∃ b, e = .returned (.pointer (some ⟨b, 0, none⟩)) ∧ w.heap.size ≤ b ∧ RS w' b (some xs) ∧ Below w.heap.size w w' := by
  cases A with
  | none =>
    obtain ⟨h1, h2⟩ := hx.2.1 rfl
    obtain rfl : xs = [] := List.eq_nil_of_length_eq_zero h1
    exact (newReader0 0 c w).mono fun e w' ⟨b, he, hb, hr, hB⟩ => ⟨b, he, hb, RS.of hr (by simp) (by simp), hB⟩
  | some ad => exact (newReader1 ad c xs w (by omega) hx).mono fun e w' ⟨b, he, hb, hr, hB⟩ => ⟨b, he, hb, RS.of hr hn h256, hB⟩

end Go.Proofs.Ytblknjclkecglaa
