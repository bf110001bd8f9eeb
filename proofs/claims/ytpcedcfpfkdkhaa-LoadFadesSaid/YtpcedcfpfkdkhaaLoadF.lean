/- LoadFades: the walk of the statement: two loops by hand over heaps of the evaluator's. -/
import Derived.Test.YtpcedcfpfkdkhaaLoadHs
import Derived.Test.YtpcedcfpfkdkhaaLoadK
import Derived.Deep.DeepCutAuto
import Derived.Deep.RegionLaw
import Derived.Deep.Light
import Derived.ProofKit
namespace Go.Proofs.Ytpcedcfpfkdkhaa
open Go.RowKit
set_option linter.unusedVariables false
set_option linter.unusedSimpArgs false

/-- the world has the heap m; its name 0 lies at p; nothing of it lies below B -/
def LSt (m : Tr) (k B p : Nat) (w : World) : Prop := ∃ ρ : Ren, ρ.σ = lfσ ∧ StH m k ρ w ∧ ρ.φ 0 = p ∧ ∀ n, n < k → B ≤ ρ.φ n
theorem lfσ_glob : ∀ s : Nat → Value, s = lfσ → ∀ (g k : Nat), s (gsym g) = .nilFunc → g < k := by
  intro s hs g k h; subst hs; cases h
theorem below_of {m : Tr} {k k' B : Nat} {ρ ρ' : Ren} {w0 w w' : World} (ho : Out m k k' ρ w ρ' w') (hB : ∀ n, n < k → B ≤ ρ.φ n) (hb : Below B w0 w) (hs : B ≤ w.heap.size) : Below B w0 w' :=
  hb.trans ⟨ho.os, ho.tape, ho.output, ho.size, fun j hj => ho.frame j (by omega) (fun n hn _ e => by have := hB n hn; omega)⟩
theorem low_of {m : Tr} {k k' B : Nat} {ρ ρ' : Ren} {w w' : World} (ho : Out m k k' ρ w ρ' w') (hB : ∀ n, n < k → B ≤ ρ.φ n) (hs : B ≤ w.heap.size) : ∀ n, n < k' → B ≤ ρ'.φ n := by
  intro n hn
  by_cases h : n < k
  · rw [ho.φ n h]; exact hB n h
  · rcases ho.fresh n (by omega) hn with h | ⟨j, h1, _, h3⟩
    · omega
    · rw [h3]; exact hB j h1
theorem newCall (w : World) : Calls Try.prog 5 #[] w fun e w' => ∃ p, e = .returned (.pointer (some ⟨p, 0, none⟩)) ∧ LSt ldZ 1 w.heap.size p w' ∧ Below w.heap.size w w' := by
  refine (calls_of_runTo evMixed evNames lfOrc_ok (tableL_self _) (noTab_ok _ _) newOK (fun s hs g h => lfσ_glob s hs g _ h) (ρ := ⟨fun _ => 0, fun _ => 0, lfσ⟩) rfl ?_ rfl).mono ?_
  · exact ⟨fun a b _ _ ha => (by rw [Tr.get_lf] at ha; cases ha), fun n o _ h => (by rw [Tr.get_lf] at h; cases h), fun n _ h => (by rw [Tr.get_lf] at h; cases h), fun _ => rfl, fun g h => (by cases h)⟩
  · rintro e w' ⟨ρ', rfl, hst, ho⟩
    have hB : ∀ n, n < 0 → w.heap.size ≤ (⟨fun _ => 0, fun _ => 0, lfσ⟩ : Ren).φ n := fun n hn => absurd hn (Nat.not_lt_zero n)
    exact ⟨ρ'.φ 0, by simp [ren, ldP, renA], ⟨ρ', ho.σ, hst, rfl, low_of ho hB (Nat.le_refl _)⟩, below_of ho hB (Below.refl _ _) (Nat.le_refl _)⟩
theorem stepCall {f : FuncId} {args : List Value} {m m' : Tr} {k k' : Nat} {v : Value} (h : runTo Try.prog lfOrc (cFnL Try.prog) noTab f args m k m' k' v = true) (hk : 0 < k) {B p : Nat} {w0 w : World} (hs : LSt m k B p w) (hb : Below B w0 w) (hB : B ≤ w.heap.size)
    {args' : Array Value} (ha : ∀ ρ : Ren, ρ.φ 0 = p → args'.toList = args.map (ren ρ)) :
    Calls Try.prog f args' w fun e w' => ∃ ρ' : Ren, ρ'.φ 0 = p ∧ ρ'.σ = lfσ ∧ e = .returned (ren ρ' v) ∧ StH m' k' ρ' w' ∧ LSt m' k' B p w' ∧ Below B w0 w' := by
  obtain ⟨ρ, hσ, hst, hp, hlow⟩ := hs
  refine (calls_of_runTo evMixed evNames lfOrc_ok (tableL_self _) (noTab_ok _ _) h (fun s hs g h => lfσ_glob s hs g _ h) hσ hst (ha ρ hp)).mono ?_
  rintro e w' ⟨ρ', rfl, hst', ho⟩
  have h0 : ρ'.φ 0 = p := by rw [ho.φ 0 hk]; exact hp
  exact ⟨ρ', h0, ho.σ.trans hσ, rfl, hst', ⟨ρ', ho.σ.trans hσ, hst', h0, low_of ho hlow hB⟩, below_of ho hlow hb hB⟩
theorem hitCall {m m' : Tr} {k : Nat} (h : okHit m k m' = true) (hk : 0 < k) {B p : Nat} {w0 w : World} (hs : LSt m k B p w) (hb : Below B w0 w) (hB : B ≤ w.heap.size) :
    Calls Try.prog 6 #[.pointer (some ⟨p, 0, none⟩), .int .i64 3, .string ⟨#[107]⟩] w fun e w' => e = .returned unitV ∧ LSt m' 3 B p w' ∧ Below B w0 w' := by
  refine (stepCall (args' := #[.pointer (some ⟨p, 0, none⟩), .int .i64 3, .string ⟨#[107]⟩]) h hk hs hb hB (fun ρ e => ?_)).mono ?_
  · simp [ldP, ren, renA, e]
  · rintro e w' ⟨ρ', _, _, rfl, _, h1, h2⟩
    exact ⟨by simp [ren, unitV], h1, h2⟩
theorem fadeCall {m m' : Tr} {k : Nat} (h : okFade m k m' = true) (hk : 0 < k) {B p : Nat} {w0 w : World} (hs : LSt m k B p w) (hb : Below B w0 w) (hB : B ≤ w.heap.size) :
    Calls Try.prog 7 #[.pointer (some ⟨p, 0, none⟩)] w fun e w' => e = .returned unitV ∧ LSt m' k B p w' ∧ Below B w0 w' := by
  refine (stepCall (args' := #[.pointer (some ⟨p, 0, none⟩)]) h hk hs hb hB (fun ρ e => ?_)).mono ?_
  · simp [ldP, ren, renA, e]
  · rintro e w' ⟨ρ', _, _, rfl, _, h1, h2⟩
    exact ⟨by simp [ren, unitV], h1, h2⟩
theorem tabCall0 {m : Tr} {k : Nat} (h : okTab m k .lf 0 (.slice none 0 0) = true) (hk : 0 < k) {B p : Nat} {w0 w : World} (hs : LSt m k B p w) (hb : Below B w0 w) (hB : B ≤ w.heap.size) :
    Calls Try.prog 8 #[.pointer (some ⟨p, 0, none⟩)] w fun e w' => e = .returned (.slice none 0 0) ∧ Below B w0 w' := by
  refine (stepCall (args' := #[.pointer (some ⟨p, 0, none⟩)]) h hk hs hb hB (fun ρ e => ?_)).mono ?_
  · simp [ldP, ren, renA, e]
  · rintro e w' ⟨ρ', _, _, rfl, _, h1, h2⟩
    exact ⟨by simp [ren], h2⟩
theorem ldR_get (n : Int) : (ldR tabN n).get tabN = some (.row [.int .i64 3, .int .i64 n, .string ⟨#[107]⟩] 29 3 false) := by
  rfl
theorem tabCall {m : Tr} {k : Nat} {n : Int} (h : okTab m k (ldR tabN n) tabK (.slice (some ⟨tabN, 0, none⟩) 1 capTop) = true) (hk : 0 < k) {B p : Nat} {w0 w : World} (hs : LSt m k B p w) (hb : Below B w0 w) (hB : B ≤ w.heap.size) :
    Calls Try.prog 8 #[.pointer (some ⟨p, 0, none⟩)] w fun e w' => ∃ g c, e = .returned (.slice (some ⟨g, 0, none⟩) 1 c) ∧ w'.cell? ⟨g, 0, none⟩ = some (.int .i64 3) ∧ w'.cell? ⟨g, 1, none⟩ = some (.int .i64 n) ∧ w'.cell? ⟨g, 2, none⟩ = some (.string ⟨#[107]⟩) ∧ Below B w0 w' := by
  refine (stepCall (args' := #[.pointer (some ⟨p, 0, none⟩)]) h hk hs hb hB (fun ρ e => ?_)).mono ?_
  · simp [ldP, ren, renA, e]
  · rintro e w' ⟨ρ', _, _, rfl, hst, ⟨ρ2, _, _, _, _⟩, h2⟩
    obtain ⟨c, fr, b1, b2, b3, b4, b5⟩ := hst.holds tabN _ trivial (ldR_get n)
    have b2 := b2.eq
    simp [ren] at b2 b4
    have hc : ∀ j, j < 3 → c[j]? = [Value.int .i64 3, .int .i64 n, .string ⟨#[107]⟩][j]? := fun j hj => by
      have : (c.toList.take 3)[j]? = c[j]? := by rw [List.getElem?_take, if_pos hj, Array.getElem?_toList]
      rw [← this, ← b2]
    refine ⟨ρ'.φ tabN, renCap ρ' tabN capTop, by simp [ren, renB, renA], ?_, ?_, ?_, h2⟩
    · simp [World.cell?, b1, hc 0 (by decide)]
    · simp [World.cell?, b1, hc 1 (by decide)]
    · simp [World.cell?, b1, hc 2 (by decide)]
theorem eqRowAt (w : World) (n : Nat) (q : Int) :
    (Op.equalIn (n + 2) 29 (.agg #[.int .i64 3, .int .i64 q, .string ⟨#[107]⟩]) (.agg #[.int .i64 3, .int .i64 q, .string ⟨#[107]⟩])).run Try.prog w = .ok true w := by
  have s1 : ∀ w, (sizeOf 3).run Try.prog w = .ok 1 w := fun _ => by kernel_rfl
  have s2 : ∀ w, (sizeOf 9).run Try.prog w = .ok 1 w := fun _ => by kernel_rfl
  have p0 : ∀ (q : Int) w, (part 3 #[.int .i64 3, .int .i64 q, .string ⟨#[107]⟩] 0).run Try.prog w = .ok (.int .i64 3) w := fun _ _ => by kernel_rfl
  have p1 : ∀ (q : Int) w, (part 3 #[.int .i64 3, .int .i64 q, .string ⟨#[107]⟩] 1).run Try.prog w = .ok (.int .i64 q) w := fun _ _ => by kernel_rfl
  have p2 : ∀ (q : Int) w, (part 9 #[.int .i64 3, .int .i64 q, .string ⟨#[107]⟩] 2).run Try.prog w = .ok (.string ⟨#[107]⟩) w := fun _ _ => by kernel_rfl
  have q1 : ∀ (x : Int) w, (Op.equalIn (n + 1) 3 (.int .i64 x) (.int .i64 x)).run Try.prog w = .ok true w := fun x w => by rw [run_equalIn_int w n _ .i64 .i64 x x Try.underlying3]; simp
  have q2 : ∀ w, (Op.equalIn (n + 1) 9 (.string ⟨#[107]⟩) (.string ⟨#[107]⟩)).run Try.prog w = .ok true w := fun w => by
    rw [Op.equalIn]
    simp only [Sem.run_bind, run_underlying Try.underlying9, Result.andThen_ok]
    rfl
  rw [Op.equalIn]
  simp only [Sem.run_bind, run_underlying Try.underlying29, Result.andThen_ok]
  simp [p0, p1, p2, q1, q2, s1, s2, Sem.run_bind, Result.andThen_ok]
@[go_sem] theorem eqRow (w : World) (q : Int) :
    (Op.equalIn 10000 29 (.agg #[.int .i64 3, .int .i64 q, .string ⟨#[107]⟩]) (.agg #[.int .i64 3, .int .i64 q, .string ⟨#[107]⟩])).run Try.prog w = .ok true w := eqRowAt w 9998 q
/-- the heap behind n of N hits, all halved as often as it took -/
def fT (N n : Nat) : Tr := if N = 0 then ldZ else if n = 0 then ldE else ldT (Int.ofNat n)
def fK (N : Nat) : Nat := if N = 0 then 1 else 3
theorem hitStep (n : Nat) (h : n < 300) : okHit (fT n n) (fK n) (fT (n + 1) (n + 1)) = true := by
  cases n with
  | zero => exact hitZ
  | succ n => simp only [fT, fK, Nat.succ_ne_zero, if_false]; exact hits n (by omega)
theorem fadeStep (N n : Nat) (h : n ≤ 300) : okFade (fT N n) (fK N) (fT N (n / 2)) = true := by
  unfold fT fK
  by_cases hN : N = 0
  · simp only [hN, if_true]; exact fadeZ
  · simp only [hN, if_false]
    cases n with
    | zero => exact fadeE
    | succ n =>
      have := fades n (by omega)
      simp only [Nat.succ_ne_zero, if_false]
      have e : half (n + 1) = (if (n + 1) / 2 = 0 then ldE else ldT (Int.ofNat ((n + 1) / 2))) := by
        unfold half
        by_cases h1 : n = 0
        · subst h1; rfl
        · have : Nat.ble (n + 1) 1 = false := by
            cases hb : Nat.ble (n + 1) 1 with
            | false => rfl
            | true => have := Nat.le_of_ble_eq_true hb; omega
          rw [this, if_neg (by omega)]
      rw [e] at this; exact this
set_option maxHeartbeats 2000000 in
theorem walkLoadFades (a0 a1 : Int) (w : World) :
    Calls Try.prog 3 #[.int .i64 a0, .int .i64 a1] w fun e w' => e = .returned (.bool true) ∧ Below w.heap.size w w' := by
  go_enter Try.func3, Try.ntmps3
  by_cases hr : 0 ≤ a0 ∧ a0 ≤ 300 ∧ 0 ≤ a1 ∧ a1 ≤ 12
  · obtain ⟨h1, h2, h3, h4⟩ := hr
    obtain ⟨N, rfl⟩ : ∃ N : Nat, a0 = N := ⟨a0.toNat, by omega⟩
    obtain ⟨T, rfl⟩ : ∃ T : Nat, a1 = T := ⟨a1.toNat, by omega⟩
    have c1 : decide ((N : Int) < 0) = false := by simp
    have c2 : decide ((300 : Int) < (N : Int)) = false := by simp; omega
    have c3 : decide ((T : Int) < 0) = false := by simp
    have c4 : decide ((12 : Int) < (T : Int)) = false := by simp; omega
    go_wp2_with (first | (go_at_call 5; refine (newCall _).mono ?_; rintro e w1 ⟨p, rfl, hs1, hb1⟩; have hz1 := hb1.size) | fail)
    go_loopw [6] (fun i wr => ∃ n : Nat, n ≤ N ∧ i = .int .i64 n ∧ LSt (fT n n) (fK n) w.heap.size p wr ∧ Below w.heap.size w wr) (fun i _ => N - (intOf i).toNat)
    case atStart => exact ⟨0, by omega, rfl, hs1, hb1⟩
    case round =>
      obtain ⟨n, hn, rfl, hst, hB⟩ := hrel
      have hBs := hB.size
      by_cases hlt : n < N
      · go_wp2_with (first | (go_at_call 6; refine (hitCall (hitStep n (by omega)) (by unfold fK; split <;> decide) hst hB (by omega)).mono ?_; rintro e w2 ⟨rfl, hs2, hb2⟩) | fail)
        exact ⟨⟨n + 1, by omega, by go_num, hs2, hb2⟩, by simp [intOf]; omega⟩
      · obtain rfl : n = N := by omega
        clear hs1 hb1
        go_wp2_with fail
        go_loopw [7, 8] (fun m i wr => ∃ t q : Nat, t ≤ T ∧ i = .int .i64 t ∧ m = .int .i64 q ∧ q ≤ n ∧ LSt (fT n q) (fK n) w.heap.size p wr ∧ Below w.heap.size w wr) (fun _ i _ => T - (intOf i).toNat)
        case atStart => exact ⟨0, n, by omega, rfl, rfl, Nat.le_refl _, hst, hB⟩
        case round =>
          obtain ⟨t, q, ht, rfl, rfl, hq, hst2, hB2⟩ := hrel
          have hBs2 := hB2.size
          have hK : 0 < fK n := by unfold fK; split <;> decide
          by_cases hlt2 : t < T
          · go_wp2_with (first | (go_at_call 7; refine (fadeCall (fadeStep n q (by omega)) hK hst2 hB2 (by omega)).mono ?_; rintro e w2 ⟨rfl, hs3, hb3⟩) | fail)
            exact ⟨⟨t + 1, q / 2, by omega, by go_num, by go_num, by omega, hs3, hb3⟩, by simp [intOf]; omega⟩
          · by_cases hq0 : q = 0
            · subst hq0
              have htab : okTab (fT n 0) (fK n) .lf 0 (.slice none 0 0) = true := by
                unfold fT fK
                by_cases hn0 : n = 0
                · simp only [hn0, if_true]; exact tabZ
                · simp only [hn0, if_false, if_true]; exact tabEE
              go_wp2_with (first | (go_at_call 8; refine (tabCall0 htab hK hst2 hB2 (by omega)).mono ?_; rintro e w2 ⟨rfl, hb3⟩) | (go_at_call 4; refine (loadKKnown _).mono ?_; rintro e w4 ⟨rfl, hb4⟩) | fail)
              all_goals go_ret
              all_goals exact ⟨rfl, hb3.trans (hb4.mono hb3.size)⟩
            · obtain ⟨r, rfl⟩ : ∃ r, q = r + 1 := ⟨q - 1, by omega⟩
              have htab : okTab (fT n (r + 1)) (fK n) (ldR tabN (Int.ofNat (r + 1))) tabK (.slice (some ⟨tabN, 0, none⟩) 1 capTop) = true := by
                unfold fT fK
                rw [if_neg (by omega), if_neg (by omega), if_neg (by omega)]
                exact tabs r (by omega)
              go_wp2_with (first | (go_at_call 8; refine (tabCall htab hK hst2 hB2 (by omega)).mono ?_; rintro e w2 ⟨g, c, rfl, y0, y1, y2, hb3⟩) | (go_at_call 4; refine (loadKKnown _).mono ?_; rintro e w4 ⟨rfl, hb4⟩) | fail)
              all_goals go_ret
              all_goals exact ⟨rfl, hb3.trans (hb4.mono hb3.size)⟩
  · go_wp2_with (first | (go_at_call 4; refine (loadKKnown _).mono ?_; rintro e w4 ⟨rfl, hb4⟩) | fail)
    all_goals first | (exfalso; simp_all; omega) | (go_ret; exact ⟨rfl, hb4⟩)
end Go.Proofs.Ytpcedcfpfkdkhaa
