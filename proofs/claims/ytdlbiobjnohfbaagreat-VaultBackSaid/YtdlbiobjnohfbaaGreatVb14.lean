/- What purse.Add and the document's own answer to it return, for any purses. -/
import Derived.Deep.Light
import Derived.Test.YtdlbiobjnohfbaaGreatVb13
namespace Go.Proofs.YtdlbiobjnohfbaaGreat
open Go.RowKit
set_option linter.unusedVariables false
set_option linter.unusedSimpArgs false
abbrev Q := Int × Int × Int × Int
def isQ (x : Q) : Bool := isP x.1 x.2.1 x.2.2.1 x.2.2.2
def plusQ (s x : Q) : Q := (s.1 + x.1, s.2.1 + x.2.1, s.2.2.1 + x.2.2.1, s.2.2.2 + x.2.2.2)
def addTo (s : Q) : List Q → Option Q
 | [] => some s
 | x :: r => if isQ x && isQ (plusQ s x) then addTo (plusQ s x) r else none
def addV : Option Q → Value
 | some s => .tuple #[.agg #[.int .i64 s.1, .int .i64 s.2.1, .int .i64 s.2.2.1, .int .i64 s.2.2.2], .bool true]
 | none => .tuple #[.agg #[.int .i64 0, .int .i64 0, .int .i64 0, .int .i64 0], .bool false]
def Purses (w : World) (B : Nat) (A : Option Addr) (xs : List Q) : Prop :=
 ∀ k (h : k < xs.length), ∃ b o, A = some ⟨b, o, none⟩ ∧ b < B ∧ w.cell? ⟨b, o + k * 4, none⟩ = some (.int .i64 xs[k].1) ∧ w.cell? ⟨b, o + k * 4 + 1, none⟩ = some (.int .i64 xs[k].2.1) ∧ w.cell? ⟨b, o + k * 4 + 2, none⟩ = some (.int .i64 xs[k].2.2.1) ∧ w.cell? ⟨b, o + k * 4 + 3, none⟩ = some (.int .i64 xs[k].2.2.2)
theorem addTo_app (s : Q) (xs ys : List Q) : addTo s (xs ++ ys) = (addTo s xs).bind fun u => addTo u ys := by
 induction xs generalizing s with
 | nil => rfl
 | cons p r ih =>
  simp only [List.cons_append, addTo]
  split
  · exact ih _
  · rfl
theorem addTo_step {s u : Q} {xs : List Q} {k : Nat} (h : k < xs.length) (h1 : addTo s (xs.take k) = some u) (h2 : isQ xs[k] = true) (h3 : isQ (plusQ u xs[k]) = true) : addTo s (xs.take (k + 1)) = some (plusQ u xs[k]) := by
 rw [List.take_succ_eq_append_getElem h, addTo_app, h1]
 simp [addTo, h2, h3]
theorem addTo_stop {s u : Q} {xs : List Q} {k : Nat} (h : k < xs.length) (h1 : addTo s (xs.take k) = some u) (h2 : isQ xs[k] = true → isQ (plusQ u xs[k]) = false) : addTo s xs = none := by
 conv => lhs; rw [← List.take_append_drop k xs]
 rw [addTo_app, h1, List.drop_eq_getElem_cons h]
 show addTo u (xs[k] :: _) = none
 unfold addTo
 cases h4 : isQ xs[k]
 · rfl
 · rw [h2 h4]; rfl
set_option maxHeartbeats 4000000 in
theorem purseAdd (A : Option Addr) (cp : Nat) (xs : List Q) (w : World) (hl : xs.length ≤ 1000000) (hx : Purses w w.heap.size A xs) :
  Calls Tryz.prog 58 #[.slice A xs.length cp] w fun z w' => z = .returned (addV (addTo (0, 0, 0, 0) xs)) ∧ Below w.heap.size w w' := by
 have HX := Lib.hid hx
 clear hx
 go_enter Tryz.func58, Tryz.ntmps58
 go_wp2_with fail
 go_loopw [11] (fun i wr => ∃ (k : Nat) (s0 s1 s2 s3 : Int), k ≤ xs.length ∧ i = .int .i64 k ∧ Below w.heap.size w wr ∧ w.heap.size + 1 < wr.heap.size ∧ wr.cell? ⟨w.heap.size + 1, 0, none⟩ = some (.int .i64 s0) ∧ wr.cell? ⟨w.heap.size + 1, 1, none⟩ = some (.int .i64 s1) ∧ wr.cell? ⟨w.heap.size + 1, 2, none⟩ = some (.int .i64 s2) ∧ wr.cell? ⟨w.heap.size + 1, 3, none⟩ = some (.int .i64 s3) ∧ wr.cell? ⟨w.heap.size, 0, none⟩ = some (.int .i64 0) ∧ wr.cell? ⟨w.heap.size, 1, none⟩ = some (.int .i64 0) ∧ wr.cell? ⟨w.heap.size, 2, none⟩ = some (.int .i64 0) ∧ wr.cell? ⟨w.heap.size, 3, none⟩ = some (.int .i64 0) ∧ (∀ b j, w.heap.size ≤ b → b ≤ w.heap.size + 1 → wr.frozen? ⟨b, j, none⟩ = false) ∧ isP s0 s1 s2 s3 = true ∧ Hid (addTo (0, 0, 0, 0) (xs.take k) = some (s0, s1, s2, s3))) (fun i _ => xs.length - (intOf i).toNat)
 case atStart => exact ⟨0, 0, 0, 0, 0, by omega, rfl, by exact tB, by simp, by exact tC, by exact tC, by exact tC, by exact tC, by exact tC, by exact tC, by exact tC, by exact tC, by intro b j h1 h2; rcases (show b = w.heap.size ∨ b = w.heap.size + 1 by omega) with rfl | rfl <;> exact tF, by decide +kernel, rfl⟩
 case round =>
  obtain ⟨k, s0, s1, s2, s3, hk, rfl, hB, hz, c0, c1, c2, c3, d0, d1, d2, d3, hfr, hs, HC⟩ := hrel
  by_cases hlt : k < xs.length
  ·
   obtain ⟨b, o, rfl, hb, x0, x1, x2, x3⟩ := HX.out k hlt
   obtain ⟨qa, hqa⟩ : ∃ q, q = xs[k] := ⟨_, rfl⟩
   rw [← hqa] at x0 x1 x2 x3
   obtain ⟨a, b', c, d⟩ := qa
   have HQ := Lib.hid hqa
   clear hqa
   replace x0 := bkeep hB x0 hb
   replace x1 := bkeep hB x1 hb
   replace x2 := bkeep hB x2 hb
   replace x3 := bkeep hB x3 hb
   simp only at x0 x1 x2 x3
   have hbz : b < wr.heap.size := by omega
   cases h1 : isP a b' c d
   ·
    go_wp2_with fail
    refine (purseIs _ _ _ _ _).mono ?_
    rintro z w2 ⟨rfl, hb2⟩
    have hs2 := hb2.size; (try simp at hs2)
    have HN : Hid (addTo (0, 0, 0, 0) xs = none) := addTo_stop hlt HC.out (by rw [← HQ.out]; intro h; unfold isQ at h; rw [h1] at h; cases h)
    have C0 : w2.cell? ⟨w.heap.size + 1, 0, none⟩ = some (.int .i64 s0) := by exact tC
    have D0 : w2.cell? ⟨w.heap.size, 0, none⟩ = some (.int .i64 0) := by exact tC
    have E0 : w2.frozen? ⟨w.heap.size + 1, 0, none⟩ = false := by have h0 := hfr (w.heap.size + 1) 0 (by omega) (by omega); exact tF
    have F0 : w2.frozen? ⟨w.heap.size, 0, none⟩ = false := by have h0 := hfr (w.heap.size) 0 (by omega) (by omega); exact tF
    have C1 : w2.cell? ⟨w.heap.size + 1, 1, none⟩ = some (.int .i64 s1) := by exact tC
    have D1 : w2.cell? ⟨w.heap.size, 1, none⟩ = some (.int .i64 0) := by exact tC
    have E1 : w2.frozen? ⟨w.heap.size + 1, 1, none⟩ = false := by have h0 := hfr (w.heap.size + 1) 1 (by omega) (by omega); exact tF
    have F1 : w2.frozen? ⟨w.heap.size, 1, none⟩ = false := by have h0 := hfr (w.heap.size) 1 (by omega) (by omega); exact tF
    have C2 : w2.cell? ⟨w.heap.size + 1, 2, none⟩ = some (.int .i64 s2) := by exact tC
    have D2 : w2.cell? ⟨w.heap.size, 2, none⟩ = some (.int .i64 0) := by exact tC
    have E2 : w2.frozen? ⟨w.heap.size + 1, 2, none⟩ = false := by have h0 := hfr (w.heap.size + 1) 2 (by omega) (by omega); exact tF
    have F2 : w2.frozen? ⟨w.heap.size, 2, none⟩ = false := by have h0 := hfr (w.heap.size) 2 (by omega) (by omega); exact tF
    have C3 : w2.cell? ⟨w.heap.size + 1, 3, none⟩ = some (.int .i64 s3) := by exact tC
    have D3 : w2.cell? ⟨w.heap.size, 3, none⟩ = some (.int .i64 0) := by exact tC
    have E3 : w2.frozen? ⟨w.heap.size + 1, 3, none⟩ = false := by have h0 := hfr (w.heap.size + 1) 3 (by omega) (by omega); exact tF
    have F3 : w2.frozen? ⟨w.heap.size, 3, none⟩ = false := by have h0 := hfr (w.heap.size) 3 (by omega) (by omega); exact tF
    have hB2 : Below w.heap.size w w2 := by exact tB
    clear c0 c1 c2 c3 d0 d1 d2 d3 hfr hb2 x0 x1 x2 x3 HX
    go_wp2_with fail
    refine bodyPost_ret (v := addV none) (by simp [results, Tryz.results58, go_sem, ↓IntWalk.iteOmega, addV, *]) rfl ⟨by rw [HN.out], ?_⟩
    exact tB
   ·
    have b1 := isP_iff.1 h1
    have b2 := isP_iff.1 hs
    obtain ⟨⟨b10, b11⟩, ⟨b12, b13⟩, ⟨b14, b15⟩, b16, b17⟩ := b1
    obtain ⟨⟨b20, b21⟩, ⟨b22, b23⟩, ⟨b24, b25⟩, b26, b27⟩ := b2
    have i0 : ∀ w, (Instr.index 36 (.agg #[.int .i64 a, .int .i64 b', .int .i64 c, .int .i64 d]) (.int .i64 0)).run Tryz.prog w = .ok (.int .i64 (a)) w := fun _ => by kernel_rfl
    have i1 : ∀ w, (Instr.index 36 (.agg #[.int .i64 a, .int .i64 b', .int .i64 c, .int .i64 d]) (.int .i64 1)).run Tryz.prog w = .ok (.int .i64 (b')) w := fun _ => by kernel_rfl
    have i2 : ∀ w, (Instr.index 36 (.agg #[.int .i64 a, .int .i64 b', .int .i64 c, .int .i64 d]) (.int .i64 2)).run Tryz.prog w = .ok (.int .i64 (c)) w := fun _ => by kernel_rfl
    have i3 : ∀ w, (Instr.index 36 (.agg #[.int .i64 a, .int .i64 b', .int .i64 c, .int .i64 d]) (.int .i64 3)).run Tryz.prog w = .ok (.int .i64 (d)) w := fun _ => by kernel_rfl
    go_wp2_with fail
    refine (purseIs _ _ _ _ _).mono ?_
    rintro z w2 ⟨rfl, hb2⟩
    have hs2 := hb2.size; (try simp at hs2)
    have C0 : w2.cell? ⟨w.heap.size + 1, 0, none⟩ = some (.int .i64 s0) := by exact tC
    have D0 : w2.cell? ⟨w.heap.size, 0, none⟩ = some (.int .i64 0) := by exact tC
    have E0 : w2.frozen? ⟨w.heap.size + 1, 0, none⟩ = false := by have h0 := hfr (w.heap.size + 1) 0 (by omega) (by omega); exact tF
    have F0 : w2.frozen? ⟨w.heap.size, 0, none⟩ = false := by have h0 := hfr (w.heap.size) 0 (by omega) (by omega); exact tF
    have Y0 : w2.cell? ⟨wr.heap.size, 0, none⟩ = some (.int .i64 a) := by exact tC
    have C1 : w2.cell? ⟨w.heap.size + 1, 1, none⟩ = some (.int .i64 s1) := by exact tC
    have D1 : w2.cell? ⟨w.heap.size, 1, none⟩ = some (.int .i64 0) := by exact tC
    have E1 : w2.frozen? ⟨w.heap.size + 1, 1, none⟩ = false := by have h0 := hfr (w.heap.size + 1) 1 (by omega) (by omega); exact tF
    have F1 : w2.frozen? ⟨w.heap.size, 1, none⟩ = false := by have h0 := hfr (w.heap.size) 1 (by omega) (by omega); exact tF
    have Y1 : w2.cell? ⟨wr.heap.size, 1, none⟩ = some (.int .i64 b') := by exact tC
    have C2 : w2.cell? ⟨w.heap.size + 1, 2, none⟩ = some (.int .i64 s2) := by exact tC
    have D2 : w2.cell? ⟨w.heap.size, 2, none⟩ = some (.int .i64 0) := by exact tC
    have E2 : w2.frozen? ⟨w.heap.size + 1, 2, none⟩ = false := by have h0 := hfr (w.heap.size + 1) 2 (by omega) (by omega); exact tF
    have F2 : w2.frozen? ⟨w.heap.size, 2, none⟩ = false := by have h0 := hfr (w.heap.size) 2 (by omega) (by omega); exact tF
    have Y2 : w2.cell? ⟨wr.heap.size, 2, none⟩ = some (.int .i64 c) := by exact tC
    have C3 : w2.cell? ⟨w.heap.size + 1, 3, none⟩ = some (.int .i64 s3) := by exact tC
    have D3 : w2.cell? ⟨w.heap.size, 3, none⟩ = some (.int .i64 0) := by exact tC
    have E3 : w2.frozen? ⟨w.heap.size + 1, 3, none⟩ = false := by have h0 := hfr (w.heap.size + 1) 3 (by omega) (by omega); exact tF
    have F3 : w2.frozen? ⟨w.heap.size, 3, none⟩ = false := by have h0 := hfr (w.heap.size) 3 (by omega) (by omega); exact tF
    have Y3 : w2.cell? ⟨wr.heap.size, 3, none⟩ = some (.int .i64 d) := by exact tC
    have hB2 : Below w.heap.size w w2 := by exact tB
    clear c0 c1 c2 c3 d0 d1 d2 d3 x0 x1 x2 x3 HX
    have HF := Lib.hid hfr
    have HB2 := Lib.hid hb2
    clear hfr hb2
    go_wp2_with fail
    refine wp_loop_rounds 5 ?_; rw [rounds_succ]
    go_wp2_with fail
    rw [rounds_succ]
    go_wp2_with fail
    rw [rounds_succ]
    go_wp2_with fail
    rw [rounds_succ]
    go_wp2_with fail
    rw [rounds_succ]
    go_wp2_with fail
    refine (purseIs _ _ _ _ _).mono ?_
    rintro z w3 ⟨rfl, hb3⟩
    have hs3 := hb3.size; (try simp at hs3)
    have G0 : w3.cell? ⟨w.heap.size + 1, 0, none⟩ = some (.int .i64 (s0 + a)) := by exact tC
    have P0 : w3.cell? ⟨w.heap.size, 0, none⟩ = some (.int .i64 0) := by exact tC
    have M0 : w3.frozen? ⟨w.heap.size, 0, none⟩ = false := by exact tF
    have G1 : w3.cell? ⟨w.heap.size + 1, 1, none⟩ = some (.int .i64 (s1 + b')) := by exact tC
    have P1 : w3.cell? ⟨w.heap.size, 1, none⟩ = some (.int .i64 0) := by exact tC
    have M1 : w3.frozen? ⟨w.heap.size, 1, none⟩ = false := by exact tF
    have G2 : w3.cell? ⟨w.heap.size + 1, 2, none⟩ = some (.int .i64 (s2 + c)) := by exact tC
    have P2 : w3.cell? ⟨w.heap.size, 2, none⟩ = some (.int .i64 0) := by exact tC
    have M2 : w3.frozen? ⟨w.heap.size, 2, none⟩ = false := by exact tF
    have G3 : w3.cell? ⟨w.heap.size + 1, 3, none⟩ = some (.int .i64 (s3 + d)) := by exact tC
    have P3 : w3.cell? ⟨w.heap.size, 3, none⟩ = some (.int .i64 0) := by exact tC
    have M3 : w3.frozen? ⟨w.heap.size, 3, none⟩ = false := by exact tF
    have FR : ∀ b j, w.heap.size ≤ b → b ≤ w.heap.size + 1 → w3.frozen? ⟨b, j, none⟩ = false := by intro b j h1 h2; have h0 := HF.out b j h1 h2; have hb2 := HB2.out; clear HF HB2; exact tF
    have hB3 : Below w.heap.size w w3 := by exact tB
    clear C0 C1 C2 C3 D0 D1 D2 D3 Y0 Y1 Y2 Y3 E0 E1 E2 E3 F0 F1 F2 F3 hb3 hB2
    have hsum : isQ (plusQ (s0, s1, s2, s3) xs[k]) = isP (s0 + a) (s1 + b') (s2 + c) (s3 + d) := by rw [← HQ.out]; rfl
    have HS := Lib.hid hsum
    have hxk : isQ xs[k] = true := by rw [← HQ.out]; exact h1
    have HT := Lib.hid hxk
    clear hsum hxk
    cases h2 : isP (s0 + a) (s1 + b') (s2 + c) (s3 + d)
    ·
     have HN : Hid (addTo (0, 0, 0, 0) xs = none) := addTo_stop hlt HC.out (fun _ => by rw [HS.out, h2])
     go_wp2_with fail
     refine bodyPost_ret (v := addV none) (by simp [results, Tryz.results58, go_sem, ↓IntWalk.iteOmega, addV, *]) rfl ⟨by rw [HN.out], ?_⟩
     exact tB
    ·
     have HN : Hid (addTo (0, 0, 0, 0) (xs.take (k + 1)) = some (s0 + a, s1 + b', s2 + c, s3 + d)) := by
      have h3 := addTo_step hlt HC.out HT.out (by rw [HS.out, h2])
      rw [← HQ.out] at h3; exact h3
     go_wp2_with fail
     go_roundw
     case rel => exact ⟨k + 1, _, _, _, _, by omega, by go_num, by exact tB, by omega, G0, G1, G2, G3, P0, P1, P2, P3, FR, h2, HN⟩
     case measure => simp [intOf]; omega
  ·
   have hk2 : k = xs.length := by omega
   subst hk2
   have HR : Hid (addTo (0, 0, 0, 0) xs = some (s0, s1, s2, s3)) := by have := HC.out; rw [List.take_length] at this; exact this
   have f0 : ∀ j, wr.frozen? ⟨w.heap.size, j, none⟩ = false := fun j => hfr _ j (by omega) (by omega)
   clear hfr
   go_wp2_with fail
   refine bodyPost_ret (v := addV (some (s0, s1, s2, s3))) (by simp [results, Tryz.results58, go_sem, ↓IntWalk.iteOmega, addV, *]) rfl ⟨by rw [HR.out], ?_⟩
   exact tB
set_option maxHeartbeats 4000000 in
theorem refAdd (A : Option Addr) (cp : Nat) (xs : List Q) (w : World) (hl : xs.length ≤ 1000000) (hx : Purses w w.heap.size A xs) :
  Calls Tryz.prog 62 #[.slice A xs.length cp] w fun z w' => z = .returned (addV (addTo (0, 0, 0, 0) xs)) ∧ Below w.heap.size w w' := by
 have HX := Lib.hid hx
 clear hx
 go_enter Tryz.func62, Tryz.ntmps62
 go_wp2_with fail
 go_loopw [5, 6] (fun i _ wr => ∃ (k : Nat) (s0 s1 s2 s3 : Int), k ≤ xs.length ∧ i = .int .i64 k ∧ Below w.heap.size w wr ∧ w.heap.size + 1 < wr.heap.size ∧ wr.cell? ⟨w.heap.size + 1, 0, none⟩ = some (.int .i64 s0) ∧ wr.cell? ⟨w.heap.size + 1, 1, none⟩ = some (.int .i64 s1) ∧ wr.cell? ⟨w.heap.size + 1, 2, none⟩ = some (.int .i64 s2) ∧ wr.cell? ⟨w.heap.size + 1, 3, none⟩ = some (.int .i64 s3) ∧ wr.cell? ⟨w.heap.size, 0, none⟩ = some (.int .i64 0) ∧ wr.cell? ⟨w.heap.size, 1, none⟩ = some (.int .i64 0) ∧ wr.cell? ⟨w.heap.size, 2, none⟩ = some (.int .i64 0) ∧ wr.cell? ⟨w.heap.size, 3, none⟩ = some (.int .i64 0) ∧ (∀ b j, w.heap.size ≤ b → b ≤ w.heap.size + 1 → wr.frozen? ⟨b, j, none⟩ = false) ∧ isP s0 s1 s2 s3 = true ∧ Hid (addTo (0, 0, 0, 0) (xs.take k) = some (s0, s1, s2, s3))) (fun i _ _ => xs.length - (intOf i).toNat)
 case atStart => exact ⟨0, 0, 0, 0, 0, by omega, rfl, by exact tB, by simp, by exact tC, by exact tC, by exact tC, by exact tC, by exact tC, by exact tC, by exact tC, by exact tC, by intro b j h1 h2; rcases (show b = w.heap.size ∨ b = w.heap.size + 1 by omega) with rfl | rfl <;> exact tF, by decide +kernel, rfl⟩
 case round =>
  obtain ⟨k, s0, s1, s2, s3, hk, rfl, hB, hz, c0, c1, c2, c3, d0, d1, d2, d3, hfr, hs, HC⟩ := hrel
  by_cases hlt : k < xs.length
  ·
   obtain ⟨b, o, rfl, hb, x0, x1, x2, x3⟩ := HX.out k hlt
   obtain ⟨qa, hqa⟩ : ∃ q, q = xs[k] := ⟨_, rfl⟩
   rw [← hqa] at x0 x1 x2 x3
   obtain ⟨a, b', c, d⟩ := qa
   have HQ := Lib.hid hqa
   clear hqa
   replace x0 := bkeep hB x0 hb
   replace x1 := bkeep hB x1 hb
   replace x2 := bkeep hB x2 hb
   replace x3 := bkeep hB x3 hb
   simp only at x0 x1 x2 x3
   have hbz : b < wr.heap.size := by omega
   have hsum : isQ (plusQ (s0, s1, s2, s3) xs[k]) = isP (s0 + a) (s1 + b') (s2 + c) (s3 + d) := by rw [← HQ.out]; rfl
   have HS := Lib.hid hsum
   clear hsum
   cases h1 : isP a b' c d
   ·
    go_wp2_with fail
    refine (refPIs _ _ _ _ _).mono ?_
    rintro z w2 ⟨rfl, hb2⟩
    have hs2 := hb2.size; (try simp at hs2)
    have HN : Hid (addTo (0, 0, 0, 0) xs = none) := addTo_stop hlt HC.out (by rw [← HQ.out]; intro h; unfold isQ at h; rw [h1] at h; cases h)
    have C0 : w2.cell? ⟨w.heap.size + 1, 0, none⟩ = some (.int .i64 s0) := by exact tC
    have D0 : w2.cell? ⟨w.heap.size, 0, none⟩ = some (.int .i64 0) := by exact tC
    have E0 : w2.frozen? ⟨w.heap.size + 1, 0, none⟩ = false := by have h0 := hfr (w.heap.size + 1) 0 (by omega) (by omega); exact tF
    have F0 : w2.frozen? ⟨w.heap.size, 0, none⟩ = false := by have h0 := hfr (w.heap.size) 0 (by omega) (by omega); exact tF
    have C1 : w2.cell? ⟨w.heap.size + 1, 1, none⟩ = some (.int .i64 s1) := by exact tC
    have D1 : w2.cell? ⟨w.heap.size, 1, none⟩ = some (.int .i64 0) := by exact tC
    have E1 : w2.frozen? ⟨w.heap.size + 1, 1, none⟩ = false := by have h0 := hfr (w.heap.size + 1) 1 (by omega) (by omega); exact tF
    have F1 : w2.frozen? ⟨w.heap.size, 1, none⟩ = false := by have h0 := hfr (w.heap.size) 1 (by omega) (by omega); exact tF
    have C2 : w2.cell? ⟨w.heap.size + 1, 2, none⟩ = some (.int .i64 s2) := by exact tC
    have D2 : w2.cell? ⟨w.heap.size, 2, none⟩ = some (.int .i64 0) := by exact tC
    have E2 : w2.frozen? ⟨w.heap.size + 1, 2, none⟩ = false := by have h0 := hfr (w.heap.size + 1) 2 (by omega) (by omega); exact tF
    have F2 : w2.frozen? ⟨w.heap.size, 2, none⟩ = false := by have h0 := hfr (w.heap.size) 2 (by omega) (by omega); exact tF
    have C3 : w2.cell? ⟨w.heap.size + 1, 3, none⟩ = some (.int .i64 s3) := by exact tC
    have D3 : w2.cell? ⟨w.heap.size, 3, none⟩ = some (.int .i64 0) := by exact tC
    have E3 : w2.frozen? ⟨w.heap.size + 1, 3, none⟩ = false := by have h0 := hfr (w.heap.size + 1) 3 (by omega) (by omega); exact tF
    have F3 : w2.frozen? ⟨w.heap.size, 3, none⟩ = false := by have h0 := hfr (w.heap.size) 3 (by omega) (by omega); exact tF
    have hB2 : Below w.heap.size w w2 := by exact tB
    clear c0 c1 c2 c3 d0 d1 d2 d3 hfr hb2 x0 x1 x2 x3 HX
    go_wp2_with fail
    refine bodyPost_ret (v := addV none) (by simp [results, Tryz.results62, go_sem, ↓IntWalk.iteOmega, addV, *]) rfl ⟨by rw [HN.out], ?_⟩
    exact tB
   ·
    have hxk : isQ xs[k] = true := by rw [← HQ.out]; exact h1
    have HT := Lib.hid hxk
    clear hxk
    obtain ⟨⟨b10, b11⟩, ⟨b12, b13⟩, ⟨b14, b15⟩, b16, b17⟩ := isP_iff.1 h1
    obtain ⟨⟨b20, b21⟩, ⟨b22, b23⟩, ⟨b24, b25⟩, b26, b27⟩ := isP_iff.1 hs
    go_wp2_with fail
    refine (refPIs _ _ _ _ _).mono ?_
    rintro z w2 ⟨rfl, hb2⟩
    have hs2 := hb2.size; (try simp at hs2)
    have C0 : w2.cell? ⟨w.heap.size + 1, 0, none⟩ = some (.int .i64 s0) := by exact tC
    have D0 : w2.cell? ⟨w.heap.size, 0, none⟩ = some (.int .i64 0) := by exact tC
    have E0 : w2.frozen? ⟨w.heap.size + 1, 0, none⟩ = false := by have h0 := hfr (w.heap.size + 1) 0 (by omega) (by omega); exact tF
    have F0 : w2.frozen? ⟨w.heap.size, 0, none⟩ = false := by have h0 := hfr (w.heap.size) 0 (by omega) (by omega); exact tF
    have X0 : w2.cell? ⟨b, o + k * 4, none⟩ = some (.int .i64 a) := by exact tC
    have C1 : w2.cell? ⟨w.heap.size + 1, 1, none⟩ = some (.int .i64 s1) := by exact tC
    have D1 : w2.cell? ⟨w.heap.size, 1, none⟩ = some (.int .i64 0) := by exact tC
    have E1 : w2.frozen? ⟨w.heap.size + 1, 1, none⟩ = false := by have h0 := hfr (w.heap.size + 1) 1 (by omega) (by omega); exact tF
    have F1 : w2.frozen? ⟨w.heap.size, 1, none⟩ = false := by have h0 := hfr (w.heap.size) 1 (by omega) (by omega); exact tF
    have X1 : w2.cell? ⟨b, o + k * 4 + 1, none⟩ = some (.int .i64 b') := by exact tC
    have C2 : w2.cell? ⟨w.heap.size + 1, 2, none⟩ = some (.int .i64 s2) := by exact tC
    have D2 : w2.cell? ⟨w.heap.size, 2, none⟩ = some (.int .i64 0) := by exact tC
    have E2 : w2.frozen? ⟨w.heap.size + 1, 2, none⟩ = false := by have h0 := hfr (w.heap.size + 1) 2 (by omega) (by omega); exact tF
    have F2 : w2.frozen? ⟨w.heap.size, 2, none⟩ = false := by have h0 := hfr (w.heap.size) 2 (by omega) (by omega); exact tF
    have X2 : w2.cell? ⟨b, o + k * 4 + 2, none⟩ = some (.int .i64 c) := by exact tC
    have C3 : w2.cell? ⟨w.heap.size + 1, 3, none⟩ = some (.int .i64 s3) := by exact tC
    have D3 : w2.cell? ⟨w.heap.size, 3, none⟩ = some (.int .i64 0) := by exact tC
    have E3 : w2.frozen? ⟨w.heap.size + 1, 3, none⟩ = false := by have h0 := hfr (w.heap.size + 1) 3 (by omega) (by omega); exact tF
    have F3 : w2.frozen? ⟨w.heap.size, 3, none⟩ = false := by have h0 := hfr (w.heap.size) 3 (by omega) (by omega); exact tF
    have X3 : w2.cell? ⟨b, o + k * 4 + 3, none⟩ = some (.int .i64 d) := by exact tC
    have hB2 : Below w.heap.size w w2 := by exact tB
    have HF := Lib.hid hfr
    have HB2 := Lib.hid hb2
    clear c0 c1 c2 c3 d0 d1 d2 d3 hfr hb2 x0 x1 x2 x3 HX
    have hb2z : b < w2.heap.size := by omega
    have hbn : b ≠ w.heap.size + 1 := by omega
    go_wp2_with fail
    refine wp_loop_rounds 5 ?_; rw [rounds_succ]
    by_cases g0 : 1152921504606846976 - s0 < a
    ·
     have HN : Hid (addTo (0, 0, 0, 0) xs = none) := addTo_stop hlt HC.out (fun _ => by rw [HS.out, ← Bool.not_eq_true, isP_iff]; omega)
     go_wp2_with fail
     go_quiet (fail)
     go_wp2_with fail
     refine bodyPost_ret (v := addV none) (by simp [results, Tryz.results62, go_sem, ↓IntWalk.iteOmega, addV, *]) rfl ⟨by rw [HN.out], ?_⟩
     exact tB
    go_wp2_with fail
    go_quiet (fail)
    go_wp2_with fail
    go_region
    go_wp2_with fail
    rw [rounds_succ]
    by_cases g1 : 1152921504606846976 - s1 < b'
    ·
     have HN : Hid (addTo (0, 0, 0, 0) xs = none) := addTo_stop hlt HC.out (fun _ => by rw [HS.out, ← Bool.not_eq_true, isP_iff]; omega)
     go_wp2_with fail
     go_quiet (fail)
     go_wp2_with fail
     refine bodyPost_ret (v := addV none) (by simp [results, Tryz.results62, go_sem, ↓IntWalk.iteOmega, addV, *]) rfl ⟨by rw [HN.out], ?_⟩
     exact tB
    go_wp2_with fail
    go_quiet (fail)
    go_wp2_with fail
    go_region
    go_wp2_with fail
    rw [rounds_succ]
    by_cases g2 : 1152921504606846976 - s2 < c
    ·
     have HN : Hid (addTo (0, 0, 0, 0) xs = none) := addTo_stop hlt HC.out (fun _ => by rw [HS.out, ← Bool.not_eq_true, isP_iff]; omega)
     go_wp2_with fail
     go_quiet (fail)
     go_wp2_with fail
     refine bodyPost_ret (v := addV none) (by simp [results, Tryz.results62, go_sem, ↓IntWalk.iteOmega, addV, *]) rfl ⟨by rw [HN.out], ?_⟩
     exact tB
    go_wp2_with fail
    go_quiet (fail)
    go_wp2_with fail
    go_region
    go_wp2_with fail
    rw [rounds_succ]
    by_cases g3 : 1152921504606846976 - s3 < d
    ·
     have HN : Hid (addTo (0, 0, 0, 0) xs = none) := addTo_stop hlt HC.out (fun _ => by rw [HS.out, ← Bool.not_eq_true, isP_iff]; omega)
     go_wp2_with fail
     go_quiet (fail)
     go_wp2_with fail
     refine bodyPost_ret (v := addV none) (by simp [results, Tryz.results62, go_sem, ↓IntWalk.iteOmega, addV, *]) rfl ⟨by rw [HN.out], ?_⟩
     exact tB
    go_wp2_with fail
    go_quiet (fail)
    go_wp2_with fail
    go_region
    go_wp2_with fail
    rw [rounds_succ]
    have h2 : isP (s0 + a) (s1 + b') (s2 + c) (s3 + d) = true := by rw [isP_iff]; omega
    have HN : Hid (addTo (0, 0, 0, 0) (xs.take (k + 1)) = some (s0 + a, s1 + b', s2 + c, s3 + d)) := by
     have h3 := addTo_step hlt HC.out HT.out (by rw [HS.out, h2])
     rw [← HQ.out] at h3; exact h3
    go_wp2_with fail
    go_roundw
    case rel => exact ⟨k + 1, s0 + a, s1 + b', s2 + c, s3 + d, by omega, by go_num, by go_light; exact tB, by simp; omega, by go_light; exact tC, by go_light; exact tC, by go_light; exact tC, by go_light; exact tC, by go_light; exact tC, by go_light; exact tC, by go_light; exact tC, by go_light; exact tC, by go_light; intro b1 j h3 h4; have h0 := HF.out b1 j h3 h4; have hb5 := HB2.out; clear HF HB2; exact tF, h2, HN⟩
    case measure => simp [intOf]; omega
  ·
   have hk2 : k = xs.length := by omega
   subst hk2
   have HR : Hid (addTo (0, 0, 0, 0) xs = some (s0, s1, s2, s3)) := by have := HC.out; rw [List.take_length] at this; exact this
   have f0 : ∀ j, wr.frozen? ⟨w.heap.size, j, none⟩ = false := fun j => hfr _ j (by omega) (by omega)
   clear hfr
   go_wp2_with fail
   refine bodyPost_ret (v := addV (some (s0, s1, s2, s3))) (by simp [results, Tryz.results62, go_sem, ↓IntWalk.iteOmega, addV, *]) rfl ⟨by rw [HR.out], ?_⟩
   exact tB
end Go.Proofs.YtdlbiobjnohfbaaGreat
