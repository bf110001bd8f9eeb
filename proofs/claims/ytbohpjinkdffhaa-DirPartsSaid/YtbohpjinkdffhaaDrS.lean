/- The directory's laws: changes as an argument; heavy; maps. -/
import Derived.Test.YtbohpjinkdffhaaDrR
namespace Go.Proofs.Ytbohpjinkdffhaa
open Go.RowKit
set_option linter.unusedVariables false
set_option linter.unusedSimpArgs false

def chV (c : Ch) : List Value := [.int .i64 c.kd, .int .i64 c.zo, .int .i64 c.ep, .int .i64 c.mv, .string c.ky]
theorem flatC_at : ∀ (l : List Ch) (j : Nat) (h : j < l.length), (l.flatMap chV)[j * 5]? = some (.int .i64 l[j].kd) ∧ (l.flatMap chV)[j * 5 + 1]? = some (.int .i64 l[j].zo) ∧ (l.flatMap chV)[j * 5 + 2]? = some (.int .i64 l[j].ep) ∧ (l.flatMap chV)[j * 5 + 3]? = some (.int .i64 l[j].mv) ∧ (l.flatMap chV)[j * 5 + 4]? = some (.string l[j].ky)
  | [], j, h => by cases h
  | a :: r, 0, h => by simp [chV]
  | a :: r, j + 1, h => by
    have := flatC_at r j (by simpa using h)
    have e : (j + 1) * 5 = j * 5 + 5 := by omega
    simp only [List.flatMap_cons, chV, List.getElem_cons_succ] at this ⊢
    rw [e]
    exact this
theorem ch_at {w : World} {B : Nat} {A : Option Addr} {n c : Nat} {xs : List Ch} (h : Cells w B A n c 5 (xs.flatMap chV)) {i : Nat} (hi : i < xs.length) :
    ∃ b o, A = some ⟨b, o, none⟩ ∧ b < B ∧ w.cell? ⟨b, o + i * 5, none⟩ = some (.int .i64 xs[i].kd) ∧ w.cell? ⟨b, o + i * 5 + 1, none⟩ = some (.int .i64 xs[i].zo) ∧ w.cell? ⟨b, o + i * 5 + 2, none⟩ = some (.int .i64 xs[i].ep) ∧ w.cell? ⟨b, o + i * 5 + 3, none⟩ = some (.int .i64 xs[i].mv) ∧ w.cell? ⟨b, o + i * 5 + 4, none⟩ = some (.string xs[i].ky) := by
  obtain ⟨r0, r1, r2, r3, r4⟩ := flatC_at xs i hi
  obtain ⟨b, o, e, hb, c0⟩ := h.2.2 _ _ r0
  subst e
  have key : ∀ j u, (xs.flatMap chV)[j]? = some u → w.cell? ⟨b, o + j, none⟩ = some u := fun j u hj => by
    obtain ⟨b', o', e', _, c'⟩ := h.2.2 _ _ hj
    injection e' with e'
    injection e' with e1 e2
    subst e1 e2
    exact c'
  simp only [Nat.add_assoc]
  exact ⟨b, o, rfl, hb, c0, key _ _ r1, key _ _ r2, key _ _ r3, key _ _ r4⟩
theorem cells_lt {w w1 : World} {B : Nat} {A : Option Addr} {m c size : Nat} {news : List Value} (h : Cells w B A m c size news) (hb : Below B w w1) : Cells w1 B A m c size news :=
  ⟨h.1, h.2.1, fun j u hu => by obtain ⟨b, o, e, hlt, hc⟩ := h.2.2 j u hu; exact ⟨b, o, e, hlt, bkeep hb hc hlt⟩⟩
set_option maxHeartbeats 4000000 in
set_option maxRecDepth 10000 in
theorem drHeavy (A : Option Addr) (c : Nat) (xs : List Ch) (w : World) (hx : Cells w w.heap.size A xs.length c 5 (xs.flatMap chV)) :
    Calls Try.prog 9 #[.slice A xs.length c] w fun e w' => ∃ b, e = .returned (.bool b) ∧ Below w.heap.size w w' := by
  have HX := Lib.hid hx
  clear hx
  go_enter Try.func9, Try.ntmps9
  go_wp2_with fail
  go_loopw [3] (fun iv wr => ∃ i : Nat, i ≤ min xs.length 100 ∧ iv = .int .i64 i ∧ Below w.heap.size w wr) (fun iv _ => min xs.length 100 - (intOf iv).toNat)
  case atStart => exact ⟨0, Nat.zero_le _, rfl, by ((repeat (first | (with_reducible exact Below.refl _ _) | (with_reducible assumption) | ((with_reducible refine b_set ?_ ?_); · (first | omega | (simp; done) | (simp; omega))) | ((with_reducible refine b_alloc ?_ ?_); · (first | omega | (simp; done) | (simp; omega))) | (with_reducible refine Below.drew ?_) | (with_reducible refine b_drewN ?_) | ((with_reducible refine b_call (by assumption) ?_ ?_); · (first | omega | (simp; done) | (simp; omega))))); done)⟩
  case round =>
    obtain ⟨i, hil, rfl, hBw⟩ := hrel
    have HBW := Lib.hid hBw
    by_cases hlt : i < min xs.length 100
    · have q3 : (i : Int) < (xs.length : Int) := by omega
      have q4 : (i : Int) < 100 := by omega
      obtain ⟨qb, qo, rfl, hqb, _, _, _, _, c4⟩ := ch_at HX.out (show i < xs.length by omega)
      have c4 := bkeep hBw c4 hqb
      obtain ⟨ky, hky⟩ : ∃ k, k = xs[i].ky := ⟨_, rfl⟩
      rw [← hky] at c4
      clear hBw hky
      by_cases hs : (60 : Int) < (ky.size : Int)
      · go_wp2_with fail
        go_ret
        first | exact ⟨_, rfl, HBW.out⟩ | exact ⟨rfl, HBW.out⟩
      · go_wp2_with fail
        exact ⟨⟨i + 1, hlt, by go_num, HBW.out⟩, by simp [intOf]; omega⟩
    · obtain rfl : min xs.length 100 = i := by omega
      clear hBw
      by_cases q3 : ((min xs.length 100 : Nat) : Int) < (xs.length : Int)
      · have q4 : ¬ ((min xs.length 100 : Nat) : Int) < 100 := by omega
        go_wp2_with fail
        go_ret
        exact ⟨.inl rfl, HBW.out⟩
      · go_wp2_with fail
        go_ret
        exact ⟨.inl rfl, HBW.out⟩
theorem znNeq (z : Zn) (w : World) : (binOp .neq 39 (.agg #[.int .i64 z.id, .string z.fr, .string z.tt, .int .i64 z.ow, .int .i64 z.ep, .int .i64 z.pd, .int .i64 z.mv, .string z.ky, .int .i64 z.nw]) (.agg #[.int .i64 z.id, .string z.fr, .string z.tt, .int .i64 z.ow, .int .i64 z.ep, .int .i64 z.pd, .int .i64 z.mv, .string z.ky, .int .i64 z.nw])).run Try.prog w = .ok (.bool false) w := by
  go_simp
set_option maxHeartbeats 8000000 in
set_option maxRecDepth 10000 in
/-- two maps that are one -/
theorem drMaps (ver nxt : Int) (l : List Zn) (B1 B2 : Nat) (v1 v2 : Value) (w : World) (h1 : w.ownsRow B1 39 9 v1 l.length (flatZ l)) (h2 : w.ownsRow B2 39 9 v2 l.length (flatZ l)) (hl : l.length ≤ 100000) :
    Calls Try.prog 27 #[.agg #[.int .i64 ver, .int .i64 nxt, v1], .agg #[.int .i64 ver, .int .i64 nxt, v2]] w fun e w' => e = .returned (.bool true) ∧ Below w.heap.size w w' := by
  have H1 := Lib.hid h1
  have H2 := Lib.hid h2
  obtain ⟨A1, c1, e1, _, _, _⟩ := own_slice h1
  obtain ⟨A2, c2, e2, _, _, _⟩ := own_slice h2
  subst e1 e2
  clear h1 h2
  go_enter Try.func27, Try.ntmps27
  go_wp2_with fail
  have hP : Whl ((w.alloc (.cells #[.int .i64 ver, .int .i64 nxt, .slice A1 l.length c1] 33)).alloc (.cells #[.int .i64 ver, .int .i64 nxt, .slice A2 l.length c2] 33)) w.heap.size 33 #[.int .i64 ver, .int .i64 nxt, .slice A1 l.length c1] := (Whl.new rfl).alloc _
  have hQ : Whl ((w.alloc (.cells #[.int .i64 ver, .int .i64 nxt, .slice A1 l.length c1] 33)).alloc (.cells #[.int .i64 ver, .int .i64 nxt, .slice A2 l.length c2] 33)) (w.heap.size + 1) 33 #[.int .i64 ver, .int .i64 nxt, .slice A2 l.length c2] := Whl.new (by simp)
  have hBV : Below w.heap.size w ((w.alloc (.cells #[.int .i64 ver, .int .i64 nxt, .slice A1 l.length c1] 33)).alloc (.cells #[.int .i64 ver, .int .i64 nxt, .slice A2 l.length c2] 33)) := ((Below.refl _ _).alloc (Nat.le_refl _) _).alloc (by simp) _
  have HP := Lib.hid hP
  have HQ := Lib.hid hQ
  have HBV := Lib.hid hBV
  clear hP hQ hBV
  generalize ((w.alloc (.cells #[.int .i64 ver, .int .i64 nxt, .slice A1 l.length c1] 33)).alloc (.cells #[.int .i64 ver, .int .i64 nxt, .slice A2 l.length c2] 33)) = V at *
  go_loopw [5] (fun iv wr => ∃ i : Nat, i ≤ l.length ∧ iv = .int .i64 i ∧ Below V.heap.size V wr) (fun iv _ => l.length - (intOf iv).toNat)
  case atStart => exact ⟨0, Nat.zero_le _, rfl, Below.refl _ _⟩
  case round =>
    obtain ⟨i, hil, rfl, hBw⟩ := hrel
    have HBW := Lib.hid hBw
    have HWW := Lib.hid (HBV.out.trans (hBw.mono HBV.out.size))
    have k1 := bkeep hBw (HP.out.cell 2) HP.out.low
    have k2 := bkeep hBw (HQ.out.cell 2) HQ.out.low
    have k1 : wr.cell? ⟨w.heap.size, 2, none⟩ = some (.slice A1 l.length c1) := k1
    have k2 : wr.cell? ⟨w.heap.size + 1, 2, none⟩ = some (.slice A2 l.length c2) := k2
    clear hBw
    by_cases hlt : i < l.length
    · have q3 : (i : Int) < (l.length : Int) := by omega
      have hr1 := row_belowZ H1.out HWW.out
      have hr2 := row_belowZ H2.out HWW.out
      obtain ⟨g1, d1, e5, _, hg1, _, _⟩ := own_form hr1 (by omega)
      injection e5 with e5 e6 e7
      subst e5 e7
      obtain ⟨g2, d2, e5, _, hg2, _, _⟩ := own_form hr2 (by omega)
      injection e5 with e5 e6 e7
      subst e5 e7
      obtain ⟨z, hz⟩ : ∃ z, z = l[i] := ⟨_, rfl⟩
      obtain ⟨a0, a1, a2, a3, a4, a5, a6, a7, a8⟩ := rowZ_at hr1 hlt
      obtain ⟨b0, b1, b2, b3, b4, b5, b6, b7, b8⟩ := rowZ_at hr2 hlt
      rw [← hz] at a0 a1 a2 a3 a4 a5 a6 a7 a8 b0 b1 b2 b3 b4 b5 b6 b7 b8
      have hne := znNeq z
      clear hr1 hr2 hz
      go_wp2_with fail
      go_quiet (fail)
      go_wp2_with fail
      exact ⟨⟨i + 1, hlt, by go_num, b_drewN HBW.out⟩, measZ hlt⟩
    · obtain rfl : l.length = i := by omega
      go_wp2_with fail
      go_ret
      exact ⟨rfl, HWW.out⟩
theorem Deed.det {hosts : List Int} {m m1 m2 : Mp} {c : Ch} {i : Nat} {h : i < m.zs.length} (h1 : Deed hosts m c i h m1) (h2 : Deed hosts m c i h m2) : m1 = m2 := by
  cases h1 <;> cases h2 <;> first | rfl | omega
theorem Applies.det {hosts : List Int} {m m1 m2 : Mp} {c : Ch} (h1 : Applies hosts m c m1) (h2 : Applies hosts m c m2) : m1 = m2 := by
  obtain ⟨i, hi, hid, hf, d1, hd1, rfl⟩ := h1.deed
  obtain ⟨j, hj, hjd, hjf, d2, hd2, rfl⟩ := h2.deed
  have e : i = j := by
    rcases Nat.lt_trichotomy i j with h | h | h
    · exact absurd hid (hjf i hi h)
    · exact h
    · exact absurd hjd (hf j hj h)
  subst e
  rw [hd1.det hd2]
end Go.Proofs.Ytbohpjinkdffhaa
