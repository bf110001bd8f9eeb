/- The directory in memory behind a store; whether a host is among the hosts. -/
import Derived.Test.YtbohpjinkdffhaaDrD
namespace Go.Proofs.Ytbohpjinkdffhaa
open Go.RowKit
set_option linter.unusedVariables false
set_option linter.unusedSimpArgs false

theorem Touch.mono'' {D D' : Nat → Prop} {w w' : World} (h : Touch D w w') (hD : ∀ k, k < w.heap.size → D k → D' k) : Touch D' w w' := ⟨h.os, h.tape, h.output, h.size, fun k hk hn => h.block k hk (fun hd => hn (hD k hk hd))⟩
theorem flatZ_setcell : ∀ (l : List Zn) (j : Nat) (h : j < l.length) (k : Nat) (hk : k < 9) (z : Zn) (v : Value) (hz : znV z = (znV l[j]).set k v), flatZ (l.set j z) = (flatZ l).set (j * 9 + k) v
  | [], j, h, _, _, _, _, _ => by cases h
  | a :: r, 0, h, k, hk, z, v, hz => by
    have e : flatZ (a :: r) = znV a ++ flatZ r := rfl
    have e2 : flatZ ((a :: r).set 0 z) = znV z ++ flatZ r := rfl
    rw [e, e2, hz, List.set_append_left _ _ (by simp [znV]; omega)]
    simp
  | a :: r, j + 1, h, k, hk, z, v, hz => by
    have := flatZ_setcell r j (by simpa using h) k hk z v hz
    have e : (j + 1) * 9 + k = (j * 9 + k) + 9 := by omega
    have e1 : flatZ (a :: r) = znV a ++ flatZ r := rfl
    have e2 : flatZ ((a :: r).set (j + 1) z) = znV a ++ flatZ (r.set j z) := rfl
    rw [e1, e2, this, e, List.set_append_right _ _ (by simp [znV])]
    simp [znV]
theorem DrH.len {w : World} {B d : Nat} {hv zv : Value} {hosts : List Int} {m : Mp} (h : DrH w B d hv zv hosts m) {n : Nat} {A : Option Addr} {c : Nat} (e : zv = .slice A n c) : n = m.zs.length := by
  obtain ⟨A', c', e', _⟩ := own_slice h.row
  rw [e] at e'; injection e'
theorem DrH.setcell {w : World} {B d g c n : Nat} {hv : Value} {hosts : List Int} {m : Mp} (h : DrH w B d hv (.slice (some ⟨g, 0, none⟩) n c) hosts m) {j : Nat} (hj : j < m.zs.length) {k : Nat} (hk : k < 9) {z : Zn} {v : Value} (hz : znV z = (znV m.zs[j]).set k v) :
    DrH (w.setCell ⟨g, j * 9 + k, none⟩ v) B d hv (.slice (some ⟨g, 0, none⟩) n c) hosts ⟨m.ver, m.nxt, m.zs.set j z⟩ := by
  obtain rfl := h.len rfl
  refine ⟨h.blk.far (fun e => h.za g rfl e.symm), own_set_ne h.hrow (fun q hq e => ?_), ?_, h.ha, h.za, h.hz, h.low⟩
  · have := h.hz q hq; exact this (by rw [e]; rfl)
  · show World.ownsRow _ B _ 9 _ (m.zs.set j z).length (flatZ (m.zs.set j z))
    rw [flatZ_setcell m.zs j hj k hk z v hz, List.length_set]
    exact (h.row.stored (j * 9 + k) v).1
theorem DrH.set2 {w : World} {B d g c n : Nat} {hv : Value} {hosts : List Int} {m : Mp} (h : DrH w B d hv (.slice (some ⟨g, 0, none⟩) n c) hosts m) {j : Nat} (hj : j < m.zs.length) {k k' : Nat} (hk : k < 9) (hk' : k' < 9) {z z' : Zn} {v v' : Value} (hz : znV z = (znV m.zs[j]).set k v) (hz' : znV z' = (znV z).set k' v') :
    DrH ((w.setCell ⟨g, j * 9 + k, none⟩ v).setCell ⟨g, j * 9 + k', none⟩ v') B d hv (.slice (some ⟨g, 0, none⟩) n c) hosts ⟨m.ver, m.nxt, m.zs.set j z'⟩ := by
  have h1 := h.setcell hj hk hz
  have h2 := h1.setcell (j := j) (by simpa using hj) hk' (z := z') (v := v') (by simpa using hz')
  simpa using h2
theorem DrH.setver {w : World} {B d : Nat} {hv zv : Value} {hosts : List Int} {m : Mp} (h : DrH w B d hv zv hosts m) (n : Int) : DrH (w.setCell ⟨d, 1, none⟩ (.int .i64 n)) B d hv zv hosts ⟨n, m.nxt, m.zs⟩ :=
  ⟨h.blk.set 1 _, own_set_ne h.hrow (fun g hg => h.ha g hg), own_set_ne h.row (fun g hg => h.za g hg), h.ha, h.za, h.hz, h.low⟩
theorem DrH.setnxt {w : World} {B d : Nat} {hv zv : Value} {hosts : List Int} {m : Mp} (h : DrH w B d hv zv hosts m) (n : Int) : DrH (w.setCell ⟨d, 2, none⟩ (.int .i64 n)) B d hv zv hosts ⟨m.ver, n, m.zs⟩ :=
  ⟨h.blk.set 2 _, own_set_ne h.hrow (fun g hg => h.ha g hg), own_set_ne h.row (fun g hg => h.za g hg), h.ha, h.za, h.hz, h.low⟩
theorem intsV_at {l : List Int} {j : Nat} (h : j < l.length) : (intsV l)[j]? = some (.int .i64 l[j]) := by unfold intsV; rw [List.getElem?_map, List.getElem?_eq_getElem h]; rfl
def Fz (d : Nat) (zv : Value) (k : Nat) : Prop := k = d ∨ zv.ownBlock = some k
/-- what a deed answers, and the directory behind it -/
def DeedQ (B d : Nat) (hv zv : Value) (hosts : List Int) (m : Mp) (c : Ch) (i : Nat) (h : i < m.zs.length) (w : World) (e : Ending) (w' : World) : Prop :=
  (∃ (m1 : Mp) (zv' : Value), Deed hosts m c i h m1 ∧ e = .returned (.bool true) ∧ DrH w' B d hv zv' hosts m1 ∧ Touch (Fz d zv) w w' ∧ (∀ k, zv'.ownBlock = some k → zv.ownBlock = some k ∨ w.heap.size ≤ k)) ∨
  ((∀ m1, ¬ Deed hosts m c i h m1) ∧ e = .returned (.bool false) ∧ Below w.heap.size w w')
set_option maxHeartbeats 4000000 in
set_option maxRecDepth 10000 in
theorem drIdx (B : Nat) (hv : Value) (l : List Int) (n : Int) (w : World) (h : w.ownsRow B 3 1 hv l.length (intsV l)) (hl : l.length ≤ 1000) :
    Calls Try.prog 99 #[hv, .int .i64 n] w fun e w' => ∃ k : Int, e = .returned (.int .i64 k) ∧ ((k = -1 ∧ n ∉ l) ∨ (0 ≤ k ∧ n ∈ l)) ∧ Below w.heap.size w w' := by
  have HR := Lib.hid h
  obtain ⟨A, cc, hzv, _, hnc, hcm⟩ := own_slice h
  subst hzv
  clear h
  go_enter Try.func99, Try.ntmps99
  go_wp2_with fail
  go_loopw [8] (fun iv wr => ∃ i : Nat, i ≤ l.length ∧ iv = .int .i64 i ∧ (∀ j (hj : j < l.length), j < i → l[j] ≠ n) ∧ Below w.heap.size w wr) (fun iv _ => l.length - (intOf iv).toNat)
  case atStart => exact ⟨0, Nat.zero_le _, rfl, fun j hj h => by omega, Below.refl _ _⟩
  case round =>
    obtain ⟨i, hil, rfl, hno, hBw⟩ := hrel
    have HBW := Lib.hid hBw
    have HNO := Lib.hid hno
    by_cases hlt : i < l.length
    · have q3 : (i : Int) < (l.length : Int) := by omega
      have hr := row_belowZ HR.out hBw
      obtain ⟨gu, ku, e5, _, hgu, _, _⟩ := own_form hr (by omega)
      injection e5 with e5 e6 e7
      subst e5 e7
      have a0 := (hr.cellAt i (by omega)).trans (intsV_at hlt)
      obtain ⟨z, hz⟩ : ∃ z, z = l[i] := ⟨_, rfl⟩
      rw [← hz] at a0
      have HZ := Lib.hid hz
      clear hr hBw hz hno
      by_cases hk : n = z
      · go_wp2_with fail
        go_ret
        exact ⟨_, rfl, .inr ⟨by omega, by rw [HZ.out]; exact List.getElem_mem hlt⟩, HBW.out⟩
      · go_wp2_with fail
        refine ⟨⟨i + 1, hlt, by go_num, fun j hj h => ?_, HBW.out⟩, measZ hlt⟩
        by_cases e : j = i
        · subst e; rw [← HZ.out]; exact fun e => hk e.symm
        · exact HNO.out j hj (by omega)
    · obtain rfl : l.length = i := by omega
      go_wp2_with fail
      go_ret
      exact ⟨_, rfl, .inl ⟨rfl, fun hm => by obtain ⟨j, hj, e⟩ := List.getElem_of_mem hm; exact HNO.out j hj hj e⟩, HBW.out⟩
theorem drHas (B : Nat) (hv : Value) (l : List Int) (n : Int) (w : World) (h : w.ownsRow B 3 1 hv l.length (intsV l)) (hl : l.length ≤ 1000) :
    Calls Try.prog 91 #[hv, .int .i64 n] w fun e w' => e = .returned (.bool (decide (n ∈ l))) ∧ Below w.heap.size w w' := by
  by_cases hm : n ∈ l
  · go_enter Try.func91, Try.ntmps91
    go_wp2_with (first
      | (go_at_call 99; refine (drIdx B hv l n _ h hl).mono ?_; rintro e w2 ⟨k, rfl, hk, hb2⟩; have hk0 : 0 ≤ k := (by rcases hk with ⟨_, h⟩ | ⟨h, _⟩; exact absurd hm h; exact h); clear hk)
      | fail)
    go_ret
    exact ⟨ret_bool (by simp [*]), hb2⟩
  · go_enter Try.func91, Try.ntmps91
    go_wp2_with (first
      | (go_at_call 99; refine (drIdx B hv l n _ h hl).mono ?_; rintro e w2 ⟨k, rfl, hk, hb2⟩; obtain rfl : k = -1 := (by rcases hk with ⟨h, _⟩ | ⟨_, h⟩; exact h; exact absurd h hm); clear hk)
      | fail)
    go_ret
    exact ⟨ret_bool (by simp [*]), hb2⟩
end Go.Proofs.Ytbohpjinkdffhaa
