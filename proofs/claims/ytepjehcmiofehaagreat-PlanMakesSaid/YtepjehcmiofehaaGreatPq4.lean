/- The directory's laws: changes as an argument; heavy; maps. The directory: what stays true of it; known. What the document's own answers to span return. What the document's own answer to span.All returns. The directory, pure: what makes a map one that may be, a -/
import Derived.Deep.Light
import Derived.Test.YtepjehcmiofehaaGreatPq3
namespace Go.Proofs.YtepjehcmiofehaaGreat
open Go.RowKit
set_option linter.unusedVariables false
set_option linter.unusedSimpArgs false
def chV (c : Ch) : List Value := [.int .i64 c.kd, .int .i64 c.zo, .int .i64 c.ep, .int .i64 c.mv, .string c.ky]
end Go.Proofs.YtepjehcmiofehaaGreat
namespace Go.Proofs.YtepjehcmiofehaaGreat
open Go.RowKit
set_option linter.unusedVariables false
set_option linter.unusedSimpArgs false
/-- what stays true -/
structure OkN (m : Mp) : Prop where
  one : 1 ≤ m.zs.length
  sum : m.zs.length + pendN 1 m.zs ≤ 16
  mv : pendN 3 m.zs ≤ 2
  nxt : 0 ≤ m.nxt
  ver : 0 ≤ m.ver
  ep : ∀ z ∈ m.zs, 0 ≤ z.ep
end Go.Proofs.YtepjehcmiofehaaGreat
namespace Go.Proofs.YtepjehcmiofehaaGreat
open Go.RowKit
set_option linter.unusedVariables false
set_option linter.unusedSimpArgs false
theorem refIs (f t : ByteArray) (w : World) :
    Calls Tryz.prog 62 #[.agg #[.string f, .string t]] w fun e w' => e = .returned (.bool (isB f t)) ∧ Below w.heap.size w w' := by
  go_enter Tryz.func62, Tryz.ntmps62
  go_wp2
  all_goals go_ret
  all_goals refine ⟨ret_bool ?_, ?_⟩
  all_goals first | ((repeat (first | (with_reducible exact Below.refl _ _) | (with_reducible assumption) | ((with_reducible refine b_set ?_ ?_); · (first | omega | (simp; done) | (simp; omega))) | ((with_reducible refine b_alloc ?_ ?_); · (first | omega | (simp; done) | (simp; omega))) | (with_reducible refine Below.drew ?_) | (with_reducible refine b_drewN ?_) | ((with_reducible refine b_call (by assumption) ?_ ?_); · (first | omega | (simp; done) | (simp; omega))))); done) | (simp [isB, *]; done) | (simp [isB, *]; omega)
theorem refIn (f t k : ByteArray) (w : World) :
    Calls Tryz.prog 63 #[.agg #[.string f, .string t], .string k] w fun e w' => e = .returned (.bool (inB f t k)) ∧ Below w.heap.size w w' := by
  go_enter Tryz.func63, Tryz.ntmps63
  go_wp2_with fail
  refine (refIs _ _ _).mono ?_
  rintro e w1 ⟨rfl, hb⟩
  obtain ⟨hc, hf⟩ := bcell hb
  go_wp2_with fail
  all_goals go_ret
  all_goals clear hc hf
  all_goals refine ⟨ret_bool ?_, ?_⟩
  all_goals first | ((repeat (first | (with_reducible exact Below.refl _ _) | (with_reducible assumption) | ((with_reducible refine b_set ?_ ?_); · (first | omega | (simp; done) | (simp; omega))) | ((with_reducible refine b_alloc ?_ ?_); · (first | omega | (simp; done) | (simp; omega))) | (with_reducible refine Below.drew ?_) | (with_reducible refine b_drewN ?_) | ((with_reducible refine b_call (by assumption) ?_ ?_); · (first | omega | (simp; done) | (simp; omega))))); done) | (clear hb; simp [inB, *]; done) | (clear hb; simp [inB, *]; omega)
theorem refCut1 (f t k : ByteArray) (w : World) (h : cutB f t k = true) :
    Calls Tryz.prog 40 #[.agg #[.string f, .string t], .string k] w fun e w' => e = .returned (.tuple #[.agg #[.string f, .string k], .agg #[.string k, .string t], .bool true]) ∧ Below w.heap.size w w' := by
  simp only [cutB, Bool.and_eq_true, Bool.not_eq_true', Bool.or_eq_false_iff] at h
  obtain ⟨h1, h2, h3⟩ := h
  go_enter Tryz.func40, Tryz.ntmps40
  go_wp2_with fail
  refine (refIn _ _ _ _).mono ?_
  rintro e w1 ⟨rfl, hb⟩
  obtain ⟨hc, hf⟩ := bcell hb
  go_wp2_with fail
  go_region
  all_goals go_wp2
  all_goals refine bodyPost_ret (v := .tuple #[.agg #[.string f, .string k], .agg #[.string k, .string t], .bool true]) (by simp [results, Tryz.results40, go_sem, hc]) rfl ⟨rfl, ?_⟩
  all_goals clear hc hf
  all_goals ((repeat (first | (with_reducible exact Below.refl _ _) | (with_reducible assumption) | ((with_reducible refine b_set ?_ ?_); · (first | omega | (simp; done) | (simp; omega))) | ((with_reducible refine b_alloc ?_ ?_); · (first | omega | (simp; done) | (simp; omega))) | (with_reducible refine Below.drew ?_) | (with_reducible refine b_drewN ?_) | ((with_reducible refine b_call (by assumption) ?_ ?_); · (first | omega | (simp; done) | (simp; omega))))); done)
theorem refCut0 (f t k : ByteArray) (w : World) (h : cutB f t k = false) :
    Calls Tryz.prog 40 #[.agg #[.string f, .string t], .string k] w fun e w' => e = .returned (.tuple #[.agg #[.string ⟨#[]⟩, .string ⟨#[]⟩], .agg #[.string ⟨#[]⟩, .string ⟨#[]⟩], .bool false]) ∧ Below w.heap.size w w' := by
  go_enter Tryz.func40, Tryz.ntmps40
  go_wp2_with fail
  refine (refIn _ _ _ _).mono ?_
  rintro e w1 ⟨rfl, hb⟩
  obtain ⟨hc, hf⟩ := bcell hb
  go_wp2_with fail
  all_goals first
    | (exfalso; clear hc hf hb; simp_all [cutB]; done)
    | skip
  all_goals refine bodyPost_ret (v := .tuple #[.agg #[.string ⟨#[]⟩, .string ⟨#[]⟩], .agg #[.string ⟨#[]⟩, .string ⟨#[]⟩], .bool false]) (by simp [results, Tryz.results40, go_sem, hc]) rfl ⟨rfl, ?_⟩
  all_goals clear hc hf
  all_goals ((repeat (first | (with_reducible exact Below.refl _ _) | (with_reducible assumption) | ((with_reducible refine b_set ?_ ?_); · (first | omega | (simp; done) | (simp; omega))) | ((with_reducible refine b_alloc ?_ ?_); · (first | omega | (simp; done) | (simp; omega))) | (with_reducible refine Below.drew ?_) | (with_reducible refine b_drewN ?_) | ((with_reducible refine b_call (by assumption) ?_ ?_); · (first | omega | (simp; done) | (simp; omega))))); done)
end Go.Proofs.YtepjehcmiofehaaGreat
namespace Go.Proofs.YtepjehcmiofehaaGreat
open Go.RowKit
set_option linter.unusedVariables false
set_option linter.unusedSimpArgs false
/-- a slice of spans that reads as a list -/
def Spans (w : World) (B : Nat) (A : Option Addr) (xs : List (ByteArray × ByteArray)) : Prop :=
  ∀ k (h : k < xs.length), ∃ b o, A = some ⟨b, o, none⟩ ∧ b < B ∧ w.cell? ⟨b, o + k * 2, none⟩ = some (.string xs[k].1) ∧ w.cell? ⟨b, o + k * 2 + 1, none⟩ = some (.string xs[k].2)
def goB : Bool → ByteArray → List (ByteArray × ByteArray) → Bool
  | first, u, [] => !first && u.toList.isEmpty
  | first, u, (f, t) :: r => if isB f t && f.toList == u.toList && (first || !u.toList.isEmpty) then goB false t r else false
def allB (xs : List (ByteArray × ByteArray)) : Bool := goB true ⟨#[]⟩ xs
theorem allB_go (xs : List (ByteArray × ByteArray)) : allB xs = goB true ⟨#[]⟩ xs := rfl
theorem goB_cons {first : Bool} {u : ByteArray} {xs : List (ByteArray × ByteArray)} {k : Nat} (h : k < xs.length) : goB first u (xs.drop k) = if isB xs[k].1 xs[k].2 && xs[k].1.toList == u.toList && (first || !u.toList.isEmpty) then goB false xs[k].2 (xs.drop (k + 1)) else false := by
  rw [List.drop_eq_getElem_cons h]
  show goB first u ((xs[k].1, xs[k].2) :: _) = _
  rw [goB]
set_option maxHeartbeats 1000000 in
theorem refAll (A : Option Addr) (c : Nat) (xs : List (ByteArray × ByteArray)) (w : World) (hl : xs.length ≤ 1000000) (hx : Spans w w.heap.size A xs) :
    Calls Tryz.prog 37 #[.slice A xs.length c] w fun e w' => e = .returned (.bool (allB xs)) ∧ Below w.heap.size w w' := by
  have HX := Lib.hid hx
  clear hx
  go_enter Tryz.func37, Tryz.ntmps37
  go_wp2_with fail
  go_loopw [3, 4] (fun u i wr => ∃ (k : Nat) (s : ByteArray), k ≤ xs.length ∧ i = .int .i64 k ∧ u = .string s ∧ Below w.heap.size w wr ∧ Hid (allB xs = goB (decide (k = 0)) s (xs.drop k))) (fun _ i _ => xs.length - (intOf i).toNat)
  case atStart => exact ⟨0, ⟨#[]⟩, by omega, rfl, rfl, Below.refl _ _, by rw [allB_go]; simp [Hid]⟩
  case round =>
    obtain ⟨k, s, hk, rfl, rfl, hB, HC⟩ := hrel
    by_cases hlt : k < xs.length
    · obtain ⟨b, o, rfl, hb, g3, g4⟩ := HX.out k hlt
      replace g3 := bkeep hB g3 hb
      replace g4 := bkeep hB g4 hb
      have hz := hB.size
      have HG := Lib.hid (goB_cons (first := decide (k = 0)) (u := s) hlt)
      go_wp2_with fail
      refine (refIs _ _ _).mono ?_
      rintro e w2 ⟨rfl, hb2⟩
      replace g3 := bkeep hb2 g3 (by omega)
      replace g4 := bkeep hb2 g4 (by omega)
      have hb3 := hB.trans (hb2.mono hz)
      cases hi : isB xs[k].1 xs[k].2
      · go_wp2_with fail
        go_ret
        exact ⟨ret_bool (by rw [HC.out, HG.out, hi]; rfl), hb3⟩
      · cases hq : xs[k].1.toList == s.toList
        · go_wp2_with fail
          go_ret
          exact ⟨ret_bool (by rw [HC.out, HG.out, hi, hq]; rfl), hb3⟩
        · by_cases h0 : k = 0
          · have h1 : k < 1 := by omega
            have H0 := Lib.hid h0
            clear h0
            go_wp2_with fail
            all_goals exact ⟨⟨k + 1, _, by omega, by go_num, rfl, hb3, by unfold Hid; rw [HC.out, HG.out, hi, hq]; simp [H0.out]⟩, by simp [intOf]; omega⟩
          · have h1 : decide ((0 : Int) < (k : Int)) = true := by simp; omega
            cases he : s.toList.isEmpty
            · go_wp2_with fail
              go_roundw
              case rel => exact ⟨k + 1, _, by omega, by go_num, rfl, hb3, by unfold Hid; rw [HC.out, HG.out, hi, hq, he]; simp⟩
              case measure => simp [intOf]; omega
            · go_wp2_with fail
              go_ret
              exact ⟨ret_bool (by rw [HC.out, HG.out, hi, hq, he]; simp [h0]), hb3⟩
    · have hk' : k = xs.length := by omega
      subst hk'
      by_cases h0 : xs.length = 0
      · have h1 : xs.length < 1 := by omega
        have H0 := Lib.hid h0
        clear h0
        go_wp2_with fail
        go_ret
        exact ⟨ret_bool (by rw [HC.out, List.drop_length, H0.out]; simp [goB]), hB⟩
      · have e1 : allB xs = s.toList.isEmpty := by rw [HC.out, List.drop_length]; simp [goB, h0]
        have E1 := Lib.hid e1
        clear e1
        cases he : s.toList.isEmpty
        all_goals go_wp2_with fail
        all_goals go_ret
        all_goals exact ⟨ret_bool (by rw [E1.out, he]), hB⟩
end Go.Proofs.YtepjehcmiofehaaGreat
namespace Go.Proofs.YtepjehcmiofehaaGreat
open Go.RowKit
set_option linter.unusedVariables false
set_option linter.unusedSimpArgs false
/-- a zone by itself: with whom nothing is under way that wants another one -/
structure Lone (z : Zn) : Prop where
  cases : (z.pd = 0 ∧ z.mv = 0 ∧ z.ky.size = 0 ∧ z.nw = 0) ∨ (z.pd = 3 ∧ (1 ≤ z.mv ∧ z.mv ≤ 1048576) ∧ z.mv ≠ z.ow ∧ z.ky.size = 0 ∧ z.nw = 0) ∨ (z.pd = 1 ∧ cutB z.fr z.tt z.ky = true ∧ z.mv = 0 ∧ 1 ≤ z.nw)
/-- two that merge -/
structure Pair (a b : Zn) : Prop where
  pa : a.pd = 2
  pb : b.pd = 2
  na : a.nw = b.id
  nb : b.nw = a.id
  ow : a.ow = b.ow
  ma : a.mv = 0
  mb : b.mv = 0
  ka : a.ky.size = 0
  kb : b.ky.size = 0
/-- zones and pairs, one behind the other -/
inductive Tiled : List Zn → Prop
  | nil : Tiled []
  | one {z : Zn} {r : List Zn} (h : Lone z) (t : Tiled r) : Tiled (z :: r)
  | two {a b : Zn} {r : List Zn} (h : Pair a b) (t : Tiled r) : Tiled (a :: b :: r)
theorem Tiled.app : ∀ {l r : List Zn}, Tiled l → Tiled r → Tiled (l ++ r)
  | _, _, .nil, h => h
  | _, _, .one h t, h2 => .one h (t.app h2)
  | _, _, .two h t, h2 => .two h (t.app h2)
/-- the spans of zones -/
def spansZ (l : List Zn) : List (ByteArray × ByteArray) := l.map fun z => (z.fr, z.tt)
theorem spans_app (a b : List Zn) : spansZ (a ++ b) = spansZ a ++ spansZ b := List.map_append
theorem ids_at : ∀ {l : List Zn}, (idsA l).Nodup → ∀ {i j : Nat} (hi : i < l.length) (hj : j < l.length), l[i].id = l[j].id → i = j
  | [], _, i, _, hi, _, _ => by cases hi
  | a :: r, h, i, j, hi, hj, e => by
    rw [idsA_cons, List.nodup_append] at h
    obtain ⟨_, h2, h3⟩ := h
    have ha : a.id ∈ idsZ a := by simp [idsZ]
    cases i with
    | zero =>
      cases j with
      | zero => rfl
      | succ j => exact absurd e (h3 _ ha _ (id_mem (List.getElem_mem (by simpa using hj))))
    | succ i =>
      cases j with
      | zero => exact absurd e.symm (h3 _ ha _ (id_mem (List.getElem_mem (by simpa using hi))))
      | succ j => exact congrArg (· + 1) (ids_at h2 (i := i) (j := j) (by simpa using hi) (by simpa using hj) (by simpa using e))
structure OkZ (z : Zn) : Prop where
  id : 1 ≤ z.id
  ow : 1 ≤ z.ow ∧ z.ow ≤ 1048576
  ep : 1 ≤ z.ep
/-- a map that may be, and stays one -/
structure MayI (m : Mp) : Prop where
  inv : InvZ m
  okn : OkN m
  til : Tiled m.zs
  okz : ∀ z ∈ m.zs, OkZ z
  nxt : 1 ≤ m.nxt
  spn : allB (spansZ m.zs) = true
/-- how large its numbers are -/
structure Small (m : Mp) (n : Int) : Prop where
  ver : m.ver ≤ n
  nxt : m.nxt ≤ n
  ep : ∀ z ∈ m.zs, z.ep ≤ n
end Go.Proofs.YtepjehcmiofehaaGreat
namespace Go.Proofs.YtepjehcmiofehaaGreat
open Go.RowKit
set_option linter.unusedVariables false
set_option linter.unusedSimpArgs false
end Go.Proofs.YtepjehcmiofehaaGreat
namespace Go.Proofs.YtepjehcmiofehaaGreat
open Go.RowKit
set_option linter.unusedVariables false
set_option linter.unusedSimpArgs false
theorem nw_at : ∀ {l : List Zn}, (idsA l).Nodup → ∀ {i j : Nat} (hi : i < l.length) (hj : j < l.length), l[i].pd = 1 → l[j].pd = 1 → l[i].nw = l[j].nw → i = j
  | [], _, i, _, hi, _, _, _, _ => by cases hi
  | a :: r, h, i, j, hi, hj, hp, hq, e => by
    rw [idsA_cons, List.nodup_append] at h
    obtain ⟨_, h2, h3⟩ := h
    cases i with
    | zero =>
      cases j with
      | zero => rfl
      | succ j =>
        have ha : a.nw ∈ idsZ a := by
          have hp : a.pd = 1 := hp
          simp [idsZ, hp]
        exact absurd e (h3 _ ha _ (nw_mem (List.getElem_mem (by simpa using hj)) hq))
    | succ i =>
      cases j with
      | zero =>
        have ha : a.nw ∈ idsZ a := by
          have hq : a.pd = 1 := hq
          simp [idsZ, hq]
        exact absurd e.symm (h3 _ ha _ (nw_mem (List.getElem_mem (by simpa using hi)) hp))
      | succ j => exact congrArg (· + 1) (nw_at h2 (i := i) (j := j) (by simpa using hi) (by simpa using hj) (by simpa using hp) (by simpa using hq) (by simpa using e))
end Go.Proofs.YtepjehcmiofehaaGreat
namespace Go.Proofs.YtepjehcmiofehaaGreat
open Go.RowKit
set_option linter.unusedVariables false
set_option linter.unusedSimpArgs false
/-- two that become one -/
structure Pr (a b : Zn) : Prop where
  pa : a.pd = 2
  pb : b.pd = 2
  ow : a.ow = b.ow
  na : a.nw = b.id
  nb : b.nw = a.id
/-- the document's: may the merge of the zone at a place be? -/
structure MgP (l : List Zn) (i : Nat) (h : i < l.length) : Prop where
  mv : l[i].mv = 0
  ky : l[i].ky.size = 0
  ex : ∃ (k : Nat) (hk : k < l.length), l[k].id = l[i].nw ∧ (∀ j (hj : j < l.length), j < k → l[j].id ≠ l[i].nw) ∧ (k = i + 1 ∨ k + 1 = i) ∧ l[k].pd = 2 ∧ l[k].nw = l[i].id ∧ l[k].ow = l[i].ow
/-- the document's: may the split of the zone at a place be? -/
structure SpP (m : Mp) (i : Nat) (h : i < m.zs.length) : Prop where
  cut : cutB m.zs[i].fr m.zs[i].tt m.zs[i].ky = true
  mv : m.zs[i].mv = 0
  lo : 1 ≤ m.zs[i].nw
  hi : m.zs[i].nw < m.nxt
  no : ∀ j (hj : j < m.zs.length), m.zs[j].id ≠ m.zs[i].nw
  one : ∀ k (hk : k < m.zs.length), k ≠ i → m.zs[k].pd = 1 → m.zs[k].nw ≠ m.zs[i].nw
def St0 (z : Zn) : Prop := z.mv = 0 ∧ z.ky.size = 0 ∧ z.nw = 0
def St3 (z : Zn) : Prop := 1 ≤ z.mv ∧ z.mv ≤ 1048576 ∧ z.mv ≠ z.ow ∧ z.ky.size = 0 ∧ z.nw = 0
/-- the document's: may the zone at a place be? -/
structure ZP (m : Mp) (i : Nat) (h : i < m.zs.length) : Prop where
  lo : 1 ≤ m.zs[i].id
  hi : m.zs[i].id < m.nxt
  fst : ∀ j (hj : j < m.zs.length), j < i → m.zs[j].id ≠ m.zs[i].id
  ow1 : 1 ≤ m.zs[i].ow
  ow2 : m.zs[i].ow ≤ 1048576
  ep1 : 1 ≤ m.zs[i].ep
  ep2 : m.zs[i].ep ≤ 1099511627776
  st : (m.zs[i].pd = 0 ∧ St0 m.zs[i]) ∨ (m.zs[i].pd = 3 ∧ St3 m.zs[i]) ∨ (m.zs[i].pd = 1 ∧ SpP m i h) ∨ (m.zs[i].pd = 2 ∧ MgP m.zs i h)
/-- the code's -/
structure Core (l : List Zn) (i : Nat) (h : i < l.length) : Prop where
  ow1 : 1 ≤ l[i].ow
  ow2 : l[i].ow ≤ 1048576
  ep1 : 1 ≤ l[i].ep
  ep2 : l[i].ep ≤ 1099511627776
  st : (l[i].pd = 0 ∧ St0 l[i]) ∨ (l[i].pd = 3 ∧ St3 l[i]) ∨ (l[i].pd = 1 ∧ cutB l[i].fr l[i].tt l[i].ky = true ∧ l[i].mv = 0) ∨ (l[i].pd = 2 ∧ l[i].mv = 0 ∧ l[i].ky.size = 0 ∧ ((∃ (j : Nat) (hj : j < l.length), j + 1 = i ∧ Pr l[i] l[j]) ∨ (∃ h2 : i + 1 < l.length, Pr l[i] l[i + 1])))
/-- which maps may be -/
structure MayP (m : Mp) : Prop where
  v1 : 1 ≤ m.ver
  v2 : m.ver ≤ 1099511627776
  n1 : 1 ≤ m.nxt
  n2 : m.nxt ≤ 1099511627776
  len : m.zs.length ≤ 16
  nodup : (idsA m.zs).Nodup
  rng : ∀ a ∈ idsA m.zs, 1 ≤ a ∧ a < m.nxt
  core : ∀ i (h : i < m.zs.length), Core m.zs i h
  spn : allB (spansZ m.zs) = true
theorem nodup_ids : ∀ (l : List Zn), (∀ i (h : i < l.length), (idsZ l[i]).Nodup) → (∀ i j (hi : i < l.length) (hj : j < l.length), i < j → ∀ a ∈ idsZ l[i], a ∉ idsZ l[j]) → (idsA l).Nodup
  | [], _, _ => List.nodup_nil
  | a :: r, h1, h2 => by
    rw [idsA_cons, List.nodup_append]
    refine ⟨h1 0 (Nat.succ_pos _), nodup_ids r (fun i h => h1 (i + 1) (by simpa using h)) (fun i j hi hj hij b hb => h2 (i + 1) (j + 1) (by simpa using hi) (by simpa using hj) (by omega) b hb), fun x hx y hy e => ?_⟩
    obtain ⟨z, hz, hyz⟩ := List.mem_flatMap.1 hy
    obtain ⟨j, hj, rfl⟩ := List.getElem_of_mem hz
    exact h2 0 (j + 1) (Nat.succ_pos _) (by simpa using hj) (by omega) x hx (by rw [e]; exact hyz)
theorem mem_ids {z : Zn} {a : Int} : a ∈ idsZ z ↔ a = z.id ∨ (z.pd = 1 ∧ a = z.nw) := by
  unfold idsZ
  by_cases h : z.pd = 1 <;> simp [h]
theorem zp_all {m : Mp} (h : ∀ i (hi : i < m.zs.length), ZP m i hi) : (idsA m.zs).Nodup ∧ (∀ a ∈ idsA m.zs, 1 ≤ a ∧ a < m.nxt) ∧ ∀ i (hi : i < m.zs.length), Core m.zs i hi := by
  have hsp : ∀ i (hi : i < m.zs.length), m.zs[i].pd = 1 → SpP m i hi := fun i hi hp => by
    rcases (h i hi).st with ⟨e, _⟩ | ⟨e, _⟩ | ⟨_, e⟩ | ⟨e, _⟩
    · omega
    · omega
    · exact e
    · omega
  refine ⟨nodup_ids _ (fun i hi => ?_) (fun i j hi hj hij a ha hb => ?_), fun a ha => ?_, fun i hi => ?_⟩
  · unfold idsZ
    by_cases hp : m.zs[i].pd = 1
    · have := (hsp i hi hp).no i hi
      simp [hp, this]
    · simp [hp]
  · rw [mem_ids] at ha hb
    rcases ha with ha | ⟨hp, ha⟩
    · rcases hb with hb | ⟨hq, hb⟩
      · exact (h j hj).fst i hi hij (by rw [← ha, ← hb])
      · exact (hsp j hj hq).no i hi (by rw [← ha, ← hb])
    · rcases hb with hb | ⟨hq, hb⟩
      · exact (hsp i hi hp).no j hj (by rw [← ha, ← hb])
      · exact (hsp j hj hq).one i hi (by omega) hp (by rw [← ha, ← hb])
  · obtain ⟨z, hz, haz⟩ := List.mem_flatMap.1 ha
    obtain ⟨i, hi, rfl⟩ := List.getElem_of_mem hz
    rw [mem_ids] at haz
    rcases haz with rfl | ⟨hp, rfl⟩
    · exact ⟨(h i hi).lo, (h i hi).hi⟩
    · exact ⟨(hsp i hi hp).lo, (hsp i hi hp).hi⟩
  · have hz := h i hi
    refine ⟨hz.ow1, hz.ow2, hz.ep1, hz.ep2, ?_⟩
    rcases hz.st with hs | hs | ⟨hp, hs⟩ | ⟨hp, hs⟩
    · exact .inl hs
    · exact .inr (.inl hs)
    · exact .inr (.inr (.inl ⟨hp, hs.cut, hs.mv⟩))
    · refine .inr (.inr (.inr ⟨hp, hs.mv, hs.ky, ?_⟩))
      obtain ⟨k, hk, e1, _, e2, e3, e4, e5⟩ := hs.ex
      rcases e2 with e2 | e2
      · subst e2
        exact .inr ⟨hk, hp, e3, e5.symm, e1.symm, e4⟩
      · exact .inl ⟨k, hk, e2, hp, e3, e5.symm, e1.symm, e4⟩
theorem all_zp {m : Mp} (hn : (idsA m.zs).Nodup) (hr : ∀ a ∈ idsA m.zs, 1 ≤ a ∧ a < m.nxt) (hc : ∀ i (hi : i < m.zs.length), Core m.zs i hi) : ∀ i (hi : i < m.zs.length), ZP m i hi := by
  intro i hi
  have hz := hc i hi
  have hid := hr _ (id_mem (List.getElem_mem hi))
  refine ⟨hid.1, hid.2, fun j hj hji e => by have := ids_at hn hj hi e; omega, hz.ow1, hz.ow2, hz.ep1, hz.ep2, ?_⟩
  have mk : ∀ k (hk : k < m.zs.length), (k = i + 1 ∨ k + 1 = i) → m.zs[i].mv = 0 → m.zs[i].ky.size = 0 → Pr m.zs[i] m.zs[k] → MgP m.zs i hi := fun k hk ha h1 h2 hp =>
    ⟨h1, h2, k, hk, hp.na.symm, fun j hj hjk e => by have := ids_at hn hj hk (by rw [e, hp.na]); omega, ha, hp.pb, hp.nb, hp.ow.symm⟩
  rcases hz.st with hs | hs | ⟨hp, hs, hs2⟩ | ⟨hp, h1, h2, hs⟩
  · exact .inl hs
  · exact .inr (.inl hs)
  · have hnw := hr _ (nw_mem (List.getElem_mem hi) hp)
    exact .inr (.inr (.inl ⟨hp, hs, hs2, hnw.1, hnw.2, fun j hj => idsA_new hn (List.getElem_mem hi) hp (List.getElem_mem hj), fun k hk hne hpk e => hne (nw_at hn hk hi hpk hp e)⟩))
  · refine .inr (.inr (.inr ⟨hp, ?_⟩))
    rcases hs with ⟨j, hj, hji, hs⟩ | ⟨h3, hs⟩
    · exact mk j hj (.inr hji) h1 h2 hs
    · exact mk (i + 1) h3 (.inl rfl) h1 h2 hs
end Go.Proofs.YtepjehcmiofehaaGreat
