/- vault: Total. -/
import Derived.Test.YtdlbiobjnohfbaaLayK
import Derived.ProofKit
import Derived.Test.YtdlbiobjnohfbaaProg
import Derived.WalkKit
import Derived.WalkSpells
import Derived.WalkLawsBesides
import Derived.Deep.QuietTactic
import Derived.BigQuiet
import Derived.RegionTactic
import Derived.BigRegion
import Derived.Outline
import Derived.LoopTactic
import Derived.Lib.Hide
import Derived.Deep.RegionHeld3
import Derived.Laws.AppendOwnNone
import Derived.Deep.AppendLies
import Derived.Maps.AppendAt
import Derived.Laws.Rows
import Derived.Laws.OwnMore
import Derived.Deep.RegionLaw
import Derived.Deep.Onto
import Derived.Maps.Own
import Derived.Maps.RangeRun
import Derived.Carry
import Derived.Maps.Range
import Derived.Deep.DeepMust
import Derived.WideShapes
import Derived.Sort.KeysCollected
import Derived.StringKeys
import Derived.Shelf.SlIter.Nil
import Derived.Shelf.SlIter.Sorted
import Derived.Shelf.SortM.Plain
import Derived.Shelf.SortM.SortNone
import Derived.Deep.Cut
import Derived.StillTailTactics
import Derived.Deep.Light
import Derived.Test.YtdlbiobjnohfbaaLay
import Derived.Shelf.SlSortCmp.NoneTotal
import GoSem.Op.String
import Derived.Lib.Strings
import Derived.Test.YtdlbiobjnohfbaaVk0
import Derived.Test.YtdlbiobjnohfbaaVk1
import Derived.Test.YtdlbiobjnohfbaaVk2
import Derived.Test.YtdlbiobjnohfbaaVk3
import Derived.Test.YtdlbiobjnohfbaaVk4
import Derived.Test.YtdlbiobjnohfbaaVk5
import Derived.Test.YtdlbiobjnohfbaaVk6
import Derived.Test.YtdlbiobjnohfbaaVk7
import Derived.Test.YtdlbiobjnohfbaaVk8
import Derived.Test.YtdlbiobjnohfbaaVk9
import Derived.Test.YtdlbiobjnohfbaaVk10
import Derived.Test.YtdlbiobjnohfbaaVk11
import Derived.Test.YtdlbiobjnohfbaaVk12
import Derived.Test.YtdlbiobjnohfbaaVk13
import Derived.Test.YtdlbiobjnohfbaaVk14
import Derived.Test.YtdlbiobjnohfbaaVk15
import Derived.Test.YtdlbiobjnohfbaaVk16
import Derived.Test.YtdlbiobjnohfbaaVk17
import Derived.Test.YtdlbiobjnohfbaaVk18
import Derived.Test.YtdlbiobjnohfbaaVk19
import Derived.Test.YtdlbiobjnohfbaaVk20
import Derived.Test.YtdlbiobjnohfbaaVk21
import Derived.Test.YtdlbiobjnohfbaaVk22
import Derived.Test.YtdlbiobjnohfbaaVk23
import Derived.Test.YtdlbiobjnohfbaaVk24
import Derived.Test.YtdlbiobjnohfbaaVk25
import Derived.Test.YtdlbiobjnohfbaaVk26
import Derived.Test.YtdlbiobjnohfbaaVk27
import Derived.Test.YtdlbiobjnohfbaaVk28
import Derived.Test.YtdlbiobjnohfbaaVk29
import Derived.Test.YtdlbiobjnohfbaaVk30
import Derived.Test.YtdlbiobjnohfbaaVk31
import Derived.Test.YtdlbiobjnohfbaaVk32
import Derived.Test.YtdlbiobjnohfbaaVk33
import Derived.Test.YtdlbiobjnohfbaaVk34
import Derived.Test.YtdlbiobjnohfbaaVk35
import Derived.Test.YtdlbiobjnohfbaaVk36
import Derived.Test.YtdlbiobjnohfbaaVk37
import Derived.Test.YtdlbiobjnohfbaaVk38
import Derived.Test.YtdlbiobjnohfbaaVk39
import Derived.Test.YtdlbiobjnohfbaaVk40
import Derived.Test.YtdlbiobjnohfbaaVk41
import Derived.Test.YtdlbiobjnohfbaaVk42
import Derived.Test.YtdlbiobjnohfbaaVk43
import Derived.Test.YtdlbiobjnohfbaaVk44
import Derived.Test.YtdlbiobjnohfbaaVk45
namespace Go.Proofs.Ytdlbiobjnohfbaa
open Go.RowKit Go.ChangeMaps Go.MapKept
set_option linter.unusedVariables false
set_option linter.unusedSimpArgs false
theorem Try.infoIts : (Try.prog.info? 27).map (fun i => (i.zero, i.size, i.bytes)) = some (some (.agg #[.int .i64 0, .int .i64 0, .int .i64 0, .int .i64 0]), 4, 32) := by kernel_rfl
theorem sumK_perm {j : Nat} {a b : Pm} (h : a.Perm b) : sumK j a = sumK j b := by
  induction h with
  | nil => rfl
  | cons x _ ih => show _ + _ = _ + _; rw [ih]
  | swap x y l => show _ + (_ + _) = _ + (_ + _); omega
  | trans _ _ h1 h2 => exact h1.trans h2
def sumQ (j : Nat) : List It4 → Int
  | [] => 0
  | x :: r => compI x j + sumQ j r
theorem sumQ_app (j : Nat) (a b : List It4) : sumQ j (a ++ b) = sumQ j a + sumQ j b := by
  induction a with
  | nil => simp [sumQ]
  | cons x r ih => simp only [List.cons_append, sumQ, ih]; omega
theorem sumQ_K (j : Nat) (l : Pm) : sumQ j (l.map (·.2)) = sumK j l := by
  induction l with
  | nil => rfl
  | cons x r ih => simp only [List.map_cons, sumQ, sumK, ih]
theorem sumQ_H (j : Nat) (L : List Od) : sumQ j (L.map heldP) = sumH j L := by
  induction L with
  | nil => rfl
  | cons x r ih => simp only [List.map_cons, sumQ, sumH, ih]
/-- what Total adds up -/
def allP (l : Pm) (L : List Od) : List It4 := (rowsP l).map (·.2) ++ L.map heldP
theorem sumQ_all (j : Nat) {l : Pm} (h : (l.map (·.1)).Nodup) (L : List Od) : sumQ j (allP l L) = tot j l L := by
  unfold allP tot
  rw [sumQ_app, sumQ_K, sumQ_H, sumK_perm (rowsP_perm h)]
theorem isQ_of {x : It4} (h : ∀ j, j ≤ 3 → 0 ≤ compI x j ∧ compI x j ≤ cap60) : isQ x = true := by
  have h0 := h 0 (by omega)
  have h1 := h 1 (by omega)
  have h2 := h 2 (by omega)
  have h3 := h 3 (by omega)
  unfold cap60 at h0 h1 h2 h3
  simp only [compI] at h0 h1 h2 h3
  unfold isQ
  rw [isP_iff]
  omega
theorem comp_plus (a b : It4) (j : Nat) : compI (plusQ a b) j = compI a j + compI b j := by unfold compI plusQ; split <;> rfl
theorem sumQ_ge {j : Nat} : ∀ {xs : List It4}, (∀ x ∈ xs, isI x = true) → 0 ≤ sumQ j xs
  | [], _ => by show (0 : Int) ≤ 0; omega
  | x :: r, h => by
    have h1 := (is_comp (h x List.mem_cons_self) j).1
    have h2 := sumQ_ge (j := j) (xs := r) (fun y hy => h y (List.mem_cons_of_mem _ hy))
    show 0 ≤ compI x j + sumQ j r
    omega
theorem addTo_all : ∀ {xs : List It4} {s : It4}, (∀ x ∈ xs, isI x = true) → (∀ j, j ≤ 3 → 0 ≤ compI s j) → (∀ j, j ≤ 3 → compI s j + sumQ j xs ≤ cap60) → ∃ u, addTo s xs = some u ∧ ∀ j, j ≤ 3 → compI u j = compI s j + sumQ j xs
  | [], s, _, _, _ => ⟨s, rfl, fun j _ => by show _ = _ + (0 : Int); omega⟩
  | x :: r, s, hx, hs, hc => by
    have h1 := fun j => is_comp (hx x List.mem_cons_self) j
    have h2 : ∀ j, 0 ≤ sumQ j r := fun j => sumQ_ge (fun y hy => hx y (List.mem_cons_of_mem _ hy))
    have h3 : ∀ j, j ≤ 3 → compI s j + (compI x j + sumQ j r) ≤ cap60 := hc
    have q1 : isQ x = true := hx x List.mem_cons_self
    have q2 : isQ (plusQ s x) = true := isQ_of fun j hj => by
      rw [comp_plus]
      have := hs j hj
      have := h1 j
      have := h2 j
      have := h3 j hj
      omega
    obtain ⟨u, e, hu⟩ := addTo_all (xs := r) (s := plusQ s x) (fun y hy => hx y (List.mem_cons_of_mem _ hy)) (fun j hj => by rw [comp_plus]; have := hs j hj; have := h1 j; omega) (fun j hj => by rw [comp_plus]; have := h3 j hj; omega)
    refine ⟨u, ?_, fun j hj => ?_⟩
    · unfold addTo
      rw [q1, q2]
      exact e
    · rw [hu j hj, comp_plus]
      show _ = compI s j + (compI x j + sumQ j r)
      omega
def totV (l : Pm) (L : List Od) : Value := .agg #[.int .i64 (tot 0 l L), .int .i64 (tot 1 l L), .int .i64 (tot 2 l L), .int .i64 (tot 3 l L)]
theorem addV_all {l : Pm} {L : List Od} (hl : PmOk l) (hL : ∀ o ∈ L, OkO o) (hc : ∀ j, j ≤ 3 → tot j l L ≤ cap60) : addV (addTo (0, 0, 0, 0) (allP l L)) = .tuple #[totV l L, .bool true] := by
  obtain ⟨u, e, hu⟩ := addTo_all (xs := allP l L) (s := (0, 0, 0, 0)) (fun x hx => by
    rcases List.mem_append.1 hx with hx | hx
    · obtain ⟨p, hp, rfl⟩ := List.mem_map.1 hx
      exact (hl.2 p ((rowsP_perm hl.1).mem_iff.1 hp)).2.1
    · obtain ⟨o, ho, rfl⟩ := List.mem_map.1 hx
      exact held_is (hL o ho)) (fun j _ => by have := comp_z4 j; unfold z4 at this; omega) (fun j hj => by
    have h1 := comp_z4 j
    unfold z4 at h1
    rw [sumQ_all j hl.1]
    have := hc j hj
    omega)
  have hz := fun j => comp_z4 j
  unfold z4 at hz
  have h2 : ∀ j, j ≤ 3 → compI u j = tot j l L := fun j hj => by rw [hu j hj, hz j, sumQ_all j hl.1]; omega
  rw [e]
  show Value.tuple #[.agg #[.int .i64 (compI u 0), .int .i64 (compI u 1), .int .i64 (compI u 2), .int .i64 (compI u 3)], .bool true] = _
  rw [h2 0 (by omega), h2 1 (by omega), h2 2 (by omega), h2 3 (by omega)]
  rfl
def rowI (i : It4) : List Value := [.int .i64 i.1, .int .i64 i.2.1, .int .i64 i.2.2.1, .int .i64 i.2.2.2]
def flatI (l : List It4) : List Value := l.flatMap rowI
theorem flatI_app (a b : List It4) : flatI (a ++ b) = flatI a ++ flatI b := by simp [flatI]
theorem flatI_at : ∀ (l : List It4) (j : Nat) (h : j < l.length), (flatI l)[j * 4]? = some (.int .i64 l[j].1) ∧ (flatI l)[j * 4 + 1]? = some (.int .i64 l[j].2.1) ∧ (flatI l)[j * 4 + 2]? = some (.int .i64 l[j].2.2.1) ∧ (flatI l)[j * 4 + 3]? = some (.int .i64 l[j].2.2.2)
  | [], j, h => by cases h
  | a :: r, 0, h => by simp [flatI, rowI]
  | a :: r, j + 1, h => by
    have := flatI_at r j (by simpa using h)
    have e : (j + 1) * 4 = j * 4 + 4 := by omega
    simp only [flatI, List.flatMap_cons, rowI, List.getElem_cons_succ] at this ⊢
    rw [e]
    exact this
theorem purses_own {w : World} {base e n c : Nat} {A : Option Addr} {xs : List It4} (h : w.ownsRow base e 4 (.slice A n c) n (flatI xs)) (hn : xs.length = n) : Purses w w.heap.size A xs := by
  intro k hk
  obtain ⟨g, cap, e1, _, hg, _, _⟩ := own_form h (by omega)
  injection e1 with e1 e2 e3
  subst e1
  obtain ⟨r0, r1, r2, r3⟩ := flatI_at xs k hk
  refine ⟨g, 0, rfl, hg, ?_, ?_, ?_, ?_⟩
  · rw [Nat.zero_add]; exact (h.cellAt (k * 4) (by omega)).trans r0
  · rw [Nat.zero_add]; exact (h.cellAt (k * 4 + 1) (by omega)).trans r1
  · rw [Nat.zero_add]; exact (h.cellAt (k * 4 + 2) (by omega)).trans r2
  · rw [Nat.zero_add]; exact (h.cellAt (k * 4 + 3) (by omega)).trans r3
theorem rowsP_get {l : Pm} {j : Nat} (h : j < l.length) : ∃ r : Hd, (rowsP l)[j]? = some r ∧ (flatH (rowsP l))[j * 5]? = some (encB r.1) ∧ (flatH (rowsP l))[j * 5 + 1]? = some (.int .i64 r.2.1) ∧ (flatH (rowsP l))[j * 5 + 2]? = some (.int .i64 r.2.2.1) ∧ (flatH (rowsP l))[j * 5 + 3]? = some (.int .i64 r.2.2.2.1) ∧ (flatH (rowsP l))[j * 5 + 4]? = some (.int .i64 r.2.2.2.2) := by
  have hk : j < (rowsP l).length := by rw [rowsP_len]; exact h
  exact ⟨(rowsP l)[j], List.getElem?_eq_getElem hk, flatH_at _ j hk⟩
set_option maxHeartbeats 8000000 in
set_option maxRecDepth 10000 in
theorem vtTotal (b : Nat) (p : Value) (v : Nat → Value) (l : Pm) (L : List Od) (last gone : Int) (w : World) (h : VtAt w b p v l L last gone) (hlen : l.length ≤ 1000) (hc : ∀ j, j ≤ 3 → tot j l L ≤ cap60) :
    Calls Try.prog 13 #[.pointer (some ⟨b, 0, none⟩)] w fun e w' => e = .returned (.tuple #[totV l L, .bool true]) ∧ Below w.heap.size w w' := by
  obtain ⟨i0, hi, hz0, hz1, hz2⟩ := info_parts Try.infoIts
  have hadd : addV (addTo (0, 0, 0, 0) (allP l L)) = .tuple #[totV l L, .bool true] := by
    obtain ⟨S, hv, _, hk, _⟩ := h
    exact addV_all hv.ok hk.ok hc
  have hL32 : L.length ≤ 32 := by obtain ⟨S, _, _, _, h5, _⟩ := h; exact h5
  have hLok : ∀ o ∈ L, OkO o := by obtain ⟨S, _, _, hk, _⟩ := h; exact hk.ok
  obtain ⟨W1, hW1⟩ : ∃ W1, W1 = w.alloc (.cells #[.int .i64 0, .int .i64 0, .int .i64 0, .int .i64 0] 27) := ⟨_, rfl⟩
  have hs1 : W1.heap.size = w.heap.size + 1 := by rw [hW1]; simp
  have B1 : Below w.heap.size w W1 := by rw [hW1]; exact (Below.refl _ _).alloc (Nat.le_refl _) _
  have P1 : Whl W1 w.heap.size 27 #[.int .i64 0, .int .i64 0, .int .i64 0, .int .i64 0] := by rw [hW1]; exact Whl.new rfl
  have HV1 := Lib.hid (h.below B1)
  have HB1 := Lib.hid B1
  have HP1 := Lib.hid P1
  have HADD := Lib.hid hadd
  have HLOK := Lib.hid hLok
  clear h B1 P1 hadd hLok hc
  go_enter Try.func13, Try.ntmps13
  go_wp2_with (first
    | (go_at_call 15; rw [← hW1]; clear hW1; go_loud (refine (vtList b p v l L last gone _ HV1.out hlen).mono ?_; rintro e w2 ⟨v1, v2, rfl, h1, h2, hb2⟩; obtain ⟨A1, c1, rfl, _, _, _⟩ := own_slice h1; obtain ⟨A2, c2, rfl, _, _, _⟩ := own_slice h2; have HO1 := Lib.hid h1; have HO2 := Lib.hid h2; have HB2 := Lib.hid hb2; clear h1 h2 hb2))
    | fail)
  have hs2 := HB2.out.size
  go_loopw [7, 9, 23] (fun t zv i wr => ∃ j : Nat, j ≤ l.length ∧ i = .int .i64 j ∧ wr.ownsRow w2.heap.size 27 4 t j (flatI (((rowsP l).map (·.2)).take j)) ∧ Below w2.heap.size w2 wr) (fun _ _ i _ => l.length - (intOf i).toNat)
  case atStart => exact ⟨0, Nat.zero_le _, rfl, World.ownsRow_nil _ _ _ _, Below.refl _ _⟩
  case round =>
    obtain ⟨j, hj, rfl, hown, hB⟩ := hrel
    have hBs := hB.size
    by_cases hjl : j < l.length
    · have q1 : (j : Int) < (l.length : Int) := by omega
      cases A1 with
      | none => have := HO1.out.2; rcases this with ⟨_, h0⟩ | ⟨g0, _, _, e, _⟩; (exact absurd h0 (by omega)); injection e with e; cases e
      | some ad =>
      obtain ⟨gq, cq, e1, hq5, hq6, _, _⟩ := own_form HO1.out (by omega)
      simp only [Value.slice.injEq, Option.some.injEq, true_and] at e1
      obtain ⟨rfl, rfl⟩ := e1
      obtain ⟨r, hr, r0, r1, r2, r3, r4⟩ := rowsP_get hjl
      have hrow := row_belowV HO1.out hB
      have y0 := (hrow.cellAt (j * 5) (by omega)).trans r0
      have y1 := (hrow.cellAt (j * 5 + 1) (by omega)).trans r1
      have y2 := (hrow.cellAt (j * 5 + 2) (by omega)).trans r2
      have y3 := (hrow.cellAt (j * 5 + 3) (by omega)).trans r3
      have y4 := (hrow.cellAt (j * 5 + 4) (by omega)).trans r4
      obtain ⟨ky, a0, a1, a2, a3⟩ := r
      simp only at y0 y1 y2 y3 y4
      obtain ⟨s, hs⟩ : ∃ s : ByteArray, encB ky = .string s := ⟨_, rfl⟩
      rw [hs] at y0
      have htk : ((rowsP l).map (·.2)).take (j + 1) = ((rowsP l).map (·.2)).take j ++ [(a0, a1, a2, a3)] := by
        rw [List.take_add_one, List.getElem?_map, hr]; rfl
      have HTK := Lib.hid htk
      have HB := Lib.hid hB
      have HOW := Lib.hid hown
      clear r0 r1 r2 r3 r4 hr hrow hs htk hown hB
      have HT : Hid (((wr.alloc (.cells #[.string s, .int .i64 a0, .int .i64 a1, .int .i64 a2, .int .i64 a3] 47)).alloc (.cells #[.int .i64 a0, .int .i64 a1, .int .i64 a2, .int .i64 a3] 27)).ownsRow w2.heap.size 27 4 _ j (flatI (((rowsP l).map (·.2)).take j))) := Lib.hid (row_belowV HOW.out (((Below.refl _ _).alloc (Nat.le_refl _) _).alloc (by simp) _))
      have HC : Hid (Cells ((wr.alloc (.cells #[.string s, .int .i64 a0, .int .i64 a1, .int .i64 a2, .int .i64 a3] 47)).alloc (.cells #[.int .i64 a0, .int .i64 a1, .int .i64 a2, .int .i64 a3] 27)) (wr.heap.size + 2) (some ⟨wr.heap.size + 1, 0, none⟩) 1 1 4 [.int .i64 a0, .int .i64 a1, .int .i64 a2, .int .i64 a3]) := Lib.hid ⟨rfl, (fun e => by cases e), fun k u hu => ⟨_, _, rfl, by omega, by rw [Nat.zero_add, (Whl.new (by simp)).cell]; simpa using hu⟩⟩
      go_wp2_with (first
        | (at_builtin; go_must (refine wpList_append_row rfl (.tmp 27) (.tmp 30) 77 rfl w2.heap.size 27 i0 (.agg #[.int .i64 0, .int .i64 0, .int .i64 0, .int .i64 0]) 4 32 Try.underlying77 hi hz0 hz1 hz2 rfl (by decide) u7 j (flatI (((rowsP l).map (·.2)).take j)) rfl HT.out (wr.heap.size + 2) (some ⟨wr.heap.size + 1, 0, none⟩) 1 1 [.int .i64 a0, .int .i64 a1, .int .i64 a2, .int .i64 a3] rfl HC.out (by intro u hu; simp at hu; rcases hu with rfl | rfl | rfl | rfl <;> rfl) (by unfold maxLen; omega) (by omega) (by simp; omega) ?_); intro v6 w6 hown6 hb6; have HO6 := Lib.hid hown6; have HB6 := Lib.hid hb6; clear hown6 hb6)
        | fail)
      have h6 := HO6.out
      refine ⟨⟨j + 1, by omega, by go_num, ?_, ?_⟩, by simp [intOf]; omega⟩
      · rw [HTK.out, flatI_app]; exact h6
      · exact ((HB.out.alloc hBs _).alloc (by simp; omega) _).trans HB6.out
    · obtain rfl : j = l.length := by omega
      rw [List.take_of_length_le (by simp [rowsP_len])] at hown
      have HBF := Lib.hid hB
      have HOF := Lib.hid hown
      clear hown hB
      go_wp2_with fail
      go_loopw [7, 11, 35] (fun t zv i wq => ∃ j : Nat, j ≤ L.length ∧ i = .int .i64 j ∧ wq.ownsRow w2.heap.size 27 4 t (l.length + j) (flatI ((rowsP l).map (·.2) ++ (L.take j).map heldP)) ∧ Below w2.heap.size w2 wq) (fun _ _ i _ => L.length - (intOf i).toNat)
      case atStart => exact ⟨0, Nat.zero_le _, rfl, by simpa using HOF.out, HBF.out⟩
      case round =>
        clear HBF HOF
        obtain ⟨j, hj, rfl, hown, hB⟩ := hrel
        have hBq := hB.size
        by_cases hjl : j < L.length
        · have q1 : (j : Int) < (L.length : Int) := by omega
          cases A2 with
          | none => have := HO2.out.2; rcases this with ⟨_, h0⟩ | ⟨g0, _, _, e, _⟩; (exact absurd h0 (by omega)); injection e with e; cases e
          | some ad =>
          obtain ⟨gq, cq, e1, hq5, hq6, _, _⟩ := own_form HO2.out (by omega)
          simp only [Value.slice.injEq, Option.some.injEq, true_and] at e1
          obtain ⟨rfl, rfl⟩ := e1
          obtain ⟨r0, r1, r2, r3, r4, r5⟩ := flatO_at L j hjl
          obtain ⟨x, hx⟩ : ∃ x, x = L[j] := ⟨_, rfl⟩
          rw [← hx] at r0 r1 r2 r3 r4 r5
          have hrow := row_belowV HO2.out hB
          have y0 := (hrow.cellAt (j * 6) (ixO0 hjl)).trans r0
          have y1 := (hrow.cellAt (j * 6 + 1) (ixO hjl 1 (by decide))).trans r1
          have y2 := (hrow.cellAt (j * 6 + 2) (ixO hjl 2 (by decide))).trans r2
          have y3 := (hrow.cellAt (j * 6 + 3) (ixO hjl 3 (by decide))).trans r3
          have y4 := (hrow.cellAt (j * 6 + 4) (ixO hjl 4 (by decide))).trans r4
          have y5 := (hrow.cellAt (j * 6 + 5) (ixO hjl 5 (by decide))).trans r5
          have HOX : Hid (OkO x) := Lib.hid (HLOK.out x (by rw [hx]; exact List.getElem_mem hjl))
          obtain ⟨hp, hhp⟩ : ∃ hp, hp = heldP x := ⟨_, rfl⟩
          have HHP := Lib.hid hhp
          obtain ⟨a0, a1, a2, a3⟩ := hp
          have htk : (rowsP l).map (·.2) ++ (L.take (j + 1)).map heldP = ((rowsP l).map (·.2) ++ (L.take j).map heldP) ++ [(a0, a1, a2, a3)] := by
            rw [List.take_add_one, List.getElem?_eq_getElem hjl, ← hx, hhp]; simp
          have HTK := Lib.hid htk
          have HB := Lib.hid hB
          have HOW := Lib.hid hown
          clear r0 r1 r2 r3 r4 r5 hrow hx htk hown hB hhp
          go_wp2_with (first
            | (go_at_call 22; go_loud (refine (vtHeld x _ HOX.out).mono ?_; rintro e w5 ⟨he, hb5⟩; rw [← HHP.out] at he; simp only [itV] at he; subst he; have hs5 := hb5.size; simp at hs5; have HB5 : Hid (Below w2.heap.size w2 w5) := Lib.hid ((HB.out.alloc hBq _).trans (hb5.mono (by simp; omega))); have HT : Hid ((w5.alloc (.cells #[.int .i64 a0, .int .i64 a1, .int .i64 a2, .int .i64 a3] 27)).ownsRow w2.heap.size 27 4 _ (l.length + j) (flatI ((rowsP l).map (·.2) ++ (L.take j).map heldP))) := Lib.hid (row_belowV (row_belowV (row_belowV HOW.out ((Below.refl _ _).alloc (Nat.le_refl _) _)) hb5) ((Below.refl _ _).alloc (Nat.le_refl _) _)); have HC : Hid (Cells (w5.alloc (.cells #[.int .i64 a0, .int .i64 a1, .int .i64 a2, .int .i64 a3] 27)) (w5.heap.size + 1) (some ⟨w5.heap.size, 0, none⟩) 1 1 4 [.int .i64 a0, .int .i64 a1, .int .i64 a2, .int .i64 a3]) := Lib.hid ⟨rfl, (fun e => by cases e), fun k u hu => ⟨_, _, rfl, by omega, by rw [Nat.zero_add, (Whl.new rfl).cell]; simpa using hu⟩⟩; clear hb5))
            | (at_builtin; go_must (refine wpList_append_row rfl (.tmp 39) (.tmp 42) 77 rfl w2.heap.size 27 i0 (.agg #[.int .i64 0, .int .i64 0, .int .i64 0, .int .i64 0]) 4 32 Try.underlying77 hi hz0 hz1 hz2 rfl (by decide) u7 (l.length + j) (flatI ((rowsP l).map (·.2) ++ (L.take j).map heldP)) rfl HT.out (w5.heap.size + 1) (some ⟨w5.heap.size, 0, none⟩) 1 1 [.int .i64 a0, .int .i64 a1, .int .i64 a2, .int .i64 a3] rfl HC.out (by intro u hu; simp at hu; rcases hu with rfl | rfl | rfl | rfl <;> rfl) (by unfold maxLen; omega) (by omega) (by simp; omega) ?_); intro v6 w6 hown6 hb6; have HO6 := Lib.hid hown6; have HB6 := Lib.hid hb6; clear hown6 hb6)
            | fail)
          have h6 := HO6.out
          refine ⟨⟨j + 1, by omega, by go_num, ?_, ?_⟩, by simp [intOf]; omega⟩
          · rw [HTK.out, flatI_app]; exact h6
          · exact (HB5.out.alloc (by omega) _).trans HB6.out
        · obtain rfl : j = L.length := by omega
          rw [List.take_of_length_le (Nat.le_refl _)] at hown
          have hlen2 : (allP l L).length = l.length + L.length := by simp [allP, rowsP_len]
          have hown2 := hown
          rw [← hlen2] at hown2
          obtain ⟨At, kt, hvt, _, _, _⟩ := own_slice hown2
          subst hvt
          have hpu := purses_own (xs := allP l L) hown2 rfl
          have HPU := Lib.hid hpu
          have HBq := Lib.hid hB
          have hPz := (HP1.out.below HB2.out (by omega)).below hB (by omega)
          have HPZ := Lib.hid hPz
          clear hown hown2 hB hpu
          have hl6 : (allP l L).length ≤ 1000000 := by omega
          have HA2 : Hid (addV (addTo (0, 0, 0, 0) (allP l L)) = .tuple #[.agg #[.int .i64 (tot 0 l L), .int .i64 (tot 1 l L), .int .i64 (tot 2 l L), .int .i64 (tot 3 l L)], .bool true]) := HADD
          clear HADD hlen2
          obtain ⟨t0, ht0⟩ : ∃ x, x = tot 0 l L := ⟨_, rfl⟩
          obtain ⟨t1, ht1⟩ : ∃ x, x = tot 1 l L := ⟨_, rfl⟩
          obtain ⟨t2, ht2⟩ : ∃ x, x = tot 2 l L := ⟨_, rfl⟩
          obtain ⟨t3, ht3⟩ : ∃ x, x = tot 3 l L := ⟨_, rfl⟩
          obtain ⟨ys, hys⟩ : ∃ x, x = allP l L := ⟨_, rfl⟩
          rw [← hys] at HPU hl6 HA2 ⊢
          rw [← ht0, ← ht1, ← ht2, ← ht3] at HA2
          have HTV : Hid (Value.agg #[.int .i64 t0, .int .i64 t1, .int .i64 t2, .int .i64 t3] = totV l L) := Lib.hid (by unfold totV; rw [ht0, ht1, ht2, ht3])
          clear hys ht0 ht1 ht2 ht3
          go_wp2_with (first
            | (go_at_call 17; go_loud (refine (purseAdd At kt ys _ hl6 HPU.out).mono ?_; rintro e w8 ⟨he, hb8⟩; rw [HA2.out] at he; subst he; have hs8 := hb8.size; have HB8 := Lib.hid hb8; have P8 := HPZ.out.below hb8 (by have := HB2.out.size; omega); have z0 := P8.cell 0; have z1 := P8.cell 1; have z2 := P8.cell 2; have z3 := P8.cell 3; have f0 := P8.free 0; have f1 := P8.free 1; have f2 := P8.free 2; have f3 := P8.free 3; simp only [List.getElem?_toArray, List.getElem?_cons_succ, List.getElem?_cons_zero] at z0 z1 z2 z3; clear hb8 P8))
            | fail)
          have hbw : Below w.heap.size w w8 := ((HB1.out.trans (HB2.out.mono (by omega))).trans (HBq.out.mono (by omega))).trans (HB8.out.mono (by omega))
          refine bodyPost_ret (v := .tuple #[.agg #[.int .i64 t0, .int .i64 t1, .int .i64 t2, .int .i64 t3], .bool true]) (by simp [results, Try.results13, go_sem, ↓IntWalk.iteOmega, *]) rfl ⟨by rw [HTV.out], by ((repeat (first | (with_reducible exact Below.refl _ _) | (with_reducible assumption) | ((with_reducible refine b_set ?_ ?_); · (first | omega | (simp; done) | (simp; omega))) | ((with_reducible refine b_alloc ?_ ?_); · (first | omega | (simp; done) | (simp; omega))) | (with_reducible refine Below.drew ?_) | (with_reducible refine b_drewN ?_) | ((with_reducible refine b_call (by assumption) ?_ ?_); · (first | omega | (simp; done) | (simp; omega))))); done)⟩
end Go.Proofs.Ytdlbiobjnohfbaa
