/- A reply as bytes: op.EncodeReply, and the document's own EncodeReply. -/
import Derived.Test.YtblknjclkecglaaOctetW
import Derived.Test.YtblknjclkecglaaRepA
import Derived.Test.YtblknjclkecglaaStepAppend
namespace Go.Proofs.Ytblknjclkecglaa
open Go.RowKit
set_option linter.unusedVariables false
set_option linter.unusedSimpArgs false

def repBs (e i a b c d : Int) : List Nat := encs [e, i] ++ encs [a, b, c, d]
theorem wrow_far {w w' : World} {b g : Nat} (h : WNear w b w') (h0 : wrow w b = none) (hg : g < w.heap.size) (hb : g ≠ b) : ¬ WD w' b g := by
  rintro (e | e)
  · exact hb e
  · have := h.old g hg e
    rw [h0] at this; cases this
theorem numsAt_new {w : World} {b : Nat} {e : TypeId} {l : List Int} {cs : Array Value} (hl : cs = (l.map (Value.int .i64)).toArray) (hd : ¬ WD (w.alloc (.cells cs e)) b w.heap.size) : NumsAt (w.alloc (.cells cs e)) b (some ⟨w.heap.size, 0, none⟩) l := by
  intro k hk
  refine ⟨_, _, rfl, hd, ?_⟩
  rw [Nat.zero_add, cell_of_row _ _ _ _ _ _ (heap_alloc_new w _)]
  subst hl
  simp [hk]
theorem Wr.ge {w : World} {b base : Nat} {xs : List Nat} (h : Wr w b base xs) : ∀ k, WD w b k → b ≤ k := by
  obtain ⟨⟨s, hs, ho⟩, _, h1, h2⟩ := h
  rintro k (e | e)
  · omega
  · rw [wrow_of hs] at e
    have := (ho.lt k e).1
    omega

set_option maxHeartbeats 4000000 in
set_option maxRecDepth 10000 in
theorem opEncodeReply (e i a b c d : Int) (w : World) (h : repB e i a b c d = true) :
    Calls Try.prog 15 #[.agg #[.int .i64 e, .int .i64 i, .int .i64 a, .int .i64 b, .int .i64 c, .int .i64 d]] w fun z w' => ∃ v', z = .returned (.tuple #[v', .int .i64 0]) ∧ w'.ownsRow w.heap.size 5 1 v' (repBs e i a b c d).length (flatU (repBs e i a b c d)) ∧ Below w.heap.size w w' := by
  go_enter Try.func15, Try.ntmps15
  go_wp2_with fail
  have hB0 : Below w.heap.size w (w.alloc (.cells #[.int .i64 e, .int .i64 i, .int .i64 a, .int .i64 b, .int .i64 c, .int .i64 d] 43)) := (Below.refl _ _).alloc (Nat.le_refl _) _
  have P0 : Whl (w.alloc (.cells #[.int .i64 e, .int .i64 i, .int .i64 a, .int .i64 b, .int .i64 c, .int .i64 d] 43)) w.heap.size 43 #[.int .i64 e, .int .i64 i, .int .i64 a, .int .i64 b, .int .i64 c, .int .i64 d] := Whl.new rfl
  have hs0 : w.heap.size < (w.alloc (.cells #[.int .i64 e, .int .i64 i, .int .i64 a, .int .i64 b, .int .i64 c, .int .i64 d] 43)).heap.size := by simp
  generalize w.alloc (.cells #[.int .i64 e, .int .i64 i, .int .i64 a, .int .i64 b, .int .i64 c, .int .i64 d] 43) = V at *
  refine (opMayReply _ _ _ _ _ _ _).mono ?_
  rintro z w1 ⟨hz, hb1⟩
  rw [h] at hz
  subst hz
  have P1 := P0.below hb1 hs0
  have hs1 := hb1.size
  have B1 := hB0.trans (hb1.mono (by omega))
  have hlt1 : w.heap.size < w1.heap.size := by omega
  clear P0 hB0 hb1
  have d0 := P1.cell 0
  have d1 := P1.cell 1
  simp only [List.getElem?_toArray, List.getElem?_cons_succ, List.getElem?_cons_zero] at d0 d1
  go_wp2_with fail
  have hc0 : ((w1.alloc (.cells #[.slice none 0 0] 53)).alloc (.cells #[.int .i64 e, .int .i64 i] 3)).cell? ⟨w1.heap.size, 0, none⟩ = some (.slice none 0 0) := by
    rw [World.cell?_alloc_lt _ _ _ (by simp), cell_of_row _ _ _ _ _ _ (heap_alloc_new w1 _)]; rfl
  have hf0 : ((w1.alloc (.cells #[.slice none 0 0] 53)).alloc (.cells #[.int .i64 e, .int .i64 i] 3)).frozen? ⟨w1.heap.size, 0, none⟩ = false :=
    (Whl.alloc (Whl.new rfl : Whl (w1.alloc (.cells #[.slice none 0 0] 53)) w1.heap.size 53 #[.slice none 0 0]) _).free 0
  have hrow0 : wrow ((w1.alloc (.cells #[.slice none 0 0] 53)).alloc (.cells #[.int .i64 e, .int .i64 i] 3)) w1.heap.size = none := (wrow_of hc0).trans rfl
  have hWr : Wr ((w1.alloc (.cells #[.slice none 0 0] 53)).alloc (.cells #[.int .i64 e, .int .i64 i] 3)) w1.heap.size (w1.heap.size + 1) [] := ⟨⟨_, hc0, World.ownsRow_nil _ _ _ _⟩, hf0, by omega, by simp⟩
  have hNA : NumsAt ((w1.alloc (.cells #[.slice none 0 0] 53)).alloc (.cells #[.int .i64 e, .int .i64 i] 3)) w1.heap.size (some ⟨w1.heap.size + 1, 0, none⟩) [e, i] := by
    have h := numsAt_new (w := w1.alloc (.cells #[.slice none 0 0] 53)) (b := w1.heap.size) (e := 3) (l := [e, i]) (cs := #[.int .i64 e, .int .i64 i]) rfl (by
      rintro (h1 | h1)
      · simp at h1
      · rw [hrow0] at h1; cases h1)
    simpa using h
  have hB2 : Below w1.heap.size w1 ((w1.alloc (.cells #[.slice none 0 0] 53)).alloc (.cells #[.int .i64 e, .int .i64 i] 3)) := ((Below.refl _ _).alloc (Nat.le_refl _) _).alloc (by simp) _
  have hsW : ((w1.alloc (.cells #[.slice none 0 0] 53)).alloc (.cells #[.int .i64 e, .int .i64 i] 3)).heap.size = w1.heap.size + 2 := by simp
  generalize hWW : ((w1.alloc (.cells #[.slice none 0 0] 53)).alloc (.cells #[.int .i64 e, .int .i64 i] 3)) = W at *
  refine (wNumsT w1.heap.size (w1.heap.size + 1) _ 2 [e, i] [] W (by simp) (by simp) hWr hNA).mono ?_
  rintro z w3 ⟨rfl, hWr3, ht3, hn3⟩
  have hs3 := ht3.size
  have P2 := P1.below hB2 hlt1
  have P3 : Whl w3 w.heap.size 43 #[.int .i64 e, .int .i64 i, .int .i64 a, .int .i64 b, .int .i64 c, .int .i64 d] := (ht3.block _ (by omega) (by
    rintro (h1 | h1)
    · omega
    · rw [hrow0] at h1; cases h1)).trans P2
  have hfo3 : ¬ WD w3 w1.heap.size w.heap.size := wrow_far hn3 hrow0 (by omega) (by omega)
  have hlt3 : w.heap.size < w3.heap.size := by omega
  have hWge : ∀ k, WD W w1.heap.size k → w.heap.size ≤ k := by
    rintro k (e | e)
    · omega
    · rw [hrow0] at e; cases e
  have B3 : Below w.heap.size w w3 := (B1.trans (hB2.mono (by omega))).trans (ht3.below (B := w.heap.size) (by omega) hWge)
  have hNA3 : NumsAt w3 w1.heap.size (some ⟨w.heap.size, 2, none⟩) [a, b, c, d] := by
    intro k hk
    have hk4 : k < 4 := hk
    refine ⟨_, _, rfl, hfo3, ?_⟩
    have hkk : k = 0 ∨ k = 1 ∨ k = 2 ∨ k = 3 := by omega
    rcases hkk with rfl | rfl | rfl | rfl <;> (rw [P3.cell]; rfl)
  have hen2 := encs_len [e, i]
  have hen4 := encs_len [a, b, c, d]
  have hwge3 := hWr3.ge
  have HW3 := Lib.hid hWr3
  have HNA3 := Lib.hid hNA3
  have q0 := P3.cell 2
  simp only [List.getElem?_toArray, List.getElem?_cons_succ, List.getElem?_cons_zero] at q0
  clear hWr hNA d0 d1 hWr3 hn3 hc0 hf0 hNA3
  go_wp2_with fail
  refine (wNumsT w1.heap.size (w1.heap.size + 1) _ 4 [a, b, c, d] _ w3 (by simp) (by simp at hen2 ⊢; omega) HW3.out HNA3.out).mono ?_
  rintro z w6 ⟨rfl, hWr6, ht6, hn6⟩
  have HW6 := Lib.hid hWr6
  have B6 : Below w.heap.size w w6 := B3.trans (ht6.below (B := w.heap.size) (by omega) (fun k hk => by have := hwge3 k hk; omega))
  clear hWr6 hn6 HNA3
  go_wp2_with fail
  refine (wOut w1.heap.size (w1.heap.size + 1) _ w6 ?_ HW6.out).mono ?_
  · simp only [List.nil_append, List.length_append, List.length_cons, List.length_nil] at hen2 hen4 ⊢
    omega
  rintro z w7 ⟨v7, rfl, hown7, hb7⟩
  have e7 : [] ++ encs [e, i] ++ encs [a, b, c, d] = repBs e i a b c d := by simp [repBs]
  rw [e7] at hown7
  generalize hR : repBs e i a b c d = R at *
  obtain ⟨A7, c7, rfl, _, _, _⟩ := row_cells hown7
  have HO7 := Lib.hid hown7
  clear hown7
  go_wp2_with fail
  refine bodyPost_ret (v := .tuple #[.slice A7 R.length c7, .int .i64 0]) (by simp [results, Try.results15, go_sem, ↓IntWalk.iteOmega, *]) rfl ⟨_, rfl, ?_, B6.trans (hb7.mono B6.size)⟩
  rw [hR]
  exact HO7.out.mono B6.size

set_option maxHeartbeats 1000000 in
theorem opEncodeReplyNo (e i a b c d : Int) (w : World) (h : repB e i a b c d = false) :
    Calls Try.prog 15 #[.agg #[.int .i64 e, .int .i64 i, .int .i64 a, .int .i64 b, .int .i64 c, .int .i64 d]] w fun z w' => z = .returned (.tuple #[.slice none 0 0, .int .i64 1]) ∧ Below w.heap.size w w' := by
  go_enter Try.func15, Try.ntmps15
  go_wp2_with fail
  refine (opMayReply _ _ _ _ _ _ _).mono ?_
  rintro z w1 ⟨hz, hb1⟩
  rw [h] at hz
  subst hz
  have hs1 := hb1.size; (try simp at hs1)
  go_wp2_with fail
  refine bodyPost_ret (v := .tuple #[.slice none 0 0, .int .i64 1]) (by simp [results, Try.results15, go_sem, ↓IntWalk.iteOmega, *]) rfl ⟨rfl, ?_⟩
  ((repeat (first | (with_reducible exact Below.refl _ _) | (with_reducible assumption) | ((with_reducible refine b_set ?_ ?_); · (first | omega | (simp; done) | (simp; omega))) | ((with_reducible refine b_alloc ?_ ?_); · (first | omega | (simp; done) | (simp; omega))) | (with_reducible refine Below.drew ?_) | (with_reducible refine b_drewN ?_) | ((with_reducible refine b_call (by assumption) ?_ ?_); · (first | omega | (simp; done) | (simp; omega))))); done)

set_option maxHeartbeats 1000000 in
theorem refEncodeReplyNo (e i a b c d : Int) (w : World) (h : repB e i a b c d = false) :
    Calls Try.prog 16 #[.agg #[.int .i64 e, .int .i64 i, .int .i64 a, .int .i64 b, .int .i64 c, .int .i64 d]] w fun z w' => z = .returned (.tuple #[.slice none 0 0, .int .i64 1]) ∧ Below w.heap.size w w' := by
  go_enter Try.func16, Try.ntmps16
  go_wp2_with fail
  refine (refMayReply _ _ _ _ _ _ _).mono ?_
  rintro z w1 ⟨hz, hb1⟩
  rw [h] at hz
  subst hz
  have hs1 := hb1.size; (try simp at hs1)
  go_wp2_with fail
  refine bodyPost_ret (v := .tuple #[.slice none 0 0, .int .i64 1]) (by simp [results, Try.results16, go_sem, ↓IntWalk.iteOmega, *]) rfl ⟨rfl, ?_⟩
  ((repeat (first | (with_reducible exact Below.refl _ _) | (with_reducible assumption) | ((with_reducible refine b_set ?_ ?_); · (first | omega | (simp; done) | (simp; omega))) | ((with_reducible refine b_alloc ?_ ?_); · (first | omega | (simp; done) | (simp; omega))) | (with_reducible refine Below.drew ?_) | (with_reducible refine b_drewN ?_) | ((with_reducible refine b_call (by assumption) ?_ ?_); · (first | omega | (simp; done) | (simp; omega))))); done)
end Go.Proofs.Ytblknjclkecglaa
