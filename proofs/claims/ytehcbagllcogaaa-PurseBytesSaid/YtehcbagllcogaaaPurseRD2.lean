/- What the document's own Decode of a purse returns; bytes as texts. -/
import Derived.Test.YtehcbagllcogaaaPurseRd
import Derived.Laws.BytesArg
namespace Go.Proofs.Ytehcbagllcogaaa
open Go.RowKit
set_option linter.unusedVariables false
set_option linter.unusedSimpArgs false

/-- bytes as a text -/
def strU (xs : List Nat) : ByteArray := strOfNums (xs.map fun x : Nat => (x : Int))
theorem own_cases' {w : World} {base : Nat} {v : Value} {xs : List Nat} (h : w.ownsRow base 5 1 v xs.length (flatU xs)) : (v = .slice none 0 0 ∧ xs = []) ∨ ∃ g cap, v = .slice (some ⟨g, 0, none⟩) xs.length cap := by
  rcases h.2 with ⟨hv, h0⟩ | ⟨g, cap, cur, hv, _⟩
  · exact .inl ⟨hv, List.eq_nil_of_length_eq_zero h0⟩
  · exact .inr ⟨g, cap, hv⟩
theorem conv_own {w : World} {base : Nat} {v : Value} {xs : List Nat} (h : w.ownsRow base 5 1 v xs.length (flatU xs)) : (convert 24 9 v).run Try.prog w = .ok (.string (strU xs)) w := by
  rcases own_cases' h with ⟨rfl, rfl⟩ | ⟨g, cap, rfl⟩
  · exact run_convert_bytes_nil w _ _ Try.underlying24 Try.underlying5 0 0 _ Try.underlying9
  · refine run_convert_bytes_arg w _ _ Try.underlying24 Try.underlying5 g 0 _ cap _ (by simp) (fun i hi => ?_) _ Try.underlying9
    have := h.cells (g := g) rfl i (.int .u8 (xs[i] : Nat)) (by simp [flatU, hi])
    rw [add_none] at this
    rw [this]
    simp [List.getD, hi]

theorem allOf_read (s : Option (List Nat)) : allOf (readR s) = (allOf (itR s) && isP (it0 s) (it1 s) (it2 s) (it3 s)) := by
  unfold readR
  cases isP (it0 s) (it1 s) (it2 s) (it3 s)
  · simp [allOf]
  · simp

set_option maxHeartbeats 1000000 in
set_option maxRecDepth 10000 in
theorem refDecode (A : Option Addr) (c : Nat) (xs : List Nat) (w : World) (hn : xs.length ≤ 10000) (hcap : xs.length ≤ c) (hcm : c ≤ maxLen) (h256 : ∀ x ∈ xs, x < 256) (hx : Cells w w.heap.size A xs.length c 1 (flatU xs)) :
    Calls Try.prog 5 #[.slice A xs.length c] w fun e w' => e = .returned (decV xs) ∧ Below w.heap.size w w' := by
  have hw2 : Below w.heap.size w ((w.alloc (.cells #[.int .i64 0, .int .i64 0, .int .i64 0, .int .i64 0] 23)).alloc (.cells #[.slice A xs.length c, .bool false] 40)) := ((Below.refl _ _).alloc (Nat.le_refl _) _).alloc (by simp) _
  have HX := Lib.hid (cells_keep hx hw2 (by omega : w.heap.size ≤ w.heap.size + 1))
  have HR : Hid (RS ((w.alloc (.cells #[.int .i64 0, .int .i64 0, .int .i64 0, .int .i64 0] 23)).alloc (.cells #[.slice A xs.length c, .bool false] 40)) (w.heap.size + 1) (some xs)) :=
    Lib.hid (RS.of ⟨⟨A, c, by ((repeat (first | (with_reducible assumption) | ((with_reducible refine c_set_same ?_); ((repeat (first | (with_reducible exact h_of (by assumption)) | (with_reducible assumption) | (with_reducible refine h_set ?_) | ((with_reducible refine h_alloc ?_ ?_); · (first | omega | (simp; done) | (simp; omega))) | ((with_reducible refine h_new ?_ ?_) <;> (first | omega | (simp; done) | (simp; omega))) | (with_reducible refine h_drew ?_) | (with_reducible refine h_drewN ?_) | ((with_reducible refine h_keep (by assumption) ?_ ?_); · (first | omega | (simp; done) | (simp; omega))))); done)) | ((with_reducible refine c_set_other ?_ ?_); · (first | omega | (simp; done) | (simp; omega))) | ((with_reducible refine c_alloc ?_ ?_); · (first | omega | (simp; done) | (simp; omega))) | ((with_reducible refine c_new ?_ ?_) <;> (first | omega | (simp; done) | (simp; omega))) | (with_reducible refine c_drew ?_) | (with_reducible refine c_drewN ?_) | ((with_reducible refine c_keep (by assumption) ?_ ?_); · (first | omega | (simp; done) | (simp; omega))))); done), hcap, hcm, HX.out⟩, by ((repeat (first | (with_reducible assumption) | ((with_reducible refine c_set_same ?_); ((repeat (first | (with_reducible exact h_of (by assumption)) | (with_reducible assumption) | (with_reducible refine h_set ?_) | ((with_reducible refine h_alloc ?_ ?_); · (first | omega | (simp; done) | (simp; omega))) | ((with_reducible refine h_new ?_ ?_) <;> (first | omega | (simp; done) | (simp; omega))) | (with_reducible refine h_drew ?_) | (with_reducible refine h_drewN ?_) | ((with_reducible refine h_keep (by assumption) ?_ ?_); · (first | omega | (simp; done) | (simp; omega))))); done)) | ((with_reducible refine c_set_other ?_ ?_); · (first | omega | (simp; done) | (simp; omega))) | ((with_reducible refine c_alloc ?_ ?_); · (first | omega | (simp; done) | (simp; omega))) | ((with_reducible refine c_new ?_ ?_) <;> (first | omega | (simp; done) | (simp; omega))) | (with_reducible refine c_drew ?_) | (with_reducible refine c_drewN ?_) | ((with_reducible refine c_keep (by assumption) ?_ ?_); · (first | omega | (simp; done) | (simp; omega))))); done), by intro j; ((repeat (first | (with_reducible assumption) | (with_reducible refine f_set ?_) | ((with_reducible refine f_alloc ?_ ?_); · (first | omega | (simp; done) | (simp; omega))) | ((with_reducible refine f_new ?_); (first | omega | (simp; done) | (simp; omega)); done) | (with_reducible refine f_drew ?_) | (with_reducible refine f_drewN ?_) | ((with_reducible refine f_keep (by assumption) ?_ ?_); · (first | omega | (simp; done) | (simp; omega))))); done), by simp⟩ (by omega) h256)
  have R0 : Whl ((w.alloc (.cells #[.int .i64 0, .int .i64 0, .int .i64 0, .int .i64 0] 23)).alloc (.cells #[.slice A xs.length c, .bool false] 40)) w.heap.size 23 #[.int .i64 0, .int .i64 0, .int .i64 0, .int .i64 0] := Whl.alloc (Whl.new rfl) _
  have HB := Lib.hid hw2
  clear hx h256 hw2 HX
  go_enter Try.func5, Try.ntmps5
  go_wp2_with fail
  refine (refRead (w.heap.size + 1) (some xs) _ HR.out).mono ?_
  rintro e w1 ⟨rfl, hrs1, ht1⟩
  have hs1 := ht1.size
  simp at hs1
  have R1 := R0.tch ht1 (by omega)
  have B1 : Below w.heap.size w w1 := HB.out.trans (ht1.below (by omega) (by simp; omega))
  have HRd : Hid (readR (some xs) = readR (some xs)) := Lib.hid rfl
  have R2 : Whl (w1.alloc (.cells #[.int .i64 (it0 (some xs)), .int .i64 (it1 (some xs)), .int .i64 (it2 (some xs)), .int .i64 (it3 (some xs))] 23)) w.heap.size 23 #[.int .i64 0, .int .i64 0, .int .i64 0, .int .i64 0] := R1.alloc _
  have W2 : Whl (w1.alloc (.cells #[.int .i64 (it0 (some xs)), .int .i64 (it1 (some xs)), .int .i64 (it2 (some xs)), .int .i64 (it3 (some xs))] 23)) w1.heap.size 23 #[.int .i64 (it0 (some xs)), .int .i64 (it1 (some xs)), .int .i64 (it2 (some xs)), .int .i64 (it3 (some xs))] := Whl.new rfl
  have HS2 := Lib.hid (RS.alloc hrs1 (.cells #[.int .i64 (it0 (some xs)), .int .i64 (it1 (some xs)), .int .i64 (it2 (some xs)), .int .i64 (it3 (some xs))] 23))
  have B2 := B1.alloc (by omega) (.cells #[.int .i64 (it0 (some xs)), .int .i64 (it1 (some xs)), .int .i64 (it2 (some xs)), .int .i64 (it3 (some xs))] 23)
  have hdv : decV xs = if allOf (readR (some xs)) = true then .tuple #[.agg #[.int .i64 (it0 (some xs)), .int .i64 (it1 (some xs)), .int .i64 (it2 (some xs)), .int .i64 (it3 (some xs))], .int .i64 0] else .tuple #[.agg #[.int .i64 0, .int .i64 0, .int .i64 0, .int .i64 0], .int .i64 3] := by
    rw [allOf_read]; rfl
  have HDV := Lib.hid hdv
  clear hdv R0 R1 B1 hrs1 ht1
  go_wp2_with fail
  refine (rfAll (w.heap.size + 1) _ _ HS2.out).mono ?_
  rintro e w5 ⟨rfl, hw5⟩
  have HW5 := Lib.hid hw5
  rw [hw5] at R2 W2 B2
  clear hw5
  have r0 := R2.cell 0
  have r1 := R2.cell 1
  have r2 := R2.cell 2
  have r3 := R2.cell 3
  have t0 := R2.free 0
  have t1 := R2.free 1
  have t2 := R2.free 2
  have t3 := R2.free 3
  have d0 := W2.cell 0
  have d1 := W2.cell 1
  have d2 := W2.cell 2
  have d3 := W2.cell 3
  simp only [List.getElem?_toArray, List.getElem?_cons_succ, List.getElem?_cons_zero] at r0 r1 r2 r3 d0 d1 d2 d3
  cases hall : allOf (readR (some xs))
  · have hv : decV xs = .tuple #[.agg #[.int .i64 0, .int .i64 0, .int .i64 0, .int .i64 0], .int .i64 3] := by rw [HDV.out, hall]; rfl
    have HVV := Lib.hid hv
    clear hv
    go_wp2_with fail
    refine bodyPost_ret (v := .tuple #[.agg #[.int .i64 0, .int .i64 0, .int .i64 0, .int .i64 0], .int .i64 3]) (by simp [results, Try.results5, go_sem, ↓IntWalk.iteOmega, *]) rfl ⟨by rw [HVV.out], ?_⟩
    exact (((B2.setCell (Nat.le_refl _) _).setCell (Nat.le_refl _) _).setCell (Nat.le_refl _) _).setCell (Nat.le_refl _) _
  · have hv : decV xs = .tuple #[.agg #[.int .i64 (it0 (some xs)), .int .i64 (it1 (some xs)), .int .i64 (it2 (some xs)), .int .i64 (it3 (some xs))], .int .i64 0] := by rw [HDV.out, hall]; rfl
    have HVV := Lib.hid hv
    clear hv
    go_wp2_with fail
    refine bodyPost_ret (v := .tuple #[.agg #[.int .i64 (it0 (some xs)), .int .i64 (it1 (some xs)), .int .i64 (it2 (some xs)), .int .i64 (it3 (some xs))], .int .i64 0]) (by simp [results, Try.results5, go_sem, ↓IntWalk.iteOmega, *]) rfl ⟨by rw [HVV.out], ?_⟩
    exact (((B2.setCell (Nat.le_refl _) _).setCell (Nat.le_refl _) _).setCell (Nat.le_refl _) _).setCell (Nat.le_refl _) _

theorem lawBytes8 (b1 b2 : Nat) (v1 v2 : Value) (xs : List Nat) (w : World) (h1 : w.ownsRow b1 5 1 v1 xs.length (flatU xs)) (h2 : w.ownsRow b2 5 1 v2 xs.length (flatU xs)) :
    Calls Try.prog 7 #[v1, v2] w fun e w' => e = .returned (.bool true) ∧ w = w' := by
  have c1 := conv_own h1
  have c2 := conv_own h2
  clear h1 h2
  go_enter Try.func7, Try.ntmps7
  go_wp2_with fail
  go_ret
  exact ⟨ret_bool (by simp), rfl⟩

end Go.Proofs.Ytehcbagllcogaaa
