/- What the document's own Decode returns, of any bytes. -/
import Derived.Test.YtblknjclkecglaaDcG
namespace Go.Proofs.Ytblknjclkecglaa
open Go.RowKit
set_option linter.unusedVariables false
set_option linter.unusedSimpArgs false

set_option maxHeartbeats 8000000 in
set_option maxRecDepth 10000 in
theorem refDecode (A : Option Addr) (c : Nat) (xs : List Nat) (w : World) (hn : xs.length ≤ 10000) (hcap : xs.length ≤ c) (hcm : c ≤ maxLen) (h256 : ∀ x ∈ xs, x < 256) (hx : Cells w w.heap.size A xs.length c 1 (flatU xs)) :
    Calls Try.prog 14 #[.slice A xs.length c] w fun e w' => e = .returned (dV xs) ∧ Below w.heap.size w w' := by
  have hw2 : Below w.heap.size w ((w.alloc (.cells #[.int .i64 0, .int .i64 0, .int .i64 0, .string ⟨#[]⟩, .string ⟨#[]⟩, .string ⟨#[]⟩, .string ⟨#[]⟩, .int .i64 0, .int .i64 0, .int .i64 0, .bool false, .int .i64 0] 25)).alloc (.cells #[.slice A xs.length c, .bool false] 75)) := ((Below.refl _ _).alloc (Nat.le_refl _) _).alloc (by simp) _
  have HX := Lib.hid (cells_keep hx hw2 (by omega : w.heap.size ≤ w.heap.size + 1))
  have HS0 : Hid (RS ((w.alloc (.cells #[.int .i64 0, .int .i64 0, .int .i64 0, .string ⟨#[]⟩, .string ⟨#[]⟩, .string ⟨#[]⟩, .string ⟨#[]⟩, .int .i64 0, .int .i64 0, .int .i64 0, .bool false, .int .i64 0] 25)).alloc (.cells #[.slice A xs.length c, .bool false] 75)) (w.heap.size + 1) (dS xs 0)) :=
    Lib.hid (RS.of ⟨⟨A, c, by ((repeat (first | (with_reducible assumption) | ((with_reducible refine c_set_same ?_); ((repeat (first | (with_reducible exact h_of (by assumption)) | (with_reducible assumption) | (with_reducible refine h_set ?_) | ((with_reducible refine h_alloc ?_ ?_); · (first | omega | (simp; done) | (simp; omega))) | ((with_reducible refine h_new ?_ ?_) <;> (first | omega | (simp; done) | (simp; omega))) | (with_reducible refine h_drew ?_) | (with_reducible refine h_drewN ?_) | ((with_reducible refine h_keep (by assumption) ?_ ?_); · (first | omega | (simp; done) | (simp; omega))))); done)) | ((with_reducible refine c_set_other ?_ ?_); · (first | omega | (simp; done) | (simp; omega))) | ((with_reducible refine c_alloc ?_ ?_); · (first | omega | (simp; done) | (simp; omega))) | ((with_reducible refine c_new ?_ ?_) <;> (first | omega | (simp; done) | (simp; omega))) | (with_reducible refine c_drew ?_) | (with_reducible refine c_drewN ?_) | ((with_reducible refine c_keep (by assumption) ?_ ?_); · (first | omega | (simp; done) | (simp; omega))))); done), hcap, hcm, HX.out⟩, by ((repeat (first | (with_reducible assumption) | ((with_reducible refine c_set_same ?_); ((repeat (first | (with_reducible exact h_of (by assumption)) | (with_reducible assumption) | (with_reducible refine h_set ?_) | ((with_reducible refine h_alloc ?_ ?_); · (first | omega | (simp; done) | (simp; omega))) | ((with_reducible refine h_new ?_ ?_) <;> (first | omega | (simp; done) | (simp; omega))) | (with_reducible refine h_drew ?_) | (with_reducible refine h_drewN ?_) | ((with_reducible refine h_keep (by assumption) ?_ ?_); · (first | omega | (simp; done) | (simp; omega))))); done)) | ((with_reducible refine c_set_other ?_ ?_); · (first | omega | (simp; done) | (simp; omega))) | ((with_reducible refine c_alloc ?_ ?_); · (first | omega | (simp; done) | (simp; omega))) | ((with_reducible refine c_new ?_ ?_) <;> (first | omega | (simp; done) | (simp; omega))) | (with_reducible refine c_drew ?_) | (with_reducible refine c_drewN ?_) | ((with_reducible refine c_keep (by assumption) ?_ ?_); · (first | omega | (simp; done) | (simp; omega))))); done), by intro j; ((repeat (first | (with_reducible assumption) | (with_reducible refine f_set ?_) | ((with_reducible refine f_alloc ?_ ?_); · (first | omega | (simp; done) | (simp; omega))) | ((with_reducible refine f_new ?_); (first | omega | (simp; done) | (simp; omega)); done) | (with_reducible refine f_drew ?_) | (with_reducible refine f_drewN ?_) | ((with_reducible refine f_keep (by assumption) ?_ ?_); · (first | omega | (simp; done) | (simp; omega))))); done), by simp⟩ (by omega) h256)
  have R : Whl ((w.alloc (.cells #[.int .i64 0, .int .i64 0, .int .i64 0, .string ⟨#[]⟩, .string ⟨#[]⟩, .string ⟨#[]⟩, .string ⟨#[]⟩, .int .i64 0, .int .i64 0, .int .i64 0, .bool false, .int .i64 0] 25)).alloc (.cells #[.slice A xs.length c, .bool false] 75)) w.heap.size 25 #[.int .i64 0, .int .i64 0, .int .i64 0, .string ⟨#[]⟩, .string ⟨#[]⟩, .string ⟨#[]⟩, .string ⟨#[]⟩, .int .i64 0, .int .i64 0, .int .i64 0, .bool false, .int .i64 0] := Whl.alloc (Whl.new rfl) _
  have B := Lib.hid hw2
  clear hx h256 hw2 HX
  go_enter Try.func14, Try.ntmps14
  go_wp2_with fail
  refine (rfNxT (w.heap.size + 1) (dS xs 0) _ HS0.out).mono ?_
  rintro e v0 ⟨rfl, hrs, ht⟩
  have hl0 := ht.size
  (try simp at hl0)
  replace hrs : RS v0 (w.heap.size + 1) (dS xs 1) := hrs
  replace R := R.tch ht (by omega)
  have B0 : Below w.heap.size w v0 := B.out.trans (ht.below (by omega) (by simp; omega))
  obtain ⟨n0, hn0⟩ : ∃ z : Int, z = ((nx (dS xs 0)).1 : Int) := ⟨_, rfl⟩
  rw [← hn0]
  have HN0 : Hid (n0 = dN xs 0) := Lib.hid hn0
  have HS1 := Lib.hid hrs
  clear hn0 hrs ht HS0 B
  go_wp2_with fail
  refine (rfNxT (w.heap.size + 1) (dS xs 1) _ HS1.out).mono ?_
  rintro e v1 ⟨rfl, hrs, ht⟩
  have hl1 := ht.size
  (try simp at hl1)
  replace hrs : RS v1 (w.heap.size + 1) (dS xs 2) := hrs
  replace R := R.tch ht (by omega)
  have B1 : Below w.heap.size w v1 := B0.trans (ht.below (by omega) (by omega))
  obtain ⟨n1, hn1⟩ : ∃ z : Int, z = ((nx (dS xs 1)).1 : Int) := ⟨_, rfl⟩
  rw [← hn1]
  have HN1 : Hid (n1 = dN xs 1) := Lib.hid hn1
  have HS2 := Lib.hid hrs
  clear hn1 hrs ht HS1 B0
  go_wp2_with fail
  refine (rfNxT (w.heap.size + 1) (dS xs 2) _ HS2.out).mono ?_
  rintro e v2 ⟨rfl, hrs, ht⟩
  have hl2 := ht.size
  (try simp at hl2)
  replace hrs : RS v2 (w.heap.size + 1) (dS xs 3) := hrs
  replace R := R.tch ht (by omega)
  have B2 : Below w.heap.size w v2 := B1.trans (ht.below (by omega) (by omega))
  obtain ⟨n2, hn2⟩ : ∃ z : Int, z = ((nx (dS xs 2)).1 : Int) := ⟨_, rfl⟩
  rw [← hn2]
  have HN2 : Hid (n2 = dN xs 2) := Lib.hid hn2
  have HS3 := Lib.hid hrs
  clear hn2 hrs ht HS2 B1
  go_wp2_with fail
  have X : Whl (v2.alloc (.cells #[.int .i64 n0, .int .i64 n1, .int .i64 n2, .string ⟨#[]⟩, .string ⟨#[]⟩, .string ⟨#[]⟩, .string ⟨#[]⟩, .int .i64 0, .int .i64 0, .int .i64 0, .bool false, .int .i64 0] 25)) v2.heap.size 25 #[.int .i64 n0, .int .i64 n1, .int .i64 n2, .string ⟨#[]⟩, .string ⟨#[]⟩, .string ⟨#[]⟩, .string ⟨#[]⟩, .int .i64 0, .int .i64 0, .int .i64 0, .bool false, .int .i64 0] := Whl.new rfl
  replace R := R.alloc (.cells #[.int .i64 n0, .int .i64 n1, .int .i64 n2, .string ⟨#[]⟩, .string ⟨#[]⟩, .string ⟨#[]⟩, .string ⟨#[]⟩, .int .i64 0, .int .i64 0, .int .i64 0, .bool false, .int .i64 0] 25)
  have HS4 := Lib.hid (RS.alloc HS3.out (.cells #[.int .i64 n0, .int .i64 n1, .int .i64 n2, .string ⟨#[]⟩, .string ⟨#[]⟩, .string ⟨#[]⟩, .string ⟨#[]⟩, .int .i64 0, .int .i64 0, .int .i64 0, .bool false, .int .i64 0] 25))
  have B3 : Below w.heap.size w (v2.alloc (.cells #[.int .i64 n0, .int .i64 n1, .int .i64 n2, .string ⟨#[]⟩, .string ⟨#[]⟩, .string ⟨#[]⟩, .string ⟨#[]⟩, .int .i64 0, .int .i64 0, .int .i64 0, .bool false, .int .i64 0] 25)) := B2.alloc (by omega) _
  have hz3 : v2.heap.size < (v2.alloc (.cells #[.int .i64 n0, .int .i64 n1, .int .i64 n2, .string ⟨#[]⟩, .string ⟨#[]⟩, .string ⟨#[]⟩, .string ⟨#[]⟩, .int .i64 0, .int .i64 0, .int .i64 0, .bool false, .int .i64 0] 25)).heap.size := by simp
  have hgw : w.heap.size + 1 < v2.heap.size := by omega
  generalize (v2.alloc (.cells #[.int .i64 n0, .int .i64 n1, .int .i64 n2, .string ⟨#[]⟩, .string ⟨#[]⟩, .string ⟨#[]⟩, .string ⟨#[]⟩, .int .i64 0, .int .i64 0, .int .i64 0, .bool false, .int .i64 0] 25)) = U at *
  generalize v2.heap.size = G at *
  clear HS3 B2
  refine (rfGet (w.heap.size + 1) (dS xs 3) _ HS4.out).mono ?_
  rintro e v3 ⟨rfl, hrs, ht⟩
  have hl3 := ht.size
  replace hrs : RS v3 (w.heap.size + 1) (dS xs 5) := hrs
  replace R := R.tch ht (by omega)
  replace X := X.tch ht (by omega)
  have B4 : Below w.heap.size w v3 := B3.trans (ht.below (by omega) (by omega))
  obtain ⟨t3, ht3⟩ : ∃ z : ByteArray, z = strU (nb (dS xs 3)).1 := ⟨_, rfl⟩
  obtain ⟨t4, ht4⟩ : ∃ z : ByteArray, z = strU (nb (nb (dS xs 3)).2).1 := ⟨_, rfl⟩
  rw [← ht3, ← ht4]
  have HT3 : Hid (t3 = dT xs 3) := Lib.hid ht3
  have HT4 : Hid (t4 = dT xs 4) := Lib.hid ht4
  clear ht3 ht4 ht HS4 B3
  have ck3 := X.cell 3
  have ck4 := X.cell 4
  simp only [List.getElem?_toArray, List.getElem?_cons_succ, List.getElem?_cons_zero] at ck3 ck4
  have fk3 := X.free 3
  have fk4 := X.free 4
  have Y0 := RS.setBlk (i := 3) (v := .string t3) hrs X (noU8_op _ _ _ _ _ _ _ _ _ _ _ _) (by omega)
  have X0 : Whl (v3.setCell ⟨G, 3, none⟩ (.string t3)) G 25 #[.int .i64 n0, .int .i64 n1, .int .i64 n2, .string t3, .string ⟨#[]⟩, .string ⟨#[]⟩, .string ⟨#[]⟩, .int .i64 0, .int .i64 0, .int .i64 0, .bool false, .int .i64 0] := Whl.set X 3 (.string t3)
  have Y1 := RS.setBlk (i := 4) (v := .string t4) Y0 X0 (noU8_op _ _ _ _ _ _ _ _ _ _ _ _) (by omega)
  have X1 : Whl ((v3.setCell ⟨G, 3, none⟩ (.string t3)).setCell ⟨G, 4, none⟩ (.string t4)) G 25 #[.int .i64 n0, .int .i64 n1, .int .i64 n2, .string t3, .string t4, .string ⟨#[]⟩, .string ⟨#[]⟩, .int .i64 0, .int .i64 0, .int .i64 0, .bool false, .int .i64 0] := Whl.set X0 4 (.string t4)
  have HS5 := Lib.hid Y1
  have RR : Whl ((v3.setCell ⟨G, 3, none⟩ (.string t3)).setCell ⟨G, 4, none⟩ (.string t4)) w.heap.size 25 #[.int .i64 0, .int .i64 0, .int .i64 0, .string ⟨#[]⟩, .string ⟨#[]⟩, .string ⟨#[]⟩, .string ⟨#[]⟩, .int .i64 0, .int .i64 0, .int .i64 0, .bool false, .int .i64 0] := ((R.far (by simp; omega)).far (by simp; omega))
  have B5 : Below w.heap.size w ((v3.setCell ⟨G, 3, none⟩ (.string t3)).setCell ⟨G, 4, none⟩ (.string t4)) := ((B4.setCell (by simp; omega) _).setCell (by simp; omega) _)
  have hG : G < ((v3.setCell ⟨G, 3, none⟩ (.string t3)).setCell ⟨G, 4, none⟩ (.string t4)).heap.size := X1.low
  clear R X hrs Y0 Y1 X0 B4
  go_wp2_with fail
  generalize ((v3.setCell ⟨G, 3, none⟩ (.string t3)).setCell ⟨G, 4, none⟩ (.string t4)) = V at *
  obtain ⟨X, R⟩ : Whl V G 25 #[.int .i64 n0, .int .i64 n1, .int .i64 n2, .string t3, .string t4, .string ⟨#[]⟩, .string ⟨#[]⟩, .int .i64 0, .int .i64 0, .int .i64 0, .bool false, .int .i64 0] ∧ Whl V w.heap.size 25 #[.int .i64 0, .int .i64 0, .int .i64 0, .string ⟨#[]⟩, .string ⟨#[]⟩, .string ⟨#[]⟩, .string ⟨#[]⟩, .int .i64 0, .int .i64 0, .int .i64 0, .bool false, .int .i64 0] := ⟨X1, RR⟩
  clear ck3 fk3 ck4 fk4 X1 RR
  refine (rfGet (w.heap.size + 1) (dS xs 5) _ HS5.out).mono ?_
  rintro e v5 ⟨rfl, hrs, ht⟩
  have hl5 := ht.size
  replace hrs : RS v5 (w.heap.size + 1) (dS xs 7) := hrs
  replace R := R.tch ht (by omega)
  replace X := X.tch ht (by omega)
  have B6 : Below w.heap.size w v5 := B5.trans (ht.below (by omega) (by omega))
  obtain ⟨t5, ht5⟩ : ∃ z : ByteArray, z = strU (nb (dS xs 5)).1 := ⟨_, rfl⟩
  obtain ⟨t6, ht6⟩ : ∃ z : ByteArray, z = strU (nb (nb (dS xs 5)).2).1 := ⟨_, rfl⟩
  rw [← ht5, ← ht6]
  have HT5 : Hid (t5 = dT xs 5) := Lib.hid ht5
  have HT6 : Hid (t6 = dT xs 6) := Lib.hid ht6
  clear ht5 ht6 ht HS5 B5
  have ck5 := X.cell 5
  have ck6 := X.cell 6
  simp only [List.getElem?_toArray, List.getElem?_cons_succ, List.getElem?_cons_zero] at ck5 ck6
  have fk5 := X.free 5
  have fk6 := X.free 6
  have Y0 := RS.setBlk (i := 5) (v := .string t5) hrs X (noU8_op _ _ _ _ _ _ _ _ _ _ _ _) (by omega)
  have X0 : Whl (v5.setCell ⟨G, 5, none⟩ (.string t5)) G 25 #[.int .i64 n0, .int .i64 n1, .int .i64 n2, .string t3, .string t4, .string t5, .string ⟨#[]⟩, .int .i64 0, .int .i64 0, .int .i64 0, .bool false, .int .i64 0] := Whl.set X 5 (.string t5)
  have Y1 := RS.setBlk (i := 6) (v := .string t6) Y0 X0 (noU8_op _ _ _ _ _ _ _ _ _ _ _ _) (by omega)
  have X1 : Whl ((v5.setCell ⟨G, 5, none⟩ (.string t5)).setCell ⟨G, 6, none⟩ (.string t6)) G 25 #[.int .i64 n0, .int .i64 n1, .int .i64 n2, .string t3, .string t4, .string t5, .string t6, .int .i64 0, .int .i64 0, .int .i64 0, .bool false, .int .i64 0] := Whl.set X0 6 (.string t6)
  have HS6 := Lib.hid Y1
  have RR : Whl ((v5.setCell ⟨G, 5, none⟩ (.string t5)).setCell ⟨G, 6, none⟩ (.string t6)) w.heap.size 25 #[.int .i64 0, .int .i64 0, .int .i64 0, .string ⟨#[]⟩, .string ⟨#[]⟩, .string ⟨#[]⟩, .string ⟨#[]⟩, .int .i64 0, .int .i64 0, .int .i64 0, .bool false, .int .i64 0] := ((R.far (by simp; omega)).far (by simp; omega))
  have B7 : Below w.heap.size w ((v5.setCell ⟨G, 5, none⟩ (.string t5)).setCell ⟨G, 6, none⟩ (.string t6)) := ((B6.setCell (by simp; omega) _).setCell (by simp; omega) _)
  have hG : G < ((v5.setCell ⟨G, 5, none⟩ (.string t5)).setCell ⟨G, 6, none⟩ (.string t6)).heap.size := X1.low
  clear R X hrs Y0 Y1 X0 B6
  go_wp2_with fail
  generalize ((v5.setCell ⟨G, 5, none⟩ (.string t5)).setCell ⟨G, 6, none⟩ (.string t6)) = V at *
  obtain ⟨X, R⟩ : Whl V G 25 #[.int .i64 n0, .int .i64 n1, .int .i64 n2, .string t3, .string t4, .string t5, .string t6, .int .i64 0, .int .i64 0, .int .i64 0, .bool false, .int .i64 0] ∧ Whl V w.heap.size 25 #[.int .i64 0, .int .i64 0, .int .i64 0, .string ⟨#[]⟩, .string ⟨#[]⟩, .string ⟨#[]⟩, .string ⟨#[]⟩, .int .i64 0, .int .i64 0, .int .i64 0, .bool false, .int .i64 0] := ⟨X1, RR⟩
  clear ck5 fk5 ck6 fk6 X1 RR
  refine (rfNxT (w.heap.size + 1) (dS xs 7) _ HS6.out).mono ?_
  rintro e v7 ⟨rfl, hrs, ht⟩
  have hl7 := ht.size
  (try simp at hl7)
  replace hrs : RS v7 (w.heap.size + 1) (dS xs 8) := hrs
  replace R := R.tch ht (by omega)
  replace X := X.tch ht (by omega)
  have B8 : Below w.heap.size w v7 := B7.trans (ht.below (by omega) (by omega))
  obtain ⟨n7, hn7⟩ : ∃ z : Int, z = ((nx (dS xs 7)).1 : Int) := ⟨_, rfl⟩
  rw [← hn7]
  have HN7 : Hid (n7 = dN xs 7) := Lib.hid hn7
  clear hn7 ht HS6 B7
  have HS7 := Lib.hid hrs
  clear hrs
  go_wp2_with fail
  refine (rfNxT (w.heap.size + 1) (dS xs 8) _ HS7.out).mono ?_
  rintro e v8 ⟨rfl, hrs, ht⟩
  have hl8 := ht.size
  (try simp at hl8)
  replace hrs : RS v8 (w.heap.size + 1) (dS xs 9) := hrs
  replace R := R.tch ht (by omega)
  replace X := X.tch ht (by omega)
  have B9 : Below w.heap.size w v8 := B8.trans (ht.below (by omega) (by omega))
  obtain ⟨n8, hn8⟩ : ∃ z : Int, z = ((nx (dS xs 8)).1 : Int) := ⟨_, rfl⟩
  rw [← hn8]
  have HN8 : Hid (n8 = dN xs 8) := Lib.hid hn8
  clear hn8 ht HS7 B8
  have HS8 := Lib.hid hrs
  clear hrs
  go_wp2_with fail
  refine (rfNxT (w.heap.size + 1) (dS xs 9) _ HS8.out).mono ?_
  rintro e v9 ⟨rfl, hrs, ht⟩
  have hl9 := ht.size
  (try simp at hl9)
  replace hrs : RS v9 (w.heap.size + 1) (dS xs 10) := hrs
  replace R := R.tch ht (by omega)
  replace X := X.tch ht (by omega)
  have B10 : Below w.heap.size w v9 := B9.trans (ht.below (by omega) (by omega))
  obtain ⟨n9, hn9⟩ : ∃ z : Int, z = ((nx (dS xs 9)).1 : Int) := ⟨_, rfl⟩
  rw [← hn9]
  have HN9 : Hid (n9 = dN xs 9) := Lib.hid hn9
  clear hn9 ht HS8 B9
  have ck7 := X.cell 7
  have ck8 := X.cell 8
  have ck9 := X.cell 9
  simp only [List.getElem?_toArray, List.getElem?_cons_succ, List.getElem?_cons_zero] at ck7 ck8 ck9
  have fk7 := X.free 7
  have fk8 := X.free 8
  have fk9 := X.free 9
  have Y0 := RS.setBlk (i := 7) (v := .int .i64 n7) hrs X (noU8_op _ _ _ _ _ _ _ _ _ _ _ _) (by omega)
  have X0 : Whl (v9.setCell ⟨G, 7, none⟩ (.int .i64 n7)) G 25 #[.int .i64 n0, .int .i64 n1, .int .i64 n2, .string t3, .string t4, .string t5, .string t6, .int .i64 n7, .int .i64 0, .int .i64 0, .bool false, .int .i64 0] := Whl.set X 7 (.int .i64 n7)
  have Y1 := RS.setBlk (i := 8) (v := .int .i64 n8) Y0 X0 (noU8_op _ _ _ _ _ _ _ _ _ _ _ _) (by omega)
  have X1 : Whl ((v9.setCell ⟨G, 7, none⟩ (.int .i64 n7)).setCell ⟨G, 8, none⟩ (.int .i64 n8)) G 25 #[.int .i64 n0, .int .i64 n1, .int .i64 n2, .string t3, .string t4, .string t5, .string t6, .int .i64 n7, .int .i64 n8, .int .i64 0, .bool false, .int .i64 0] := Whl.set X0 8 (.int .i64 n8)
  have Y2 := RS.setBlk (i := 9) (v := .int .i64 n9) Y1 X1 (noU8_op _ _ _ _ _ _ _ _ _ _ _ _) (by omega)
  have X2 : Whl (((v9.setCell ⟨G, 7, none⟩ (.int .i64 n7)).setCell ⟨G, 8, none⟩ (.int .i64 n8)).setCell ⟨G, 9, none⟩ (.int .i64 n9)) G 25 #[.int .i64 n0, .int .i64 n1, .int .i64 n2, .string t3, .string t4, .string t5, .string t6, .int .i64 n7, .int .i64 n8, .int .i64 n9, .bool false, .int .i64 0] := Whl.set X1 9 (.int .i64 n9)
  have HS9 := Lib.hid Y2
  have RR : Whl (((v9.setCell ⟨G, 7, none⟩ (.int .i64 n7)).setCell ⟨G, 8, none⟩ (.int .i64 n8)).setCell ⟨G, 9, none⟩ (.int .i64 n9)) w.heap.size 25 #[.int .i64 0, .int .i64 0, .int .i64 0, .string ⟨#[]⟩, .string ⟨#[]⟩, .string ⟨#[]⟩, .string ⟨#[]⟩, .int .i64 0, .int .i64 0, .int .i64 0, .bool false, .int .i64 0] := (((R.far (by simp; omega)).far (by simp; omega)).far (by simp; omega))
  have B11 : Below w.heap.size w (((v9.setCell ⟨G, 7, none⟩ (.int .i64 n7)).setCell ⟨G, 8, none⟩ (.int .i64 n8)).setCell ⟨G, 9, none⟩ (.int .i64 n9)) := (((B10.setCell (by simp; omega) _).setCell (by simp; omega) _).setCell (by simp; omega) _)
  have hG : G < (((v9.setCell ⟨G, 7, none⟩ (.int .i64 n7)).setCell ⟨G, 8, none⟩ (.int .i64 n8)).setCell ⟨G, 9, none⟩ (.int .i64 n9)).heap.size := X2.low
  clear R X hrs Y0 Y1 Y2 X0 X1 B10
  go_wp2_with fail
  generalize (((v9.setCell ⟨G, 7, none⟩ (.int .i64 n7)).setCell ⟨G, 8, none⟩ (.int .i64 n8)).setCell ⟨G, 9, none⟩ (.int .i64 n9)) = V at *
  obtain ⟨X, R⟩ : Whl V G 25 #[.int .i64 n0, .int .i64 n1, .int .i64 n2, .string t3, .string t4, .string t5, .string t6, .int .i64 n7, .int .i64 n8, .int .i64 n9, .bool false, .int .i64 0] ∧ Whl V w.heap.size 25 #[.int .i64 0, .int .i64 0, .int .i64 0, .string ⟨#[]⟩, .string ⟨#[]⟩, .string ⟨#[]⟩, .string ⟨#[]⟩, .int .i64 0, .int .i64 0, .int .i64 0, .bool false, .int .i64 0] := ⟨X2, RR⟩
  clear ck7 fk7 ck8 fk8 ck9 fk9 X2 RR
  refine (rfNxT (w.heap.size + 1) (dS xs 10) _ HS9.out).mono ?_
  rintro e v10 ⟨rfl, hrs, ht⟩
  have hl10 := ht.size
  (try simp at hl10)
  replace hrs : RS v10 (w.heap.size + 1) (dS xs 11) := hrs
  replace R := R.tch ht (by omega)
  replace X := X.tch ht (by omega)
  have B12 : Below w.heap.size w v10 := B11.trans (ht.below (by omega) (by omega))
  obtain ⟨n10, hn10⟩ : ∃ z : Int, z = ((nx (dS xs 10)).1 : Int) := ⟨_, rfl⟩
  rw [← hn10]
  have HN10 : Hid (n10 = dN xs 10) := Lib.hid hn10
  clear hn10 ht HS9 B11
  have ck10 := X.cell 10
  simp only [List.getElem?_toArray, List.getElem?_cons_succ, List.getElem?_cons_zero] at ck10
  have fk10 := X.free 10
  have Y0 := RS.setBlk (i := 10) (v := .bool (n10 == 1)) hrs X (noU8_op _ _ _ _ _ _ _ _ _ _ _ _) (by omega)
  have X0 : Whl (v10.setCell ⟨G, 10, none⟩ (.bool (n10 == 1))) G 25 #[.int .i64 n0, .int .i64 n1, .int .i64 n2, .string t3, .string t4, .string t5, .string t6, .int .i64 n7, .int .i64 n8, .int .i64 n9, .bool (n10 == 1), .int .i64 0] := Whl.set X 10 (.bool (n10 == 1))
  have HS10 := Lib.hid Y0
  have RR : Whl (v10.setCell ⟨G, 10, none⟩ (.bool (n10 == 1))) w.heap.size 25 #[.int .i64 0, .int .i64 0, .int .i64 0, .string ⟨#[]⟩, .string ⟨#[]⟩, .string ⟨#[]⟩, .string ⟨#[]⟩, .int .i64 0, .int .i64 0, .int .i64 0, .bool false, .int .i64 0] := (R.far (by simp; omega))
  have B13 : Below w.heap.size w (v10.setCell ⟨G, 10, none⟩ (.bool (n10 == 1))) := (B12.setCell (by simp; omega) _)
  have hG : G < (v10.setCell ⟨G, 10, none⟩ (.bool (n10 == 1))).heap.size := X0.low
  clear R X hrs Y0  B12
  go_wp2_with fail
  generalize (v10.setCell ⟨G, 10, none⟩ (.bool (n10 == 1))) = V at *
  obtain ⟨X, R⟩ : Whl V G 25 #[.int .i64 n0, .int .i64 n1, .int .i64 n2, .string t3, .string t4, .string t5, .string t6, .int .i64 n7, .int .i64 n8, .int .i64 n9, .bool (n10 == 1), .int .i64 0] ∧ Whl V w.heap.size 25 #[.int .i64 0, .int .i64 0, .int .i64 0, .string ⟨#[]⟩, .string ⟨#[]⟩, .string ⟨#[]⟩, .string ⟨#[]⟩, .int .i64 0, .int .i64 0, .int .i64 0, .bool false, .int .i64 0] := ⟨X0, RR⟩
  clear ck10 fk10 X0 RR
  refine (rfNxT (w.heap.size + 1) (dS xs 11) _ HS10.out).mono ?_
  rintro e v11 ⟨rfl, hrs, ht⟩
  have hl11 := ht.size
  (try simp at hl11)
  replace hrs : RS v11 (w.heap.size + 1) (dS xs 12) := hrs
  replace R := R.tch ht (by omega)
  replace X := X.tch ht (by omega)
  have B14 : Below w.heap.size w v11 := B13.trans (ht.below (by omega) (by omega))
  obtain ⟨n11, hn11⟩ : ∃ z : Int, z = ((nx (dS xs 11)).1 : Int) := ⟨_, rfl⟩
  rw [← hn11]
  have HN11 : Hid (n11 = dN xs 11) := Lib.hid hn11
  clear hn11 ht HS10 B13
  have ck11 := X.cell 11
  simp only [List.getElem?_toArray, List.getElem?_cons_succ, List.getElem?_cons_zero] at ck11
  have fk11 := X.free 11
  have Y0 := RS.setBlk (i := 11) (v := .int .i64 n11) hrs X (noU8_op _ _ _ _ _ _ _ _ _ _ _ _) (by omega)
  have X0 : Whl (v11.setCell ⟨G, 11, none⟩ (.int .i64 n11)) G 25 #[.int .i64 n0, .int .i64 n1, .int .i64 n2, .string t3, .string t4, .string t5, .string t6, .int .i64 n7, .int .i64 n8, .int .i64 n9, .bool (n10 == 1), .int .i64 n11] := Whl.set X 11 (.int .i64 n11)
  have HS11 := Lib.hid Y0
  have RR : Whl (v11.setCell ⟨G, 11, none⟩ (.int .i64 n11)) w.heap.size 25 #[.int .i64 0, .int .i64 0, .int .i64 0, .string ⟨#[]⟩, .string ⟨#[]⟩, .string ⟨#[]⟩, .string ⟨#[]⟩, .int .i64 0, .int .i64 0, .int .i64 0, .bool false, .int .i64 0] := (R.far (by simp; omega))
  have B15 : Below w.heap.size w (v11.setCell ⟨G, 11, none⟩ (.int .i64 n11)) := (B14.setCell (by simp; omega) _)
  have hG : G < (v11.setCell ⟨G, 11, none⟩ (.int .i64 n11)).heap.size := X0.low
  clear R X hrs Y0  B14
  go_wp2_with fail
  generalize (v11.setCell ⟨G, 11, none⟩ (.int .i64 n11)) = V at *
  obtain ⟨X, R⟩ : Whl V G 25 #[.int .i64 n0, .int .i64 n1, .int .i64 n2, .string t3, .string t4, .string t5, .string t6, .int .i64 n7, .int .i64 n8, .int .i64 n9, .bool (n10 == 1), .int .i64 n11] ∧ Whl V w.heap.size 25 #[.int .i64 0, .int .i64 0, .int .i64 0, .string ⟨#[]⟩, .string ⟨#[]⟩, .string ⟨#[]⟩, .string ⟨#[]⟩, .int .i64 0, .int .i64 0, .int .i64 0, .bool false, .int .i64 0] := ⟨X0, RR⟩
  clear ck11 fk11 X0 RR
  have hVs : G < V.heap.size := X.low
  have hM : dM xs = mB n0 n1 n2 t3 t4 t5 t6 n7 n8 n9 (n10 == 1) n11 := by unfold dM; rw [HN0.out, HN1.out, HN2.out, HT3.out, HT4.out, HT5.out, HT6.out, HN7.out, HN8.out, HN9.out, HN10.out, HN11.out]
  have hW : OpWf n0 n1 n2 t3 t4 t5 t6 n7 n8 n9 (n10 == 1) n11 := by rw [HN0.out, HN1.out, HN2.out, HT3.out, HT4.out, HT5.out, HT6.out, HN7.out, HN8.out, HN9.out, HN10.out, HN11.out]; exact dOpWf hn
  have hbad : dB xs = false → dV xs = .tuple #[.agg #[.int .i64 0, .int .i64 0, .int .i64 0, .string ⟨#[]⟩, .string ⟨#[]⟩, .string ⟨#[]⟩, .string ⟨#[]⟩, .int .i64 0, .int .i64 0, .int .i64 0, .bool false, .int .i64 0], .int .i64 3] := fun h => by unfold dV; rw [h]; rfl
  have hgood : dB xs = true → dV xs = .tuple #[.agg #[.int .i64 n0, .int .i64 n1, .int .i64 n2, .string t3, .string t4, .string t5, .string t6, .int .i64 n7, .int .i64 n8, .int .i64 n9, .bool (n10 == 1), .int .i64 n11], .int .i64 0] := fun h => by unfold dV; rw [h, HN0.out, HN1.out, HN2.out, HT3.out, HT4.out, HT5.out, HT6.out, HN7.out, HN8.out, HN9.out, HN10.out, HN11.out]; rfl
  have h10 : n10 = dN xs 10 := HN10.out
  have HM := Lib.hid hM
  have HW := Lib.hid hW
  have HBAD := Lib.hid hbad
  have HGOOD := Lib.hid hgood
  have H10 := Lib.hid h10
  clear hM hW hbad hgood h10
  clear HN0 HN1 HN2 HT3 HT4 HT5 HT6 HN7 HN8 HN9 HN10 HN11
  refine (rfAll _ _ _ HS11.out).mono ?_
  rintro e w5 ⟨rfl, rfl⟩
  cases hall : allOf (dS xs 12)
  · have HVV := Lib.hid (HBAD.out (by unfold dB; rw [hall]; rfl))
    have r0 := R.cell 0
    have r1 := R.cell 1
    have r2 := R.cell 2
    have r3 := R.cell 3
    have r4 := R.cell 4
    have r5 := R.cell 5
    have r6 := R.cell 6
    have r7 := R.cell 7
    have r8 := R.cell 8
    have r9 := R.cell 9
    have r10 := R.cell 10
    have r11 := R.cell 11
    simp only [List.getElem?_toArray, List.getElem?_cons_succ, List.getElem?_cons_zero] at r0 r1 r2 r3 r4 r5 r6 r7 r8 r9 r10 r11
    have t0 := R.free 0
    have t1 := R.free 1
    have t2 := R.free 2
    have t3 := R.free 3
    have t4 := R.free 4
    have t5 := R.free 5
    have t6 := R.free 6
    have t7 := R.free 7
    have t8 := R.free 8
    have t9 := R.free 9
    have t10 := R.free 10
    have t11 := R.free 11
    have HR := Lib.hid R
    have HXW := Lib.hid X
    clear R X
    go_wp2_with fail
    have R := HR.out
    clear r0 t0 r1 t1 r2 t2 r3 t3 r4 t4 r5 t5 r6 t6 r7 t7 r8 t8 r9 t9 r10 t10 r11 t11
    have RF0 : Whl (V.setCell ⟨w.heap.size, 0, none⟩ (.int .i64 0)) w.heap.size 25 #[.int .i64 0, .int .i64 0, .int .i64 0, .string ⟨#[]⟩, .string ⟨#[]⟩, .string ⟨#[]⟩, .string ⟨#[]⟩, .int .i64 0, .int .i64 0, .int .i64 0, .bool false, .int .i64 0] := Whl.set R 0 (.int .i64 0)
    have RF1 : Whl ((V.setCell ⟨w.heap.size, 0, none⟩ (.int .i64 0)).setCell ⟨w.heap.size, 1, none⟩ (.int .i64 0)) w.heap.size 25 #[.int .i64 0, .int .i64 0, .int .i64 0, .string ⟨#[]⟩, .string ⟨#[]⟩, .string ⟨#[]⟩, .string ⟨#[]⟩, .int .i64 0, .int .i64 0, .int .i64 0, .bool false, .int .i64 0] := Whl.set RF0 1 (.int .i64 0)
    have RF2 : Whl (((V.setCell ⟨w.heap.size, 0, none⟩ (.int .i64 0)).setCell ⟨w.heap.size, 1, none⟩ (.int .i64 0)).setCell ⟨w.heap.size, 2, none⟩ (.int .i64 0)) w.heap.size 25 #[.int .i64 0, .int .i64 0, .int .i64 0, .string ⟨#[]⟩, .string ⟨#[]⟩, .string ⟨#[]⟩, .string ⟨#[]⟩, .int .i64 0, .int .i64 0, .int .i64 0, .bool false, .int .i64 0] := Whl.set RF1 2 (.int .i64 0)
    have RF3 : Whl ((((V.setCell ⟨w.heap.size, 0, none⟩ (.int .i64 0)).setCell ⟨w.heap.size, 1, none⟩ (.int .i64 0)).setCell ⟨w.heap.size, 2, none⟩ (.int .i64 0)).setCell ⟨w.heap.size, 3, none⟩ (.string ⟨#[]⟩)) w.heap.size 25 #[.int .i64 0, .int .i64 0, .int .i64 0, .string ⟨#[]⟩, .string ⟨#[]⟩, .string ⟨#[]⟩, .string ⟨#[]⟩, .int .i64 0, .int .i64 0, .int .i64 0, .bool false, .int .i64 0] := Whl.set RF2 3 (.string ⟨#[]⟩)
    have RF4 : Whl (((((V.setCell ⟨w.heap.size, 0, none⟩ (.int .i64 0)).setCell ⟨w.heap.size, 1, none⟩ (.int .i64 0)).setCell ⟨w.heap.size, 2, none⟩ (.int .i64 0)).setCell ⟨w.heap.size, 3, none⟩ (.string ⟨#[]⟩)).setCell ⟨w.heap.size, 4, none⟩ (.string ⟨#[]⟩)) w.heap.size 25 #[.int .i64 0, .int .i64 0, .int .i64 0, .string ⟨#[]⟩, .string ⟨#[]⟩, .string ⟨#[]⟩, .string ⟨#[]⟩, .int .i64 0, .int .i64 0, .int .i64 0, .bool false, .int .i64 0] := Whl.set RF3 4 (.string ⟨#[]⟩)
    have RF5 : Whl ((((((V.setCell ⟨w.heap.size, 0, none⟩ (.int .i64 0)).setCell ⟨w.heap.size, 1, none⟩ (.int .i64 0)).setCell ⟨w.heap.size, 2, none⟩ (.int .i64 0)).setCell ⟨w.heap.size, 3, none⟩ (.string ⟨#[]⟩)).setCell ⟨w.heap.size, 4, none⟩ (.string ⟨#[]⟩)).setCell ⟨w.heap.size, 5, none⟩ (.string ⟨#[]⟩)) w.heap.size 25 #[.int .i64 0, .int .i64 0, .int .i64 0, .string ⟨#[]⟩, .string ⟨#[]⟩, .string ⟨#[]⟩, .string ⟨#[]⟩, .int .i64 0, .int .i64 0, .int .i64 0, .bool false, .int .i64 0] := Whl.set RF4 5 (.string ⟨#[]⟩)
    have RF6 : Whl (((((((V.setCell ⟨w.heap.size, 0, none⟩ (.int .i64 0)).setCell ⟨w.heap.size, 1, none⟩ (.int .i64 0)).setCell ⟨w.heap.size, 2, none⟩ (.int .i64 0)).setCell ⟨w.heap.size, 3, none⟩ (.string ⟨#[]⟩)).setCell ⟨w.heap.size, 4, none⟩ (.string ⟨#[]⟩)).setCell ⟨w.heap.size, 5, none⟩ (.string ⟨#[]⟩)).setCell ⟨w.heap.size, 6, none⟩ (.string ⟨#[]⟩)) w.heap.size 25 #[.int .i64 0, .int .i64 0, .int .i64 0, .string ⟨#[]⟩, .string ⟨#[]⟩, .string ⟨#[]⟩, .string ⟨#[]⟩, .int .i64 0, .int .i64 0, .int .i64 0, .bool false, .int .i64 0] := Whl.set RF5 6 (.string ⟨#[]⟩)
    have RF7 : Whl ((((((((V.setCell ⟨w.heap.size, 0, none⟩ (.int .i64 0)).setCell ⟨w.heap.size, 1, none⟩ (.int .i64 0)).setCell ⟨w.heap.size, 2, none⟩ (.int .i64 0)).setCell ⟨w.heap.size, 3, none⟩ (.string ⟨#[]⟩)).setCell ⟨w.heap.size, 4, none⟩ (.string ⟨#[]⟩)).setCell ⟨w.heap.size, 5, none⟩ (.string ⟨#[]⟩)).setCell ⟨w.heap.size, 6, none⟩ (.string ⟨#[]⟩)).setCell ⟨w.heap.size, 7, none⟩ (.int .i64 0)) w.heap.size 25 #[.int .i64 0, .int .i64 0, .int .i64 0, .string ⟨#[]⟩, .string ⟨#[]⟩, .string ⟨#[]⟩, .string ⟨#[]⟩, .int .i64 0, .int .i64 0, .int .i64 0, .bool false, .int .i64 0] := Whl.set RF6 7 (.int .i64 0)
    have RF8 : Whl (((((((((V.setCell ⟨w.heap.size, 0, none⟩ (.int .i64 0)).setCell ⟨w.heap.size, 1, none⟩ (.int .i64 0)).setCell ⟨w.heap.size, 2, none⟩ (.int .i64 0)).setCell ⟨w.heap.size, 3, none⟩ (.string ⟨#[]⟩)).setCell ⟨w.heap.size, 4, none⟩ (.string ⟨#[]⟩)).setCell ⟨w.heap.size, 5, none⟩ (.string ⟨#[]⟩)).setCell ⟨w.heap.size, 6, none⟩ (.string ⟨#[]⟩)).setCell ⟨w.heap.size, 7, none⟩ (.int .i64 0)).setCell ⟨w.heap.size, 8, none⟩ (.int .i64 0)) w.heap.size 25 #[.int .i64 0, .int .i64 0, .int .i64 0, .string ⟨#[]⟩, .string ⟨#[]⟩, .string ⟨#[]⟩, .string ⟨#[]⟩, .int .i64 0, .int .i64 0, .int .i64 0, .bool false, .int .i64 0] := Whl.set RF7 8 (.int .i64 0)
    have RF9 : Whl ((((((((((V.setCell ⟨w.heap.size, 0, none⟩ (.int .i64 0)).setCell ⟨w.heap.size, 1, none⟩ (.int .i64 0)).setCell ⟨w.heap.size, 2, none⟩ (.int .i64 0)).setCell ⟨w.heap.size, 3, none⟩ (.string ⟨#[]⟩)).setCell ⟨w.heap.size, 4, none⟩ (.string ⟨#[]⟩)).setCell ⟨w.heap.size, 5, none⟩ (.string ⟨#[]⟩)).setCell ⟨w.heap.size, 6, none⟩ (.string ⟨#[]⟩)).setCell ⟨w.heap.size, 7, none⟩ (.int .i64 0)).setCell ⟨w.heap.size, 8, none⟩ (.int .i64 0)).setCell ⟨w.heap.size, 9, none⟩ (.int .i64 0)) w.heap.size 25 #[.int .i64 0, .int .i64 0, .int .i64 0, .string ⟨#[]⟩, .string ⟨#[]⟩, .string ⟨#[]⟩, .string ⟨#[]⟩, .int .i64 0, .int .i64 0, .int .i64 0, .bool false, .int .i64 0] := Whl.set RF8 9 (.int .i64 0)
    have RF10 : Whl (((((((((((V.setCell ⟨w.heap.size, 0, none⟩ (.int .i64 0)).setCell ⟨w.heap.size, 1, none⟩ (.int .i64 0)).setCell ⟨w.heap.size, 2, none⟩ (.int .i64 0)).setCell ⟨w.heap.size, 3, none⟩ (.string ⟨#[]⟩)).setCell ⟨w.heap.size, 4, none⟩ (.string ⟨#[]⟩)).setCell ⟨w.heap.size, 5, none⟩ (.string ⟨#[]⟩)).setCell ⟨w.heap.size, 6, none⟩ (.string ⟨#[]⟩)).setCell ⟨w.heap.size, 7, none⟩ (.int .i64 0)).setCell ⟨w.heap.size, 8, none⟩ (.int .i64 0)).setCell ⟨w.heap.size, 9, none⟩ (.int .i64 0)).setCell ⟨w.heap.size, 10, none⟩ (.bool false)) w.heap.size 25 #[.int .i64 0, .int .i64 0, .int .i64 0, .string ⟨#[]⟩, .string ⟨#[]⟩, .string ⟨#[]⟩, .string ⟨#[]⟩, .int .i64 0, .int .i64 0, .int .i64 0, .bool false, .int .i64 0] := Whl.set RF9 10 (.bool false)
    have RF11 : Whl ((((((((((((V.setCell ⟨w.heap.size, 0, none⟩ (.int .i64 0)).setCell ⟨w.heap.size, 1, none⟩ (.int .i64 0)).setCell ⟨w.heap.size, 2, none⟩ (.int .i64 0)).setCell ⟨w.heap.size, 3, none⟩ (.string ⟨#[]⟩)).setCell ⟨w.heap.size, 4, none⟩ (.string ⟨#[]⟩)).setCell ⟨w.heap.size, 5, none⟩ (.string ⟨#[]⟩)).setCell ⟨w.heap.size, 6, none⟩ (.string ⟨#[]⟩)).setCell ⟨w.heap.size, 7, none⟩ (.int .i64 0)).setCell ⟨w.heap.size, 8, none⟩ (.int .i64 0)).setCell ⟨w.heap.size, 9, none⟩ (.int .i64 0)).setCell ⟨w.heap.size, 10, none⟩ (.bool false)).setCell ⟨w.heap.size, 11, none⟩ (.int .i64 0)) w.heap.size 25 #[.int .i64 0, .int .i64 0, .int .i64 0, .string ⟨#[]⟩, .string ⟨#[]⟩, .string ⟨#[]⟩, .string ⟨#[]⟩, .int .i64 0, .int .i64 0, .int .i64 0, .bool false, .int .i64 0] := Whl.set RF10 11 (.int .i64 0)
    have RF := RF11
    clear RF0 RF1 RF2 RF3 RF4 RF5 RF6 RF7 RF8 RF9 RF10 RF11
    have BF : Below w.heap.size w ((((((((((((V.setCell ⟨w.heap.size, 0, none⟩ (.int .i64 0)).setCell ⟨w.heap.size, 1, none⟩ (.int .i64 0)).setCell ⟨w.heap.size, 2, none⟩ (.int .i64 0)).setCell ⟨w.heap.size, 3, none⟩ (.string ⟨#[]⟩)).setCell ⟨w.heap.size, 4, none⟩ (.string ⟨#[]⟩)).setCell ⟨w.heap.size, 5, none⟩ (.string ⟨#[]⟩)).setCell ⟨w.heap.size, 6, none⟩ (.string ⟨#[]⟩)).setCell ⟨w.heap.size, 7, none⟩ (.int .i64 0)).setCell ⟨w.heap.size, 8, none⟩ (.int .i64 0)).setCell ⟨w.heap.size, 9, none⟩ (.int .i64 0)).setCell ⟨w.heap.size, 10, none⟩ (.bool false)).setCell ⟨w.heap.size, 11, none⟩ (.int .i64 0)) := (((((((((((B15.setCell (Nat.le_refl _) _).setCell (Nat.le_refl _) _).setCell (Nat.le_refl _) _).setCell (Nat.le_refl _) _).setCell (Nat.le_refl _) _).setCell (Nat.le_refl _) _).setCell (Nat.le_refl _) _).setCell (Nat.le_refl _) _).setCell (Nat.le_refl _) _).setCell (Nat.le_refl _) _).setCell (Nat.le_refl _) _).setCell (Nat.le_refl _) _
    generalize ((((((((((((V.setCell ⟨w.heap.size, 0, none⟩ (.int .i64 0)).setCell ⟨w.heap.size, 1, none⟩ (.int .i64 0)).setCell ⟨w.heap.size, 2, none⟩ (.int .i64 0)).setCell ⟨w.heap.size, 3, none⟩ (.string ⟨#[]⟩)).setCell ⟨w.heap.size, 4, none⟩ (.string ⟨#[]⟩)).setCell ⟨w.heap.size, 5, none⟩ (.string ⟨#[]⟩)).setCell ⟨w.heap.size, 6, none⟩ (.string ⟨#[]⟩)).setCell ⟨w.heap.size, 7, none⟩ (.int .i64 0)).setCell ⟨w.heap.size, 8, none⟩ (.int .i64 0)).setCell ⟨w.heap.size, 9, none⟩ (.int .i64 0)).setCell ⟨w.heap.size, 10, none⟩ (.bool false)).setCell ⟨w.heap.size, 11, none⟩ (.int .i64 0)) = Z at *
    have q0 := RF.cell 0
    have q1 := RF.cell 1
    have q2 := RF.cell 2
    have q3 := RF.cell 3
    have q4 := RF.cell 4
    have q5 := RF.cell 5
    have q6 := RF.cell 6
    have q7 := RF.cell 7
    have q8 := RF.cell 8
    have q9 := RF.cell 9
    have q10 := RF.cell 10
    have q11 := RF.cell 11
    simp only [List.getElem?_toArray, List.getElem?_cons_succ, List.getElem?_cons_zero] at q0 q1 q2 q3 q4 q5 q6 q7 q8 q9 q10 q11
    clear R
    refine bodyPost_ret (v := .tuple #[.agg #[.int .i64 0, .int .i64 0, .int .i64 0, .string ⟨#[]⟩, .string ⟨#[]⟩, .string ⟨#[]⟩, .string ⟨#[]⟩, .int .i64 0, .int .i64 0, .int .i64 0, .bool false, .int .i64 0], .int .i64 3]) (by simp [results, Try.results14, go_sem, ↓IntWalk.iteOmega, *]) rfl ⟨by rw [HVV.out], BF⟩
  · by_cases hb1 : 1 < n10
    · have HVV := Lib.hid (HBAD.out (by unfold dB; rw [← H10.out, decide_eq_true hb1]; simp))
      have r0 := R.cell 0
      have r1 := R.cell 1
      have r2 := R.cell 2
      have r3 := R.cell 3
      have r4 := R.cell 4
      have r5 := R.cell 5
      have r6 := R.cell 6
      have r7 := R.cell 7
      have r8 := R.cell 8
      have r9 := R.cell 9
      have r10 := R.cell 10
      have r11 := R.cell 11
      simp only [List.getElem?_toArray, List.getElem?_cons_succ, List.getElem?_cons_zero] at r0 r1 r2 r3 r4 r5 r6 r7 r8 r9 r10 r11
      have t0 := R.free 0
      have t1 := R.free 1
      have t2 := R.free 2
      have t3 := R.free 3
      have t4 := R.free 4
      have t5 := R.free 5
      have t6 := R.free 6
      have t7 := R.free 7
      have t8 := R.free 8
      have t9 := R.free 9
      have t10 := R.free 10
      have t11 := R.free 11
      have HR := Lib.hid R
      have HXW := Lib.hid X
      clear R X
      go_wp2_with fail
      have R := HR.out
      clear r0 t0 r1 t1 r2 t2 r3 t3 r4 t4 r5 t5 r6 t6 r7 t7 r8 t8 r9 t9 r10 t10 r11 t11
      have RF0 : Whl (V.setCell ⟨w.heap.size, 0, none⟩ (.int .i64 0)) w.heap.size 25 #[.int .i64 0, .int .i64 0, .int .i64 0, .string ⟨#[]⟩, .string ⟨#[]⟩, .string ⟨#[]⟩, .string ⟨#[]⟩, .int .i64 0, .int .i64 0, .int .i64 0, .bool false, .int .i64 0] := Whl.set R 0 (.int .i64 0)
      have RF1 : Whl ((V.setCell ⟨w.heap.size, 0, none⟩ (.int .i64 0)).setCell ⟨w.heap.size, 1, none⟩ (.int .i64 0)) w.heap.size 25 #[.int .i64 0, .int .i64 0, .int .i64 0, .string ⟨#[]⟩, .string ⟨#[]⟩, .string ⟨#[]⟩, .string ⟨#[]⟩, .int .i64 0, .int .i64 0, .int .i64 0, .bool false, .int .i64 0] := Whl.set RF0 1 (.int .i64 0)
      have RF2 : Whl (((V.setCell ⟨w.heap.size, 0, none⟩ (.int .i64 0)).setCell ⟨w.heap.size, 1, none⟩ (.int .i64 0)).setCell ⟨w.heap.size, 2, none⟩ (.int .i64 0)) w.heap.size 25 #[.int .i64 0, .int .i64 0, .int .i64 0, .string ⟨#[]⟩, .string ⟨#[]⟩, .string ⟨#[]⟩, .string ⟨#[]⟩, .int .i64 0, .int .i64 0, .int .i64 0, .bool false, .int .i64 0] := Whl.set RF1 2 (.int .i64 0)
      have RF3 : Whl ((((V.setCell ⟨w.heap.size, 0, none⟩ (.int .i64 0)).setCell ⟨w.heap.size, 1, none⟩ (.int .i64 0)).setCell ⟨w.heap.size, 2, none⟩ (.int .i64 0)).setCell ⟨w.heap.size, 3, none⟩ (.string ⟨#[]⟩)) w.heap.size 25 #[.int .i64 0, .int .i64 0, .int .i64 0, .string ⟨#[]⟩, .string ⟨#[]⟩, .string ⟨#[]⟩, .string ⟨#[]⟩, .int .i64 0, .int .i64 0, .int .i64 0, .bool false, .int .i64 0] := Whl.set RF2 3 (.string ⟨#[]⟩)
      have RF4 : Whl (((((V.setCell ⟨w.heap.size, 0, none⟩ (.int .i64 0)).setCell ⟨w.heap.size, 1, none⟩ (.int .i64 0)).setCell ⟨w.heap.size, 2, none⟩ (.int .i64 0)).setCell ⟨w.heap.size, 3, none⟩ (.string ⟨#[]⟩)).setCell ⟨w.heap.size, 4, none⟩ (.string ⟨#[]⟩)) w.heap.size 25 #[.int .i64 0, .int .i64 0, .int .i64 0, .string ⟨#[]⟩, .string ⟨#[]⟩, .string ⟨#[]⟩, .string ⟨#[]⟩, .int .i64 0, .int .i64 0, .int .i64 0, .bool false, .int .i64 0] := Whl.set RF3 4 (.string ⟨#[]⟩)
      have RF5 : Whl ((((((V.setCell ⟨w.heap.size, 0, none⟩ (.int .i64 0)).setCell ⟨w.heap.size, 1, none⟩ (.int .i64 0)).setCell ⟨w.heap.size, 2, none⟩ (.int .i64 0)).setCell ⟨w.heap.size, 3, none⟩ (.string ⟨#[]⟩)).setCell ⟨w.heap.size, 4, none⟩ (.string ⟨#[]⟩)).setCell ⟨w.heap.size, 5, none⟩ (.string ⟨#[]⟩)) w.heap.size 25 #[.int .i64 0, .int .i64 0, .int .i64 0, .string ⟨#[]⟩, .string ⟨#[]⟩, .string ⟨#[]⟩, .string ⟨#[]⟩, .int .i64 0, .int .i64 0, .int .i64 0, .bool false, .int .i64 0] := Whl.set RF4 5 (.string ⟨#[]⟩)
      have RF6 : Whl (((((((V.setCell ⟨w.heap.size, 0, none⟩ (.int .i64 0)).setCell ⟨w.heap.size, 1, none⟩ (.int .i64 0)).setCell ⟨w.heap.size, 2, none⟩ (.int .i64 0)).setCell ⟨w.heap.size, 3, none⟩ (.string ⟨#[]⟩)).setCell ⟨w.heap.size, 4, none⟩ (.string ⟨#[]⟩)).setCell ⟨w.heap.size, 5, none⟩ (.string ⟨#[]⟩)).setCell ⟨w.heap.size, 6, none⟩ (.string ⟨#[]⟩)) w.heap.size 25 #[.int .i64 0, .int .i64 0, .int .i64 0, .string ⟨#[]⟩, .string ⟨#[]⟩, .string ⟨#[]⟩, .string ⟨#[]⟩, .int .i64 0, .int .i64 0, .int .i64 0, .bool false, .int .i64 0] := Whl.set RF5 6 (.string ⟨#[]⟩)
      have RF7 : Whl ((((((((V.setCell ⟨w.heap.size, 0, none⟩ (.int .i64 0)).setCell ⟨w.heap.size, 1, none⟩ (.int .i64 0)).setCell ⟨w.heap.size, 2, none⟩ (.int .i64 0)).setCell ⟨w.heap.size, 3, none⟩ (.string ⟨#[]⟩)).setCell ⟨w.heap.size, 4, none⟩ (.string ⟨#[]⟩)).setCell ⟨w.heap.size, 5, none⟩ (.string ⟨#[]⟩)).setCell ⟨w.heap.size, 6, none⟩ (.string ⟨#[]⟩)).setCell ⟨w.heap.size, 7, none⟩ (.int .i64 0)) w.heap.size 25 #[.int .i64 0, .int .i64 0, .int .i64 0, .string ⟨#[]⟩, .string ⟨#[]⟩, .string ⟨#[]⟩, .string ⟨#[]⟩, .int .i64 0, .int .i64 0, .int .i64 0, .bool false, .int .i64 0] := Whl.set RF6 7 (.int .i64 0)
      have RF8 : Whl (((((((((V.setCell ⟨w.heap.size, 0, none⟩ (.int .i64 0)).setCell ⟨w.heap.size, 1, none⟩ (.int .i64 0)).setCell ⟨w.heap.size, 2, none⟩ (.int .i64 0)).setCell ⟨w.heap.size, 3, none⟩ (.string ⟨#[]⟩)).setCell ⟨w.heap.size, 4, none⟩ (.string ⟨#[]⟩)).setCell ⟨w.heap.size, 5, none⟩ (.string ⟨#[]⟩)).setCell ⟨w.heap.size, 6, none⟩ (.string ⟨#[]⟩)).setCell ⟨w.heap.size, 7, none⟩ (.int .i64 0)).setCell ⟨w.heap.size, 8, none⟩ (.int .i64 0)) w.heap.size 25 #[.int .i64 0, .int .i64 0, .int .i64 0, .string ⟨#[]⟩, .string ⟨#[]⟩, .string ⟨#[]⟩, .string ⟨#[]⟩, .int .i64 0, .int .i64 0, .int .i64 0, .bool false, .int .i64 0] := Whl.set RF7 8 (.int .i64 0)
      have RF9 : Whl ((((((((((V.setCell ⟨w.heap.size, 0, none⟩ (.int .i64 0)).setCell ⟨w.heap.size, 1, none⟩ (.int .i64 0)).setCell ⟨w.heap.size, 2, none⟩ (.int .i64 0)).setCell ⟨w.heap.size, 3, none⟩ (.string ⟨#[]⟩)).setCell ⟨w.heap.size, 4, none⟩ (.string ⟨#[]⟩)).setCell ⟨w.heap.size, 5, none⟩ (.string ⟨#[]⟩)).setCell ⟨w.heap.size, 6, none⟩ (.string ⟨#[]⟩)).setCell ⟨w.heap.size, 7, none⟩ (.int .i64 0)).setCell ⟨w.heap.size, 8, none⟩ (.int .i64 0)).setCell ⟨w.heap.size, 9, none⟩ (.int .i64 0)) w.heap.size 25 #[.int .i64 0, .int .i64 0, .int .i64 0, .string ⟨#[]⟩, .string ⟨#[]⟩, .string ⟨#[]⟩, .string ⟨#[]⟩, .int .i64 0, .int .i64 0, .int .i64 0, .bool false, .int .i64 0] := Whl.set RF8 9 (.int .i64 0)
      have RF10 : Whl (((((((((((V.setCell ⟨w.heap.size, 0, none⟩ (.int .i64 0)).setCell ⟨w.heap.size, 1, none⟩ (.int .i64 0)).setCell ⟨w.heap.size, 2, none⟩ (.int .i64 0)).setCell ⟨w.heap.size, 3, none⟩ (.string ⟨#[]⟩)).setCell ⟨w.heap.size, 4, none⟩ (.string ⟨#[]⟩)).setCell ⟨w.heap.size, 5, none⟩ (.string ⟨#[]⟩)).setCell ⟨w.heap.size, 6, none⟩ (.string ⟨#[]⟩)).setCell ⟨w.heap.size, 7, none⟩ (.int .i64 0)).setCell ⟨w.heap.size, 8, none⟩ (.int .i64 0)).setCell ⟨w.heap.size, 9, none⟩ (.int .i64 0)).setCell ⟨w.heap.size, 10, none⟩ (.bool false)) w.heap.size 25 #[.int .i64 0, .int .i64 0, .int .i64 0, .string ⟨#[]⟩, .string ⟨#[]⟩, .string ⟨#[]⟩, .string ⟨#[]⟩, .int .i64 0, .int .i64 0, .int .i64 0, .bool false, .int .i64 0] := Whl.set RF9 10 (.bool false)
      have RF11 : Whl ((((((((((((V.setCell ⟨w.heap.size, 0, none⟩ (.int .i64 0)).setCell ⟨w.heap.size, 1, none⟩ (.int .i64 0)).setCell ⟨w.heap.size, 2, none⟩ (.int .i64 0)).setCell ⟨w.heap.size, 3, none⟩ (.string ⟨#[]⟩)).setCell ⟨w.heap.size, 4, none⟩ (.string ⟨#[]⟩)).setCell ⟨w.heap.size, 5, none⟩ (.string ⟨#[]⟩)).setCell ⟨w.heap.size, 6, none⟩ (.string ⟨#[]⟩)).setCell ⟨w.heap.size, 7, none⟩ (.int .i64 0)).setCell ⟨w.heap.size, 8, none⟩ (.int .i64 0)).setCell ⟨w.heap.size, 9, none⟩ (.int .i64 0)).setCell ⟨w.heap.size, 10, none⟩ (.bool false)).setCell ⟨w.heap.size, 11, none⟩ (.int .i64 0)) w.heap.size 25 #[.int .i64 0, .int .i64 0, .int .i64 0, .string ⟨#[]⟩, .string ⟨#[]⟩, .string ⟨#[]⟩, .string ⟨#[]⟩, .int .i64 0, .int .i64 0, .int .i64 0, .bool false, .int .i64 0] := Whl.set RF10 11 (.int .i64 0)
      have RF := RF11
      clear RF0 RF1 RF2 RF3 RF4 RF5 RF6 RF7 RF8 RF9 RF10 RF11
      have BF : Below w.heap.size w ((((((((((((V.setCell ⟨w.heap.size, 0, none⟩ (.int .i64 0)).setCell ⟨w.heap.size, 1, none⟩ (.int .i64 0)).setCell ⟨w.heap.size, 2, none⟩ (.int .i64 0)).setCell ⟨w.heap.size, 3, none⟩ (.string ⟨#[]⟩)).setCell ⟨w.heap.size, 4, none⟩ (.string ⟨#[]⟩)).setCell ⟨w.heap.size, 5, none⟩ (.string ⟨#[]⟩)).setCell ⟨w.heap.size, 6, none⟩ (.string ⟨#[]⟩)).setCell ⟨w.heap.size, 7, none⟩ (.int .i64 0)).setCell ⟨w.heap.size, 8, none⟩ (.int .i64 0)).setCell ⟨w.heap.size, 9, none⟩ (.int .i64 0)).setCell ⟨w.heap.size, 10, none⟩ (.bool false)).setCell ⟨w.heap.size, 11, none⟩ (.int .i64 0)) := (((((((((((B15.setCell (Nat.le_refl _) _).setCell (Nat.le_refl _) _).setCell (Nat.le_refl _) _).setCell (Nat.le_refl _) _).setCell (Nat.le_refl _) _).setCell (Nat.le_refl _) _).setCell (Nat.le_refl _) _).setCell (Nat.le_refl _) _).setCell (Nat.le_refl _) _).setCell (Nat.le_refl _) _).setCell (Nat.le_refl _) _).setCell (Nat.le_refl _) _
      generalize ((((((((((((V.setCell ⟨w.heap.size, 0, none⟩ (.int .i64 0)).setCell ⟨w.heap.size, 1, none⟩ (.int .i64 0)).setCell ⟨w.heap.size, 2, none⟩ (.int .i64 0)).setCell ⟨w.heap.size, 3, none⟩ (.string ⟨#[]⟩)).setCell ⟨w.heap.size, 4, none⟩ (.string ⟨#[]⟩)).setCell ⟨w.heap.size, 5, none⟩ (.string ⟨#[]⟩)).setCell ⟨w.heap.size, 6, none⟩ (.string ⟨#[]⟩)).setCell ⟨w.heap.size, 7, none⟩ (.int .i64 0)).setCell ⟨w.heap.size, 8, none⟩ (.int .i64 0)).setCell ⟨w.heap.size, 9, none⟩ (.int .i64 0)).setCell ⟨w.heap.size, 10, none⟩ (.bool false)).setCell ⟨w.heap.size, 11, none⟩ (.int .i64 0)) = Z at *
      have q0 := RF.cell 0
      have q1 := RF.cell 1
      have q2 := RF.cell 2
      have q3 := RF.cell 3
      have q4 := RF.cell 4
      have q5 := RF.cell 5
      have q6 := RF.cell 6
      have q7 := RF.cell 7
      have q8 := RF.cell 8
      have q9 := RF.cell 9
      have q10 := RF.cell 10
      have q11 := RF.cell 11
      simp only [List.getElem?_toArray, List.getElem?_cons_succ, List.getElem?_cons_zero] at q0 q1 q2 q3 q4 q5 q6 q7 q8 q9 q10 q11
      clear R
      refine bodyPost_ret (v := .tuple #[.agg #[.int .i64 0, .int .i64 0, .int .i64 0, .string ⟨#[]⟩, .string ⟨#[]⟩, .string ⟨#[]⟩, .string ⟨#[]⟩, .int .i64 0, .int .i64 0, .int .i64 0, .bool false, .int .i64 0], .int .i64 3]) (by simp [results, Try.results14, go_sem, ↓IntWalk.iteOmega, *]) rfl ⟨by rw [HVV.out], BF⟩
    · have HALL := Lib.hid hall
      have d0 := X.cell 0
      have d1 := X.cell 1
      have d2 := X.cell 2
      have d3 := X.cell 3
      have d4 := X.cell 4
      have d5 := X.cell 5
      have d6 := X.cell 6
      have d7 := X.cell 7
      have d8 := X.cell 8
      have d9 := X.cell 9
      have d10 := X.cell 10
      have d11 := X.cell 11
      simp only [List.getElem?_toArray, List.getElem?_cons_succ, List.getElem?_cons_zero] at d0 d1 d2 d3 d4 d5 d6 d7 d8 d9 d10 d11
      go_wp2_with fail
      clear d0 d1 d2 d3 d4 d5 d6 d7 d8 d9 d10 d11
      refine (refMay n0 n1 n2 t3 t4 t5 t6 n7 n8 n9 (n10 == 1) n11 HW.out _).mono ?_
      rintro e w6 ⟨rfl, hb6⟩
      have hs6 := hb6.size
      have B8 : Below w.heap.size w w6 := B15.trans (hb6.mono (by omega))
      replace R := R.below hb6 (by omega)
      replace X := X.below hb6 (by omega)
      cases hp : mB n0 n1 n2 t3 t4 t5 t6 n7 n8 n9 (n10 == 1) n11
      · have HVV := Lib.hid (HBAD.out (by unfold dB; rw [HM.out, hp]; simp))
        have r0 := R.cell 0
        have r1 := R.cell 1
        have r2 := R.cell 2
        have r3 := R.cell 3
        have r4 := R.cell 4
        have r5 := R.cell 5
        have r6 := R.cell 6
        have r7 := R.cell 7
        have r8 := R.cell 8
        have r9 := R.cell 9
        have r10 := R.cell 10
        have r11 := R.cell 11
        simp only [List.getElem?_toArray, List.getElem?_cons_succ, List.getElem?_cons_zero] at r0 r1 r2 r3 r4 r5 r6 r7 r8 r9 r10 r11
        have t0 := R.free 0
        have t1 := R.free 1
        have t2 := R.free 2
        have t3 := R.free 3
        have t4 := R.free 4
        have t5 := R.free 5
        have t6 := R.free 6
        have t7 := R.free 7
        have t8 := R.free 8
        have t9 := R.free 9
        have t10 := R.free 10
        have t11 := R.free 11
        have HR := Lib.hid R
        have HXW := Lib.hid X
        clear R X
        go_wp2_with fail
        have R := HR.out
        clear r0 t0 r1 t1 r2 t2 r3 t3 r4 t4 r5 t5 r6 t6 r7 t7 r8 t8 r9 t9 r10 t10 r11 t11
        have RF0 : Whl (w6.setCell ⟨w.heap.size, 0, none⟩ (.int .i64 0)) w.heap.size 25 #[.int .i64 0, .int .i64 0, .int .i64 0, .string ⟨#[]⟩, .string ⟨#[]⟩, .string ⟨#[]⟩, .string ⟨#[]⟩, .int .i64 0, .int .i64 0, .int .i64 0, .bool false, .int .i64 0] := Whl.set R 0 (.int .i64 0)
        have RF1 : Whl ((w6.setCell ⟨w.heap.size, 0, none⟩ (.int .i64 0)).setCell ⟨w.heap.size, 1, none⟩ (.int .i64 0)) w.heap.size 25 #[.int .i64 0, .int .i64 0, .int .i64 0, .string ⟨#[]⟩, .string ⟨#[]⟩, .string ⟨#[]⟩, .string ⟨#[]⟩, .int .i64 0, .int .i64 0, .int .i64 0, .bool false, .int .i64 0] := Whl.set RF0 1 (.int .i64 0)
        have RF2 : Whl (((w6.setCell ⟨w.heap.size, 0, none⟩ (.int .i64 0)).setCell ⟨w.heap.size, 1, none⟩ (.int .i64 0)).setCell ⟨w.heap.size, 2, none⟩ (.int .i64 0)) w.heap.size 25 #[.int .i64 0, .int .i64 0, .int .i64 0, .string ⟨#[]⟩, .string ⟨#[]⟩, .string ⟨#[]⟩, .string ⟨#[]⟩, .int .i64 0, .int .i64 0, .int .i64 0, .bool false, .int .i64 0] := Whl.set RF1 2 (.int .i64 0)
        have RF3 : Whl ((((w6.setCell ⟨w.heap.size, 0, none⟩ (.int .i64 0)).setCell ⟨w.heap.size, 1, none⟩ (.int .i64 0)).setCell ⟨w.heap.size, 2, none⟩ (.int .i64 0)).setCell ⟨w.heap.size, 3, none⟩ (.string ⟨#[]⟩)) w.heap.size 25 #[.int .i64 0, .int .i64 0, .int .i64 0, .string ⟨#[]⟩, .string ⟨#[]⟩, .string ⟨#[]⟩, .string ⟨#[]⟩, .int .i64 0, .int .i64 0, .int .i64 0, .bool false, .int .i64 0] := Whl.set RF2 3 (.string ⟨#[]⟩)
        have RF4 : Whl (((((w6.setCell ⟨w.heap.size, 0, none⟩ (.int .i64 0)).setCell ⟨w.heap.size, 1, none⟩ (.int .i64 0)).setCell ⟨w.heap.size, 2, none⟩ (.int .i64 0)).setCell ⟨w.heap.size, 3, none⟩ (.string ⟨#[]⟩)).setCell ⟨w.heap.size, 4, none⟩ (.string ⟨#[]⟩)) w.heap.size 25 #[.int .i64 0, .int .i64 0, .int .i64 0, .string ⟨#[]⟩, .string ⟨#[]⟩, .string ⟨#[]⟩, .string ⟨#[]⟩, .int .i64 0, .int .i64 0, .int .i64 0, .bool false, .int .i64 0] := Whl.set RF3 4 (.string ⟨#[]⟩)
        have RF5 : Whl ((((((w6.setCell ⟨w.heap.size, 0, none⟩ (.int .i64 0)).setCell ⟨w.heap.size, 1, none⟩ (.int .i64 0)).setCell ⟨w.heap.size, 2, none⟩ (.int .i64 0)).setCell ⟨w.heap.size, 3, none⟩ (.string ⟨#[]⟩)).setCell ⟨w.heap.size, 4, none⟩ (.string ⟨#[]⟩)).setCell ⟨w.heap.size, 5, none⟩ (.string ⟨#[]⟩)) w.heap.size 25 #[.int .i64 0, .int .i64 0, .int .i64 0, .string ⟨#[]⟩, .string ⟨#[]⟩, .string ⟨#[]⟩, .string ⟨#[]⟩, .int .i64 0, .int .i64 0, .int .i64 0, .bool false, .int .i64 0] := Whl.set RF4 5 (.string ⟨#[]⟩)
        have RF6 : Whl (((((((w6.setCell ⟨w.heap.size, 0, none⟩ (.int .i64 0)).setCell ⟨w.heap.size, 1, none⟩ (.int .i64 0)).setCell ⟨w.heap.size, 2, none⟩ (.int .i64 0)).setCell ⟨w.heap.size, 3, none⟩ (.string ⟨#[]⟩)).setCell ⟨w.heap.size, 4, none⟩ (.string ⟨#[]⟩)).setCell ⟨w.heap.size, 5, none⟩ (.string ⟨#[]⟩)).setCell ⟨w.heap.size, 6, none⟩ (.string ⟨#[]⟩)) w.heap.size 25 #[.int .i64 0, .int .i64 0, .int .i64 0, .string ⟨#[]⟩, .string ⟨#[]⟩, .string ⟨#[]⟩, .string ⟨#[]⟩, .int .i64 0, .int .i64 0, .int .i64 0, .bool false, .int .i64 0] := Whl.set RF5 6 (.string ⟨#[]⟩)
        have RF7 : Whl ((((((((w6.setCell ⟨w.heap.size, 0, none⟩ (.int .i64 0)).setCell ⟨w.heap.size, 1, none⟩ (.int .i64 0)).setCell ⟨w.heap.size, 2, none⟩ (.int .i64 0)).setCell ⟨w.heap.size, 3, none⟩ (.string ⟨#[]⟩)).setCell ⟨w.heap.size, 4, none⟩ (.string ⟨#[]⟩)).setCell ⟨w.heap.size, 5, none⟩ (.string ⟨#[]⟩)).setCell ⟨w.heap.size, 6, none⟩ (.string ⟨#[]⟩)).setCell ⟨w.heap.size, 7, none⟩ (.int .i64 0)) w.heap.size 25 #[.int .i64 0, .int .i64 0, .int .i64 0, .string ⟨#[]⟩, .string ⟨#[]⟩, .string ⟨#[]⟩, .string ⟨#[]⟩, .int .i64 0, .int .i64 0, .int .i64 0, .bool false, .int .i64 0] := Whl.set RF6 7 (.int .i64 0)
        have RF8 : Whl (((((((((w6.setCell ⟨w.heap.size, 0, none⟩ (.int .i64 0)).setCell ⟨w.heap.size, 1, none⟩ (.int .i64 0)).setCell ⟨w.heap.size, 2, none⟩ (.int .i64 0)).setCell ⟨w.heap.size, 3, none⟩ (.string ⟨#[]⟩)).setCell ⟨w.heap.size, 4, none⟩ (.string ⟨#[]⟩)).setCell ⟨w.heap.size, 5, none⟩ (.string ⟨#[]⟩)).setCell ⟨w.heap.size, 6, none⟩ (.string ⟨#[]⟩)).setCell ⟨w.heap.size, 7, none⟩ (.int .i64 0)).setCell ⟨w.heap.size, 8, none⟩ (.int .i64 0)) w.heap.size 25 #[.int .i64 0, .int .i64 0, .int .i64 0, .string ⟨#[]⟩, .string ⟨#[]⟩, .string ⟨#[]⟩, .string ⟨#[]⟩, .int .i64 0, .int .i64 0, .int .i64 0, .bool false, .int .i64 0] := Whl.set RF7 8 (.int .i64 0)
        have RF9 : Whl ((((((((((w6.setCell ⟨w.heap.size, 0, none⟩ (.int .i64 0)).setCell ⟨w.heap.size, 1, none⟩ (.int .i64 0)).setCell ⟨w.heap.size, 2, none⟩ (.int .i64 0)).setCell ⟨w.heap.size, 3, none⟩ (.string ⟨#[]⟩)).setCell ⟨w.heap.size, 4, none⟩ (.string ⟨#[]⟩)).setCell ⟨w.heap.size, 5, none⟩ (.string ⟨#[]⟩)).setCell ⟨w.heap.size, 6, none⟩ (.string ⟨#[]⟩)).setCell ⟨w.heap.size, 7, none⟩ (.int .i64 0)).setCell ⟨w.heap.size, 8, none⟩ (.int .i64 0)).setCell ⟨w.heap.size, 9, none⟩ (.int .i64 0)) w.heap.size 25 #[.int .i64 0, .int .i64 0, .int .i64 0, .string ⟨#[]⟩, .string ⟨#[]⟩, .string ⟨#[]⟩, .string ⟨#[]⟩, .int .i64 0, .int .i64 0, .int .i64 0, .bool false, .int .i64 0] := Whl.set RF8 9 (.int .i64 0)
        have RF10 : Whl (((((((((((w6.setCell ⟨w.heap.size, 0, none⟩ (.int .i64 0)).setCell ⟨w.heap.size, 1, none⟩ (.int .i64 0)).setCell ⟨w.heap.size, 2, none⟩ (.int .i64 0)).setCell ⟨w.heap.size, 3, none⟩ (.string ⟨#[]⟩)).setCell ⟨w.heap.size, 4, none⟩ (.string ⟨#[]⟩)).setCell ⟨w.heap.size, 5, none⟩ (.string ⟨#[]⟩)).setCell ⟨w.heap.size, 6, none⟩ (.string ⟨#[]⟩)).setCell ⟨w.heap.size, 7, none⟩ (.int .i64 0)).setCell ⟨w.heap.size, 8, none⟩ (.int .i64 0)).setCell ⟨w.heap.size, 9, none⟩ (.int .i64 0)).setCell ⟨w.heap.size, 10, none⟩ (.bool false)) w.heap.size 25 #[.int .i64 0, .int .i64 0, .int .i64 0, .string ⟨#[]⟩, .string ⟨#[]⟩, .string ⟨#[]⟩, .string ⟨#[]⟩, .int .i64 0, .int .i64 0, .int .i64 0, .bool false, .int .i64 0] := Whl.set RF9 10 (.bool false)
        have RF11 : Whl ((((((((((((w6.setCell ⟨w.heap.size, 0, none⟩ (.int .i64 0)).setCell ⟨w.heap.size, 1, none⟩ (.int .i64 0)).setCell ⟨w.heap.size, 2, none⟩ (.int .i64 0)).setCell ⟨w.heap.size, 3, none⟩ (.string ⟨#[]⟩)).setCell ⟨w.heap.size, 4, none⟩ (.string ⟨#[]⟩)).setCell ⟨w.heap.size, 5, none⟩ (.string ⟨#[]⟩)).setCell ⟨w.heap.size, 6, none⟩ (.string ⟨#[]⟩)).setCell ⟨w.heap.size, 7, none⟩ (.int .i64 0)).setCell ⟨w.heap.size, 8, none⟩ (.int .i64 0)).setCell ⟨w.heap.size, 9, none⟩ (.int .i64 0)).setCell ⟨w.heap.size, 10, none⟩ (.bool false)).setCell ⟨w.heap.size, 11, none⟩ (.int .i64 0)) w.heap.size 25 #[.int .i64 0, .int .i64 0, .int .i64 0, .string ⟨#[]⟩, .string ⟨#[]⟩, .string ⟨#[]⟩, .string ⟨#[]⟩, .int .i64 0, .int .i64 0, .int .i64 0, .bool false, .int .i64 0] := Whl.set RF10 11 (.int .i64 0)
        have RF := RF11
        clear RF0 RF1 RF2 RF3 RF4 RF5 RF6 RF7 RF8 RF9 RF10 RF11
        have BF : Below w.heap.size w ((((((((((((w6.setCell ⟨w.heap.size, 0, none⟩ (.int .i64 0)).setCell ⟨w.heap.size, 1, none⟩ (.int .i64 0)).setCell ⟨w.heap.size, 2, none⟩ (.int .i64 0)).setCell ⟨w.heap.size, 3, none⟩ (.string ⟨#[]⟩)).setCell ⟨w.heap.size, 4, none⟩ (.string ⟨#[]⟩)).setCell ⟨w.heap.size, 5, none⟩ (.string ⟨#[]⟩)).setCell ⟨w.heap.size, 6, none⟩ (.string ⟨#[]⟩)).setCell ⟨w.heap.size, 7, none⟩ (.int .i64 0)).setCell ⟨w.heap.size, 8, none⟩ (.int .i64 0)).setCell ⟨w.heap.size, 9, none⟩ (.int .i64 0)).setCell ⟨w.heap.size, 10, none⟩ (.bool false)).setCell ⟨w.heap.size, 11, none⟩ (.int .i64 0)) := (((((((((((B8.setCell (Nat.le_refl _) _).setCell (Nat.le_refl _) _).setCell (Nat.le_refl _) _).setCell (Nat.le_refl _) _).setCell (Nat.le_refl _) _).setCell (Nat.le_refl _) _).setCell (Nat.le_refl _) _).setCell (Nat.le_refl _) _).setCell (Nat.le_refl _) _).setCell (Nat.le_refl _) _).setCell (Nat.le_refl _) _).setCell (Nat.le_refl _) _
        generalize ((((((((((((w6.setCell ⟨w.heap.size, 0, none⟩ (.int .i64 0)).setCell ⟨w.heap.size, 1, none⟩ (.int .i64 0)).setCell ⟨w.heap.size, 2, none⟩ (.int .i64 0)).setCell ⟨w.heap.size, 3, none⟩ (.string ⟨#[]⟩)).setCell ⟨w.heap.size, 4, none⟩ (.string ⟨#[]⟩)).setCell ⟨w.heap.size, 5, none⟩ (.string ⟨#[]⟩)).setCell ⟨w.heap.size, 6, none⟩ (.string ⟨#[]⟩)).setCell ⟨w.heap.size, 7, none⟩ (.int .i64 0)).setCell ⟨w.heap.size, 8, none⟩ (.int .i64 0)).setCell ⟨w.heap.size, 9, none⟩ (.int .i64 0)).setCell ⟨w.heap.size, 10, none⟩ (.bool false)).setCell ⟨w.heap.size, 11, none⟩ (.int .i64 0)) = Z at *
        have q0 := RF.cell 0
        have q1 := RF.cell 1
        have q2 := RF.cell 2
        have q3 := RF.cell 3
        have q4 := RF.cell 4
        have q5 := RF.cell 5
        have q6 := RF.cell 6
        have q7 := RF.cell 7
        have q8 := RF.cell 8
        have q9 := RF.cell 9
        have q10 := RF.cell 10
        have q11 := RF.cell 11
        simp only [List.getElem?_toArray, List.getElem?_cons_succ, List.getElem?_cons_zero] at q0 q1 q2 q3 q4 q5 q6 q7 q8 q9 q10 q11
        clear R
        refine bodyPost_ret (v := .tuple #[.agg #[.int .i64 0, .int .i64 0, .int .i64 0, .string ⟨#[]⟩, .string ⟨#[]⟩, .string ⟨#[]⟩, .string ⟨#[]⟩, .int .i64 0, .int .i64 0, .int .i64 0, .bool false, .int .i64 0], .int .i64 3]) (by simp [results, Try.results14, go_sem, ↓IntWalk.iteOmega, *]) rfl ⟨by rw [HVV.out], BF⟩
      · have HVV := Lib.hid (HGOOD.out (by unfold dB; rw [HM.out, hp, HALL.out, ← H10.out]; have hd : decide (1 < n10) = false := decide_eq_false (by omega); rw [hd]; rfl))
        have d0 := X.cell 0
        have d1 := X.cell 1
        have d2 := X.cell 2
        have d3 := X.cell 3
        have d4 := X.cell 4
        have d5 := X.cell 5
        have d6 := X.cell 6
        have d7 := X.cell 7
        have d8 := X.cell 8
        have d9 := X.cell 9
        have d10 := X.cell 10
        have d11 := X.cell 11
        simp only [List.getElem?_toArray, List.getElem?_cons_succ, List.getElem?_cons_zero] at d0 d1 d2 d3 d4 d5 d6 d7 d8 d9 d10 d11
        have r0 := R.cell 0
        have r1 := R.cell 1
        have r2 := R.cell 2
        have r3 := R.cell 3
        have r4 := R.cell 4
        have r5 := R.cell 5
        have r6 := R.cell 6
        have r7 := R.cell 7
        have r8 := R.cell 8
        have r9 := R.cell 9
        have r10 := R.cell 10
        have r11 := R.cell 11
        simp only [List.getElem?_toArray, List.getElem?_cons_succ, List.getElem?_cons_zero] at r0 r1 r2 r3 r4 r5 r6 r7 r8 r9 r10 r11
        have t0 := R.free 0
        have t1 := R.free 1
        have t2 := R.free 2
        have t3 := R.free 3
        have t4 := R.free 4
        have t5 := R.free 5
        have t6 := R.free 6
        have t7 := R.free 7
        have t8 := R.free 8
        have t9 := R.free 9
        have t10 := R.free 10
        have t11 := R.free 11
        have HR := Lib.hid R
        have HXW := Lib.hid X
        clear R X
        go_wp2_with fail
        have R := HR.out
        clear r0 t0 r1 t1 r2 t2 r3 t3 r4 t4 r5 t5 r6 t6 r7 t7 r8 t8 r9 t9 r10 t10 r11 t11
        have RF0 : Whl (w6.setCell ⟨w.heap.size, 0, none⟩ (.int .i64 n0)) w.heap.size 25 #[.int .i64 n0, .int .i64 0, .int .i64 0, .string ⟨#[]⟩, .string ⟨#[]⟩, .string ⟨#[]⟩, .string ⟨#[]⟩, .int .i64 0, .int .i64 0, .int .i64 0, .bool false, .int .i64 0] := Whl.set R 0 (.int .i64 n0)
        have RF1 : Whl ((w6.setCell ⟨w.heap.size, 0, none⟩ (.int .i64 n0)).setCell ⟨w.heap.size, 1, none⟩ (.int .i64 n1)) w.heap.size 25 #[.int .i64 n0, .int .i64 n1, .int .i64 0, .string ⟨#[]⟩, .string ⟨#[]⟩, .string ⟨#[]⟩, .string ⟨#[]⟩, .int .i64 0, .int .i64 0, .int .i64 0, .bool false, .int .i64 0] := Whl.set RF0 1 (.int .i64 n1)
        have RF2 : Whl (((w6.setCell ⟨w.heap.size, 0, none⟩ (.int .i64 n0)).setCell ⟨w.heap.size, 1, none⟩ (.int .i64 n1)).setCell ⟨w.heap.size, 2, none⟩ (.int .i64 n2)) w.heap.size 25 #[.int .i64 n0, .int .i64 n1, .int .i64 n2, .string ⟨#[]⟩, .string ⟨#[]⟩, .string ⟨#[]⟩, .string ⟨#[]⟩, .int .i64 0, .int .i64 0, .int .i64 0, .bool false, .int .i64 0] := Whl.set RF1 2 (.int .i64 n2)
        have RF3 : Whl ((((w6.setCell ⟨w.heap.size, 0, none⟩ (.int .i64 n0)).setCell ⟨w.heap.size, 1, none⟩ (.int .i64 n1)).setCell ⟨w.heap.size, 2, none⟩ (.int .i64 n2)).setCell ⟨w.heap.size, 3, none⟩ (.string t3)) w.heap.size 25 #[.int .i64 n0, .int .i64 n1, .int .i64 n2, .string t3, .string ⟨#[]⟩, .string ⟨#[]⟩, .string ⟨#[]⟩, .int .i64 0, .int .i64 0, .int .i64 0, .bool false, .int .i64 0] := Whl.set RF2 3 (.string t3)
        have RF4 : Whl (((((w6.setCell ⟨w.heap.size, 0, none⟩ (.int .i64 n0)).setCell ⟨w.heap.size, 1, none⟩ (.int .i64 n1)).setCell ⟨w.heap.size, 2, none⟩ (.int .i64 n2)).setCell ⟨w.heap.size, 3, none⟩ (.string t3)).setCell ⟨w.heap.size, 4, none⟩ (.string t4)) w.heap.size 25 #[.int .i64 n0, .int .i64 n1, .int .i64 n2, .string t3, .string t4, .string ⟨#[]⟩, .string ⟨#[]⟩, .int .i64 0, .int .i64 0, .int .i64 0, .bool false, .int .i64 0] := Whl.set RF3 4 (.string t4)
        have RF5 : Whl ((((((w6.setCell ⟨w.heap.size, 0, none⟩ (.int .i64 n0)).setCell ⟨w.heap.size, 1, none⟩ (.int .i64 n1)).setCell ⟨w.heap.size, 2, none⟩ (.int .i64 n2)).setCell ⟨w.heap.size, 3, none⟩ (.string t3)).setCell ⟨w.heap.size, 4, none⟩ (.string t4)).setCell ⟨w.heap.size, 5, none⟩ (.string t5)) w.heap.size 25 #[.int .i64 n0, .int .i64 n1, .int .i64 n2, .string t3, .string t4, .string t5, .string ⟨#[]⟩, .int .i64 0, .int .i64 0, .int .i64 0, .bool false, .int .i64 0] := Whl.set RF4 5 (.string t5)
        have RF6 : Whl (((((((w6.setCell ⟨w.heap.size, 0, none⟩ (.int .i64 n0)).setCell ⟨w.heap.size, 1, none⟩ (.int .i64 n1)).setCell ⟨w.heap.size, 2, none⟩ (.int .i64 n2)).setCell ⟨w.heap.size, 3, none⟩ (.string t3)).setCell ⟨w.heap.size, 4, none⟩ (.string t4)).setCell ⟨w.heap.size, 5, none⟩ (.string t5)).setCell ⟨w.heap.size, 6, none⟩ (.string t6)) w.heap.size 25 #[.int .i64 n0, .int .i64 n1, .int .i64 n2, .string t3, .string t4, .string t5, .string t6, .int .i64 0, .int .i64 0, .int .i64 0, .bool false, .int .i64 0] := Whl.set RF5 6 (.string t6)
        have RF7 : Whl ((((((((w6.setCell ⟨w.heap.size, 0, none⟩ (.int .i64 n0)).setCell ⟨w.heap.size, 1, none⟩ (.int .i64 n1)).setCell ⟨w.heap.size, 2, none⟩ (.int .i64 n2)).setCell ⟨w.heap.size, 3, none⟩ (.string t3)).setCell ⟨w.heap.size, 4, none⟩ (.string t4)).setCell ⟨w.heap.size, 5, none⟩ (.string t5)).setCell ⟨w.heap.size, 6, none⟩ (.string t6)).setCell ⟨w.heap.size, 7, none⟩ (.int .i64 n7)) w.heap.size 25 #[.int .i64 n0, .int .i64 n1, .int .i64 n2, .string t3, .string t4, .string t5, .string t6, .int .i64 n7, .int .i64 0, .int .i64 0, .bool false, .int .i64 0] := Whl.set RF6 7 (.int .i64 n7)
        have RF8 : Whl (((((((((w6.setCell ⟨w.heap.size, 0, none⟩ (.int .i64 n0)).setCell ⟨w.heap.size, 1, none⟩ (.int .i64 n1)).setCell ⟨w.heap.size, 2, none⟩ (.int .i64 n2)).setCell ⟨w.heap.size, 3, none⟩ (.string t3)).setCell ⟨w.heap.size, 4, none⟩ (.string t4)).setCell ⟨w.heap.size, 5, none⟩ (.string t5)).setCell ⟨w.heap.size, 6, none⟩ (.string t6)).setCell ⟨w.heap.size, 7, none⟩ (.int .i64 n7)).setCell ⟨w.heap.size, 8, none⟩ (.int .i64 n8)) w.heap.size 25 #[.int .i64 n0, .int .i64 n1, .int .i64 n2, .string t3, .string t4, .string t5, .string t6, .int .i64 n7, .int .i64 n8, .int .i64 0, .bool false, .int .i64 0] := Whl.set RF7 8 (.int .i64 n8)
        have RF9 : Whl ((((((((((w6.setCell ⟨w.heap.size, 0, none⟩ (.int .i64 n0)).setCell ⟨w.heap.size, 1, none⟩ (.int .i64 n1)).setCell ⟨w.heap.size, 2, none⟩ (.int .i64 n2)).setCell ⟨w.heap.size, 3, none⟩ (.string t3)).setCell ⟨w.heap.size, 4, none⟩ (.string t4)).setCell ⟨w.heap.size, 5, none⟩ (.string t5)).setCell ⟨w.heap.size, 6, none⟩ (.string t6)).setCell ⟨w.heap.size, 7, none⟩ (.int .i64 n7)).setCell ⟨w.heap.size, 8, none⟩ (.int .i64 n8)).setCell ⟨w.heap.size, 9, none⟩ (.int .i64 n9)) w.heap.size 25 #[.int .i64 n0, .int .i64 n1, .int .i64 n2, .string t3, .string t4, .string t5, .string t6, .int .i64 n7, .int .i64 n8, .int .i64 n9, .bool false, .int .i64 0] := Whl.set RF8 9 (.int .i64 n9)
        have RF10 : Whl (((((((((((w6.setCell ⟨w.heap.size, 0, none⟩ (.int .i64 n0)).setCell ⟨w.heap.size, 1, none⟩ (.int .i64 n1)).setCell ⟨w.heap.size, 2, none⟩ (.int .i64 n2)).setCell ⟨w.heap.size, 3, none⟩ (.string t3)).setCell ⟨w.heap.size, 4, none⟩ (.string t4)).setCell ⟨w.heap.size, 5, none⟩ (.string t5)).setCell ⟨w.heap.size, 6, none⟩ (.string t6)).setCell ⟨w.heap.size, 7, none⟩ (.int .i64 n7)).setCell ⟨w.heap.size, 8, none⟩ (.int .i64 n8)).setCell ⟨w.heap.size, 9, none⟩ (.int .i64 n9)).setCell ⟨w.heap.size, 10, none⟩ (.bool (n10 == 1))) w.heap.size 25 #[.int .i64 n0, .int .i64 n1, .int .i64 n2, .string t3, .string t4, .string t5, .string t6, .int .i64 n7, .int .i64 n8, .int .i64 n9, .bool (n10 == 1), .int .i64 0] := Whl.set RF9 10 (.bool (n10 == 1))
        have RF11 : Whl ((((((((((((w6.setCell ⟨w.heap.size, 0, none⟩ (.int .i64 n0)).setCell ⟨w.heap.size, 1, none⟩ (.int .i64 n1)).setCell ⟨w.heap.size, 2, none⟩ (.int .i64 n2)).setCell ⟨w.heap.size, 3, none⟩ (.string t3)).setCell ⟨w.heap.size, 4, none⟩ (.string t4)).setCell ⟨w.heap.size, 5, none⟩ (.string t5)).setCell ⟨w.heap.size, 6, none⟩ (.string t6)).setCell ⟨w.heap.size, 7, none⟩ (.int .i64 n7)).setCell ⟨w.heap.size, 8, none⟩ (.int .i64 n8)).setCell ⟨w.heap.size, 9, none⟩ (.int .i64 n9)).setCell ⟨w.heap.size, 10, none⟩ (.bool (n10 == 1))).setCell ⟨w.heap.size, 11, none⟩ (.int .i64 n11)) w.heap.size 25 #[.int .i64 n0, .int .i64 n1, .int .i64 n2, .string t3, .string t4, .string t5, .string t6, .int .i64 n7, .int .i64 n8, .int .i64 n9, .bool (n10 == 1), .int .i64 n11] := Whl.set RF10 11 (.int .i64 n11)
        have RF := RF11
        clear RF0 RF1 RF2 RF3 RF4 RF5 RF6 RF7 RF8 RF9 RF10 RF11
        have BF : Below w.heap.size w ((((((((((((w6.setCell ⟨w.heap.size, 0, none⟩ (.int .i64 n0)).setCell ⟨w.heap.size, 1, none⟩ (.int .i64 n1)).setCell ⟨w.heap.size, 2, none⟩ (.int .i64 n2)).setCell ⟨w.heap.size, 3, none⟩ (.string t3)).setCell ⟨w.heap.size, 4, none⟩ (.string t4)).setCell ⟨w.heap.size, 5, none⟩ (.string t5)).setCell ⟨w.heap.size, 6, none⟩ (.string t6)).setCell ⟨w.heap.size, 7, none⟩ (.int .i64 n7)).setCell ⟨w.heap.size, 8, none⟩ (.int .i64 n8)).setCell ⟨w.heap.size, 9, none⟩ (.int .i64 n9)).setCell ⟨w.heap.size, 10, none⟩ (.bool (n10 == 1))).setCell ⟨w.heap.size, 11, none⟩ (.int .i64 n11)) := (((((((((((B8.setCell (Nat.le_refl _) _).setCell (Nat.le_refl _) _).setCell (Nat.le_refl _) _).setCell (Nat.le_refl _) _).setCell (Nat.le_refl _) _).setCell (Nat.le_refl _) _).setCell (Nat.le_refl _) _).setCell (Nat.le_refl _) _).setCell (Nat.le_refl _) _).setCell (Nat.le_refl _) _).setCell (Nat.le_refl _) _).setCell (Nat.le_refl _) _
        generalize ((((((((((((w6.setCell ⟨w.heap.size, 0, none⟩ (.int .i64 n0)).setCell ⟨w.heap.size, 1, none⟩ (.int .i64 n1)).setCell ⟨w.heap.size, 2, none⟩ (.int .i64 n2)).setCell ⟨w.heap.size, 3, none⟩ (.string t3)).setCell ⟨w.heap.size, 4, none⟩ (.string t4)).setCell ⟨w.heap.size, 5, none⟩ (.string t5)).setCell ⟨w.heap.size, 6, none⟩ (.string t6)).setCell ⟨w.heap.size, 7, none⟩ (.int .i64 n7)).setCell ⟨w.heap.size, 8, none⟩ (.int .i64 n8)).setCell ⟨w.heap.size, 9, none⟩ (.int .i64 n9)).setCell ⟨w.heap.size, 10, none⟩ (.bool (n10 == 1))).setCell ⟨w.heap.size, 11, none⟩ (.int .i64 n11)) = Z at *
        have q0 := RF.cell 0
        have q1 := RF.cell 1
        have q2 := RF.cell 2
        have q3 := RF.cell 3
        have q4 := RF.cell 4
        have q5 := RF.cell 5
        have q6 := RF.cell 6
        have q7 := RF.cell 7
        have q8 := RF.cell 8
        have q9 := RF.cell 9
        have q10 := RF.cell 10
        have q11 := RF.cell 11
        simp only [List.getElem?_toArray, List.getElem?_cons_succ, List.getElem?_cons_zero] at q0 q1 q2 q3 q4 q5 q6 q7 q8 q9 q10 q11
        clear R
        refine bodyPost_ret (v := .tuple #[.agg #[.int .i64 n0, .int .i64 n1, .int .i64 n2, .string t3, .string t4, .string t5, .string t6, .int .i64 n7, .int .i64 n8, .int .i64 n9, .bool (n10 == 1), .int .i64 n11], .int .i64 0]) (by simp [results, Try.results14, go_sem, ↓IntWalk.iteOmega, *]) rfl ⟨by rw [HVV.out], BF⟩
end Go.Proofs.Ytblknjclkecglaa
