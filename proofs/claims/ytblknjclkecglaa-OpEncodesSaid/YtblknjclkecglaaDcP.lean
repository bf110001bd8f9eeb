/- The code's Nums: numbers into a request. -/
import Derived.Test.YtblknjclkecglaaDcG
namespace Go.Proofs.Ytblknjclkecglaa
open Go.RowKit
set_option linter.unusedVariables false
set_option linter.unusedSimpArgs false

theorem Tch.touch {b : Nat} {w w' : World} (h : Tch b w w') : Touch (fun k => k = b) w w' := ⟨h.os, h.tape, h.output, h.size, fun k hk hn => h.block k hk hn⟩
theorem Whl.tou {D : Nat → Prop} {w w' : World} {g : Nat} {t : TypeId} {cs : Array Value} (h : Whl w g t cs) (hb : Touch D w w') (hD : ¬ D g) : Whl w' g t cs := (hb.block g h.low hD).trans h

set_option maxHeartbeats 4000000 in
set_option maxRecDepth 10000 in
theorem opNums3 (b P G : Nat) (xs : List Nat) (w : World) (hr : RS w b (dS xs 0)) (hP : Whl w P 70 #[.pointer (some ⟨G, 0, none⟩), .pointer (some ⟨G, 1, none⟩), .pointer (some ⟨G, 2, none⟩)]) (hG : Whl w G 25 #[.int .i64 0, .int .i64 0, .int .i64 0, .string ⟨#[]⟩, .string ⟨#[]⟩, .string ⟨#[]⟩, .string ⟨#[]⟩, .int .i64 0, .int .i64 0, .int .i64 0, .bool false, .int .i64 0]) (hGb : G < b) (hbP : b < P) :
    Calls Try.prog 30 #[.pointer (some ⟨b, 0, none⟩), .slice (some ⟨P, 0, none⟩) 3 3] w fun e w' => e = .returned (.tuple #[]) ∧ RS w' b (dS xs 3) ∧ Whl w' G 25 #[.int .i64 (dN xs 0), .int .i64 (dN xs 1), .int .i64 (dN xs 2), .string ⟨#[]⟩, .string ⟨#[]⟩, .string ⟨#[]⟩, .string ⟨#[]⟩, .int .i64 0, .int .i64 0, .int .i64 0, .bool false, .int .i64 0] ∧ Touch (fun k => k = b ∨ k = G) w w' := by
  have HS0 := Lib.hid hr
  have X := hG
  have PP := hP

  have U := Lib.hid (Touch.refl (fun k => k = b ∨ k = G) w)
  have hlow := hr.low
  have hPl := hP.low
  clear hr hG hP
  go_enter Try.func30, Try.ntmps30
  go_wp2_with fail
  refine wp_loop_rounds 4 ?_
  rw [rounds_succ]
  have p0 := PP.cell 0
  simp only [List.getElem?_toArray, List.getElem?_cons_succ, List.getElem?_cons_zero] at p0
  go_wp2_with fail
  refine (octNxT b (dS xs 0) _ HS0.out).mono ?_
  rintro e v0 ⟨rfl, hrs, ht⟩
  have hl0 := ht.size
  replace hrs : RS v0 b (dS xs 1) := hrs
  replace X := X.tch ht (by omega)
  replace PP := PP.tch ht (by omega)
  have U1 := U.out.trans ht.touch (D := (fun k => k = b ∨ k = G)) (fun n _ e => Or.inl e)
  obtain ⟨n0, hn0⟩ : ∃ z : Int, z = ((nx (dS xs 0)).1 : Int) := ⟨_, rfl⟩
  rw [← hn0]
  have HN0 : Hid (n0 = dN xs 0) := Lib.hid hn0
  clear hn0 ht HS0 p0 U
  have ck := X.cell 0
  have fk := X.free 0
  simp only [List.getElem?_toArray, List.getElem?_cons_succ, List.getElem?_cons_zero] at ck
  have HS1 := Lib.hid (RS.setBlk (i := 0) (v := .int .i64 n0) hrs X (noU8_op _ _ _ _ _ _ _ _ _ _ _ _) (by omega))
  have XN : Whl (v0.setCell ⟨G, 0, none⟩ (.int .i64 n0)) G 25 #[.int .i64 n0, .int .i64 0, .int .i64 0, .string ⟨#[]⟩, .string ⟨#[]⟩, .string ⟨#[]⟩, .string ⟨#[]⟩, .int .i64 0, .int .i64 0, .int .i64 0, .bool false, .int .i64 0] := Whl.set X 0 (.int .i64 n0)
  have PN : Whl (v0.setCell ⟨G, 0, none⟩ (.int .i64 n0)) P 70 #[.pointer (some ⟨G, 0, none⟩), .pointer (some ⟨G, 1, none⟩), .pointer (some ⟨G, 2, none⟩)] := PP.far (by simp; omega)
  have UN : Touch (fun k => k = b ∨ k = G) w (v0.setCell ⟨G, 0, none⟩ (.int .i64 n0)) := U1.set (fun _ => Or.inr rfl)
  have hz0 : v0.heap.size = (v0.setCell ⟨G, 0, none⟩ (.int .i64 n0)).heap.size := by simp [World.setCell]
  clear hrs X PP U1
  go_wp2_with fail
  generalize (v0.setCell ⟨G, 0, none⟩ (.int .i64 n0)) = V0 at *
  have X := XN
  have PP := PN
  have U := Lib.hid UN
  clear ck fk XN PN UN
  rw [rounds_succ]
  have p1 := PP.cell 1
  simp only [List.getElem?_toArray, List.getElem?_cons_succ, List.getElem?_cons_zero] at p1
  go_wp2_with fail
  refine (octNxT b (dS xs 1) _ HS1.out).mono ?_
  rintro e v1 ⟨rfl, hrs, ht⟩
  have hl1 := ht.size
  replace hrs : RS v1 b (dS xs 2) := hrs
  replace X := X.tch ht (by omega)
  replace PP := PP.tch ht (by omega)
  have U1 := U.out.trans ht.touch (D := (fun k => k = b ∨ k = G)) (fun n _ e => Or.inl e)
  obtain ⟨n1, hn1⟩ : ∃ z : Int, z = ((nx (dS xs 1)).1 : Int) := ⟨_, rfl⟩
  rw [← hn1]
  have HN1 : Hid (n1 = dN xs 1) := Lib.hid hn1
  clear hn1 ht HS1 p1 U
  have ck := X.cell 1
  have fk := X.free 1
  simp only [List.getElem?_toArray, List.getElem?_cons_succ, List.getElem?_cons_zero] at ck
  have HS2 := Lib.hid (RS.setBlk (i := 1) (v := .int .i64 n1) hrs X (noU8_op _ _ _ _ _ _ _ _ _ _ _ _) (by omega))
  have XN : Whl (v1.setCell ⟨G, 1, none⟩ (.int .i64 n1)) G 25 #[.int .i64 n0, .int .i64 n1, .int .i64 0, .string ⟨#[]⟩, .string ⟨#[]⟩, .string ⟨#[]⟩, .string ⟨#[]⟩, .int .i64 0, .int .i64 0, .int .i64 0, .bool false, .int .i64 0] := Whl.set X 1 (.int .i64 n1)
  have PN : Whl (v1.setCell ⟨G, 1, none⟩ (.int .i64 n1)) P 70 #[.pointer (some ⟨G, 0, none⟩), .pointer (some ⟨G, 1, none⟩), .pointer (some ⟨G, 2, none⟩)] := PP.far (by simp; omega)
  have UN : Touch (fun k => k = b ∨ k = G) w (v1.setCell ⟨G, 1, none⟩ (.int .i64 n1)) := U1.set (fun _ => Or.inr rfl)
  have hz1 : v1.heap.size = (v1.setCell ⟨G, 1, none⟩ (.int .i64 n1)).heap.size := by simp [World.setCell]
  clear hrs X PP U1
  go_wp2_with fail
  generalize (v1.setCell ⟨G, 1, none⟩ (.int .i64 n1)) = V1 at *
  have X := XN
  have PP := PN
  have U := Lib.hid UN
  clear ck fk XN PN UN
  rw [rounds_succ]
  have p2 := PP.cell 2
  simp only [List.getElem?_toArray, List.getElem?_cons_succ, List.getElem?_cons_zero] at p2
  go_wp2_with fail
  refine (octNxT b (dS xs 2) _ HS2.out).mono ?_
  rintro e v2 ⟨rfl, hrs, ht⟩
  have hl2 := ht.size
  replace hrs : RS v2 b (dS xs 3) := hrs
  replace X := X.tch ht (by omega)
  replace PP := PP.tch ht (by omega)
  have U1 := U.out.trans ht.touch (D := (fun k => k = b ∨ k = G)) (fun n _ e => Or.inl e)
  obtain ⟨n2, hn2⟩ : ∃ z : Int, z = ((nx (dS xs 2)).1 : Int) := ⟨_, rfl⟩
  rw [← hn2]
  have HN2 : Hid (n2 = dN xs 2) := Lib.hid hn2
  clear hn2 ht HS2 p2 U
  have ck := X.cell 2
  have fk := X.free 2
  simp only [List.getElem?_toArray, List.getElem?_cons_succ, List.getElem?_cons_zero] at ck
  have HS3 := Lib.hid (RS.setBlk (i := 2) (v := .int .i64 n2) hrs X (noU8_op _ _ _ _ _ _ _ _ _ _ _ _) (by omega))
  have XN : Whl (v2.setCell ⟨G, 2, none⟩ (.int .i64 n2)) G 25 #[.int .i64 n0, .int .i64 n1, .int .i64 n2, .string ⟨#[]⟩, .string ⟨#[]⟩, .string ⟨#[]⟩, .string ⟨#[]⟩, .int .i64 0, .int .i64 0, .int .i64 0, .bool false, .int .i64 0] := Whl.set X 2 (.int .i64 n2)
  have PN : Whl (v2.setCell ⟨G, 2, none⟩ (.int .i64 n2)) P 70 #[.pointer (some ⟨G, 0, none⟩), .pointer (some ⟨G, 1, none⟩), .pointer (some ⟨G, 2, none⟩)] := PP.far (by simp; omega)
  have UN : Touch (fun k => k = b ∨ k = G) w (v2.setCell ⟨G, 2, none⟩ (.int .i64 n2)) := U1.set (fun _ => Or.inr rfl)
  have hz2 : v2.heap.size = (v2.setCell ⟨G, 2, none⟩ (.int .i64 n2)).heap.size := by simp [World.setCell]
  clear hrs X PP U1
  go_wp2_with fail
  generalize (v2.setCell ⟨G, 2, none⟩ (.int .i64 n2)) = V2 at *
  have X := XN
  have PP := PN
  have U := Lib.hid UN
  clear ck fk XN PN UN
  rw [rounds_succ]
  rw [HN0.out, HN1.out, HN2.out] at X
  have HX := Lib.hid X

  clear X PP
  go_wp2_with fail
  refine bodyPost_end (v := .tuple #[]) (by simp [results, Try.results30, go_sem]) rfl ⟨rfl, HS3.out, HX.out, U.out⟩

set_option maxHeartbeats 4000000 in
set_option maxRecDepth 10000 in
theorem opNums5 (b P G BU : Nat) (xs : List Nat) (n0 n1 n2 : Int) (t3 t4 t5 t6 : ByteArray) (w : World) (hr : RS w b (dS xs 7)) (hP : Whl w P 70 #[.pointer (some ⟨G, 7, none⟩), .pointer (some ⟨G, 8, none⟩), .pointer (some ⟨G, 9, none⟩), .pointer (some ⟨BU, 0, none⟩), .pointer (some ⟨G, 11, none⟩)]) (hG : Whl w G 25 #[.int .i64 n0, .int .i64 n1, .int .i64 n2, .string t3, .string t4, .string t5, .string t6, .int .i64 0, .int .i64 0, .int .i64 0, .bool false, .int .i64 0]) (hB : Whl w BU 3 #[.int .i64 0]) (hGb : G < BU) (hBb : BU < b) (hbP : b < P) :
    Calls Try.prog 30 #[.pointer (some ⟨b, 0, none⟩), .slice (some ⟨P, 0, none⟩) 5 5] w fun e w' => e = .returned (.tuple #[]) ∧ RS w' b (dS xs 12) ∧ Whl w' G 25 #[.int .i64 n0, .int .i64 n1, .int .i64 n2, .string t3, .string t4, .string t5, .string t6, .int .i64 (dN xs 7), .int .i64 (dN xs 8), .int .i64 (dN xs 9), .bool false, .int .i64 (dN xs 11)] ∧ Whl w' BU 3 #[.int .i64 (dN xs 10)] ∧ Touch (fun k => k = b ∨ k = G ∨ k = BU) w w' := by
  have HS0 := Lib.hid hr
  have X := hG
  have PP := hP
  have BB := hB
  have U := Lib.hid (Touch.refl (fun k => k = b ∨ k = G ∨ k = BU) w)
  have hlow := hr.low
  have hPl := hP.low
  clear hr hG hP hB
  go_enter Try.func30, Try.ntmps30
  go_wp2_with fail
  refine wp_loop_rounds 6 ?_
  rw [rounds_succ]
  have p0 := PP.cell 0
  simp only [List.getElem?_toArray, List.getElem?_cons_succ, List.getElem?_cons_zero] at p0
  go_wp2_with fail
  refine (octNxT b (dS xs 7) _ HS0.out).mono ?_
  rintro e v7 ⟨rfl, hrs, ht⟩
  have hl7 := ht.size
  replace hrs : RS v7 b (dS xs 8) := hrs
  replace X := X.tch ht (by omega)
  replace PP := PP.tch ht (by omega)
  replace BB := BB.tch ht (by omega)
  have U1 := U.out.trans ht.touch (D := (fun k => k = b ∨ k = G ∨ k = BU)) (fun n _ e => Or.inl e)
  obtain ⟨n7, hn7⟩ : ∃ z : Int, z = ((nx (dS xs 7)).1 : Int) := ⟨_, rfl⟩
  rw [← hn7]
  have HN7 : Hid (n7 = dN xs 7) := Lib.hid hn7
  clear hn7 ht HS0 p0 U
  have ck := X.cell 7
  have fk := X.free 7
  simp only [List.getElem?_toArray, List.getElem?_cons_succ, List.getElem?_cons_zero] at ck
  have HS1 := Lib.hid (RS.setBlk (i := 7) (v := .int .i64 n7) hrs X (noU8_op _ _ _ _ _ _ _ _ _ _ _ _) (by omega))
  have XN : Whl (v7.setCell ⟨G, 7, none⟩ (.int .i64 n7)) G 25 #[.int .i64 n0, .int .i64 n1, .int .i64 n2, .string t3, .string t4, .string t5, .string t6, .int .i64 n7, .int .i64 0, .int .i64 0, .bool false, .int .i64 0] := Whl.set X 7 (.int .i64 n7)
  have PN : Whl (v7.setCell ⟨G, 7, none⟩ (.int .i64 n7)) P 70 #[.pointer (some ⟨G, 7, none⟩), .pointer (some ⟨G, 8, none⟩), .pointer (some ⟨G, 9, none⟩), .pointer (some ⟨BU, 0, none⟩), .pointer (some ⟨G, 11, none⟩)] := PP.far (by simp; omega)
  have ON := BB.far (a := ⟨G, 7, none⟩) (v := .int .i64 n7) (by simp; omega)
  have UN : Touch (fun k => k = b ∨ k = G ∨ k = BU) w (v7.setCell ⟨G, 7, none⟩ (.int .i64 n7)) := U1.set (fun _ => Or.inr (Or.inl rfl))
  have hz7 : v7.heap.size = (v7.setCell ⟨G, 7, none⟩ (.int .i64 n7)).heap.size := by simp [World.setCell]
  clear hrs X PP U1 BB
  go_wp2_with fail
  generalize (v7.setCell ⟨G, 7, none⟩ (.int .i64 n7)) = V7 at *
  have X := XN
  have PP := PN
  have BB := ON
  have U := Lib.hid UN
  clear ck fk XN PN UN ON
  rw [rounds_succ]
  have p1 := PP.cell 1
  simp only [List.getElem?_toArray, List.getElem?_cons_succ, List.getElem?_cons_zero] at p1
  go_wp2_with fail
  refine (octNxT b (dS xs 8) _ HS1.out).mono ?_
  rintro e v8 ⟨rfl, hrs, ht⟩
  have hl8 := ht.size
  replace hrs : RS v8 b (dS xs 9) := hrs
  replace X := X.tch ht (by omega)
  replace PP := PP.tch ht (by omega)
  replace BB := BB.tch ht (by omega)
  have U1 := U.out.trans ht.touch (D := (fun k => k = b ∨ k = G ∨ k = BU)) (fun n _ e => Or.inl e)
  obtain ⟨n8, hn8⟩ : ∃ z : Int, z = ((nx (dS xs 8)).1 : Int) := ⟨_, rfl⟩
  rw [← hn8]
  have HN8 : Hid (n8 = dN xs 8) := Lib.hid hn8
  clear hn8 ht HS1 p1 U
  have ck := X.cell 8
  have fk := X.free 8
  simp only [List.getElem?_toArray, List.getElem?_cons_succ, List.getElem?_cons_zero] at ck
  have HS2 := Lib.hid (RS.setBlk (i := 8) (v := .int .i64 n8) hrs X (noU8_op _ _ _ _ _ _ _ _ _ _ _ _) (by omega))
  have XN : Whl (v8.setCell ⟨G, 8, none⟩ (.int .i64 n8)) G 25 #[.int .i64 n0, .int .i64 n1, .int .i64 n2, .string t3, .string t4, .string t5, .string t6, .int .i64 n7, .int .i64 n8, .int .i64 0, .bool false, .int .i64 0] := Whl.set X 8 (.int .i64 n8)
  have PN : Whl (v8.setCell ⟨G, 8, none⟩ (.int .i64 n8)) P 70 #[.pointer (some ⟨G, 7, none⟩), .pointer (some ⟨G, 8, none⟩), .pointer (some ⟨G, 9, none⟩), .pointer (some ⟨BU, 0, none⟩), .pointer (some ⟨G, 11, none⟩)] := PP.far (by simp; omega)
  have ON := BB.far (a := ⟨G, 8, none⟩) (v := .int .i64 n8) (by simp; omega)
  have UN : Touch (fun k => k = b ∨ k = G ∨ k = BU) w (v8.setCell ⟨G, 8, none⟩ (.int .i64 n8)) := U1.set (fun _ => Or.inr (Or.inl rfl))
  have hz8 : v8.heap.size = (v8.setCell ⟨G, 8, none⟩ (.int .i64 n8)).heap.size := by simp [World.setCell]
  clear hrs X PP U1 BB
  go_wp2_with fail
  generalize (v8.setCell ⟨G, 8, none⟩ (.int .i64 n8)) = V8 at *
  have X := XN
  have PP := PN
  have BB := ON
  have U := Lib.hid UN
  clear ck fk XN PN UN ON
  rw [rounds_succ]
  have p2 := PP.cell 2
  simp only [List.getElem?_toArray, List.getElem?_cons_succ, List.getElem?_cons_zero] at p2
  go_wp2_with fail
  refine (octNxT b (dS xs 9) _ HS2.out).mono ?_
  rintro e v9 ⟨rfl, hrs, ht⟩
  have hl9 := ht.size
  replace hrs : RS v9 b (dS xs 10) := hrs
  replace X := X.tch ht (by omega)
  replace PP := PP.tch ht (by omega)
  replace BB := BB.tch ht (by omega)
  have U1 := U.out.trans ht.touch (D := (fun k => k = b ∨ k = G ∨ k = BU)) (fun n _ e => Or.inl e)
  obtain ⟨n9, hn9⟩ : ∃ z : Int, z = ((nx (dS xs 9)).1 : Int) := ⟨_, rfl⟩
  rw [← hn9]
  have HN9 : Hid (n9 = dN xs 9) := Lib.hid hn9
  clear hn9 ht HS2 p2 U
  have ck := X.cell 9
  have fk := X.free 9
  simp only [List.getElem?_toArray, List.getElem?_cons_succ, List.getElem?_cons_zero] at ck
  have HS3 := Lib.hid (RS.setBlk (i := 9) (v := .int .i64 n9) hrs X (noU8_op _ _ _ _ _ _ _ _ _ _ _ _) (by omega))
  have XN : Whl (v9.setCell ⟨G, 9, none⟩ (.int .i64 n9)) G 25 #[.int .i64 n0, .int .i64 n1, .int .i64 n2, .string t3, .string t4, .string t5, .string t6, .int .i64 n7, .int .i64 n8, .int .i64 n9, .bool false, .int .i64 0] := Whl.set X 9 (.int .i64 n9)
  have PN : Whl (v9.setCell ⟨G, 9, none⟩ (.int .i64 n9)) P 70 #[.pointer (some ⟨G, 7, none⟩), .pointer (some ⟨G, 8, none⟩), .pointer (some ⟨G, 9, none⟩), .pointer (some ⟨BU, 0, none⟩), .pointer (some ⟨G, 11, none⟩)] := PP.far (by simp; omega)
  have ON := BB.far (a := ⟨G, 9, none⟩) (v := .int .i64 n9) (by simp; omega)
  have UN : Touch (fun k => k = b ∨ k = G ∨ k = BU) w (v9.setCell ⟨G, 9, none⟩ (.int .i64 n9)) := U1.set (fun _ => Or.inr (Or.inl rfl))
  have hz9 : v9.heap.size = (v9.setCell ⟨G, 9, none⟩ (.int .i64 n9)).heap.size := by simp [World.setCell]
  clear hrs X PP U1 BB
  go_wp2_with fail
  generalize (v9.setCell ⟨G, 9, none⟩ (.int .i64 n9)) = V9 at *
  have X := XN
  have PP := PN
  have BB := ON
  have U := Lib.hid UN
  clear ck fk XN PN UN ON
  rw [rounds_succ]
  have p3 := PP.cell 3
  simp only [List.getElem?_toArray, List.getElem?_cons_succ, List.getElem?_cons_zero] at p3
  go_wp2_with fail
  refine (octNxT b (dS xs 10) _ HS3.out).mono ?_
  rintro e v10 ⟨rfl, hrs, ht⟩
  have hl10 := ht.size
  replace hrs : RS v10 b (dS xs 11) := hrs
  replace X := X.tch ht (by omega)
  replace PP := PP.tch ht (by omega)
  replace BB := BB.tch ht (by omega)
  have U1 := U.out.trans ht.touch (D := (fun k => k = b ∨ k = G ∨ k = BU)) (fun n _ e => Or.inl e)
  obtain ⟨n10, hn10⟩ : ∃ z : Int, z = ((nx (dS xs 10)).1 : Int) := ⟨_, rfl⟩
  rw [← hn10]
  have HN10 : Hid (n10 = dN xs 10) := Lib.hid hn10
  clear hn10 ht HS3 p3 U
  have ck := BB.cell 0
  have fk := BB.free 0
  simp only [List.getElem?_toArray, List.getElem?_cons_succ, List.getElem?_cons_zero] at ck
  have HS4 := Lib.hid (RS.setBlk (i := 0) (v := .int .i64 n10) hrs BB (noU8_int _) (by omega))
  have XN : Whl (v10.setCell ⟨BU, 0, none⟩ (.int .i64 n10)) BU 3 #[.int .i64 n10] := Whl.set BB 0 (.int .i64 n10)
  have PN : Whl (v10.setCell ⟨BU, 0, none⟩ (.int .i64 n10)) P 70 #[.pointer (some ⟨G, 7, none⟩), .pointer (some ⟨G, 8, none⟩), .pointer (some ⟨G, 9, none⟩), .pointer (some ⟨BU, 0, none⟩), .pointer (some ⟨G, 11, none⟩)] := PP.far (by simp; omega)
  have ON := X.far (a := ⟨BU, 0, none⟩) (v := .int .i64 n10) (by simp; omega)
  have UN : Touch (fun k => k = b ∨ k = G ∨ k = BU) w (v10.setCell ⟨BU, 0, none⟩ (.int .i64 n10)) := U1.set (fun _ => Or.inr (Or.inr rfl))
  have hz10 : v10.heap.size = (v10.setCell ⟨BU, 0, none⟩ (.int .i64 n10)).heap.size := by simp [World.setCell]
  clear hrs X PP U1 BB
  go_wp2_with fail
  generalize (v10.setCell ⟨BU, 0, none⟩ (.int .i64 n10)) = V10 at *
  have X := ON
  have PP := PN
  have BB := XN
  have U := Lib.hid UN
  clear ck fk XN PN UN ON
  rw [rounds_succ]
  have p4 := PP.cell 4
  simp only [List.getElem?_toArray, List.getElem?_cons_succ, List.getElem?_cons_zero] at p4
  go_wp2_with fail
  refine (octNxT b (dS xs 11) _ HS4.out).mono ?_
  rintro e v11 ⟨rfl, hrs, ht⟩
  have hl11 := ht.size
  replace hrs : RS v11 b (dS xs 12) := hrs
  replace X := X.tch ht (by omega)
  replace PP := PP.tch ht (by omega)
  replace BB := BB.tch ht (by omega)
  have U1 := U.out.trans ht.touch (D := (fun k => k = b ∨ k = G ∨ k = BU)) (fun n _ e => Or.inl e)
  obtain ⟨n11, hn11⟩ : ∃ z : Int, z = ((nx (dS xs 11)).1 : Int) := ⟨_, rfl⟩
  rw [← hn11]
  have HN11 : Hid (n11 = dN xs 11) := Lib.hid hn11
  clear hn11 ht HS4 p4 U
  have ck := X.cell 11
  have fk := X.free 11
  simp only [List.getElem?_toArray, List.getElem?_cons_succ, List.getElem?_cons_zero] at ck
  have HS5 := Lib.hid (RS.setBlk (i := 11) (v := .int .i64 n11) hrs X (noU8_op _ _ _ _ _ _ _ _ _ _ _ _) (by omega))
  have XN : Whl (v11.setCell ⟨G, 11, none⟩ (.int .i64 n11)) G 25 #[.int .i64 n0, .int .i64 n1, .int .i64 n2, .string t3, .string t4, .string t5, .string t6, .int .i64 n7, .int .i64 n8, .int .i64 n9, .bool false, .int .i64 n11] := Whl.set X 11 (.int .i64 n11)
  have PN : Whl (v11.setCell ⟨G, 11, none⟩ (.int .i64 n11)) P 70 #[.pointer (some ⟨G, 7, none⟩), .pointer (some ⟨G, 8, none⟩), .pointer (some ⟨G, 9, none⟩), .pointer (some ⟨BU, 0, none⟩), .pointer (some ⟨G, 11, none⟩)] := PP.far (by simp; omega)
  have ON := BB.far (a := ⟨G, 11, none⟩) (v := .int .i64 n11) (by simp; omega)
  have UN : Touch (fun k => k = b ∨ k = G ∨ k = BU) w (v11.setCell ⟨G, 11, none⟩ (.int .i64 n11)) := U1.set (fun _ => Or.inr (Or.inl rfl))
  have hz11 : v11.heap.size = (v11.setCell ⟨G, 11, none⟩ (.int .i64 n11)).heap.size := by simp [World.setCell]
  clear hrs X PP U1 BB
  go_wp2_with fail
  generalize (v11.setCell ⟨G, 11, none⟩ (.int .i64 n11)) = V11 at *
  have X := XN
  have PP := PN
  have BB := ON
  have U := Lib.hid UN
  clear ck fk XN PN UN ON
  rw [rounds_succ]
  rw [HN7.out, HN8.out, HN9.out, HN11.out] at X
  rw [HN10.out] at BB
  have HX := Lib.hid X
  have HBB := Lib.hid BB
  clear X PP BB
  go_wp2_with fail
  refine bodyPost_end (v := .tuple #[]) (by simp [results, Try.results30, go_sem]) rfl ⟨rfl, HS5.out, HX.out, HBB.out, U.out⟩
end Go.Proofs.Ytblknjclkecglaa
