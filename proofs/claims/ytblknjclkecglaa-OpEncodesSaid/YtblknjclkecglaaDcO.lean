/- What op.Decode returns, of any bytes. -/
import Derived.Test.YtblknjclkecglaaDcP
namespace Go.Proofs.Ytblknjclkecglaa
open Go.RowKit
set_option linter.unusedVariables false
set_option linter.unusedSimpArgs false

set_option maxHeartbeats 8000000 in
set_option maxRecDepth 10000 in
theorem opDecode (A : Option Addr) (c : Nat) (xs : List Nat) (w : World) (hn : xs.length ≤ 10000) (h256 : ∀ x ∈ xs, x < 256) (hx : Cells w w.heap.size A xs.length c 1 (flatU xs)) :
    Calls Try.prog 12 #[.slice A xs.length c] w fun e w' => e = .returned (dV xs) ∧ Below w.heap.size w w' := by
  have hw2 : Below w.heap.size w (((w.alloc (.cells #[.int .i64 0, .int .i64 0, .int .i64 0, .string ⟨#[]⟩, .string ⟨#[]⟩, .string ⟨#[]⟩, .string ⟨#[]⟩, .int .i64 0, .int .i64 0, .int .i64 0, .bool false, .int .i64 0] 25)).alloc (.cells #[.int .i64 0, .int .i64 0, .int .i64 0, .string ⟨#[]⟩, .string ⟨#[]⟩, .string ⟨#[]⟩, .string ⟨#[]⟩, .int .i64 0, .int .i64 0, .int .i64 0, .bool false, .int .i64 0] 25)).alloc (.cells #[.int .i64 0] 3)) := (((Below.refl _ _).alloc (Nat.le_refl _) _).alloc (by simp) _).alloc (by simp; omega) _
  have HX := Lib.hid (cells_keep hx hw2 (by simp; omega : w.heap.size ≤ (((w.alloc (.cells #[.int .i64 0, .int .i64 0, .int .i64 0, .string ⟨#[]⟩, .string ⟨#[]⟩, .string ⟨#[]⟩, .string ⟨#[]⟩, .int .i64 0, .int .i64 0, .int .i64 0, .bool false, .int .i64 0] 25)).alloc (.cells #[.int .i64 0, .int .i64 0, .int .i64 0, .string ⟨#[]⟩, .string ⟨#[]⟩, .string ⟨#[]⟩, .string ⟨#[]⟩, .int .i64 0, .int .i64 0, .int .i64 0, .bool false, .int .i64 0] 25)).alloc (.cells #[.int .i64 0] 3)).heap.size))
  have H256 := Lib.hid h256
  clear hx h256
  go_enter Try.func12, Try.ntmps12
  go_wp2_with fail
  refine (octNew A c xs _ (by omega) H256.out HX.out).mono ?_
  rintro e w1 ⟨b, rfl, hbs, hrs, hb⟩
  have hs1 := hb.size
  simp at hbs hs1
  have BB : Whl w1 (w.heap.size + 2) 3 #[.int .i64 0] := Whl.below (Whl.new (by simp)) hb (by simp)
  have X : Whl w1 (w.heap.size + 1) 25 #[.int .i64 0, .int .i64 0, .int .i64 0, .string ⟨#[]⟩, .string ⟨#[]⟩, .string ⟨#[]⟩, .string ⟨#[]⟩, .int .i64 0, .int .i64 0, .int .i64 0, .bool false, .int .i64 0] := Whl.below (Whl.alloc (Whl.new (by simp)) _) hb (by (try simp); (try omega))
  have R : Whl w1 w.heap.size 25 #[.int .i64 0, .int .i64 0, .int .i64 0, .string ⟨#[]⟩, .string ⟨#[]⟩, .string ⟨#[]⟩, .string ⟨#[]⟩, .int .i64 0, .int .i64 0, .int .i64 0, .bool false, .int .i64 0] := Whl.below (Whl.alloc (Whl.alloc (Whl.new rfl) _) _) hb (by simp; omega)
  have hbl := hrs.low
  have HS0 : Hid (RS w1 b (dS xs 0)) := Lib.hid hrs
  have B0 : Below w.heap.size w w1 := hw2.trans (hb.mono (by simp; omega))
  clear hw2 hrs hb
  go_wp2_with fail
  have PP : Whl (w1.alloc (.cells #[.pointer (some ⟨w.heap.size + 1, 0, none⟩), .pointer (some ⟨w.heap.size + 1, 1, none⟩), .pointer (some ⟨w.heap.size + 1, 2, none⟩)] 70)) w1.heap.size 70 #[.pointer (some ⟨w.heap.size + 1, 0, none⟩), .pointer (some ⟨w.heap.size + 1, 1, none⟩), .pointer (some ⟨w.heap.size + 1, 2, none⟩)] := Whl.new rfl
  replace X := X.alloc (.cells #[.pointer (some ⟨w.heap.size + 1, 0, none⟩), .pointer (some ⟨w.heap.size + 1, 1, none⟩), .pointer (some ⟨w.heap.size + 1, 2, none⟩)] 70)
  replace R := R.alloc (.cells #[.pointer (some ⟨w.heap.size + 1, 0, none⟩), .pointer (some ⟨w.heap.size + 1, 1, none⟩), .pointer (some ⟨w.heap.size + 1, 2, none⟩)] 70)
  replace BB := BB.alloc (.cells #[.pointer (some ⟨w.heap.size + 1, 0, none⟩), .pointer (some ⟨w.heap.size + 1, 1, none⟩), .pointer (some ⟨w.heap.size + 1, 2, none⟩)] 70)
  have HSn := Lib.hid (RS.alloc HS0.out (.cells #[.pointer (some ⟨w.heap.size + 1, 0, none⟩), .pointer (some ⟨w.heap.size + 1, 1, none⟩), .pointer (some ⟨w.heap.size + 1, 2, none⟩)] 70))
  have Bn : Below w.heap.size w (w1.alloc (.cells #[.pointer (some ⟨w.heap.size + 1, 0, none⟩), .pointer (some ⟨w.heap.size + 1, 1, none⟩), .pointer (some ⟨w.heap.size + 1, 2, none⟩)] 70)) := B0.alloc (by omega) (.cells #[.pointer (some ⟨w.heap.size + 1, 0, none⟩), .pointer (some ⟨w.heap.size + 1, 1, none⟩), .pointer (some ⟨w.heap.size + 1, 2, none⟩)] 70)
  have hz : w1.heap.size < (w1.alloc (.cells #[.pointer (some ⟨w.heap.size + 1, 0, none⟩), .pointer (some ⟨w.heap.size + 1, 1, none⟩), .pointer (some ⟨w.heap.size + 1, 2, none⟩)] 70)).heap.size := by simp
  clear HS0 B0
  generalize (w1.alloc (.cells #[.pointer (some ⟨w.heap.size + 1, 0, none⟩), .pointer (some ⟨w.heap.size + 1, 1, none⟩), .pointer (some ⟨w.heap.size + 1, 2, none⟩)] 70)) = U1 at *
  refine (opNums3 b w1.heap.size (w.heap.size + 1) xs _ HSn.out PP X (by omega) (by omega)).mono ?_
  rintro e w2 ⟨rfl, hrs, X2, ht⟩
  have hs2 := ht.size
  replace R := R.tou ht (by omega)
  replace BB := BB.tou ht (by omega)
  have B1 : Below w.heap.size w w2 := Bn.trans (ht.below (by omega) (by omega))
  obtain ⟨n0, hn0⟩ : ∃ z : Int, z = dN xs 0 := ⟨_, rfl⟩
  obtain ⟨n1, hn1⟩ : ∃ z : Int, z = dN xs 1 := ⟨_, rfl⟩
  obtain ⟨n2, hn2⟩ : ∃ z : Int, z = dN xs 2 := ⟨_, rfl⟩
  rw [← hn0, ← hn1, ← hn2] at X2
  have HN0 := Lib.hid hn0
  have HN1 := Lib.hid hn1
  have HN2 := Lib.hid hn2
  have X := X2
  have HS1 := Lib.hid hrs
  clear hn0 hn1 hn2 X2 hrs ht PP HSn Bn
  go_wp2_with fail
  have PP : Whl (w2.alloc (.cells #[.pointer (some ⟨w.heap.size + 1, 3, none⟩), .pointer (some ⟨w.heap.size + 1, 4, none⟩), .pointer (some ⟨w.heap.size + 1, 5, none⟩), .pointer (some ⟨w.heap.size + 1, 6, none⟩)] 71)) w2.heap.size 71 #[.pointer (some ⟨w.heap.size + 1, 3, none⟩), .pointer (some ⟨w.heap.size + 1, 4, none⟩), .pointer (some ⟨w.heap.size + 1, 5, none⟩), .pointer (some ⟨w.heap.size + 1, 6, none⟩)] := Whl.new rfl
  replace X := X.alloc (.cells #[.pointer (some ⟨w.heap.size + 1, 3, none⟩), .pointer (some ⟨w.heap.size + 1, 4, none⟩), .pointer (some ⟨w.heap.size + 1, 5, none⟩), .pointer (some ⟨w.heap.size + 1, 6, none⟩)] 71)
  replace R := R.alloc (.cells #[.pointer (some ⟨w.heap.size + 1, 3, none⟩), .pointer (some ⟨w.heap.size + 1, 4, none⟩), .pointer (some ⟨w.heap.size + 1, 5, none⟩), .pointer (some ⟨w.heap.size + 1, 6, none⟩)] 71)
  replace BB := BB.alloc (.cells #[.pointer (some ⟨w.heap.size + 1, 3, none⟩), .pointer (some ⟨w.heap.size + 1, 4, none⟩), .pointer (some ⟨w.heap.size + 1, 5, none⟩), .pointer (some ⟨w.heap.size + 1, 6, none⟩)] 71)
  have HSn := Lib.hid (RS.alloc HS1.out (.cells #[.pointer (some ⟨w.heap.size + 1, 3, none⟩), .pointer (some ⟨w.heap.size + 1, 4, none⟩), .pointer (some ⟨w.heap.size + 1, 5, none⟩), .pointer (some ⟨w.heap.size + 1, 6, none⟩)] 71))
  have Bn : Below w.heap.size w (w2.alloc (.cells #[.pointer (some ⟨w.heap.size + 1, 3, none⟩), .pointer (some ⟨w.heap.size + 1, 4, none⟩), .pointer (some ⟨w.heap.size + 1, 5, none⟩), .pointer (some ⟨w.heap.size + 1, 6, none⟩)] 71)) := B1.alloc (by omega) (.cells #[.pointer (some ⟨w.heap.size + 1, 3, none⟩), .pointer (some ⟨w.heap.size + 1, 4, none⟩), .pointer (some ⟨w.heap.size + 1, 5, none⟩), .pointer (some ⟨w.heap.size + 1, 6, none⟩)] 71)
  have hz : w2.heap.size < (w2.alloc (.cells #[.pointer (some ⟨w.heap.size + 1, 3, none⟩), .pointer (some ⟨w.heap.size + 1, 4, none⟩), .pointer (some ⟨w.heap.size + 1, 5, none⟩), .pointer (some ⟨w.heap.size + 1, 6, none⟩)] 71)).heap.size := by simp
  clear HS1 B1
  generalize (w2.alloc (.cells #[.pointer (some ⟨w.heap.size + 1, 3, none⟩), .pointer (some ⟨w.heap.size + 1, 4, none⟩), .pointer (some ⟨w.heap.size + 1, 5, none⟩), .pointer (some ⟨w.heap.size + 1, 6, none⟩)] 71)) = U2 at *
  refine wp_loop_rounds 5 ?_
  rw [rounds_succ]
  have p0 := PP.cell 0
  simp only [List.getElem?_toArray, List.getElem?_cons_succ, List.getElem?_cons_zero] at p0
  go_wp2_with fail
  refine (octNbT b (dS xs 3) _ HSn.out).mono ?_
  rintro e v3 ⟨y3, rfl, hown, hrs, ht⟩
  have hl3 := ht.size
  replace hrs : RS v3 b (dS xs 4) := hrs
  replace X := X.tch ht (by omega)
  replace R := R.tch ht (by omega)
  replace BB := BB.tch ht (by omega)
  replace PP := PP.tch ht (by omega)
  have Bm3 : Below w.heap.size w v3 := Bn.trans (ht.below (by omega) (by omega))
  have cv := conv_own hown
  obtain ⟨t3, ht3⟩ : ∃ z : ByteArray, z = strU (nb (dS xs 3)).1 := ⟨_, rfl⟩
  rw [← ht3] at cv
  have HT3 : Hid (t3 = dT xs 3) := Lib.hid ht3
  clear ht3 ht hown HSn Bn p0
  have ck := X.cell 3
  have fk := X.free 3
  simp only [List.getElem?_toArray, List.getElem?_cons_succ, List.getElem?_cons_zero] at ck
  have HSm3 := Lib.hid (RS.setBlk (i := 3) (v := .string t3) hrs X (noU8_op _ _ _ _ _ _ _ _ _ _ _ _) (by omega))
  have XN : Whl (v3.setCell ⟨w.heap.size + 1, 3, none⟩ (.string t3)) (w.heap.size + 1) 25 #[.int .i64 n0, .int .i64 n1, .int .i64 n2, .string t3, .string ⟨#[]⟩, .string ⟨#[]⟩, .string ⟨#[]⟩, .int .i64 0, .int .i64 0, .int .i64 0, .bool false, .int .i64 0] := Whl.set X 3 (.string t3)
  have RN : Whl (v3.setCell ⟨w.heap.size + 1, 3, none⟩ (.string t3)) w.heap.size 25 #[.int .i64 0, .int .i64 0, .int .i64 0, .string ⟨#[]⟩, .string ⟨#[]⟩, .string ⟨#[]⟩, .string ⟨#[]⟩, .int .i64 0, .int .i64 0, .int .i64 0, .bool false, .int .i64 0] := R.far (by simp)
  have BN : Whl (v3.setCell ⟨w.heap.size + 1, 3, none⟩ (.string t3)) (w.heap.size + 2) 3 #[.int .i64 0] := BB.far (by simp)
  have PN : Whl (v3.setCell ⟨w.heap.size + 1, 3, none⟩ (.string t3)) w2.heap.size 71 #[.pointer (some ⟨w.heap.size + 1, 3, none⟩), .pointer (some ⟨w.heap.size + 1, 4, none⟩), .pointer (some ⟨w.heap.size + 1, 5, none⟩), .pointer (some ⟨w.heap.size + 1, 6, none⟩)] := PP.far (by simp; omega)
  have Bs3 : Below w.heap.size w (v3.setCell ⟨w.heap.size + 1, 3, none⟩ (.string t3)) := Bm3.setCell (by simp) _
  have hz3 : v3.heap.size = (v3.setCell ⟨w.heap.size + 1, 3, none⟩ (.string t3)).heap.size := by simp [World.setCell]
  clear hrs X R BB PP Bm3
  go_wp2_with fail
  generalize (v3.setCell ⟨w.heap.size + 1, 3, none⟩ (.string t3)) = V3 at *
  have X := XN
  have R := RN
  have BB := BN
  have PP := PN
  clear ck fk cv XN RN BN PN
  rw [rounds_succ]
  have p1 := PP.cell 1
  simp only [List.getElem?_toArray, List.getElem?_cons_succ, List.getElem?_cons_zero] at p1
  go_wp2_with fail
  refine (octNbT b (dS xs 4) _ HSm3.out).mono ?_
  rintro e v4 ⟨y4, rfl, hown, hrs, ht⟩
  have hl4 := ht.size
  replace hrs : RS v4 b (dS xs 5) := hrs
  replace X := X.tch ht (by omega)
  replace R := R.tch ht (by omega)
  replace BB := BB.tch ht (by omega)
  replace PP := PP.tch ht (by omega)
  have Bm4 : Below w.heap.size w v4 := Bs3.trans (ht.below (by omega) (by omega))
  have cv := conv_own hown
  obtain ⟨t4, ht4⟩ : ∃ z : ByteArray, z = strU (nb (dS xs 4)).1 := ⟨_, rfl⟩
  rw [← ht4] at cv
  have HT4 : Hid (t4 = dT xs 4) := Lib.hid ht4
  clear ht4 ht hown HSm3 Bs3 p1
  have ck := X.cell 4
  have fk := X.free 4
  simp only [List.getElem?_toArray, List.getElem?_cons_succ, List.getElem?_cons_zero] at ck
  have HSm4 := Lib.hid (RS.setBlk (i := 4) (v := .string t4) hrs X (noU8_op _ _ _ _ _ _ _ _ _ _ _ _) (by omega))
  have XN : Whl (v4.setCell ⟨w.heap.size + 1, 4, none⟩ (.string t4)) (w.heap.size + 1) 25 #[.int .i64 n0, .int .i64 n1, .int .i64 n2, .string t3, .string t4, .string ⟨#[]⟩, .string ⟨#[]⟩, .int .i64 0, .int .i64 0, .int .i64 0, .bool false, .int .i64 0] := Whl.set X 4 (.string t4)
  have RN : Whl (v4.setCell ⟨w.heap.size + 1, 4, none⟩ (.string t4)) w.heap.size 25 #[.int .i64 0, .int .i64 0, .int .i64 0, .string ⟨#[]⟩, .string ⟨#[]⟩, .string ⟨#[]⟩, .string ⟨#[]⟩, .int .i64 0, .int .i64 0, .int .i64 0, .bool false, .int .i64 0] := R.far (by simp)
  have BN : Whl (v4.setCell ⟨w.heap.size + 1, 4, none⟩ (.string t4)) (w.heap.size + 2) 3 #[.int .i64 0] := BB.far (by simp)
  have PN : Whl (v4.setCell ⟨w.heap.size + 1, 4, none⟩ (.string t4)) w2.heap.size 71 #[.pointer (some ⟨w.heap.size + 1, 3, none⟩), .pointer (some ⟨w.heap.size + 1, 4, none⟩), .pointer (some ⟨w.heap.size + 1, 5, none⟩), .pointer (some ⟨w.heap.size + 1, 6, none⟩)] := PP.far (by simp; omega)
  have Bs4 : Below w.heap.size w (v4.setCell ⟨w.heap.size + 1, 4, none⟩ (.string t4)) := Bm4.setCell (by simp) _
  have hz4 : v4.heap.size = (v4.setCell ⟨w.heap.size + 1, 4, none⟩ (.string t4)).heap.size := by simp [World.setCell]
  clear hrs X R BB PP Bm4
  go_wp2_with fail
  generalize (v4.setCell ⟨w.heap.size + 1, 4, none⟩ (.string t4)) = V4 at *
  have X := XN
  have R := RN
  have BB := BN
  have PP := PN
  clear ck fk cv XN RN BN PN
  rw [rounds_succ]
  have p2 := PP.cell 2
  simp only [List.getElem?_toArray, List.getElem?_cons_succ, List.getElem?_cons_zero] at p2
  go_wp2_with fail
  refine (octNbT b (dS xs 5) _ HSm4.out).mono ?_
  rintro e v5 ⟨y5, rfl, hown, hrs, ht⟩
  have hl5 := ht.size
  replace hrs : RS v5 b (dS xs 6) := hrs
  replace X := X.tch ht (by omega)
  replace R := R.tch ht (by omega)
  replace BB := BB.tch ht (by omega)
  replace PP := PP.tch ht (by omega)
  have Bm5 : Below w.heap.size w v5 := Bs4.trans (ht.below (by omega) (by omega))
  have cv := conv_own hown
  obtain ⟨t5, ht5⟩ : ∃ z : ByteArray, z = strU (nb (dS xs 5)).1 := ⟨_, rfl⟩
  rw [← ht5] at cv
  have HT5 : Hid (t5 = dT xs 5) := Lib.hid ht5
  clear ht5 ht hown HSm4 Bs4 p2
  have ck := X.cell 5
  have fk := X.free 5
  simp only [List.getElem?_toArray, List.getElem?_cons_succ, List.getElem?_cons_zero] at ck
  have HSm5 := Lib.hid (RS.setBlk (i := 5) (v := .string t5) hrs X (noU8_op _ _ _ _ _ _ _ _ _ _ _ _) (by omega))
  have XN : Whl (v5.setCell ⟨w.heap.size + 1, 5, none⟩ (.string t5)) (w.heap.size + 1) 25 #[.int .i64 n0, .int .i64 n1, .int .i64 n2, .string t3, .string t4, .string t5, .string ⟨#[]⟩, .int .i64 0, .int .i64 0, .int .i64 0, .bool false, .int .i64 0] := Whl.set X 5 (.string t5)
  have RN : Whl (v5.setCell ⟨w.heap.size + 1, 5, none⟩ (.string t5)) w.heap.size 25 #[.int .i64 0, .int .i64 0, .int .i64 0, .string ⟨#[]⟩, .string ⟨#[]⟩, .string ⟨#[]⟩, .string ⟨#[]⟩, .int .i64 0, .int .i64 0, .int .i64 0, .bool false, .int .i64 0] := R.far (by simp)
  have BN : Whl (v5.setCell ⟨w.heap.size + 1, 5, none⟩ (.string t5)) (w.heap.size + 2) 3 #[.int .i64 0] := BB.far (by simp)
  have PN : Whl (v5.setCell ⟨w.heap.size + 1, 5, none⟩ (.string t5)) w2.heap.size 71 #[.pointer (some ⟨w.heap.size + 1, 3, none⟩), .pointer (some ⟨w.heap.size + 1, 4, none⟩), .pointer (some ⟨w.heap.size + 1, 5, none⟩), .pointer (some ⟨w.heap.size + 1, 6, none⟩)] := PP.far (by simp; omega)
  have Bs5 : Below w.heap.size w (v5.setCell ⟨w.heap.size + 1, 5, none⟩ (.string t5)) := Bm5.setCell (by simp) _
  have hz5 : v5.heap.size = (v5.setCell ⟨w.heap.size + 1, 5, none⟩ (.string t5)).heap.size := by simp [World.setCell]
  clear hrs X R BB PP Bm5
  go_wp2_with fail
  generalize (v5.setCell ⟨w.heap.size + 1, 5, none⟩ (.string t5)) = V5 at *
  have X := XN
  have R := RN
  have BB := BN
  have PP := PN
  clear ck fk cv XN RN BN PN
  rw [rounds_succ]
  have p3 := PP.cell 3
  simp only [List.getElem?_toArray, List.getElem?_cons_succ, List.getElem?_cons_zero] at p3
  go_wp2_with fail
  refine (octNbT b (dS xs 6) _ HSm5.out).mono ?_
  rintro e v6 ⟨y6, rfl, hown, hrs, ht⟩
  have hl6 := ht.size
  replace hrs : RS v6 b (dS xs 7) := hrs
  replace X := X.tch ht (by omega)
  replace R := R.tch ht (by omega)
  replace BB := BB.tch ht (by omega)
  replace PP := PP.tch ht (by omega)
  have Bm6 : Below w.heap.size w v6 := Bs5.trans (ht.below (by omega) (by omega))
  have cv := conv_own hown
  obtain ⟨t6, ht6⟩ : ∃ z : ByteArray, z = strU (nb (dS xs 6)).1 := ⟨_, rfl⟩
  rw [← ht6] at cv
  have HT6 : Hid (t6 = dT xs 6) := Lib.hid ht6
  clear ht6 ht hown HSm5 Bs5 p3
  have ck := X.cell 6
  have fk := X.free 6
  simp only [List.getElem?_toArray, List.getElem?_cons_succ, List.getElem?_cons_zero] at ck
  have HSm6 := Lib.hid (RS.setBlk (i := 6) (v := .string t6) hrs X (noU8_op _ _ _ _ _ _ _ _ _ _ _ _) (by omega))
  have XN : Whl (v6.setCell ⟨w.heap.size + 1, 6, none⟩ (.string t6)) (w.heap.size + 1) 25 #[.int .i64 n0, .int .i64 n1, .int .i64 n2, .string t3, .string t4, .string t5, .string t6, .int .i64 0, .int .i64 0, .int .i64 0, .bool false, .int .i64 0] := Whl.set X 6 (.string t6)
  have RN : Whl (v6.setCell ⟨w.heap.size + 1, 6, none⟩ (.string t6)) w.heap.size 25 #[.int .i64 0, .int .i64 0, .int .i64 0, .string ⟨#[]⟩, .string ⟨#[]⟩, .string ⟨#[]⟩, .string ⟨#[]⟩, .int .i64 0, .int .i64 0, .int .i64 0, .bool false, .int .i64 0] := R.far (by simp)
  have BN : Whl (v6.setCell ⟨w.heap.size + 1, 6, none⟩ (.string t6)) (w.heap.size + 2) 3 #[.int .i64 0] := BB.far (by simp)
  have PN : Whl (v6.setCell ⟨w.heap.size + 1, 6, none⟩ (.string t6)) w2.heap.size 71 #[.pointer (some ⟨w.heap.size + 1, 3, none⟩), .pointer (some ⟨w.heap.size + 1, 4, none⟩), .pointer (some ⟨w.heap.size + 1, 5, none⟩), .pointer (some ⟨w.heap.size + 1, 6, none⟩)] := PP.far (by simp; omega)
  have Bs6 : Below w.heap.size w (v6.setCell ⟨w.heap.size + 1, 6, none⟩ (.string t6)) := Bm6.setCell (by simp) _
  have hz6 : v6.heap.size = (v6.setCell ⟨w.heap.size + 1, 6, none⟩ (.string t6)).heap.size := by simp [World.setCell]
  clear hrs X R BB PP Bm6
  go_wp2_with fail
  generalize (v6.setCell ⟨w.heap.size + 1, 6, none⟩ (.string t6)) = V6 at *
  have X := XN
  have R := RN
  have BB := BN
  have PP := PN
  clear ck fk cv XN RN BN PN
  rw [rounds_succ]
  clear PP
  go_wp2_with fail
  have PP : Whl (V6.alloc (.cells #[.pointer (some ⟨w.heap.size + 1, 7, none⟩), .pointer (some ⟨w.heap.size + 1, 8, none⟩), .pointer (some ⟨w.heap.size + 1, 9, none⟩), .pointer (some ⟨w.heap.size + 2, 0, none⟩), .pointer (some ⟨w.heap.size + 1, 11, none⟩)] 70)) V6.heap.size 70 #[.pointer (some ⟨w.heap.size + 1, 7, none⟩), .pointer (some ⟨w.heap.size + 1, 8, none⟩), .pointer (some ⟨w.heap.size + 1, 9, none⟩), .pointer (some ⟨w.heap.size + 2, 0, none⟩), .pointer (some ⟨w.heap.size + 1, 11, none⟩)] := Whl.new rfl
  replace X := X.alloc (.cells #[.pointer (some ⟨w.heap.size + 1, 7, none⟩), .pointer (some ⟨w.heap.size + 1, 8, none⟩), .pointer (some ⟨w.heap.size + 1, 9, none⟩), .pointer (some ⟨w.heap.size + 2, 0, none⟩), .pointer (some ⟨w.heap.size + 1, 11, none⟩)] 70)
  replace R := R.alloc (.cells #[.pointer (some ⟨w.heap.size + 1, 7, none⟩), .pointer (some ⟨w.heap.size + 1, 8, none⟩), .pointer (some ⟨w.heap.size + 1, 9, none⟩), .pointer (some ⟨w.heap.size + 2, 0, none⟩), .pointer (some ⟨w.heap.size + 1, 11, none⟩)] 70)
  replace BB := BB.alloc (.cells #[.pointer (some ⟨w.heap.size + 1, 7, none⟩), .pointer (some ⟨w.heap.size + 1, 8, none⟩), .pointer (some ⟨w.heap.size + 1, 9, none⟩), .pointer (some ⟨w.heap.size + 2, 0, none⟩), .pointer (some ⟨w.heap.size + 1, 11, none⟩)] 70)
  have HSn := Lib.hid (RS.alloc HSm6.out (.cells #[.pointer (some ⟨w.heap.size + 1, 7, none⟩), .pointer (some ⟨w.heap.size + 1, 8, none⟩), .pointer (some ⟨w.heap.size + 1, 9, none⟩), .pointer (some ⟨w.heap.size + 2, 0, none⟩), .pointer (some ⟨w.heap.size + 1, 11, none⟩)] 70))
  have Bn : Below w.heap.size w (V6.alloc (.cells #[.pointer (some ⟨w.heap.size + 1, 7, none⟩), .pointer (some ⟨w.heap.size + 1, 8, none⟩), .pointer (some ⟨w.heap.size + 1, 9, none⟩), .pointer (some ⟨w.heap.size + 2, 0, none⟩), .pointer (some ⟨w.heap.size + 1, 11, none⟩)] 70)) := Bs6.alloc (by omega) (.cells #[.pointer (some ⟨w.heap.size + 1, 7, none⟩), .pointer (some ⟨w.heap.size + 1, 8, none⟩), .pointer (some ⟨w.heap.size + 1, 9, none⟩), .pointer (some ⟨w.heap.size + 2, 0, none⟩), .pointer (some ⟨w.heap.size + 1, 11, none⟩)] 70)
  have hz5 : V6.heap.size < (V6.alloc (.cells #[.pointer (some ⟨w.heap.size + 1, 7, none⟩), .pointer (some ⟨w.heap.size + 1, 8, none⟩), .pointer (some ⟨w.heap.size + 1, 9, none⟩), .pointer (some ⟨w.heap.size + 2, 0, none⟩), .pointer (some ⟨w.heap.size + 1, 11, none⟩)] 70)).heap.size := by simp
  clear HSm6 Bs6
  generalize (V6.alloc (.cells #[.pointer (some ⟨w.heap.size + 1, 7, none⟩), .pointer (some ⟨w.heap.size + 1, 8, none⟩), .pointer (some ⟨w.heap.size + 1, 9, none⟩), .pointer (some ⟨w.heap.size + 2, 0, none⟩), .pointer (some ⟨w.heap.size + 1, 11, none⟩)] 70)) = U3 at *
  refine (opNums5 b V6.heap.size (w.heap.size + 1) (w.heap.size + 2) xs n0 n1 n2 t3 t4 t5 t6 _ HSn.out PP X BB (by omega) (by omega) (by omega)).mono ?_
  rintro e w7 ⟨rfl, hrs, X2, BB2, ht⟩
  have hs7 := ht.size
  replace R := R.tou ht (by omega)
  have B7 : Below w.heap.size w w7 := Bn.trans (ht.below (by omega) (by omega))
  obtain ⟨n7, hn7⟩ : ∃ z : Int, z = dN xs 7 := ⟨_, rfl⟩
  obtain ⟨n8, hn8⟩ : ∃ z : Int, z = dN xs 8 := ⟨_, rfl⟩
  obtain ⟨n9, hn9⟩ : ∃ z : Int, z = dN xs 9 := ⟨_, rfl⟩
  obtain ⟨n10, hn10⟩ : ∃ z : Int, z = dN xs 10 := ⟨_, rfl⟩
  obtain ⟨n11, hn11⟩ : ∃ z : Int, z = dN xs 11 := ⟨_, rfl⟩
  rw [← hn7, ← hn8, ← hn9, ← hn11] at X2
  rw [← hn10] at BB2
  have HN7 := Lib.hid hn7
  have HN8 := Lib.hid hn8
  have HN9 := Lib.hid hn9
  have HN10 := Lib.hid hn10
  have HN11 := Lib.hid hn11
  clear hn7 hn8 hn9 hn10 hn11 ht PP X BB HSn Bn
  have ck := X2.cell 10
  have fk := X2.free 10
  have u0 := BB2.cell 0
  simp only [List.getElem?_toArray, List.getElem?_cons_succ, List.getElem?_cons_zero] at ck u0
  have HS8 := Lib.hid (RS.setBlk (i := 10) (v := .bool (n10 == 1)) hrs X2 (noU8_op _ _ _ _ _ _ _ _ _ _ _ _) (by omega))
  have XN : Whl (w7.setCell ⟨w.heap.size + 1, 10, none⟩ (.bool (n10 == 1))) (w.heap.size + 1) 25 #[.int .i64 n0, .int .i64 n1, .int .i64 n2, .string t3, .string t4, .string t5, .string t6, .int .i64 n7, .int .i64 n8, .int .i64 n9, .bool (n10 == 1), .int .i64 n11] := Whl.set X2 10 (.bool (n10 == 1))
  have RN : Whl (w7.setCell ⟨w.heap.size + 1, 10, none⟩ (.bool (n10 == 1))) w.heap.size 25 #[.int .i64 0, .int .i64 0, .int .i64 0, .string ⟨#[]⟩, .string ⟨#[]⟩, .string ⟨#[]⟩, .string ⟨#[]⟩, .int .i64 0, .int .i64 0, .int .i64 0, .bool false, .int .i64 0] := R.far (by simp)
  have BN : Whl (w7.setCell ⟨w.heap.size + 1, 10, none⟩ (.bool (n10 == 1))) (w.heap.size + 2) 3 #[.int .i64 n10] := BB2.far (by simp)
  have B8 : Below w.heap.size w (w7.setCell ⟨w.heap.size + 1, 10, none⟩ (.bool (n10 == 1))) := B7.setCell (by simp) _
  have hz8 : w7.heap.size = (w7.setCell ⟨w.heap.size + 1, 10, none⟩ (.bool (n10 == 1))).heap.size := by simp [World.setCell]
  clear hrs R B7
  go_wp2_with fail
  generalize (w7.setCell ⟨w.heap.size + 1, 10, none⟩ (.bool (n10 == 1))) = V at *
  have X := XN
  have R := RN
  clear ck fk u0 XN RN X2 BB2
  have u0 := BN.cell 0
  simp only [List.getElem?_toArray, List.getElem?_cons_zero] at u0
  have HBN := Lib.hid BN
  clear BN
  have hVs : w.heap.size + 1 < V.heap.size := X.low
  have hM : dM xs = mB n0 n1 n2 t3 t4 t5 t6 n7 n8 n9 (n10 == 1) n11 := by unfold dM; rw [HN0.out, HN1.out, HN2.out, HT3.out, HT4.out, HT5.out, HT6.out, HN7.out, HN8.out, HN9.out, HN10.out, HN11.out]
  have hW : OpWf n0 n1 n2 t3 t4 t5 t6 n7 n8 n9 (n10 == 1) n11 := by rw [HN0.out, HN1.out, HN2.out, HT3.out, HT4.out, HT5.out, HT6.out, HN7.out, HN8.out, HN9.out, HN10.out, HN11.out]; exact dOpWf hn
  have hbad : dB xs = false → dV xs = .tuple #[.agg #[.int .i64 0, .int .i64 0, .int .i64 0, .string ⟨#[]⟩, .string ⟨#[]⟩, .string ⟨#[]⟩, .string ⟨#[]⟩, .int .i64 0, .int .i64 0, .int .i64 0, .bool false, .int .i64 0], .int .i64 3] := fun h => by unfold dV; rw [h]; rfl
  have hgood : dB xs = true → dV xs = .tuple #[.agg #[.int .i64 n0, .int .i64 n1, .int .i64 n2, .string t3, .string t4, .string t5, .string t6, .int .i64 n7, .int .i64 n8, .int .i64 n9, .bool (n10 == 1), .int .i64 n11], .int .i64 0] := fun h => by unfold dV; rw [h, HN0.out, HN1.out, HN2.out, HT3.out, HT4.out, HT5.out, HT6.out, HN7.out, HN8.out, HN9.out, HN10.out, HN11.out]; rfl
  have h10 : n10 = dN xs 10 := HN10.out
  have HM := Lib.hid hM
  have HW := Lib.hid hW
  have HBAD := Lib.hid hbad
  have HGOOD := Lib.hid hgood
  have H10 := Lib.hid h10
  clear hM hW hbad hgood h10
  clear HN0 HN1 HN2 HT3 HT4 HT5 HT6 HN7 HN8 HN9 HN10 HN11
  refine (octAll _ _ _ HS8.out).mono ?_
  rintro e w5 ⟨rfl, rfl⟩
  cases hall : allOf (dS xs 12)
  · have HVV := Lib.hid (HBAD.out (by unfold dB; rw [hall]; rfl))
    have r0 := R.cell 0
    have r1 := R.cell 1
    have r2 := R.cell 2
    have r3 := R.cell 3
    have r4 := R.cell 4
    have r5 := R.cell 5
    have r6 := R.cell 6
    have r7 := R.cell 7
    have r8 := R.cell 8
    have r9 := R.cell 9
    have r10 := R.cell 10
    have r11 := R.cell 11
    simp only [List.getElem?_toArray, List.getElem?_cons_succ, List.getElem?_cons_zero] at r0 r1 r2 r3 r4 r5 r6 r7 r8 r9 r10 r11
    have t0 := R.free 0
    have t1 := R.free 1
    have t2 := R.free 2
    have t3 := R.free 3
    have t4 := R.free 4
    have t5 := R.free 5
    have t6 := R.free 6
    have t7 := R.free 7
    have t8 := R.free 8
    have t9 := R.free 9
    have t10 := R.free 10
    have t11 := R.free 11
    have HR := Lib.hid R
    have HXW := Lib.hid X
    clear R X
    go_wp2_with fail
    have R := HR.out
    clear r0 t0 r1 t1 r2 t2 r3 t3 r4 t4 r5 t5 r6 t6 r7 t7 r8 t8 r9 t9 r10 t10 r11 t11
    have RF0 : Whl (V.setCell ⟨w.heap.size, 0, none⟩ (.int .i64 0)) w.heap.size 25 #[.int .i64 0, .int .i64 0, .int .i64 0, .string ⟨#[]⟩, .string ⟨#[]⟩, .string ⟨#[]⟩, .string ⟨#[]⟩, .int .i64 0, .int .i64 0, .int .i64 0, .bool false, .int .i64 0] := Whl.set R 0 (.int .i64 0)
    have RF1 : Whl ((V.setCell ⟨w.heap.size, 0, none⟩ (.int .i64 0)).setCell ⟨w.heap.size, 1, none⟩ (.int .i64 0)) w.heap.size 25 #[.int .i64 0, .int .i64 0, .int .i64 0, .string ⟨#[]⟩, .string ⟨#[]⟩, .string ⟨#[]⟩, .string ⟨#[]⟩, .int .i64 0, .int .i64 0, .int .i64 0, .bool false, .int .i64 0] := Whl.set RF0 1 (.int .i64 0)
    have RF2 : Whl (((V.setCell ⟨w.heap.size, 0, none⟩ (.int .i64 0)).setCell ⟨w.heap.size, 1, none⟩ (.int .i64 0)).setCell ⟨w.heap.size, 2, none⟩ (.int .i64 0)) w.heap.size 25 #[.int .i64 0, .int .i64 0, .int .i64 0, .string ⟨#[]⟩, .string ⟨#[]⟩, .string ⟨#[]⟩, .string ⟨#[]⟩, .int .i64 0, .int .i64 0, .int .i64 0, .bool false, .int .i64 0] := Whl.set RF1 2 (.int .i64 0)
    have RF3 : Whl ((((V.setCell ⟨w.heap.size, 0, none⟩ (.int .i64 0)).setCell ⟨w.heap.size, 1, none⟩ (.int .i64 0)).setCell ⟨w.heap.size, 2, none⟩ (.int .i64 0)).setCell ⟨w.heap.size, 3, none⟩ (.string ⟨#[]⟩)) w.heap.size 25 #[.int .i64 0, .int .i64 0, .int .i64 0, .string ⟨#[]⟩, .string ⟨#[]⟩, .string ⟨#[]⟩, .string ⟨#[]⟩, .int .i64 0, .int .i64 0, .int .i64 0, .bool false, .int .i64 0] := Whl.set RF2 3 (.string ⟨#[]⟩)
    have RF4 : Whl (((((V.setCell ⟨w.heap.size, 0, none⟩ (.int .i64 0)).setCell ⟨w.heap.size, 1, none⟩ (.int .i64 0)).setCell ⟨w.heap.size, 2, none⟩ (.int .i64 0)).setCell ⟨w.heap.size, 3, none⟩ (.string ⟨#[]⟩)).setCell ⟨w.heap.size, 4, none⟩ (.string ⟨#[]⟩)) w.heap.size 25 #[.int .i64 0, .int .i64 0, .int .i64 0, .string ⟨#[]⟩, .string ⟨#[]⟩, .string ⟨#[]⟩, .string ⟨#[]⟩, .int .i64 0, .int .i64 0, .int .i64 0, .bool false, .int .i64 0] := Whl.set RF3 4 (.string ⟨#[]⟩)
    have RF5 : Whl ((((((V.setCell ⟨w.heap.size, 0, none⟩ (.int .i64 0)).setCell ⟨w.heap.size, 1, none⟩ (.int .i64 0)).setCell ⟨w.heap.size, 2, none⟩ (.int .i64 0)).setCell ⟨w.heap.size, 3, none⟩ (.string ⟨#[]⟩)).setCell ⟨w.heap.size, 4, none⟩ (.string ⟨#[]⟩)).setCell ⟨w.heap.size, 5, none⟩ (.string ⟨#[]⟩)) w.heap.size 25 #[.int .i64 0, .int .i64 0, .int .i64 0, .string ⟨#[]⟩, .string ⟨#[]⟩, .string ⟨#[]⟩, .string ⟨#[]⟩, .int .i64 0, .int .i64 0, .int .i64 0, .bool false, .int .i64 0] := Whl.set RF4 5 (.string ⟨#[]⟩)
    have RF6 : Whl (((((((V.setCell ⟨w.heap.size, 0, none⟩ (.int .i64 0)).setCell ⟨w.heap.size, 1, none⟩ (.int .i64 0)).setCell ⟨w.heap.size, 2, none⟩ (.int .i64 0)).setCell ⟨w.heap.size, 3, none⟩ (.string ⟨#[]⟩)).setCell ⟨w.heap.size, 4, none⟩ (.string ⟨#[]⟩)).setCell ⟨w.heap.size, 5, none⟩ (.string ⟨#[]⟩)).setCell ⟨w.heap.size, 6, none⟩ (.string ⟨#[]⟩)) w.heap.size 25 #[.int .i64 0, .int .i64 0, .int .i64 0, .string ⟨#[]⟩, .string ⟨#[]⟩, .string ⟨#[]⟩, .string ⟨#[]⟩, .int .i64 0, .int .i64 0, .int .i64 0, .bool false, .int .i64 0] := Whl.set RF5 6 (.string ⟨#[]⟩)
    have RF7 : Whl ((((((((V.setCell ⟨w.heap.size, 0, none⟩ (.int .i64 0)).setCell ⟨w.heap.size, 1, none⟩ (.int .i64 0)).setCell ⟨w.heap.size, 2, none⟩ (.int .i64 0)).setCell ⟨w.heap.size, 3, none⟩ (.string ⟨#[]⟩)).setCell ⟨w.heap.size, 4, none⟩ (.string ⟨#[]⟩)).setCell ⟨w.heap.size, 5, none⟩ (.string ⟨#[]⟩)).setCell ⟨w.heap.size, 6, none⟩ (.string ⟨#[]⟩)).setCell ⟨w.heap.size, 7, none⟩ (.int .i64 0)) w.heap.size 25 #[.int .i64 0, .int .i64 0, .int .i64 0, .string ⟨#[]⟩, .string ⟨#[]⟩, .string ⟨#[]⟩, .string ⟨#[]⟩, .int .i64 0, .int .i64 0, .int .i64 0, .bool false, .int .i64 0] := Whl.set RF6 7 (.int .i64 0)
    have RF8 : Whl (((((((((V.setCell ⟨w.heap.size, 0, none⟩ (.int .i64 0)).setCell ⟨w.heap.size, 1, none⟩ (.int .i64 0)).setCell ⟨w.heap.size, 2, none⟩ (.int .i64 0)).setCell ⟨w.heap.size, 3, none⟩ (.string ⟨#[]⟩)).setCell ⟨w.heap.size, 4, none⟩ (.string ⟨#[]⟩)).setCell ⟨w.heap.size, 5, none⟩ (.string ⟨#[]⟩)).setCell ⟨w.heap.size, 6, none⟩ (.string ⟨#[]⟩)).setCell ⟨w.heap.size, 7, none⟩ (.int .i64 0)).setCell ⟨w.heap.size, 8, none⟩ (.int .i64 0)) w.heap.size 25 #[.int .i64 0, .int .i64 0, .int .i64 0, .string ⟨#[]⟩, .string ⟨#[]⟩, .string ⟨#[]⟩, .string ⟨#[]⟩, .int .i64 0, .int .i64 0, .int .i64 0, .bool false, .int .i64 0] := Whl.set RF7 8 (.int .i64 0)
    have RF9 : Whl ((((((((((V.setCell ⟨w.heap.size, 0, none⟩ (.int .i64 0)).setCell ⟨w.heap.size, 1, none⟩ (.int .i64 0)).setCell ⟨w.heap.size, 2, none⟩ (.int .i64 0)).setCell ⟨w.heap.size, 3, none⟩ (.string ⟨#[]⟩)).setCell ⟨w.heap.size, 4, none⟩ (.string ⟨#[]⟩)).setCell ⟨w.heap.size, 5, none⟩ (.string ⟨#[]⟩)).setCell ⟨w.heap.size, 6, none⟩ (.string ⟨#[]⟩)).setCell ⟨w.heap.size, 7, none⟩ (.int .i64 0)).setCell ⟨w.heap.size, 8, none⟩ (.int .i64 0)).setCell ⟨w.heap.size, 9, none⟩ (.int .i64 0)) w.heap.size 25 #[.int .i64 0, .int .i64 0, .int .i64 0, .string ⟨#[]⟩, .string ⟨#[]⟩, .string ⟨#[]⟩, .string ⟨#[]⟩, .int .i64 0, .int .i64 0, .int .i64 0, .bool false, .int .i64 0] := Whl.set RF8 9 (.int .i64 0)
    have RF10 : Whl (((((((((((V.setCell ⟨w.heap.size, 0, none⟩ (.int .i64 0)).setCell ⟨w.heap.size, 1, none⟩ (.int .i64 0)).setCell ⟨w.heap.size, 2, none⟩ (.int .i64 0)).setCell ⟨w.heap.size, 3, none⟩ (.string ⟨#[]⟩)).setCell ⟨w.heap.size, 4, none⟩ (.string ⟨#[]⟩)).setCell ⟨w.heap.size, 5, none⟩ (.string ⟨#[]⟩)).setCell ⟨w.heap.size, 6, none⟩ (.string ⟨#[]⟩)).setCell ⟨w.heap.size, 7, none⟩ (.int .i64 0)).setCell ⟨w.heap.size, 8, none⟩ (.int .i64 0)).setCell ⟨w.heap.size, 9, none⟩ (.int .i64 0)).setCell ⟨w.heap.size, 10, none⟩ (.bool false)) w.heap.size 25 #[.int .i64 0, .int .i64 0, .int .i64 0, .string ⟨#[]⟩, .string ⟨#[]⟩, .string ⟨#[]⟩, .string ⟨#[]⟩, .int .i64 0, .int .i64 0, .int .i64 0, .bool false, .int .i64 0] := Whl.set RF9 10 (.bool false)
    have RF11 : Whl ((((((((((((V.setCell ⟨w.heap.size, 0, none⟩ (.int .i64 0)).setCell ⟨w.heap.size, 1, none⟩ (.int .i64 0)).setCell ⟨w.heap.size, 2, none⟩ (.int .i64 0)).setCell ⟨w.heap.size, 3, none⟩ (.string ⟨#[]⟩)).setCell ⟨w.heap.size, 4, none⟩ (.string ⟨#[]⟩)).setCell ⟨w.heap.size, 5, none⟩ (.string ⟨#[]⟩)).setCell ⟨w.heap.size, 6, none⟩ (.string ⟨#[]⟩)).setCell ⟨w.heap.size, 7, none⟩ (.int .i64 0)).setCell ⟨w.heap.size, 8, none⟩ (.int .i64 0)).setCell ⟨w.heap.size, 9, none⟩ (.int .i64 0)).setCell ⟨w.heap.size, 10, none⟩ (.bool false)).setCell ⟨w.heap.size, 11, none⟩ (.int .i64 0)) w.heap.size 25 #[.int .i64 0, .int .i64 0, .int .i64 0, .string ⟨#[]⟩, .string ⟨#[]⟩, .string ⟨#[]⟩, .string ⟨#[]⟩, .int .i64 0, .int .i64 0, .int .i64 0, .bool false, .int .i64 0] := Whl.set RF10 11 (.int .i64 0)
    have RF := RF11
    clear RF0 RF1 RF2 RF3 RF4 RF5 RF6 RF7 RF8 RF9 RF10 RF11
    have BF : Below w.heap.size w ((((((((((((V.setCell ⟨w.heap.size, 0, none⟩ (.int .i64 0)).setCell ⟨w.heap.size, 1, none⟩ (.int .i64 0)).setCell ⟨w.heap.size, 2, none⟩ (.int .i64 0)).setCell ⟨w.heap.size, 3, none⟩ (.string ⟨#[]⟩)).setCell ⟨w.heap.size, 4, none⟩ (.string ⟨#[]⟩)).setCell ⟨w.heap.size, 5, none⟩ (.string ⟨#[]⟩)).setCell ⟨w.heap.size, 6, none⟩ (.string ⟨#[]⟩)).setCell ⟨w.heap.size, 7, none⟩ (.int .i64 0)).setCell ⟨w.heap.size, 8, none⟩ (.int .i64 0)).setCell ⟨w.heap.size, 9, none⟩ (.int .i64 0)).setCell ⟨w.heap.size, 10, none⟩ (.bool false)).setCell ⟨w.heap.size, 11, none⟩ (.int .i64 0)) := (((((((((((B8.setCell (Nat.le_refl _) _).setCell (Nat.le_refl _) _).setCell (Nat.le_refl _) _).setCell (Nat.le_refl _) _).setCell (Nat.le_refl _) _).setCell (Nat.le_refl _) _).setCell (Nat.le_refl _) _).setCell (Nat.le_refl _) _).setCell (Nat.le_refl _) _).setCell (Nat.le_refl _) _).setCell (Nat.le_refl _) _).setCell (Nat.le_refl _) _
    generalize ((((((((((((V.setCell ⟨w.heap.size, 0, none⟩ (.int .i64 0)).setCell ⟨w.heap.size, 1, none⟩ (.int .i64 0)).setCell ⟨w.heap.size, 2, none⟩ (.int .i64 0)).setCell ⟨w.heap.size, 3, none⟩ (.string ⟨#[]⟩)).setCell ⟨w.heap.size, 4, none⟩ (.string ⟨#[]⟩)).setCell ⟨w.heap.size, 5, none⟩ (.string ⟨#[]⟩)).setCell ⟨w.heap.size, 6, none⟩ (.string ⟨#[]⟩)).setCell ⟨w.heap.size, 7, none⟩ (.int .i64 0)).setCell ⟨w.heap.size, 8, none⟩ (.int .i64 0)).setCell ⟨w.heap.size, 9, none⟩ (.int .i64 0)).setCell ⟨w.heap.size, 10, none⟩ (.bool false)).setCell ⟨w.heap.size, 11, none⟩ (.int .i64 0)) = Z at *
    have q0 := RF.cell 0
    have q1 := RF.cell 1
    have q2 := RF.cell 2
    have q3 := RF.cell 3
    have q4 := RF.cell 4
    have q5 := RF.cell 5
    have q6 := RF.cell 6
    have q7 := RF.cell 7
    have q8 := RF.cell 8
    have q9 := RF.cell 9
    have q10 := RF.cell 10
    have q11 := RF.cell 11
    simp only [List.getElem?_toArray, List.getElem?_cons_succ, List.getElem?_cons_zero] at q0 q1 q2 q3 q4 q5 q6 q7 q8 q9 q10 q11
    clear R
    refine bodyPost_ret (v := .tuple #[.agg #[.int .i64 0, .int .i64 0, .int .i64 0, .string ⟨#[]⟩, .string ⟨#[]⟩, .string ⟨#[]⟩, .string ⟨#[]⟩, .int .i64 0, .int .i64 0, .int .i64 0, .bool false, .int .i64 0], .int .i64 3]) (by simp [results, Try.results12, go_sem, ↓IntWalk.iteOmega, *]) rfl ⟨by rw [HVV.out], BF⟩
  · by_cases hb1 : 1 < n10
    · have HVV := Lib.hid (HBAD.out (by unfold dB; rw [← H10.out, decide_eq_true hb1]; simp))
      have r0 := R.cell 0
      have r1 := R.cell 1
      have r2 := R.cell 2
      have r3 := R.cell 3
      have r4 := R.cell 4
      have r5 := R.cell 5
      have r6 := R.cell 6
      have r7 := R.cell 7
      have r8 := R.cell 8
      have r9 := R.cell 9
      have r10 := R.cell 10
      have r11 := R.cell 11
      simp only [List.getElem?_toArray, List.getElem?_cons_succ, List.getElem?_cons_zero] at r0 r1 r2 r3 r4 r5 r6 r7 r8 r9 r10 r11
      have t0 := R.free 0
      have t1 := R.free 1
      have t2 := R.free 2
      have t3 := R.free 3
      have t4 := R.free 4
      have t5 := R.free 5
      have t6 := R.free 6
      have t7 := R.free 7
      have t8 := R.free 8
      have t9 := R.free 9
      have t10 := R.free 10
      have t11 := R.free 11
      have HR := Lib.hid R
      have HXW := Lib.hid X
      clear R X
      go_wp2_with fail
      have R := HR.out
      clear r0 t0 r1 t1 r2 t2 r3 t3 r4 t4 r5 t5 r6 t6 r7 t7 r8 t8 r9 t9 r10 t10 r11 t11
      have RF0 : Whl (V.setCell ⟨w.heap.size, 0, none⟩ (.int .i64 0)) w.heap.size 25 #[.int .i64 0, .int .i64 0, .int .i64 0, .string ⟨#[]⟩, .string ⟨#[]⟩, .string ⟨#[]⟩, .string ⟨#[]⟩, .int .i64 0, .int .i64 0, .int .i64 0, .bool false, .int .i64 0] := Whl.set R 0 (.int .i64 0)
      have RF1 : Whl ((V.setCell ⟨w.heap.size, 0, none⟩ (.int .i64 0)).setCell ⟨w.heap.size, 1, none⟩ (.int .i64 0)) w.heap.size 25 #[.int .i64 0, .int .i64 0, .int .i64 0, .string ⟨#[]⟩, .string ⟨#[]⟩, .string ⟨#[]⟩, .string ⟨#[]⟩, .int .i64 0, .int .i64 0, .int .i64 0, .bool false, .int .i64 0] := Whl.set RF0 1 (.int .i64 0)
      have RF2 : Whl (((V.setCell ⟨w.heap.size, 0, none⟩ (.int .i64 0)).setCell ⟨w.heap.size, 1, none⟩ (.int .i64 0)).setCell ⟨w.heap.size, 2, none⟩ (.int .i64 0)) w.heap.size 25 #[.int .i64 0, .int .i64 0, .int .i64 0, .string ⟨#[]⟩, .string ⟨#[]⟩, .string ⟨#[]⟩, .string ⟨#[]⟩, .int .i64 0, .int .i64 0, .int .i64 0, .bool false, .int .i64 0] := Whl.set RF1 2 (.int .i64 0)
      have RF3 : Whl ((((V.setCell ⟨w.heap.size, 0, none⟩ (.int .i64 0)).setCell ⟨w.heap.size, 1, none⟩ (.int .i64 0)).setCell ⟨w.heap.size, 2, none⟩ (.int .i64 0)).setCell ⟨w.heap.size, 3, none⟩ (.string ⟨#[]⟩)) w.heap.size 25 #[.int .i64 0, .int .i64 0, .int .i64 0, .string ⟨#[]⟩, .string ⟨#[]⟩, .string ⟨#[]⟩, .string ⟨#[]⟩, .int .i64 0, .int .i64 0, .int .i64 0, .bool false, .int .i64 0] := Whl.set RF2 3 (.string ⟨#[]⟩)
      have RF4 : Whl (((((V.setCell ⟨w.heap.size, 0, none⟩ (.int .i64 0)).setCell ⟨w.heap.size, 1, none⟩ (.int .i64 0)).setCell ⟨w.heap.size, 2, none⟩ (.int .i64 0)).setCell ⟨w.heap.size, 3, none⟩ (.string ⟨#[]⟩)).setCell ⟨w.heap.size, 4, none⟩ (.string ⟨#[]⟩)) w.heap.size 25 #[.int .i64 0, .int .i64 0, .int .i64 0, .string ⟨#[]⟩, .string ⟨#[]⟩, .string ⟨#[]⟩, .string ⟨#[]⟩, .int .i64 0, .int .i64 0, .int .i64 0, .bool false, .int .i64 0] := Whl.set RF3 4 (.string ⟨#[]⟩)
      have RF5 : Whl ((((((V.setCell ⟨w.heap.size, 0, none⟩ (.int .i64 0)).setCell ⟨w.heap.size, 1, none⟩ (.int .i64 0)).setCell ⟨w.heap.size, 2, none⟩ (.int .i64 0)).setCell ⟨w.heap.size, 3, none⟩ (.string ⟨#[]⟩)).setCell ⟨w.heap.size, 4, none⟩ (.string ⟨#[]⟩)).setCell ⟨w.heap.size, 5, none⟩ (.string ⟨#[]⟩)) w.heap.size 25 #[.int .i64 0, .int .i64 0, .int .i64 0, .string ⟨#[]⟩, .string ⟨#[]⟩, .string ⟨#[]⟩, .string ⟨#[]⟩, .int .i64 0, .int .i64 0, .int .i64 0, .bool false, .int .i64 0] := Whl.set RF4 5 (.string ⟨#[]⟩)
      have RF6 : Whl (((((((V.setCell ⟨w.heap.size, 0, none⟩ (.int .i64 0)).setCell ⟨w.heap.size, 1, none⟩ (.int .i64 0)).setCell ⟨w.heap.size, 2, none⟩ (.int .i64 0)).setCell ⟨w.heap.size, 3, none⟩ (.string ⟨#[]⟩)).setCell ⟨w.heap.size, 4, none⟩ (.string ⟨#[]⟩)).setCell ⟨w.heap.size, 5, none⟩ (.string ⟨#[]⟩)).setCell ⟨w.heap.size, 6, none⟩ (.string ⟨#[]⟩)) w.heap.size 25 #[.int .i64 0, .int .i64 0, .int .i64 0, .string ⟨#[]⟩, .string ⟨#[]⟩, .string ⟨#[]⟩, .string ⟨#[]⟩, .int .i64 0, .int .i64 0, .int .i64 0, .bool false, .int .i64 0] := Whl.set RF5 6 (.string ⟨#[]⟩)
      have RF7 : Whl ((((((((V.setCell ⟨w.heap.size, 0, none⟩ (.int .i64 0)).setCell ⟨w.heap.size, 1, none⟩ (.int .i64 0)).setCell ⟨w.heap.size, 2, none⟩ (.int .i64 0)).setCell ⟨w.heap.size, 3, none⟩ (.string ⟨#[]⟩)).setCell ⟨w.heap.size, 4, none⟩ (.string ⟨#[]⟩)).setCell ⟨w.heap.size, 5, none⟩ (.string ⟨#[]⟩)).setCell ⟨w.heap.size, 6, none⟩ (.string ⟨#[]⟩)).setCell ⟨w.heap.size, 7, none⟩ (.int .i64 0)) w.heap.size 25 #[.int .i64 0, .int .i64 0, .int .i64 0, .string ⟨#[]⟩, .string ⟨#[]⟩, .string ⟨#[]⟩, .string ⟨#[]⟩, .int .i64 0, .int .i64 0, .int .i64 0, .bool false, .int .i64 0] := Whl.set RF6 7 (.int .i64 0)
      have RF8 : Whl (((((((((V.setCell ⟨w.heap.size, 0, none⟩ (.int .i64 0)).setCell ⟨w.heap.size, 1, none⟩ (.int .i64 0)).setCell ⟨w.heap.size, 2, none⟩ (.int .i64 0)).setCell ⟨w.heap.size, 3, none⟩ (.string ⟨#[]⟩)).setCell ⟨w.heap.size, 4, none⟩ (.string ⟨#[]⟩)).setCell ⟨w.heap.size, 5, none⟩ (.string ⟨#[]⟩)).setCell ⟨w.heap.size, 6, none⟩ (.string ⟨#[]⟩)).setCell ⟨w.heap.size, 7, none⟩ (.int .i64 0)).setCell ⟨w.heap.size, 8, none⟩ (.int .i64 0)) w.heap.size 25 #[.int .i64 0, .int .i64 0, .int .i64 0, .string ⟨#[]⟩, .string ⟨#[]⟩, .string ⟨#[]⟩, .string ⟨#[]⟩, .int .i64 0, .int .i64 0, .int .i64 0, .bool false, .int .i64 0] := Whl.set RF7 8 (.int .i64 0)
      have RF9 : Whl ((((((((((V.setCell ⟨w.heap.size, 0, none⟩ (.int .i64 0)).setCell ⟨w.heap.size, 1, none⟩ (.int .i64 0)).setCell ⟨w.heap.size, 2, none⟩ (.int .i64 0)).setCell ⟨w.heap.size, 3, none⟩ (.string ⟨#[]⟩)).setCell ⟨w.heap.size, 4, none⟩ (.string ⟨#[]⟩)).setCell ⟨w.heap.size, 5, none⟩ (.string ⟨#[]⟩)).setCell ⟨w.heap.size, 6, none⟩ (.string ⟨#[]⟩)).setCell ⟨w.heap.size, 7, none⟩ (.int .i64 0)).setCell ⟨w.heap.size, 8, none⟩ (.int .i64 0)).setCell ⟨w.heap.size, 9, none⟩ (.int .i64 0)) w.heap.size 25 #[.int .i64 0, .int .i64 0, .int .i64 0, .string ⟨#[]⟩, .string ⟨#[]⟩, .string ⟨#[]⟩, .string ⟨#[]⟩, .int .i64 0, .int .i64 0, .int .i64 0, .bool false, .int .i64 0] := Whl.set RF8 9 (.int .i64 0)
      have RF10 : Whl (((((((((((V.setCell ⟨w.heap.size, 0, none⟩ (.int .i64 0)).setCell ⟨w.heap.size, 1, none⟩ (.int .i64 0)).setCell ⟨w.heap.size, 2, none⟩ (.int .i64 0)).setCell ⟨w.heap.size, 3, none⟩ (.string ⟨#[]⟩)).setCell ⟨w.heap.size, 4, none⟩ (.string ⟨#[]⟩)).setCell ⟨w.heap.size, 5, none⟩ (.string ⟨#[]⟩)).setCell ⟨w.heap.size, 6, none⟩ (.string ⟨#[]⟩)).setCell ⟨w.heap.size, 7, none⟩ (.int .i64 0)).setCell ⟨w.heap.size, 8, none⟩ (.int .i64 0)).setCell ⟨w.heap.size, 9, none⟩ (.int .i64 0)).setCell ⟨w.heap.size, 10, none⟩ (.bool false)) w.heap.size 25 #[.int .i64 0, .int .i64 0, .int .i64 0, .string ⟨#[]⟩, .string ⟨#[]⟩, .string ⟨#[]⟩, .string ⟨#[]⟩, .int .i64 0, .int .i64 0, .int .i64 0, .bool false, .int .i64 0] := Whl.set RF9 10 (.bool false)
      have RF11 : Whl ((((((((((((V.setCell ⟨w.heap.size, 0, none⟩ (.int .i64 0)).setCell ⟨w.heap.size, 1, none⟩ (.int .i64 0)).setCell ⟨w.heap.size, 2, none⟩ (.int .i64 0)).setCell ⟨w.heap.size, 3, none⟩ (.string ⟨#[]⟩)).setCell ⟨w.heap.size, 4, none⟩ (.string ⟨#[]⟩)).setCell ⟨w.heap.size, 5, none⟩ (.string ⟨#[]⟩)).setCell ⟨w.heap.size, 6, none⟩ (.string ⟨#[]⟩)).setCell ⟨w.heap.size, 7, none⟩ (.int .i64 0)).setCell ⟨w.heap.size, 8, none⟩ (.int .i64 0)).setCell ⟨w.heap.size, 9, none⟩ (.int .i64 0)).setCell ⟨w.heap.size, 10, none⟩ (.bool false)).setCell ⟨w.heap.size, 11, none⟩ (.int .i64 0)) w.heap.size 25 #[.int .i64 0, .int .i64 0, .int .i64 0, .string ⟨#[]⟩, .string ⟨#[]⟩, .string ⟨#[]⟩, .string ⟨#[]⟩, .int .i64 0, .int .i64 0, .int .i64 0, .bool false, .int .i64 0] := Whl.set RF10 11 (.int .i64 0)
      have RF := RF11
      clear RF0 RF1 RF2 RF3 RF4 RF5 RF6 RF7 RF8 RF9 RF10 RF11
      have BF : Below w.heap.size w ((((((((((((V.setCell ⟨w.heap.size, 0, none⟩ (.int .i64 0)).setCell ⟨w.heap.size, 1, none⟩ (.int .i64 0)).setCell ⟨w.heap.size, 2, none⟩ (.int .i64 0)).setCell ⟨w.heap.size, 3, none⟩ (.string ⟨#[]⟩)).setCell ⟨w.heap.size, 4, none⟩ (.string ⟨#[]⟩)).setCell ⟨w.heap.size, 5, none⟩ (.string ⟨#[]⟩)).setCell ⟨w.heap.size, 6, none⟩ (.string ⟨#[]⟩)).setCell ⟨w.heap.size, 7, none⟩ (.int .i64 0)).setCell ⟨w.heap.size, 8, none⟩ (.int .i64 0)).setCell ⟨w.heap.size, 9, none⟩ (.int .i64 0)).setCell ⟨w.heap.size, 10, none⟩ (.bool false)).setCell ⟨w.heap.size, 11, none⟩ (.int .i64 0)) := (((((((((((B8.setCell (Nat.le_refl _) _).setCell (Nat.le_refl _) _).setCell (Nat.le_refl _) _).setCell (Nat.le_refl _) _).setCell (Nat.le_refl _) _).setCell (Nat.le_refl _) _).setCell (Nat.le_refl _) _).setCell (Nat.le_refl _) _).setCell (Nat.le_refl _) _).setCell (Nat.le_refl _) _).setCell (Nat.le_refl _) _).setCell (Nat.le_refl _) _
      generalize ((((((((((((V.setCell ⟨w.heap.size, 0, none⟩ (.int .i64 0)).setCell ⟨w.heap.size, 1, none⟩ (.int .i64 0)).setCell ⟨w.heap.size, 2, none⟩ (.int .i64 0)).setCell ⟨w.heap.size, 3, none⟩ (.string ⟨#[]⟩)).setCell ⟨w.heap.size, 4, none⟩ (.string ⟨#[]⟩)).setCell ⟨w.heap.size, 5, none⟩ (.string ⟨#[]⟩)).setCell ⟨w.heap.size, 6, none⟩ (.string ⟨#[]⟩)).setCell ⟨w.heap.size, 7, none⟩ (.int .i64 0)).setCell ⟨w.heap.size, 8, none⟩ (.int .i64 0)).setCell ⟨w.heap.size, 9, none⟩ (.int .i64 0)).setCell ⟨w.heap.size, 10, none⟩ (.bool false)).setCell ⟨w.heap.size, 11, none⟩ (.int .i64 0)) = Z at *
      have q0 := RF.cell 0
      have q1 := RF.cell 1
      have q2 := RF.cell 2
      have q3 := RF.cell 3
      have q4 := RF.cell 4
      have q5 := RF.cell 5
      have q6 := RF.cell 6
      have q7 := RF.cell 7
      have q8 := RF.cell 8
      have q9 := RF.cell 9
      have q10 := RF.cell 10
      have q11 := RF.cell 11
      simp only [List.getElem?_toArray, List.getElem?_cons_succ, List.getElem?_cons_zero] at q0 q1 q2 q3 q4 q5 q6 q7 q8 q9 q10 q11
      clear R
      refine bodyPost_ret (v := .tuple #[.agg #[.int .i64 0, .int .i64 0, .int .i64 0, .string ⟨#[]⟩, .string ⟨#[]⟩, .string ⟨#[]⟩, .string ⟨#[]⟩, .int .i64 0, .int .i64 0, .int .i64 0, .bool false, .int .i64 0], .int .i64 3]) (by simp [results, Try.results12, go_sem, ↓IntWalk.iteOmega, *]) rfl ⟨by rw [HVV.out], BF⟩
    · have HALL := Lib.hid hall
      have d0 := X.cell 0
      have d1 := X.cell 1
      have d2 := X.cell 2
      have d3 := X.cell 3
      have d4 := X.cell 4
      have d5 := X.cell 5
      have d6 := X.cell 6
      have d7 := X.cell 7
      have d8 := X.cell 8
      have d9 := X.cell 9
      have d10 := X.cell 10
      have d11 := X.cell 11
      simp only [List.getElem?_toArray, List.getElem?_cons_succ, List.getElem?_cons_zero] at d0 d1 d2 d3 d4 d5 d6 d7 d8 d9 d10 d11
      go_wp2_with fail
      clear d0 d1 d2 d3 d4 d5 d6 d7 d8 d9 d10 d11
      refine (codeMay n0 n1 n2 t3 t4 t5 t6 n7 n8 n9 (n10 == 1) n11 HW.out _).mono ?_
      rintro e w6 ⟨rfl, hb6⟩
      have hs6 := hb6.size
      have B9 : Below w.heap.size w w6 := B8.trans (hb6.mono (by omega))
      replace R := R.below hb6 (by omega)
      replace X := X.below hb6 (by omega)
      cases hp : mB n0 n1 n2 t3 t4 t5 t6 n7 n8 n9 (n10 == 1) n11
      · have HVV := Lib.hid (HBAD.out (by unfold dB; rw [HM.out, hp]; simp))
        have r0 := R.cell 0
        have r1 := R.cell 1
        have r2 := R.cell 2
        have r3 := R.cell 3
        have r4 := R.cell 4
        have r5 := R.cell 5
        have r6 := R.cell 6
        have r7 := R.cell 7
        have r8 := R.cell 8
        have r9 := R.cell 9
        have r10 := R.cell 10
        have r11 := R.cell 11
        simp only [List.getElem?_toArray, List.getElem?_cons_succ, List.getElem?_cons_zero] at r0 r1 r2 r3 r4 r5 r6 r7 r8 r9 r10 r11
        have t0 := R.free 0
        have t1 := R.free 1
        have t2 := R.free 2
        have t3 := R.free 3
        have t4 := R.free 4
        have t5 := R.free 5
        have t6 := R.free 6
        have t7 := R.free 7
        have t8 := R.free 8
        have t9 := R.free 9
        have t10 := R.free 10
        have t11 := R.free 11
        have HR := Lib.hid R
        have HXW := Lib.hid X
        clear R X
        go_wp2_with fail
        have R := HR.out
        clear r0 t0 r1 t1 r2 t2 r3 t3 r4 t4 r5 t5 r6 t6 r7 t7 r8 t8 r9 t9 r10 t10 r11 t11
        have RF0 : Whl (w6.setCell ⟨w.heap.size, 0, none⟩ (.int .i64 0)) w.heap.size 25 #[.int .i64 0, .int .i64 0, .int .i64 0, .string ⟨#[]⟩, .string ⟨#[]⟩, .string ⟨#[]⟩, .string ⟨#[]⟩, .int .i64 0, .int .i64 0, .int .i64 0, .bool false, .int .i64 0] := Whl.set R 0 (.int .i64 0)
        have RF1 : Whl ((w6.setCell ⟨w.heap.size, 0, none⟩ (.int .i64 0)).setCell ⟨w.heap.size, 1, none⟩ (.int .i64 0)) w.heap.size 25 #[.int .i64 0, .int .i64 0, .int .i64 0, .string ⟨#[]⟩, .string ⟨#[]⟩, .string ⟨#[]⟩, .string ⟨#[]⟩, .int .i64 0, .int .i64 0, .int .i64 0, .bool false, .int .i64 0] := Whl.set RF0 1 (.int .i64 0)
        have RF2 : Whl (((w6.setCell ⟨w.heap.size, 0, none⟩ (.int .i64 0)).setCell ⟨w.heap.size, 1, none⟩ (.int .i64 0)).setCell ⟨w.heap.size, 2, none⟩ (.int .i64 0)) w.heap.size 25 #[.int .i64 0, .int .i64 0, .int .i64 0, .string ⟨#[]⟩, .string ⟨#[]⟩, .string ⟨#[]⟩, .string ⟨#[]⟩, .int .i64 0, .int .i64 0, .int .i64 0, .bool false, .int .i64 0] := Whl.set RF1 2 (.int .i64 0)
        have RF3 : Whl ((((w6.setCell ⟨w.heap.size, 0, none⟩ (.int .i64 0)).setCell ⟨w.heap.size, 1, none⟩ (.int .i64 0)).setCell ⟨w.heap.size, 2, none⟩ (.int .i64 0)).setCell ⟨w.heap.size, 3, none⟩ (.string ⟨#[]⟩)) w.heap.size 25 #[.int .i64 0, .int .i64 0, .int .i64 0, .string ⟨#[]⟩, .string ⟨#[]⟩, .string ⟨#[]⟩, .string ⟨#[]⟩, .int .i64 0, .int .i64 0, .int .i64 0, .bool false, .int .i64 0] := Whl.set RF2 3 (.string ⟨#[]⟩)
        have RF4 : Whl (((((w6.setCell ⟨w.heap.size, 0, none⟩ (.int .i64 0)).setCell ⟨w.heap.size, 1, none⟩ (.int .i64 0)).setCell ⟨w.heap.size, 2, none⟩ (.int .i64 0)).setCell ⟨w.heap.size, 3, none⟩ (.string ⟨#[]⟩)).setCell ⟨w.heap.size, 4, none⟩ (.string ⟨#[]⟩)) w.heap.size 25 #[.int .i64 0, .int .i64 0, .int .i64 0, .string ⟨#[]⟩, .string ⟨#[]⟩, .string ⟨#[]⟩, .string ⟨#[]⟩, .int .i64 0, .int .i64 0, .int .i64 0, .bool false, .int .i64 0] := Whl.set RF3 4 (.string ⟨#[]⟩)
        have RF5 : Whl ((((((w6.setCell ⟨w.heap.size, 0, none⟩ (.int .i64 0)).setCell ⟨w.heap.size, 1, none⟩ (.int .i64 0)).setCell ⟨w.heap.size, 2, none⟩ (.int .i64 0)).setCell ⟨w.heap.size, 3, none⟩ (.string ⟨#[]⟩)).setCell ⟨w.heap.size, 4, none⟩ (.string ⟨#[]⟩)).setCell ⟨w.heap.size, 5, none⟩ (.string ⟨#[]⟩)) w.heap.size 25 #[.int .i64 0, .int .i64 0, .int .i64 0, .string ⟨#[]⟩, .string ⟨#[]⟩, .string ⟨#[]⟩, .string ⟨#[]⟩, .int .i64 0, .int .i64 0, .int .i64 0, .bool false, .int .i64 0] := Whl.set RF4 5 (.string ⟨#[]⟩)
        have RF6 : Whl (((((((w6.setCell ⟨w.heap.size, 0, none⟩ (.int .i64 0)).setCell ⟨w.heap.size, 1, none⟩ (.int .i64 0)).setCell ⟨w.heap.size, 2, none⟩ (.int .i64 0)).setCell ⟨w.heap.size, 3, none⟩ (.string ⟨#[]⟩)).setCell ⟨w.heap.size, 4, none⟩ (.string ⟨#[]⟩)).setCell ⟨w.heap.size, 5, none⟩ (.string ⟨#[]⟩)).setCell ⟨w.heap.size, 6, none⟩ (.string ⟨#[]⟩)) w.heap.size 25 #[.int .i64 0, .int .i64 0, .int .i64 0, .string ⟨#[]⟩, .string ⟨#[]⟩, .string ⟨#[]⟩, .string ⟨#[]⟩, .int .i64 0, .int .i64 0, .int .i64 0, .bool false, .int .i64 0] := Whl.set RF5 6 (.string ⟨#[]⟩)
        have RF7 : Whl ((((((((w6.setCell ⟨w.heap.size, 0, none⟩ (.int .i64 0)).setCell ⟨w.heap.size, 1, none⟩ (.int .i64 0)).setCell ⟨w.heap.size, 2, none⟩ (.int .i64 0)).setCell ⟨w.heap.size, 3, none⟩ (.string ⟨#[]⟩)).setCell ⟨w.heap.size, 4, none⟩ (.string ⟨#[]⟩)).setCell ⟨w.heap.size, 5, none⟩ (.string ⟨#[]⟩)).setCell ⟨w.heap.size, 6, none⟩ (.string ⟨#[]⟩)).setCell ⟨w.heap.size, 7, none⟩ (.int .i64 0)) w.heap.size 25 #[.int .i64 0, .int .i64 0, .int .i64 0, .string ⟨#[]⟩, .string ⟨#[]⟩, .string ⟨#[]⟩, .string ⟨#[]⟩, .int .i64 0, .int .i64 0, .int .i64 0, .bool false, .int .i64 0] := Whl.set RF6 7 (.int .i64 0)
        have RF8 : Whl (((((((((w6.setCell ⟨w.heap.size, 0, none⟩ (.int .i64 0)).setCell ⟨w.heap.size, 1, none⟩ (.int .i64 0)).setCell ⟨w.heap.size, 2, none⟩ (.int .i64 0)).setCell ⟨w.heap.size, 3, none⟩ (.string ⟨#[]⟩)).setCell ⟨w.heap.size, 4, none⟩ (.string ⟨#[]⟩)).setCell ⟨w.heap.size, 5, none⟩ (.string ⟨#[]⟩)).setCell ⟨w.heap.size, 6, none⟩ (.string ⟨#[]⟩)).setCell ⟨w.heap.size, 7, none⟩ (.int .i64 0)).setCell ⟨w.heap.size, 8, none⟩ (.int .i64 0)) w.heap.size 25 #[.int .i64 0, .int .i64 0, .int .i64 0, .string ⟨#[]⟩, .string ⟨#[]⟩, .string ⟨#[]⟩, .string ⟨#[]⟩, .int .i64 0, .int .i64 0, .int .i64 0, .bool false, .int .i64 0] := Whl.set RF7 8 (.int .i64 0)
        have RF9 : Whl ((((((((((w6.setCell ⟨w.heap.size, 0, none⟩ (.int .i64 0)).setCell ⟨w.heap.size, 1, none⟩ (.int .i64 0)).setCell ⟨w.heap.size, 2, none⟩ (.int .i64 0)).setCell ⟨w.heap.size, 3, none⟩ (.string ⟨#[]⟩)).setCell ⟨w.heap.size, 4, none⟩ (.string ⟨#[]⟩)).setCell ⟨w.heap.size, 5, none⟩ (.string ⟨#[]⟩)).setCell ⟨w.heap.size, 6, none⟩ (.string ⟨#[]⟩)).setCell ⟨w.heap.size, 7, none⟩ (.int .i64 0)).setCell ⟨w.heap.size, 8, none⟩ (.int .i64 0)).setCell ⟨w.heap.size, 9, none⟩ (.int .i64 0)) w.heap.size 25 #[.int .i64 0, .int .i64 0, .int .i64 0, .string ⟨#[]⟩, .string ⟨#[]⟩, .string ⟨#[]⟩, .string ⟨#[]⟩, .int .i64 0, .int .i64 0, .int .i64 0, .bool false, .int .i64 0] := Whl.set RF8 9 (.int .i64 0)
        have RF10 : Whl (((((((((((w6.setCell ⟨w.heap.size, 0, none⟩ (.int .i64 0)).setCell ⟨w.heap.size, 1, none⟩ (.int .i64 0)).setCell ⟨w.heap.size, 2, none⟩ (.int .i64 0)).setCell ⟨w.heap.size, 3, none⟩ (.string ⟨#[]⟩)).setCell ⟨w.heap.size, 4, none⟩ (.string ⟨#[]⟩)).setCell ⟨w.heap.size, 5, none⟩ (.string ⟨#[]⟩)).setCell ⟨w.heap.size, 6, none⟩ (.string ⟨#[]⟩)).setCell ⟨w.heap.size, 7, none⟩ (.int .i64 0)).setCell ⟨w.heap.size, 8, none⟩ (.int .i64 0)).setCell ⟨w.heap.size, 9, none⟩ (.int .i64 0)).setCell ⟨w.heap.size, 10, none⟩ (.bool false)) w.heap.size 25 #[.int .i64 0, .int .i64 0, .int .i64 0, .string ⟨#[]⟩, .string ⟨#[]⟩, .string ⟨#[]⟩, .string ⟨#[]⟩, .int .i64 0, .int .i64 0, .int .i64 0, .bool false, .int .i64 0] := Whl.set RF9 10 (.bool false)
        have RF11 : Whl ((((((((((((w6.setCell ⟨w.heap.size, 0, none⟩ (.int .i64 0)).setCell ⟨w.heap.size, 1, none⟩ (.int .i64 0)).setCell ⟨w.heap.size, 2, none⟩ (.int .i64 0)).setCell ⟨w.heap.size, 3, none⟩ (.string ⟨#[]⟩)).setCell ⟨w.heap.size, 4, none⟩ (.string ⟨#[]⟩)).setCell ⟨w.heap.size, 5, none⟩ (.string ⟨#[]⟩)).setCell ⟨w.heap.size, 6, none⟩ (.string ⟨#[]⟩)).setCell ⟨w.heap.size, 7, none⟩ (.int .i64 0)).setCell ⟨w.heap.size, 8, none⟩ (.int .i64 0)).setCell ⟨w.heap.size, 9, none⟩ (.int .i64 0)).setCell ⟨w.heap.size, 10, none⟩ (.bool false)).setCell ⟨w.heap.size, 11, none⟩ (.int .i64 0)) w.heap.size 25 #[.int .i64 0, .int .i64 0, .int .i64 0, .string ⟨#[]⟩, .string ⟨#[]⟩, .string ⟨#[]⟩, .string ⟨#[]⟩, .int .i64 0, .int .i64 0, .int .i64 0, .bool false, .int .i64 0] := Whl.set RF10 11 (.int .i64 0)
        have RF := RF11
        clear RF0 RF1 RF2 RF3 RF4 RF5 RF6 RF7 RF8 RF9 RF10 RF11
        have BF : Below w.heap.size w ((((((((((((w6.setCell ⟨w.heap.size, 0, none⟩ (.int .i64 0)).setCell ⟨w.heap.size, 1, none⟩ (.int .i64 0)).setCell ⟨w.heap.size, 2, none⟩ (.int .i64 0)).setCell ⟨w.heap.size, 3, none⟩ (.string ⟨#[]⟩)).setCell ⟨w.heap.size, 4, none⟩ (.string ⟨#[]⟩)).setCell ⟨w.heap.size, 5, none⟩ (.string ⟨#[]⟩)).setCell ⟨w.heap.size, 6, none⟩ (.string ⟨#[]⟩)).setCell ⟨w.heap.size, 7, none⟩ (.int .i64 0)).setCell ⟨w.heap.size, 8, none⟩ (.int .i64 0)).setCell ⟨w.heap.size, 9, none⟩ (.int .i64 0)).setCell ⟨w.heap.size, 10, none⟩ (.bool false)).setCell ⟨w.heap.size, 11, none⟩ (.int .i64 0)) := (((((((((((B9.setCell (Nat.le_refl _) _).setCell (Nat.le_refl _) _).setCell (Nat.le_refl _) _).setCell (Nat.le_refl _) _).setCell (Nat.le_refl _) _).setCell (Nat.le_refl _) _).setCell (Nat.le_refl _) _).setCell (Nat.le_refl _) _).setCell (Nat.le_refl _) _).setCell (Nat.le_refl _) _).setCell (Nat.le_refl _) _).setCell (Nat.le_refl _) _
        generalize ((((((((((((w6.setCell ⟨w.heap.size, 0, none⟩ (.int .i64 0)).setCell ⟨w.heap.size, 1, none⟩ (.int .i64 0)).setCell ⟨w.heap.size, 2, none⟩ (.int .i64 0)).setCell ⟨w.heap.size, 3, none⟩ (.string ⟨#[]⟩)).setCell ⟨w.heap.size, 4, none⟩ (.string ⟨#[]⟩)).setCell ⟨w.heap.size, 5, none⟩ (.string ⟨#[]⟩)).setCell ⟨w.heap.size, 6, none⟩ (.string ⟨#[]⟩)).setCell ⟨w.heap.size, 7, none⟩ (.int .i64 0)).setCell ⟨w.heap.size, 8, none⟩ (.int .i64 0)).setCell ⟨w.heap.size, 9, none⟩ (.int .i64 0)).setCell ⟨w.heap.size, 10, none⟩ (.bool false)).setCell ⟨w.heap.size, 11, none⟩ (.int .i64 0)) = Z at *
        have q0 := RF.cell 0
        have q1 := RF.cell 1
        have q2 := RF.cell 2
        have q3 := RF.cell 3
        have q4 := RF.cell 4
        have q5 := RF.cell 5
        have q6 := RF.cell 6
        have q7 := RF.cell 7
        have q8 := RF.cell 8
        have q9 := RF.cell 9
        have q10 := RF.cell 10
        have q11 := RF.cell 11
        simp only [List.getElem?_toArray, List.getElem?_cons_succ, List.getElem?_cons_zero] at q0 q1 q2 q3 q4 q5 q6 q7 q8 q9 q10 q11
        clear R
        refine bodyPost_ret (v := .tuple #[.agg #[.int .i64 0, .int .i64 0, .int .i64 0, .string ⟨#[]⟩, .string ⟨#[]⟩, .string ⟨#[]⟩, .string ⟨#[]⟩, .int .i64 0, .int .i64 0, .int .i64 0, .bool false, .int .i64 0], .int .i64 3]) (by simp [results, Try.results12, go_sem, ↓IntWalk.iteOmega, *]) rfl ⟨by rw [HVV.out], BF⟩
      · have HVV := Lib.hid (HGOOD.out (by unfold dB; rw [HM.out, hp, HALL.out, ← H10.out]; have hd : decide (1 < n10) = false := decide_eq_false (by omega); rw [hd]; rfl))
        have d0 := X.cell 0
        have d1 := X.cell 1
        have d2 := X.cell 2
        have d3 := X.cell 3
        have d4 := X.cell 4
        have d5 := X.cell 5
        have d6 := X.cell 6
        have d7 := X.cell 7
        have d8 := X.cell 8
        have d9 := X.cell 9
        have d10 := X.cell 10
        have d11 := X.cell 11
        simp only [List.getElem?_toArray, List.getElem?_cons_succ, List.getElem?_cons_zero] at d0 d1 d2 d3 d4 d5 d6 d7 d8 d9 d10 d11
        have r0 := R.cell 0
        have r1 := R.cell 1
        have r2 := R.cell 2
        have r3 := R.cell 3
        have r4 := R.cell 4
        have r5 := R.cell 5
        have r6 := R.cell 6
        have r7 := R.cell 7
        have r8 := R.cell 8
        have r9 := R.cell 9
        have r10 := R.cell 10
        have r11 := R.cell 11
        simp only [List.getElem?_toArray, List.getElem?_cons_succ, List.getElem?_cons_zero] at r0 r1 r2 r3 r4 r5 r6 r7 r8 r9 r10 r11
        have t0 := R.free 0
        have t1 := R.free 1
        have t2 := R.free 2
        have t3 := R.free 3
        have t4 := R.free 4
        have t5 := R.free 5
        have t6 := R.free 6
        have t7 := R.free 7
        have t8 := R.free 8
        have t9 := R.free 9
        have t10 := R.free 10
        have t11 := R.free 11
        have HR := Lib.hid R
        have HXW := Lib.hid X
        clear R X
        go_wp2_with fail
        have R := HR.out
        clear r0 t0 r1 t1 r2 t2 r3 t3 r4 t4 r5 t5 r6 t6 r7 t7 r8 t8 r9 t9 r10 t10 r11 t11
        have RF0 : Whl (w6.setCell ⟨w.heap.size, 0, none⟩ (.int .i64 n0)) w.heap.size 25 #[.int .i64 n0, .int .i64 0, .int .i64 0, .string ⟨#[]⟩, .string ⟨#[]⟩, .string ⟨#[]⟩, .string ⟨#[]⟩, .int .i64 0, .int .i64 0, .int .i64 0, .bool false, .int .i64 0] := Whl.set R 0 (.int .i64 n0)
        have RF1 : Whl ((w6.setCell ⟨w.heap.size, 0, none⟩ (.int .i64 n0)).setCell ⟨w.heap.size, 1, none⟩ (.int .i64 n1)) w.heap.size 25 #[.int .i64 n0, .int .i64 n1, .int .i64 0, .string ⟨#[]⟩, .string ⟨#[]⟩, .string ⟨#[]⟩, .string ⟨#[]⟩, .int .i64 0, .int .i64 0, .int .i64 0, .bool false, .int .i64 0] := Whl.set RF0 1 (.int .i64 n1)
        have RF2 : Whl (((w6.setCell ⟨w.heap.size, 0, none⟩ (.int .i64 n0)).setCell ⟨w.heap.size, 1, none⟩ (.int .i64 n1)).setCell ⟨w.heap.size, 2, none⟩ (.int .i64 n2)) w.heap.size 25 #[.int .i64 n0, .int .i64 n1, .int .i64 n2, .string ⟨#[]⟩, .string ⟨#[]⟩, .string ⟨#[]⟩, .string ⟨#[]⟩, .int .i64 0, .int .i64 0, .int .i64 0, .bool false, .int .i64 0] := Whl.set RF1 2 (.int .i64 n2)
        have RF3 : Whl ((((w6.setCell ⟨w.heap.size, 0, none⟩ (.int .i64 n0)).setCell ⟨w.heap.size, 1, none⟩ (.int .i64 n1)).setCell ⟨w.heap.size, 2, none⟩ (.int .i64 n2)).setCell ⟨w.heap.size, 3, none⟩ (.string t3)) w.heap.size 25 #[.int .i64 n0, .int .i64 n1, .int .i64 n2, .string t3, .string ⟨#[]⟩, .string ⟨#[]⟩, .string ⟨#[]⟩, .int .i64 0, .int .i64 0, .int .i64 0, .bool false, .int .i64 0] := Whl.set RF2 3 (.string t3)
        have RF4 : Whl (((((w6.setCell ⟨w.heap.size, 0, none⟩ (.int .i64 n0)).setCell ⟨w.heap.size, 1, none⟩ (.int .i64 n1)).setCell ⟨w.heap.size, 2, none⟩ (.int .i64 n2)).setCell ⟨w.heap.size, 3, none⟩ (.string t3)).setCell ⟨w.heap.size, 4, none⟩ (.string t4)) w.heap.size 25 #[.int .i64 n0, .int .i64 n1, .int .i64 n2, .string t3, .string t4, .string ⟨#[]⟩, .string ⟨#[]⟩, .int .i64 0, .int .i64 0, .int .i64 0, .bool false, .int .i64 0] := Whl.set RF3 4 (.string t4)
        have RF5 : Whl ((((((w6.setCell ⟨w.heap.size, 0, none⟩ (.int .i64 n0)).setCell ⟨w.heap.size, 1, none⟩ (.int .i64 n1)).setCell ⟨w.heap.size, 2, none⟩ (.int .i64 n2)).setCell ⟨w.heap.size, 3, none⟩ (.string t3)).setCell ⟨w.heap.size, 4, none⟩ (.string t4)).setCell ⟨w.heap.size, 5, none⟩ (.string t5)) w.heap.size 25 #[.int .i64 n0, .int .i64 n1, .int .i64 n2, .string t3, .string t4, .string t5, .string ⟨#[]⟩, .int .i64 0, .int .i64 0, .int .i64 0, .bool false, .int .i64 0] := Whl.set RF4 5 (.string t5)
        have RF6 : Whl (((((((w6.setCell ⟨w.heap.size, 0, none⟩ (.int .i64 n0)).setCell ⟨w.heap.size, 1, none⟩ (.int .i64 n1)).setCell ⟨w.heap.size, 2, none⟩ (.int .i64 n2)).setCell ⟨w.heap.size, 3, none⟩ (.string t3)).setCell ⟨w.heap.size, 4, none⟩ (.string t4)).setCell ⟨w.heap.size, 5, none⟩ (.string t5)).setCell ⟨w.heap.size, 6, none⟩ (.string t6)) w.heap.size 25 #[.int .i64 n0, .int .i64 n1, .int .i64 n2, .string t3, .string t4, .string t5, .string t6, .int .i64 0, .int .i64 0, .int .i64 0, .bool false, .int .i64 0] := Whl.set RF5 6 (.string t6)
        have RF7 : Whl ((((((((w6.setCell ⟨w.heap.size, 0, none⟩ (.int .i64 n0)).setCell ⟨w.heap.size, 1, none⟩ (.int .i64 n1)).setCell ⟨w.heap.size, 2, none⟩ (.int .i64 n2)).setCell ⟨w.heap.size, 3, none⟩ (.string t3)).setCell ⟨w.heap.size, 4, none⟩ (.string t4)).setCell ⟨w.heap.size, 5, none⟩ (.string t5)).setCell ⟨w.heap.size, 6, none⟩ (.string t6)).setCell ⟨w.heap.size, 7, none⟩ (.int .i64 n7)) w.heap.size 25 #[.int .i64 n0, .int .i64 n1, .int .i64 n2, .string t3, .string t4, .string t5, .string t6, .int .i64 n7, .int .i64 0, .int .i64 0, .bool false, .int .i64 0] := Whl.set RF6 7 (.int .i64 n7)
        have RF8 : Whl (((((((((w6.setCell ⟨w.heap.size, 0, none⟩ (.int .i64 n0)).setCell ⟨w.heap.size, 1, none⟩ (.int .i64 n1)).setCell ⟨w.heap.size, 2, none⟩ (.int .i64 n2)).setCell ⟨w.heap.size, 3, none⟩ (.string t3)).setCell ⟨w.heap.size, 4, none⟩ (.string t4)).setCell ⟨w.heap.size, 5, none⟩ (.string t5)).setCell ⟨w.heap.size, 6, none⟩ (.string t6)).setCell ⟨w.heap.size, 7, none⟩ (.int .i64 n7)).setCell ⟨w.heap.size, 8, none⟩ (.int .i64 n8)) w.heap.size 25 #[.int .i64 n0, .int .i64 n1, .int .i64 n2, .string t3, .string t4, .string t5, .string t6, .int .i64 n7, .int .i64 n8, .int .i64 0, .bool false, .int .i64 0] := Whl.set RF7 8 (.int .i64 n8)
        have RF9 : Whl ((((((((((w6.setCell ⟨w.heap.size, 0, none⟩ (.int .i64 n0)).setCell ⟨w.heap.size, 1, none⟩ (.int .i64 n1)).setCell ⟨w.heap.size, 2, none⟩ (.int .i64 n2)).setCell ⟨w.heap.size, 3, none⟩ (.string t3)).setCell ⟨w.heap.size, 4, none⟩ (.string t4)).setCell ⟨w.heap.size, 5, none⟩ (.string t5)).setCell ⟨w.heap.size, 6, none⟩ (.string t6)).setCell ⟨w.heap.size, 7, none⟩ (.int .i64 n7)).setCell ⟨w.heap.size, 8, none⟩ (.int .i64 n8)).setCell ⟨w.heap.size, 9, none⟩ (.int .i64 n9)) w.heap.size 25 #[.int .i64 n0, .int .i64 n1, .int .i64 n2, .string t3, .string t4, .string t5, .string t6, .int .i64 n7, .int .i64 n8, .int .i64 n9, .bool false, .int .i64 0] := Whl.set RF8 9 (.int .i64 n9)
        have RF10 : Whl (((((((((((w6.setCell ⟨w.heap.size, 0, none⟩ (.int .i64 n0)).setCell ⟨w.heap.size, 1, none⟩ (.int .i64 n1)).setCell ⟨w.heap.size, 2, none⟩ (.int .i64 n2)).setCell ⟨w.heap.size, 3, none⟩ (.string t3)).setCell ⟨w.heap.size, 4, none⟩ (.string t4)).setCell ⟨w.heap.size, 5, none⟩ (.string t5)).setCell ⟨w.heap.size, 6, none⟩ (.string t6)).setCell ⟨w.heap.size, 7, none⟩ (.int .i64 n7)).setCell ⟨w.heap.size, 8, none⟩ (.int .i64 n8)).setCell ⟨w.heap.size, 9, none⟩ (.int .i64 n9)).setCell ⟨w.heap.size, 10, none⟩ (.bool (n10 == 1))) w.heap.size 25 #[.int .i64 n0, .int .i64 n1, .int .i64 n2, .string t3, .string t4, .string t5, .string t6, .int .i64 n7, .int .i64 n8, .int .i64 n9, .bool (n10 == 1), .int .i64 0] := Whl.set RF9 10 (.bool (n10 == 1))
        have RF11 : Whl ((((((((((((w6.setCell ⟨w.heap.size, 0, none⟩ (.int .i64 n0)).setCell ⟨w.heap.size, 1, none⟩ (.int .i64 n1)).setCell ⟨w.heap.size, 2, none⟩ (.int .i64 n2)).setCell ⟨w.heap.size, 3, none⟩ (.string t3)).setCell ⟨w.heap.size, 4, none⟩ (.string t4)).setCell ⟨w.heap.size, 5, none⟩ (.string t5)).setCell ⟨w.heap.size, 6, none⟩ (.string t6)).setCell ⟨w.heap.size, 7, none⟩ (.int .i64 n7)).setCell ⟨w.heap.size, 8, none⟩ (.int .i64 n8)).setCell ⟨w.heap.size, 9, none⟩ (.int .i64 n9)).setCell ⟨w.heap.size, 10, none⟩ (.bool (n10 == 1))).setCell ⟨w.heap.size, 11, none⟩ (.int .i64 n11)) w.heap.size 25 #[.int .i64 n0, .int .i64 n1, .int .i64 n2, .string t3, .string t4, .string t5, .string t6, .int .i64 n7, .int .i64 n8, .int .i64 n9, .bool (n10 == 1), .int .i64 n11] := Whl.set RF10 11 (.int .i64 n11)
        have RF := RF11
        clear RF0 RF1 RF2 RF3 RF4 RF5 RF6 RF7 RF8 RF9 RF10 RF11
        have BF : Below w.heap.size w ((((((((((((w6.setCell ⟨w.heap.size, 0, none⟩ (.int .i64 n0)).setCell ⟨w.heap.size, 1, none⟩ (.int .i64 n1)).setCell ⟨w.heap.size, 2, none⟩ (.int .i64 n2)).setCell ⟨w.heap.size, 3, none⟩ (.string t3)).setCell ⟨w.heap.size, 4, none⟩ (.string t4)).setCell ⟨w.heap.size, 5, none⟩ (.string t5)).setCell ⟨w.heap.size, 6, none⟩ (.string t6)).setCell ⟨w.heap.size, 7, none⟩ (.int .i64 n7)).setCell ⟨w.heap.size, 8, none⟩ (.int .i64 n8)).setCell ⟨w.heap.size, 9, none⟩ (.int .i64 n9)).setCell ⟨w.heap.size, 10, none⟩ (.bool (n10 == 1))).setCell ⟨w.heap.size, 11, none⟩ (.int .i64 n11)) := (((((((((((B9.setCell (Nat.le_refl _) _).setCell (Nat.le_refl _) _).setCell (Nat.le_refl _) _).setCell (Nat.le_refl _) _).setCell (Nat.le_refl _) _).setCell (Nat.le_refl _) _).setCell (Nat.le_refl _) _).setCell (Nat.le_refl _) _).setCell (Nat.le_refl _) _).setCell (Nat.le_refl _) _).setCell (Nat.le_refl _) _).setCell (Nat.le_refl _) _
        generalize ((((((((((((w6.setCell ⟨w.heap.size, 0, none⟩ (.int .i64 n0)).setCell ⟨w.heap.size, 1, none⟩ (.int .i64 n1)).setCell ⟨w.heap.size, 2, none⟩ (.int .i64 n2)).setCell ⟨w.heap.size, 3, none⟩ (.string t3)).setCell ⟨w.heap.size, 4, none⟩ (.string t4)).setCell ⟨w.heap.size, 5, none⟩ (.string t5)).setCell ⟨w.heap.size, 6, none⟩ (.string t6)).setCell ⟨w.heap.size, 7, none⟩ (.int .i64 n7)).setCell ⟨w.heap.size, 8, none⟩ (.int .i64 n8)).setCell ⟨w.heap.size, 9, none⟩ (.int .i64 n9)).setCell ⟨w.heap.size, 10, none⟩ (.bool (n10 == 1))).setCell ⟨w.heap.size, 11, none⟩ (.int .i64 n11)) = Z at *
        have q0 := RF.cell 0
        have q1 := RF.cell 1
        have q2 := RF.cell 2
        have q3 := RF.cell 3
        have q4 := RF.cell 4
        have q5 := RF.cell 5
        have q6 := RF.cell 6
        have q7 := RF.cell 7
        have q8 := RF.cell 8
        have q9 := RF.cell 9
        have q10 := RF.cell 10
        have q11 := RF.cell 11
        simp only [List.getElem?_toArray, List.getElem?_cons_succ, List.getElem?_cons_zero] at q0 q1 q2 q3 q4 q5 q6 q7 q8 q9 q10 q11
        clear R
        refine bodyPost_ret (v := .tuple #[.agg #[.int .i64 n0, .int .i64 n1, .int .i64 n2, .string t3, .string t4, .string t5, .string t6, .int .i64 n7, .int .i64 n8, .int .i64 n9, .bool (n10 == 1), .int .i64 n11], .int .i64 0]) (by simp [results, Try.results12, go_sem, ↓IntWalk.iteOmega, *]) rfl ⟨by rw [HVV.out], BF⟩
end Go.Proofs.Ytblknjclkecglaa
