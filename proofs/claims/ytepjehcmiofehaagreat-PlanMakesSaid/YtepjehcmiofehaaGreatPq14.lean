/- The code's takeZone; what a map is out of bytes. -/
import Derived.Test.YtepjehcmiofehaaGreatPq13
namespace Go.Proofs.YtepjehcmiofehaaGreat
open Go.RowKit
set_option linter.unusedVariables false
set_option linter.unusedSimpArgs false
theorem noU8_zn (a : Int) (s t : ByteArray) (b c d e : Int) (u : ByteArray) (f : Int) : noU8 #[.int .i64 a, .string s, .string t, .int .i64 b, .int .i64 c, .int .i64 d, .int .i64 e, .string u, .int .i64 f] := by
  intro i x h
  match i with
  | 0 => simp at h
  | 1 => simp at h
  | 2 => simp at h
  | 3 => simp at h
  | 4 => simp at h
  | 5 => simp at h
  | 6 => simp at h
  | 7 => simp at h
  | 8 => simp at h
  | i + 9 => simp at h
theorem Tch.tou {b G : Nat} {w x x' : World} (h : Tch b w x) (ht : Touch (fun k => k = b ∨ k = G) x x') (hG : w.heap.size ≤ G) : Tch b w x' :=
  ⟨ht.os.trans h.os, ht.tape.trans h.tape, ht.output.trans h.output, Nat.le_trans h.size ht.size, fun k hk hn => (ht.block k (Nat.lt_of_lt_of_le hk h.size) (by rintro (e | e); exact hn e; omega)).trans (h.block k hk hn)⟩
theorem Tch.alloc' {b : Nat} {w x : World} (h : Tch b w x) (ob : Obj) : Tch b w (x.alloc ob) := h.trans (Tch.of_fresh b ((Below.refl _ _).alloc (Nat.le_refl _) _))
/-- zones, one behind the other -/
def zS : Nat → Option (List Nat) → Option (List Nat)
  | 0, s => s
  | k + 1, s => znE (zS k s)
def zL : Nat → Option (List Nat) → List Zn
  | 0, _ => []
  | k + 1, s => zL k s ++ [znD (zS k s)]
theorem zL_len : ∀ (k : Nat) (s : Option (List Nat)), (zL k s).length = k
  | 0, _ => rfl
  | k + 1, s => by rw [zL, List.length_append, zL_len k s]; rfl
def mS (s : Option (List Nat)) : Option (List Nat) := (nx (nx (nx s).2).2).2
def mN (s : Option (List Nat)) : Nat := (nx (nx (nx s).2).2).1
def mD (s : Option (List Nat)) : Mp := ⟨((nx s).1 : Int), ((nx (nx s).2).1 : Int), zL (mN s) (mS s)⟩
noncomputable def mayB (m : Mp) : Bool := @decide (MayP m) (Classical.propDecidable _)
theorem mayB_iff (m : Mp) : mayB m = true ↔ MayP m := by
  unfold mayB
  exact @decide_eq_true_iff _ (Classical.propDecidable _)
/-- are the bytes those of a map that may be? -/
noncomputable def mOk (s : Option (List Nat)) : Bool := allOf (zS (mN s) (mS s)) && mayB (mD s)
theorem mOk_big {s : Option (List Nat)} (h : 16 < mN s) : mOk s = false := by
  have : mayB (mD s) = false := by
    cases e : mayB (mD s) with
    | false => rfl
    | true =>
      have h1 := ((mayB_iff _).1 e).len
      have h2 : (mD s).zs.length = mN s := zL_len _ _
      omega
  unfold mOk
  rw [this, Bool.and_false]
set_option maxHeartbeats 8000000 in
set_option maxRecDepth 10000 in
theorem drTakeZone (b : Nat) (s : Option (List Nat)) (w : World) (hr : RS w b s) :
    Calls Tryz.prog 48 #[.pointer (some ⟨b, 0, none⟩)] w fun e w' => e = .returned (znA (znD s)) ∧ RS w' b (znE s) ∧ Tch b w w' := by
  have hbl := hr.low
  obtain ⟨rv, hrv⟩ : ∃ v, v = znA (znD s) := ⟨_, rfl⟩
  rw [← hrv]
  have HRV := Lib.hid hrv
  clear hrv
  have U : Tch b w ((w.alloc (.cells #[.int .i64 0, .string ⟨#[]⟩, .string ⟨#[]⟩, .int .i64 0, .int .i64 0, .int .i64 0, .int .i64 0, .string ⟨#[]⟩, .int .i64 0] 56)).alloc (.cells #[.int .i64 0, .string ⟨#[]⟩, .string ⟨#[]⟩, .int .i64 0, .int .i64 0, .int .i64 0, .int .i64 0, .string ⟨#[]⟩, .int .i64 0] 56)) := ((Tch.refl b w).alloc' _).alloc' _
  have X : Whl ((w.alloc (.cells #[.int .i64 0, .string ⟨#[]⟩, .string ⟨#[]⟩, .int .i64 0, .int .i64 0, .int .i64 0, .int .i64 0, .string ⟨#[]⟩, .int .i64 0] 56)).alloc (.cells #[.int .i64 0, .string ⟨#[]⟩, .string ⟨#[]⟩, .int .i64 0, .int .i64 0, .int .i64 0, .int .i64 0, .string ⟨#[]⟩, .int .i64 0] 56)) (w.heap.size + 1) 56 #[.int .i64 0, .string ⟨#[]⟩, .string ⟨#[]⟩, .int .i64 0, .int .i64 0, .int .i64 0, .int .i64 0, .string ⟨#[]⟩, .int .i64 0] := Whl.new (by simp)
  have R : Whl ((w.alloc (.cells #[.int .i64 0, .string ⟨#[]⟩, .string ⟨#[]⟩, .int .i64 0, .int .i64 0, .int .i64 0, .int .i64 0, .string ⟨#[]⟩, .int .i64 0] 56)).alloc (.cells #[.int .i64 0, .string ⟨#[]⟩, .string ⟨#[]⟩, .int .i64 0, .int .i64 0, .int .i64 0, .int .i64 0, .string ⟨#[]⟩, .int .i64 0] 56)) w.heap.size 56 #[.int .i64 0, .string ⟨#[]⟩, .string ⟨#[]⟩, .int .i64 0, .int .i64 0, .int .i64 0, .int .i64 0, .string ⟨#[]⟩, .int .i64 0] := (Whl.new rfl).alloc _
  have HS0 := Lib.hid ((hr.alloc (.cells #[.int .i64 0, .string ⟨#[]⟩, .string ⟨#[]⟩, .int .i64 0, .int .i64 0, .int .i64 0, .int .i64 0, .string ⟨#[]⟩, .int .i64 0] 56)).alloc (.cells #[.int .i64 0, .string ⟨#[]⟩, .string ⟨#[]⟩, .int .i64 0, .int .i64 0, .int .i64 0, .int .i64 0, .string ⟨#[]⟩, .int .i64 0] 56))
  have z0 : ((w.alloc (.cells #[.int .i64 0, .string ⟨#[]⟩, .string ⟨#[]⟩, .int .i64 0, .int .i64 0, .int .i64 0, .int .i64 0, .string ⟨#[]⟩, .int .i64 0] 56)).alloc (.cells #[.int .i64 0, .string ⟨#[]⟩, .string ⟨#[]⟩, .int .i64 0, .int .i64 0, .int .i64 0, .int .i64 0, .string ⟨#[]⟩, .int .i64 0] 56)).heap.size = w.heap.size + 2 := by simp
  clear hr
  go_enter Tryz.func48, Tryz.ntmps48
  go_wp2_with fail
  generalize ((w.alloc (.cells #[.int .i64 0, .string ⟨#[]⟩, .string ⟨#[]⟩, .int .i64 0, .int .i64 0, .int .i64 0, .int .i64 0, .string ⟨#[]⟩, .int .i64 0] 56)).alloc (.cells #[.int .i64 0, .string ⟨#[]⟩, .string ⟨#[]⟩, .int .i64 0, .int .i64 0, .int .i64 0, .int .i64 0, .string ⟨#[]⟩, .int .i64 0] 56)) = x0 at *
  have PP : Whl (x0.alloc (.cells #[.pointer (some ⟨w.heap.size + 1, 0, none⟩)] 99)) (w.heap.size + 1 + 1) 99 #[.pointer (some ⟨w.heap.size + 1, 0, none⟩)] := Whl.new (by omega)
  replace X := X.alloc (.cells #[.pointer (some ⟨w.heap.size + 1, 0, none⟩)] 99)
  replace R := R.alloc (.cells #[.pointer (some ⟨w.heap.size + 1, 0, none⟩)] 99)
  replace U := U.alloc' (.cells #[.pointer (some ⟨w.heap.size + 1, 0, none⟩)] 99)
  have HSn := Lib.hid (RS.alloc HS0.out (.cells #[.pointer (some ⟨w.heap.size + 1, 0, none⟩)] 99))
  have za1 : x0.heap.size < (x0.alloc (.cells #[.pointer (some ⟨w.heap.size + 1, 0, none⟩)] 99)).heap.size := by simp
  clear HS0
  generalize (x0.alloc (.cells #[.pointer (some ⟨w.heap.size + 1, 0, none⟩)] 99)) = a1 at *
  refine (octNums1 b (w.heap.size + 1 + 1) (w.heap.size + 1) 0 _ _ _ s a1 HSn.out PP X (noU8_zn _ _ _ _ _ _ _ _ _) (by simp) (by omega) (by omega) (by omega)).mono ?_
  rintro e x1 ⟨rfl, hrs, X2, ht⟩
  have s1 := ht.size
  replace R := R.tou ht (by omega)
  replace U := U.tou ht (by omega)
  obtain ⟨n0, hn0⟩ : ∃ z : Int, z = ((nx s).1 : Int) := ⟨_, rfl⟩
  have HN0 := Lib.hid hn0
  replace X : Whl x1 (w.heap.size + 1) 56 #[.int .i64 n0, .string ⟨#[]⟩, .string ⟨#[]⟩, .int .i64 0, .int .i64 0, .int .i64 0, .int .i64 0, .string ⟨#[]⟩, .int .i64 0] := by
    rw [hn0]
    exact X2
  have HS1 : Hid (RS x1 b (nx s).2) := Lib.hid hrs
  clear X2 hrs ht PP HSn hn0
  go_wp2_with fail
  refine (octNbT b (nx s).2 _ HS1.out).mono ?_
  rintro e y1 ⟨v1, rfl, hown, hrs, ht⟩
  have s1b := ht.size
  replace X := X.tch ht (by omega)
  replace R := R.tch ht (by omega)
  replace U := U.trans ht
  have cv := conv_own hown
  obtain ⟨t1, ht1⟩ : ∃ z : ByteArray, z = strU (nb (nx s).2).1 := ⟨_, rfl⟩
  rw [← ht1] at cv
  have HN1 := Lib.hid ht1
  clear ht1 ht hown HS1
  have ck := X.cell 1
  have fk := X.free 1
  simp only [List.getElem?_toArray, List.getElem?_cons_succ, List.getElem?_cons_zero] at ck
  have HS2 : Hid (RS (y1.setCell ⟨w.heap.size + 1, 1, none⟩ (.string t1)) b (nb (nx s).2).2) := Lib.hid (RS.setBlk (i := 1) (v := .string t1) hrs X (noU8_zn _ _ _ _ _ _ _ _ _) (by omega))
  have XN : Whl (y1.setCell ⟨w.heap.size + 1, 1, none⟩ (.string t1)) (w.heap.size + 1) 56 #[.int .i64 n0, .string t1, .string ⟨#[]⟩, .int .i64 0, .int .i64 0, .int .i64 0, .int .i64 0, .string ⟨#[]⟩, .int .i64 0] := Whl.set X 1 (.string t1)
  have RN : Whl (y1.setCell ⟨w.heap.size + 1, 1, none⟩ (.string t1)) w.heap.size 56 #[.int .i64 0, .string ⟨#[]⟩, .string ⟨#[]⟩, .int .i64 0, .int .i64 0, .int .i64 0, .int .i64 0, .string ⟨#[]⟩, .int .i64 0] := R.far (by simp)
  have UN : Tch b w (y1.setCell ⟨w.heap.size + 1, 1, none⟩ (.string t1)) := tchSet U (by omega) _ _
  have HZ : Hid (y1.heap.size = (y1.setCell ⟨w.heap.size + 1, 1, none⟩ (.string t1)).heap.size) := Lib.hid (by simp [World.setCell])
  clear hrs X R U
  go_wp2_with fail
  generalize (y1.setCell ⟨w.heap.size + 1, 1, none⟩ (.string t1)) = x2 at *
  have X := XN
  have R := RN
  have U := UN
  have z1 := HZ.out
  clear ck fk cv XN RN UN HZ
  refine (octNbT b (nb (nx s).2).2 _ HS2.out).mono ?_
  rintro e y2 ⟨v2, rfl, hown, hrs, ht⟩
  have s2b := ht.size
  replace X := X.tch ht (by omega)
  replace R := R.tch ht (by omega)
  replace U := U.trans ht
  have cv := conv_own hown
  obtain ⟨t2, ht2⟩ : ∃ z : ByteArray, z = strU (nb (nb (nx s).2).2).1 := ⟨_, rfl⟩
  rw [← ht2] at cv
  have HN2 := Lib.hid ht2
  clear ht2 ht hown HS2
  have ck := X.cell 2
  have fk := X.free 2
  simp only [List.getElem?_toArray, List.getElem?_cons_succ, List.getElem?_cons_zero] at ck
  have HS3 : Hid (RS (y2.setCell ⟨w.heap.size + 1, 2, none⟩ (.string t2)) b (zn1 s)) := Lib.hid (RS.setBlk (i := 2) (v := .string t2) hrs X (noU8_zn _ _ _ _ _ _ _ _ _) (by omega))
  have XN : Whl (y2.setCell ⟨w.heap.size + 1, 2, none⟩ (.string t2)) (w.heap.size + 1) 56 #[.int .i64 n0, .string t1, .string t2, .int .i64 0, .int .i64 0, .int .i64 0, .int .i64 0, .string ⟨#[]⟩, .int .i64 0] := Whl.set X 2 (.string t2)
  have RN : Whl (y2.setCell ⟨w.heap.size + 1, 2, none⟩ (.string t2)) w.heap.size 56 #[.int .i64 0, .string ⟨#[]⟩, .string ⟨#[]⟩, .int .i64 0, .int .i64 0, .int .i64 0, .int .i64 0, .string ⟨#[]⟩, .int .i64 0] := R.far (by simp)
  have UN : Tch b w (y2.setCell ⟨w.heap.size + 1, 2, none⟩ (.string t2)) := tchSet U (by omega) _ _
  have HZ : Hid (y2.heap.size = (y2.setCell ⟨w.heap.size + 1, 2, none⟩ (.string t2)).heap.size) := Lib.hid (by simp [World.setCell])
  clear hrs X R U
  go_wp2_with fail
  generalize (y2.setCell ⟨w.heap.size + 1, 2, none⟩ (.string t2)) = x3 at *
  have X := XN
  have R := RN
  have U := UN
  have z2 := HZ.out
  clear ck fk cv XN RN UN HZ
  have PP : Whl (x3.alloc (.cells #[.pointer (some ⟨w.heap.size + 1, 3, none⟩), .pointer (some ⟨w.heap.size + 1, 4, none⟩), .pointer (some ⟨w.heap.size + 1, 5, none⟩), .pointer (some ⟨w.heap.size + 1, 6, none⟩)] 99)) y2.heap.size 99 #[.pointer (some ⟨w.heap.size + 1, 3, none⟩), .pointer (some ⟨w.heap.size + 1, 4, none⟩), .pointer (some ⟨w.heap.size + 1, 5, none⟩), .pointer (some ⟨w.heap.size + 1, 6, none⟩)] := Whl.new (by omega)
  replace X := X.alloc (.cells #[.pointer (some ⟨w.heap.size + 1, 3, none⟩), .pointer (some ⟨w.heap.size + 1, 4, none⟩), .pointer (some ⟨w.heap.size + 1, 5, none⟩), .pointer (some ⟨w.heap.size + 1, 6, none⟩)] 99)
  replace R := R.alloc (.cells #[.pointer (some ⟨w.heap.size + 1, 3, none⟩), .pointer (some ⟨w.heap.size + 1, 4, none⟩), .pointer (some ⟨w.heap.size + 1, 5, none⟩), .pointer (some ⟨w.heap.size + 1, 6, none⟩)] 99)
  replace U := U.alloc' (.cells #[.pointer (some ⟨w.heap.size + 1, 3, none⟩), .pointer (some ⟨w.heap.size + 1, 4, none⟩), .pointer (some ⟨w.heap.size + 1, 5, none⟩), .pointer (some ⟨w.heap.size + 1, 6, none⟩)] 99)
  have HSn := Lib.hid (RS.alloc HS3.out (.cells #[.pointer (some ⟨w.heap.size + 1, 3, none⟩), .pointer (some ⟨w.heap.size + 1, 4, none⟩), .pointer (some ⟨w.heap.size + 1, 5, none⟩), .pointer (some ⟨w.heap.size + 1, 6, none⟩)] 99))
  have za3 : x3.heap.size < (x3.alloc (.cells #[.pointer (some ⟨w.heap.size + 1, 3, none⟩), .pointer (some ⟨w.heap.size + 1, 4, none⟩), .pointer (some ⟨w.heap.size + 1, 5, none⟩), .pointer (some ⟨w.heap.size + 1, 6, none⟩)] 99)).heap.size := by simp
  clear HS3
  generalize (x3.alloc (.cells #[.pointer (some ⟨w.heap.size + 1, 3, none⟩), .pointer (some ⟨w.heap.size + 1, 4, none⟩), .pointer (some ⟨w.heap.size + 1, 5, none⟩), .pointer (some ⟨w.heap.size + 1, 6, none⟩)] 99)) = a3 at *
  refine (octNums4 b y2.heap.size (w.heap.size + 1) 3 4 5 6 _ _ _ (zn1 s) a3 HSn.out PP X (noU8_zn _ _ _ _ _ _ _ _ _) (by simp) (by simp) (by simp) (by simp) (by omega) (by omega) (by omega)).mono ?_
  rintro e x4 ⟨rfl, hrs, X2, ht⟩
  have s3 := ht.size
  replace R := R.tou ht (by omega)
  replace U := U.tou ht (by omega)
  obtain ⟨n3, hn3⟩ : ∃ z : Int, z = ((nx (zn1 s)).1 : Int) := ⟨_, rfl⟩
  obtain ⟨n4, hn4⟩ : ∃ z : Int, z = ((nx (nx (zn1 s)).2).1 : Int) := ⟨_, rfl⟩
  obtain ⟨n5, hn5⟩ : ∃ z : Int, z = ((nx (nx (nx (zn1 s)).2).2).1 : Int) := ⟨_, rfl⟩
  obtain ⟨n6, hn6⟩ : ∃ z : Int, z = ((nx (nx (nx (nx (zn1 s)).2).2).2).1 : Int) := ⟨_, rfl⟩
  have HN3 := Lib.hid hn3
  have HN4 := Lib.hid hn4
  have HN5 := Lib.hid hn5
  have HN6 := Lib.hid hn6
  replace X : Whl x4 (w.heap.size + 1) 56 #[.int .i64 n0, .string t1, .string t2, .int .i64 n3, .int .i64 n4, .int .i64 n5, .int .i64 n6, .string ⟨#[]⟩, .int .i64 0] := by
    rw [hn3, hn4, hn5, hn6]
    exact X2
  have HS4 : Hid (RS x4 b (zn2 (zn1 s))) := Lib.hid hrs
  clear X2 hrs ht PP HSn hn3 hn4 hn5 hn6
  go_wp2_with fail
  refine (octNbT b (zn2 (zn1 s)) _ HS4.out).mono ?_
  rintro e y4 ⟨v7, rfl, hown, hrs, ht⟩
  have s7b := ht.size
  replace X := X.tch ht (by omega)
  replace R := R.tch ht (by omega)
  replace U := U.trans ht
  have cv := conv_own hown
  obtain ⟨t7, ht7⟩ : ∃ z : ByteArray, z = strU (nb (zn2 (zn1 s))).1 := ⟨_, rfl⟩
  rw [← ht7] at cv
  have HN7 := Lib.hid ht7
  clear ht7 ht hown HS4
  have ck := X.cell 7
  have fk := X.free 7
  simp only [List.getElem?_toArray, List.getElem?_cons_succ, List.getElem?_cons_zero] at ck
  have HS5 : Hid (RS (y4.setCell ⟨w.heap.size + 1, 7, none⟩ (.string t7)) b (nb (zn2 (zn1 s))).2) := Lib.hid (RS.setBlk (i := 7) (v := .string t7) hrs X (noU8_zn _ _ _ _ _ _ _ _ _) (by omega))
  have XN : Whl (y4.setCell ⟨w.heap.size + 1, 7, none⟩ (.string t7)) (w.heap.size + 1) 56 #[.int .i64 n0, .string t1, .string t2, .int .i64 n3, .int .i64 n4, .int .i64 n5, .int .i64 n6, .string t7, .int .i64 0] := Whl.set X 7 (.string t7)
  have RN : Whl (y4.setCell ⟨w.heap.size + 1, 7, none⟩ (.string t7)) w.heap.size 56 #[.int .i64 0, .string ⟨#[]⟩, .string ⟨#[]⟩, .int .i64 0, .int .i64 0, .int .i64 0, .int .i64 0, .string ⟨#[]⟩, .int .i64 0] := R.far (by simp)
  have UN : Tch b w (y4.setCell ⟨w.heap.size + 1, 7, none⟩ (.string t7)) := tchSet U (by omega) _ _
  have HZ : Hid (y4.heap.size = (y4.setCell ⟨w.heap.size + 1, 7, none⟩ (.string t7)).heap.size) := Lib.hid (by simp [World.setCell])
  clear hrs X R U
  go_wp2_with fail
  generalize (y4.setCell ⟨w.heap.size + 1, 7, none⟩ (.string t7)) = x5 at *
  have X := XN
  have R := RN
  have U := UN
  have z7 := HZ.out
  clear ck fk cv XN RN UN HZ
  have PP : Whl (x5.alloc (.cells #[.pointer (some ⟨w.heap.size + 1, 8, none⟩)] 99)) y4.heap.size 99 #[.pointer (some ⟨w.heap.size + 1, 8, none⟩)] := Whl.new (by omega)
  replace X := X.alloc (.cells #[.pointer (some ⟨w.heap.size + 1, 8, none⟩)] 99)
  replace R := R.alloc (.cells #[.pointer (some ⟨w.heap.size + 1, 8, none⟩)] 99)
  replace U := U.alloc' (.cells #[.pointer (some ⟨w.heap.size + 1, 8, none⟩)] 99)
  have HSn := Lib.hid (RS.alloc HS5.out (.cells #[.pointer (some ⟨w.heap.size + 1, 8, none⟩)] 99))
  have za5 : x5.heap.size < (x5.alloc (.cells #[.pointer (some ⟨w.heap.size + 1, 8, none⟩)] 99)).heap.size := by simp
  clear HS5
  generalize (x5.alloc (.cells #[.pointer (some ⟨w.heap.size + 1, 8, none⟩)] 99)) = a5 at *
  refine (octNums1 b y4.heap.size (w.heap.size + 1) 8 _ _ _ (nb (zn2 (zn1 s))).2 a5 HSn.out PP X (noU8_zn _ _ _ _ _ _ _ _ _) (by simp) (by omega) (by omega) (by omega)).mono ?_
  rintro e x6 ⟨rfl, hrs, X2, ht⟩
  have s5 := ht.size
  replace R := R.tou ht (by omega)
  replace U := U.tou ht (by omega)
  obtain ⟨n8, hn8⟩ : ∃ z : Int, z = ((nx (nb (zn2 (zn1 s))).2).1 : Int) := ⟨_, rfl⟩
  have HN8 := Lib.hid hn8
  replace X : Whl x6 (w.heap.size + 1) 56 #[.int .i64 n0, .string t1, .string t2, .int .i64 n3, .int .i64 n4, .int .i64 n5, .int .i64 n6, .string t7, .int .i64 n8] := by
    rw [hn8]
    exact X2
  have HS6 : Hid (RS x6 b (znE s)) := Lib.hid hrs
  clear X2 hrs ht PP HSn hn8
  have d0 := X.cell 0
  have d1 := X.cell 1
  have d2 := X.cell 2
  have d3 := X.cell 3
  have d4 := X.cell 4
  have d5 := X.cell 5
  have d6 := X.cell 6
  have d7 := X.cell 7
  have d8 := X.cell 8
  simp only [List.getElem?_toArray, List.getElem?_cons_succ, List.getElem?_cons_zero] at d0 d1 d2 d3 d4 d5 d6 d7 d8
  have r0 := R.cell 0
  have r1 := R.cell 1
  have r2 := R.cell 2
  have r3 := R.cell 3
  have r4 := R.cell 4
  have r5 := R.cell 5
  have r6 := R.cell 6
  have r7 := R.cell 7
  have r8 := R.cell 8
  simp only [List.getElem?_toArray, List.getElem?_cons_succ, List.getElem?_cons_zero] at r0 r1 r2 r3 r4 r5 r6 r7 r8
  have f0 := R.free 0
  have f1 := R.free 1
  have f2 := R.free 2
  have f3 := R.free 3
  have f4 := R.free 4
  have f5 := R.free 5
  have f6 := R.free 6
  have f7 := R.free 7
  have f8 := R.free 8
  have HR := Lib.hid R
  clear X R
  go_wp2_with fail
  have R := HR.out
  clear d0 r0 f0 d1 r1 f1 d2 r2 f2 d3 r3 f3 d4 r4 f4 d5 r5 f5 d6 r6 f6 d7 r7 f7 d8 r8 f8
  have RF0 : Whl (x6.setCell ⟨w.heap.size, 0, none⟩ (.int .i64 n0)) w.heap.size 56 #[.int .i64 n0, .string ⟨#[]⟩, .string ⟨#[]⟩, .int .i64 0, .int .i64 0, .int .i64 0, .int .i64 0, .string ⟨#[]⟩, .int .i64 0] := Whl.set R 0 (.int .i64 n0)
  have UF0 : Tch b w (x6.setCell ⟨w.heap.size, 0, none⟩ (.int .i64 n0)) := tchSet U (Nat.le_refl _) 0 (.int .i64 n0)
  have SF0 : RS (x6.setCell ⟨w.heap.size, 0, none⟩ (.int .i64 n0)) b (znE s) := RS.setBlk (i := 0) (v := .int .i64 n0) HS6.out R (noU8_zn _ _ _ _ _ _ _ _ _) (by omega)
  have RF1 : Whl ((x6.setCell ⟨w.heap.size, 0, none⟩ (.int .i64 n0)).setCell ⟨w.heap.size, 1, none⟩ (.string t1)) w.heap.size 56 #[.int .i64 n0, .string t1, .string ⟨#[]⟩, .int .i64 0, .int .i64 0, .int .i64 0, .int .i64 0, .string ⟨#[]⟩, .int .i64 0] := Whl.set RF0 1 (.string t1)
  have UF1 : Tch b w ((x6.setCell ⟨w.heap.size, 0, none⟩ (.int .i64 n0)).setCell ⟨w.heap.size, 1, none⟩ (.string t1)) := tchSet UF0 (Nat.le_refl _) 1 (.string t1)
  have SF1 : RS ((x6.setCell ⟨w.heap.size, 0, none⟩ (.int .i64 n0)).setCell ⟨w.heap.size, 1, none⟩ (.string t1)) b (znE s) := RS.setBlk (i := 1) (v := .string t1) SF0 RF0 (noU8_zn _ _ _ _ _ _ _ _ _) (by omega)
  have RF2 : Whl (((x6.setCell ⟨w.heap.size, 0, none⟩ (.int .i64 n0)).setCell ⟨w.heap.size, 1, none⟩ (.string t1)).setCell ⟨w.heap.size, 2, none⟩ (.string t2)) w.heap.size 56 #[.int .i64 n0, .string t1, .string t2, .int .i64 0, .int .i64 0, .int .i64 0, .int .i64 0, .string ⟨#[]⟩, .int .i64 0] := Whl.set RF1 2 (.string t2)
  have UF2 : Tch b w (((x6.setCell ⟨w.heap.size, 0, none⟩ (.int .i64 n0)).setCell ⟨w.heap.size, 1, none⟩ (.string t1)).setCell ⟨w.heap.size, 2, none⟩ (.string t2)) := tchSet UF1 (Nat.le_refl _) 2 (.string t2)
  have SF2 : RS (((x6.setCell ⟨w.heap.size, 0, none⟩ (.int .i64 n0)).setCell ⟨w.heap.size, 1, none⟩ (.string t1)).setCell ⟨w.heap.size, 2, none⟩ (.string t2)) b (znE s) := RS.setBlk (i := 2) (v := .string t2) SF1 RF1 (noU8_zn _ _ _ _ _ _ _ _ _) (by omega)
  have RF3 : Whl ((((x6.setCell ⟨w.heap.size, 0, none⟩ (.int .i64 n0)).setCell ⟨w.heap.size, 1, none⟩ (.string t1)).setCell ⟨w.heap.size, 2, none⟩ (.string t2)).setCell ⟨w.heap.size, 3, none⟩ (.int .i64 n3)) w.heap.size 56 #[.int .i64 n0, .string t1, .string t2, .int .i64 n3, .int .i64 0, .int .i64 0, .int .i64 0, .string ⟨#[]⟩, .int .i64 0] := Whl.set RF2 3 (.int .i64 n3)
  have UF3 : Tch b w ((((x6.setCell ⟨w.heap.size, 0, none⟩ (.int .i64 n0)).setCell ⟨w.heap.size, 1, none⟩ (.string t1)).setCell ⟨w.heap.size, 2, none⟩ (.string t2)).setCell ⟨w.heap.size, 3, none⟩ (.int .i64 n3)) := tchSet UF2 (Nat.le_refl _) 3 (.int .i64 n3)
  have SF3 : RS ((((x6.setCell ⟨w.heap.size, 0, none⟩ (.int .i64 n0)).setCell ⟨w.heap.size, 1, none⟩ (.string t1)).setCell ⟨w.heap.size, 2, none⟩ (.string t2)).setCell ⟨w.heap.size, 3, none⟩ (.int .i64 n3)) b (znE s) := RS.setBlk (i := 3) (v := .int .i64 n3) SF2 RF2 (noU8_zn _ _ _ _ _ _ _ _ _) (by omega)
  have RF4 : Whl (((((x6.setCell ⟨w.heap.size, 0, none⟩ (.int .i64 n0)).setCell ⟨w.heap.size, 1, none⟩ (.string t1)).setCell ⟨w.heap.size, 2, none⟩ (.string t2)).setCell ⟨w.heap.size, 3, none⟩ (.int .i64 n3)).setCell ⟨w.heap.size, 4, none⟩ (.int .i64 n4)) w.heap.size 56 #[.int .i64 n0, .string t1, .string t2, .int .i64 n3, .int .i64 n4, .int .i64 0, .int .i64 0, .string ⟨#[]⟩, .int .i64 0] := Whl.set RF3 4 (.int .i64 n4)
  have UF4 : Tch b w (((((x6.setCell ⟨w.heap.size, 0, none⟩ (.int .i64 n0)).setCell ⟨w.heap.size, 1, none⟩ (.string t1)).setCell ⟨w.heap.size, 2, none⟩ (.string t2)).setCell ⟨w.heap.size, 3, none⟩ (.int .i64 n3)).setCell ⟨w.heap.size, 4, none⟩ (.int .i64 n4)) := tchSet UF3 (Nat.le_refl _) 4 (.int .i64 n4)
  have SF4 : RS (((((x6.setCell ⟨w.heap.size, 0, none⟩ (.int .i64 n0)).setCell ⟨w.heap.size, 1, none⟩ (.string t1)).setCell ⟨w.heap.size, 2, none⟩ (.string t2)).setCell ⟨w.heap.size, 3, none⟩ (.int .i64 n3)).setCell ⟨w.heap.size, 4, none⟩ (.int .i64 n4)) b (znE s) := RS.setBlk (i := 4) (v := .int .i64 n4) SF3 RF3 (noU8_zn _ _ _ _ _ _ _ _ _) (by omega)
  have RF5 : Whl ((((((x6.setCell ⟨w.heap.size, 0, none⟩ (.int .i64 n0)).setCell ⟨w.heap.size, 1, none⟩ (.string t1)).setCell ⟨w.heap.size, 2, none⟩ (.string t2)).setCell ⟨w.heap.size, 3, none⟩ (.int .i64 n3)).setCell ⟨w.heap.size, 4, none⟩ (.int .i64 n4)).setCell ⟨w.heap.size, 5, none⟩ (.int .i64 n5)) w.heap.size 56 #[.int .i64 n0, .string t1, .string t2, .int .i64 n3, .int .i64 n4, .int .i64 n5, .int .i64 0, .string ⟨#[]⟩, .int .i64 0] := Whl.set RF4 5 (.int .i64 n5)
  have UF5 : Tch b w ((((((x6.setCell ⟨w.heap.size, 0, none⟩ (.int .i64 n0)).setCell ⟨w.heap.size, 1, none⟩ (.string t1)).setCell ⟨w.heap.size, 2, none⟩ (.string t2)).setCell ⟨w.heap.size, 3, none⟩ (.int .i64 n3)).setCell ⟨w.heap.size, 4, none⟩ (.int .i64 n4)).setCell ⟨w.heap.size, 5, none⟩ (.int .i64 n5)) := tchSet UF4 (Nat.le_refl _) 5 (.int .i64 n5)
  have SF5 : RS ((((((x6.setCell ⟨w.heap.size, 0, none⟩ (.int .i64 n0)).setCell ⟨w.heap.size, 1, none⟩ (.string t1)).setCell ⟨w.heap.size, 2, none⟩ (.string t2)).setCell ⟨w.heap.size, 3, none⟩ (.int .i64 n3)).setCell ⟨w.heap.size, 4, none⟩ (.int .i64 n4)).setCell ⟨w.heap.size, 5, none⟩ (.int .i64 n5)) b (znE s) := RS.setBlk (i := 5) (v := .int .i64 n5) SF4 RF4 (noU8_zn _ _ _ _ _ _ _ _ _) (by omega)
  have RF6 : Whl (((((((x6.setCell ⟨w.heap.size, 0, none⟩ (.int .i64 n0)).setCell ⟨w.heap.size, 1, none⟩ (.string t1)).setCell ⟨w.heap.size, 2, none⟩ (.string t2)).setCell ⟨w.heap.size, 3, none⟩ (.int .i64 n3)).setCell ⟨w.heap.size, 4, none⟩ (.int .i64 n4)).setCell ⟨w.heap.size, 5, none⟩ (.int .i64 n5)).setCell ⟨w.heap.size, 6, none⟩ (.int .i64 n6)) w.heap.size 56 #[.int .i64 n0, .string t1, .string t2, .int .i64 n3, .int .i64 n4, .int .i64 n5, .int .i64 n6, .string ⟨#[]⟩, .int .i64 0] := Whl.set RF5 6 (.int .i64 n6)
  have UF6 : Tch b w (((((((x6.setCell ⟨w.heap.size, 0, none⟩ (.int .i64 n0)).setCell ⟨w.heap.size, 1, none⟩ (.string t1)).setCell ⟨w.heap.size, 2, none⟩ (.string t2)).setCell ⟨w.heap.size, 3, none⟩ (.int .i64 n3)).setCell ⟨w.heap.size, 4, none⟩ (.int .i64 n4)).setCell ⟨w.heap.size, 5, none⟩ (.int .i64 n5)).setCell ⟨w.heap.size, 6, none⟩ (.int .i64 n6)) := tchSet UF5 (Nat.le_refl _) 6 (.int .i64 n6)
  have SF6 : RS (((((((x6.setCell ⟨w.heap.size, 0, none⟩ (.int .i64 n0)).setCell ⟨w.heap.size, 1, none⟩ (.string t1)).setCell ⟨w.heap.size, 2, none⟩ (.string t2)).setCell ⟨w.heap.size, 3, none⟩ (.int .i64 n3)).setCell ⟨w.heap.size, 4, none⟩ (.int .i64 n4)).setCell ⟨w.heap.size, 5, none⟩ (.int .i64 n5)).setCell ⟨w.heap.size, 6, none⟩ (.int .i64 n6)) b (znE s) := RS.setBlk (i := 6) (v := .int .i64 n6) SF5 RF5 (noU8_zn _ _ _ _ _ _ _ _ _) (by omega)
  have RF7 : Whl ((((((((x6.setCell ⟨w.heap.size, 0, none⟩ (.int .i64 n0)).setCell ⟨w.heap.size, 1, none⟩ (.string t1)).setCell ⟨w.heap.size, 2, none⟩ (.string t2)).setCell ⟨w.heap.size, 3, none⟩ (.int .i64 n3)).setCell ⟨w.heap.size, 4, none⟩ (.int .i64 n4)).setCell ⟨w.heap.size, 5, none⟩ (.int .i64 n5)).setCell ⟨w.heap.size, 6, none⟩ (.int .i64 n6)).setCell ⟨w.heap.size, 7, none⟩ (.string t7)) w.heap.size 56 #[.int .i64 n0, .string t1, .string t2, .int .i64 n3, .int .i64 n4, .int .i64 n5, .int .i64 n6, .string t7, .int .i64 0] := Whl.set RF6 7 (.string t7)
  have UF7 : Tch b w ((((((((x6.setCell ⟨w.heap.size, 0, none⟩ (.int .i64 n0)).setCell ⟨w.heap.size, 1, none⟩ (.string t1)).setCell ⟨w.heap.size, 2, none⟩ (.string t2)).setCell ⟨w.heap.size, 3, none⟩ (.int .i64 n3)).setCell ⟨w.heap.size, 4, none⟩ (.int .i64 n4)).setCell ⟨w.heap.size, 5, none⟩ (.int .i64 n5)).setCell ⟨w.heap.size, 6, none⟩ (.int .i64 n6)).setCell ⟨w.heap.size, 7, none⟩ (.string t7)) := tchSet UF6 (Nat.le_refl _) 7 (.string t7)
  have SF7 : RS ((((((((x6.setCell ⟨w.heap.size, 0, none⟩ (.int .i64 n0)).setCell ⟨w.heap.size, 1, none⟩ (.string t1)).setCell ⟨w.heap.size, 2, none⟩ (.string t2)).setCell ⟨w.heap.size, 3, none⟩ (.int .i64 n3)).setCell ⟨w.heap.size, 4, none⟩ (.int .i64 n4)).setCell ⟨w.heap.size, 5, none⟩ (.int .i64 n5)).setCell ⟨w.heap.size, 6, none⟩ (.int .i64 n6)).setCell ⟨w.heap.size, 7, none⟩ (.string t7)) b (znE s) := RS.setBlk (i := 7) (v := .string t7) SF6 RF6 (noU8_zn _ _ _ _ _ _ _ _ _) (by omega)
  have RF8 : Whl (((((((((x6.setCell ⟨w.heap.size, 0, none⟩ (.int .i64 n0)).setCell ⟨w.heap.size, 1, none⟩ (.string t1)).setCell ⟨w.heap.size, 2, none⟩ (.string t2)).setCell ⟨w.heap.size, 3, none⟩ (.int .i64 n3)).setCell ⟨w.heap.size, 4, none⟩ (.int .i64 n4)).setCell ⟨w.heap.size, 5, none⟩ (.int .i64 n5)).setCell ⟨w.heap.size, 6, none⟩ (.int .i64 n6)).setCell ⟨w.heap.size, 7, none⟩ (.string t7)).setCell ⟨w.heap.size, 8, none⟩ (.int .i64 n8)) w.heap.size 56 #[.int .i64 n0, .string t1, .string t2, .int .i64 n3, .int .i64 n4, .int .i64 n5, .int .i64 n6, .string t7, .int .i64 n8] := Whl.set RF7 8 (.int .i64 n8)
  have UF8 : Tch b w (((((((((x6.setCell ⟨w.heap.size, 0, none⟩ (.int .i64 n0)).setCell ⟨w.heap.size, 1, none⟩ (.string t1)).setCell ⟨w.heap.size, 2, none⟩ (.string t2)).setCell ⟨w.heap.size, 3, none⟩ (.int .i64 n3)).setCell ⟨w.heap.size, 4, none⟩ (.int .i64 n4)).setCell ⟨w.heap.size, 5, none⟩ (.int .i64 n5)).setCell ⟨w.heap.size, 6, none⟩ (.int .i64 n6)).setCell ⟨w.heap.size, 7, none⟩ (.string t7)).setCell ⟨w.heap.size, 8, none⟩ (.int .i64 n8)) := tchSet UF7 (Nat.le_refl _) 8 (.int .i64 n8)
  have SF8 : RS (((((((((x6.setCell ⟨w.heap.size, 0, none⟩ (.int .i64 n0)).setCell ⟨w.heap.size, 1, none⟩ (.string t1)).setCell ⟨w.heap.size, 2, none⟩ (.string t2)).setCell ⟨w.heap.size, 3, none⟩ (.int .i64 n3)).setCell ⟨w.heap.size, 4, none⟩ (.int .i64 n4)).setCell ⟨w.heap.size, 5, none⟩ (.int .i64 n5)).setCell ⟨w.heap.size, 6, none⟩ (.int .i64 n6)).setCell ⟨w.heap.size, 7, none⟩ (.string t7)).setCell ⟨w.heap.size, 8, none⟩ (.int .i64 n8)) b (znE s) := RS.setBlk (i := 8) (v := .int .i64 n8) SF7 RF7 (noU8_zn _ _ _ _ _ _ _ _ _) (by omega)
  clear RF0 UF0 SF0 RF1 UF1 SF1 RF2 UF2 SF2 RF3 UF3 SF3 RF4 UF4 SF4 RF5 UF5 SF5 RF6 UF6 SF6 RF7 UF7 SF7 R HR
  generalize (((((((((x6.setCell ⟨w.heap.size, 0, none⟩ (.int .i64 n0)).setCell ⟨w.heap.size, 1, none⟩ (.string t1)).setCell ⟨w.heap.size, 2, none⟩ (.string t2)).setCell ⟨w.heap.size, 3, none⟩ (.int .i64 n3)).setCell ⟨w.heap.size, 4, none⟩ (.int .i64 n4)).setCell ⟨w.heap.size, 5, none⟩ (.int .i64 n5)).setCell ⟨w.heap.size, 6, none⟩ (.int .i64 n6)).setCell ⟨w.heap.size, 7, none⟩ (.string t7)).setCell ⟨w.heap.size, 8, none⟩ (.int .i64 n8)) = Y at *
  have q0 := RF8.cell 0
  have q1 := RF8.cell 1
  have q2 := RF8.cell 2
  have q3 := RF8.cell 3
  have q4 := RF8.cell 4
  have q5 := RF8.cell 5
  have q6 := RF8.cell 6
  have q7 := RF8.cell 7
  have q8 := RF8.cell 8
  simp only [List.getElem?_toArray, List.getElem?_cons_succ, List.getElem?_cons_zero] at q0 q1 q2 q3 q4 q5 q6 q7 q8
  refine bodyPost_ret (v := .agg #[.int .i64 n0, .string t1, .string t2, .int .i64 n3, .int .i64 n4, .int .i64 n5, .int .i64 n6, .string t7, .int .i64 n8]) (by simp [results, Tryz.results48, go_sem, ↓IntWalk.iteOmega, *]) rfl ⟨?_, SF8, UF8⟩
  rw [HRV.out, HN0.out, HN1.out, HN2.out, HN3.out, HN4.out, HN5.out, HN6.out, HN7.out, HN8.out]
  rfl
end Go.Proofs.YtepjehcmiofehaaGreat
