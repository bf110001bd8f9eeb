/- A request out of bytes: what is left behind each of its parts; a place read by the document's own get. -/
import Derived.Test.YtblknjclkecglaaApS
import Derived.Test.YtblknjclkecglaaDcB
import Derived.Test.YtblknjclkecglaaDcN
namespace Go.Proofs.Ytblknjclkecglaa
open Go.RowKit
set_option linter.unusedVariables false
set_option linter.unusedSimpArgs false

theorem Whl.tch {w w' : World} {g b : Nat} {t : TypeId} {cs : Array Value} (h : Whl w g t cs) (hb : Tch b w w') (hB : g ≠ b) : Whl w' g t cs := (hb.block g h.low hB).trans h
theorem RS.fresh {w w' : World} {b : Nat} {st : Option (List Nat)} (h : RS w b st) (hb : Below w.heap.size w w') : RS w' b st := h.below hb h.low
theorem tchSet {b H : Nat} {w w' : World} (h : Tch b w w') (hH : w.heap.size ≤ H) (j : Nat) (v : Value) : Tch b w (w'.setCell ⟨H, j, none⟩ v) := ⟨h.os, h.tape, h.output, by simpa [World.setCell] using h.size, fun k hk hn => (Below.heap_setCell _ _ _ _ (by simp; omega)).trans (h.block k hk hn)⟩
theorem noU8_op (k cl sq : Int) (ak aw tk tw : ByteArray) (it ct pr : Int) (bu : Bool) (id : Int) : noU8 #[.int .i64 k, .int .i64 cl, .int .i64 sq, .string ak, .string aw, .string tk, .string tw, .int .i64 it, .int .i64 ct, .int .i64 pr, .bool bu, .int .i64 id] := by
  intro i x h
  match i with
  | 0 => simp at h
  | 1 => simp at h
  | 2 => simp at h
  | 3 => simp at h
  | 4 => simp at h
  | 5 => simp at h
  | 6 => simp at h
  | 7 => simp at h
  | 8 => simp at h
  | 9 => simp at h
  | 10 => simp at h
  | 11 => simp at h
  | i + 12 => simp at h
theorem noU8_str (a b : ByteArray) : noU8 #[.string a, .string b] := by
  intro i x h
  match i with
  | 0 => simp at h
  | 1 => simp at h
  | i + 2 => simp at h
theorem noU8_int (a : Int) : noU8 #[.int .i64 a] := by
  intro i x h
  match i with
  | 0 => simp at h
  | i + 1 => simp at h
/-- what is left behind so many parts of a request's bytes -/
def dS (xs : List Nat) : Nat → Option (List Nat)
  | 0 => some xs
  | i + 1 => if 3 ≤ i ∧ i ≤ 6 then (nb (dS xs i)).2 else (nx (dS xs i)).2
def dN (xs : List Nat) (i : Nat) : Int := ((nx (dS xs i)).1 : Int)
def dT (xs : List Nat) (i : Nat) : ByteArray := strU (nb (dS xs i)).1
def dM (xs : List Nat) : Bool := mB (dN xs 0) (dN xs 1) (dN xs 2) (dT xs 3) (dT xs 4) (dT xs 5) (dT xs 6) (dN xs 7) (dN xs 8) (dN xs 9) (dN xs 10 == 1) (dN xs 11)
def dB (xs : List Nat) : Bool := allOf (dS xs 12) && (!decide (1 < dN xs 10) && dM xs)
def dV (xs : List Nat) : Value := if dB xs = true then .tuple #[.agg #[.int .i64 (dN xs 0), .int .i64 (dN xs 1), .int .i64 (dN xs 2), .string (dT xs 3), .string (dT xs 4), .string (dT xs 5), .string (dT xs 6), .int .i64 (dN xs 7), .int .i64 (dN xs 8), .int .i64 (dN xs 9), .bool (dN xs 10 == 1), .int .i64 (dN xs 11)], .int .i64 0] else .tuple #[.agg #[.int .i64 0, .int .i64 0, .int .i64 0, .string ⟨#[]⟩, .string ⟨#[]⟩, .string ⟨#[]⟩, .string ⟨#[]⟩, .int .i64 0, .int .i64 0, .int .i64 0, .bool false, .int .i64 0], .int .i64 3]
theorem nx_len (st : Option (List Nat)) : ((nx st).2.getD []).length ≤ (st.getD []).length := by
  cases st with
  | none => simp [nx]
  | some r =>
    simp only [nx]
    cases h : rd 0 0 r with
    | none => simp
    | some p => obtain ⟨n, t⟩ := p; exact (rd_suffix r 0 0 n t h).1
theorem nb_len (st : Option (List Nat)) : ((nb st).2.getD []).length ≤ (st.getD []).length ∧ (nb st).1.length ≤ (st.getD []).length := by
  have h := nx_len st
  unfold nb
  split
  · rename_i n r e
    rw [e] at h
    simp only [Option.getD_some] at h
    split
    · simp only [Option.getD_some, List.length_drop, List.length_take]; omega
    · simp
  · simp
theorem dS_len (xs : List Nat) : ∀ i, ((dS xs i).getD []).length ≤ xs.length := by
  intro i
  induction i with
  | zero => simp [dS]
  | succ i ih =>
    rw [dS]
    split
    · exact Nat.le_trans (nb_len _).1 ih
    · exact Nat.le_trans (nx_len _) ih
theorem strU_size (xs : List Nat) : (strU xs).size = xs.length := by
  have h := congrArg List.length (strOfNums_data (xs.map fun x : Nat => (x : Int)))
  simp only [List.length_map] at h
  unfold strU
  rw [← h]
  exact Array.length_toList.symm
theorem dT_size (xs : List Nat) (i : Nat) : (dT xs i).size ≤ xs.length := by
  unfold dT
  rw [strU_size]
  exact Nat.le_trans (nb_len _).2 (dS_len xs i)
theorem dN_wf (xs : List Nat) (i : Nat) : (Lit.int .i64 (dN xs i)).wf = true := by
  have h := nx_le (dS xs i)
  unfold dN
  generalize (nx (dS xs i)).1 = n at h ⊢
  simp only [Lit.wf, Bool.and_eq_true, decide_eq_true_eq]
  have hmin : IntKind.i64.min = -9223372036854775808 := by decide
  have hmax : IntKind.i64.max = 9223372036854775807 := by decide
  rw [hmin, hmax]
  omega
theorem dOpWf {xs : List Nat} (h : xs.length ≤ 10000) : OpWf (dN xs 0) (dN xs 1) (dN xs 2) (dT xs 3) (dT xs 4) (dT xs 5) (dT xs 6) (dN xs 7) (dN xs 8) (dN xs 9) (dN xs 10 == 1) (dN xs 11) :=
  ⟨dN_wf _ _, dN_wf _ _, dN_wf _ _, dN_wf _ _, dN_wf _ _, dN_wf _ _, dN_wf _ _, Nat.le_trans (dT_size _ _) h, Nat.le_trans (dT_size _ _) h, Nat.le_trans (dT_size _ _) h, Nat.le_trans (dT_size _ _) h⟩

set_option maxHeartbeats 2000000 in
set_option maxRecDepth 10000 in
theorem rfGet (b : Nat) (s : Option (List Nat)) (w : World) (hr : RS w b s) :
    Calls Try.prog 34 #[.pointer (some ⟨b, 0, none⟩)] w fun e w' => e = .returned (.agg #[.string (strU (nb s).1), .string (strU (nb (nb s).2).1)]) ∧ RS w' b (nb (nb s).2).2 ∧ Tch b w w' := by
  have hbl := hr.low
  have HS0 := Lib.hid (hr.alloc (.cells #[.string ⟨#[]⟩, .string ⟨#[]⟩] 23))
  have R0 : Whl (w.alloc (.cells #[.string ⟨#[]⟩, .string ⟨#[]⟩] 23)) w.heap.size 23 #[.string ⟨#[]⟩, .string ⟨#[]⟩] := Whl.new rfl
  have B0 : Tch b w (w.alloc (.cells #[.string ⟨#[]⟩, .string ⟨#[]⟩] 23)) := Tch.of_fresh b ((Below.refl _ _).alloc (Nat.le_refl _) _)
  clear hr
  go_enter Try.func34, Try.ntmps34
  go_wp2_with fail
  refine (rfNb b s _ HS0.out).mono ?_
  rintro e w1 ⟨v1, rfl, hown1, hrs1, hb1⟩
  have hl1 := hb1.size
  simp at hl1
  have R1 := R0.tch hb1 (by omega)
  have B1 := B0.trans hb1
  have cv1 := conv_own hown1
  obtain ⟨T1, hT1⟩ : ∃ z, z = strU (nb s).1 := ⟨_, rfl⟩
  rw [← hT1] at cv1
  have HT1 := Lib.hid hT1
  have HS1 := Lib.hid hrs1
  clear hown1 hrs1 hT1 R0 B0 HS0 hb1
  go_wp2_with fail
  refine (rfNb b (nb s).2 _ HS1.out).mono ?_
  rintro e w2 ⟨v2, rfl, hown2, hrs2, hb2⟩
  have hl2 := hb2.size
  have R2 := R1.tch hb2 (by omega)
  have B2 := B1.trans hb2
  have cv2 := conv_own hown2
  obtain ⟨T2, hT2⟩ : ∃ z, z = strU (nb (nb s).2).1 := ⟨_, rfl⟩
  rw [← hT2] at cv2
  have HT2 := Lib.hid hT2
  have r0 := R2.cell 0
  have r1 := R2.cell 1
  have t0 := R2.free 0
  have t1 := R2.free 1
  simp only [List.getElem?_toArray, List.getElem?_cons_succ, List.getElem?_cons_zero] at r0 r1
  have X0 := R2.set 0 (.string T1)
  have S1 := RS.setBlk (i := 0) (v := .string T1) hrs2 R2 (noU8_str _ _) (by omega)
  have S2 := Lib.hid (RS.setBlk (i := 1) (v := .string T2) S1 X0 (noU8_str _ _) (by omega))
  have U2 : Tch b w ((w2.setCell ⟨w.heap.size, 0, none⟩ (.string T1)).setCell ⟨w.heap.size, 1, none⟩ (.string T2)) := tchSet (tchSet B2 (Nat.le_refl _) _ _) (Nat.le_refl _) _ _
  clear hown2 hrs2 hT2 R1 B1 HS1 X0 S1 cv1
  go_wp2_with fail
  refine bodyPost_ret (v := .agg #[.string T1, .string T2]) (by simp [results, Try.results34, go_sem, ↓IntWalk.iteOmega, *]) rfl ⟨by rw [HT1.out, HT2.out], S2.out, U2⟩
end Go.Proofs.Ytblknjclkecglaa
