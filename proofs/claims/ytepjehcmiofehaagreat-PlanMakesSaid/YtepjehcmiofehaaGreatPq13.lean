/- Bytes as texts. Readers: what a change, a zone is out of bytes; the code's Nums, numbers into any blocks. -/
import Derived.Laws.BytesArg
import Derived.Test.YtepjehcmiofehaaGreatPq12
namespace Go.Proofs.YtepjehcmiofehaaGreat
open Go.RowKit
set_option linter.unusedVariables false
set_option linter.unusedSimpArgs false
/-- bytes as a text -/
def strU (xs : List Nat) : ByteArray := strOfNums (xs.map fun x : Nat => (x : Int))
theorem own_cases' {w : World} {base : Nat} {v : Value} {xs : List Nat} (h : w.ownsRow base 5 1 v xs.length (flatU xs)) : (v = .slice none 0 0 ∧ xs = []) ∨ ∃ g cap, v = .slice (some ⟨g, 0, none⟩) xs.length cap := by
  rcases h.2 with ⟨hv, h0⟩ | ⟨g, cap, cur, hv, _⟩
  · exact .inl ⟨hv, List.eq_nil_of_length_eq_zero h0⟩
  · exact .inr ⟨g, cap, hv⟩
theorem conv_own {w : World} {base : Nat} {v : Value} {xs : List Nat} (h : w.ownsRow base 5 1 v xs.length (flatU xs)) : (convert 70 9 v).run Tryz.prog w = .ok (.string (strU xs)) w := by
  rcases own_cases' h with ⟨rfl, rfl⟩ | ⟨g, cap, rfl⟩
  · exact run_convert_bytes_nil w _ _ Tryz.underlying70 Tryz.underlying5 0 0 _ Tryz.underlying9
  · refine run_convert_bytes_arg w _ _ Tryz.underlying70 Tryz.underlying5 g 0 _ cap _ (by simp) (fun i hi => ?_) _ Tryz.underlying9
    have := h.cells (g := g) rfl i (.int .u8 (xs[i] : Nat)) (by simp [flatU, hi])
    rw [add_none] at this
    rw [this]
    simp [List.getD, hi]
end Go.Proofs.YtepjehcmiofehaaGreat
namespace Go.Proofs.YtepjehcmiofehaaGreat
open Go.RowKit
set_option linter.unusedVariables false
set_option linter.unusedSimpArgs false
theorem Tch.touch {b : Nat} {w w' : World} (h : Tch b w w') : Touch (fun k => k = b) w w' := ⟨h.os, h.tape, h.output, h.size, fun k hk hn => h.block k hk hn⟩
theorem Whl.tou {D : Nat → Prop} {w w' : World} {g : Nat} {t : TypeId} {cs : Array Value} (h : Whl w g t cs) (hb : Touch D w w') (hD : ¬ D g) : Whl w' g t cs := (hb.block g h.low hD).trans h
theorem Whl.tch {w w' : World} {g b : Nat} {t : TypeId} {cs : Array Value} (h : Whl w g t cs) (hb : Tch b w w') (hB : g ≠ b) : Whl w' g t cs := (hb.block g h.low hB).trans h
theorem RS.fresh {w w' : World} {b : Nat} {st : Option (List Nat)} (h : RS w b st) (hb : Below w.heap.size w w') : RS w' b st := h.below hb h.low
theorem tchSet {b H : Nat} {w w' : World} (h : Tch b w w') (hH : w.heap.size ≤ H) (j : Nat) (v : Value) : Tch b w (w'.setCell ⟨H, j, none⟩ v) := ⟨h.os, h.tape, h.output, by simpa [World.setCell] using h.size, fun k hk hn => (Below.heap_setCell _ _ _ _ (by simp; omega)).trans (h.block k hk hn)⟩
theorem noU8.setInt {cs : Array Value} (h : noU8 cs) (i : Nat) (n : Int) : noU8 (cs.setIfInBounds i (.int .i64 n)) := by
  intro j x e
  rw [Array.getElem?_setIfInBounds] at e
  split at e
  · split at e <;> simp at e
  · exact h _ _ e
/-- a zone out of bytes -/
def zn1 (s : Option (List Nat)) : Option (List Nat) := (nb (nb (nx s).2).2).2
def zn2 (s : Option (List Nat)) : Option (List Nat) := (nx (nx (nx (nx s).2).2).2).2
def znD (s : Option (List Nat)) : Zn := ⟨((nx s).1 : Int), strU (nb (nx s).2).1, strU (nb (nb (nx s).2).2).1, ((nx (zn1 s)).1 : Int), ((nx (nx (zn1 s)).2).1 : Int), ((nx (nx (nx (zn1 s)).2).2).1 : Int), ((nx (nx (nx (nx (zn1 s)).2).2).2).1 : Int), strU (nb (zn2 (zn1 s))).1, ((nx (nb (zn2 (zn1 s))).2).1 : Int)⟩
def znE (s : Option (List Nat)) : Option (List Nat) := (nx (nb (zn2 (zn1 s))).2).2
set_option maxHeartbeats 4000000 in
set_option maxRecDepth 10000 in
theorem octNums1 (b P G k0 c : Nat) (csG : Array Value) (TG : TypeId) (st : Option (List Nat)) (w : World) (hr : RS w b st) (hPt : Whl w P 99 #[.pointer (some ⟨G, k0, none⟩)]) (hG : Whl w G TG csG) (huG : noU8 csG) (hk0 : k0 < csG.size) (hbP : b ≠ P) (hbG : b ≠ G) (hPG : P ≠ G) :
    Calls Tryz.prog 47 #[.pointer (some ⟨b, 0, none⟩), .slice (some ⟨P, 0, none⟩) 1 c] w fun e w' => e = .returned (.tuple #[]) ∧ RS w' b (nx st).2 ∧ Whl w' G TG (csG.setIfInBounds k0 (.int .i64 ((nx st).1 : Int))) ∧ Touch (fun x => x = b ∨ x = G) w w' := by
  have HS0 := Lib.hid hr
  have XG := hG
  have PP := hPt
  have HUG0 := Lib.hid huG
  have U := Lib.hid (Touch.refl (fun x => x = b ∨ x = G) w)
  have hlow := hr.low
  have hPl := hPt.low
  have hloG := hG.low
  clear hr hPt hG huG
  go_enter Tryz.func47, Tryz.ntmps47
  go_wp2_with fail
  refine wp_loop_rounds 2 ?_
  rw [rounds_succ]
  have p0 := PP.cell 0
  simp only [List.getElem?_toArray, List.getElem?_cons_succ, List.getElem?_cons_zero] at p0
  go_wp2_with fail
  refine (octNxT b st _ HS0.out).mono ?_
  rintro e v0 ⟨rfl, hrs, ht⟩
  have hl0 := ht.size
  replace XG := XG.tch ht (Ne.symm hbG)
  replace PP := PP.tch ht (Ne.symm hbP)
  have U1 := U.out.trans ht.touch (D := (fun x => x = b ∨ x = G)) (fun n _ e => Or.inl e)
  obtain ⟨n0, hn0⟩ : ∃ z : Int, z = ((nx st).1 : Int) := ⟨_, rfl⟩
  rw [← hn0]
  have HN0 := Lib.hid hn0
  clear hn0 ht HS0 p0 U
  have hsz0 : k0 < csG.size := by simpa using hk0
  have ck : _ = some (csG[k0]'hsz0) := (XG.cell k0).trans (Array.getElem?_eq_getElem hsz0)
  have fk := XG.free k0
  generalize (csG[k0]'hsz0) = old at ck
  have HS1 := Lib.hid (RS.setBlk (i := k0) (v := .int .i64 n0) hrs XG HUG0.out (Ne.symm hbG))
  have HUG1 := Lib.hid (HUG0.out.setInt k0 n0)
  have XN : Whl (v0.setCell ⟨G, k0, none⟩ (.int .i64 n0)) G TG (csG.setIfInBounds k0 (.int .i64 n0)) := Whl.set XG k0 (.int .i64 n0)
  have PN : Whl (v0.setCell ⟨G, k0, none⟩ (.int .i64 n0)) P 99 #[.pointer (some ⟨G, k0, none⟩)] := PP.far hPG
  have UN : Touch (fun x => x = b ∨ x = G) w (v0.setCell ⟨G, k0, none⟩ (.int .i64 n0)) := U1.set (fun _ => by simp)
  have hz0 : v0.heap.size = (v0.setCell ⟨G, k0, none⟩ (.int .i64 n0)).heap.size := by simp [World.setCell]
  clear hrs PP U1 hsz0 XG
  go_wp2_with fail
  generalize (v0.setCell ⟨G, k0, none⟩ (.int .i64 n0)) = V0 at *
  have XG := XN
  have PP := PN
  have U := Lib.hid UN
  clear ck fk XN PN UN  old
  rw [rounds_succ]
  rw [HN0.out] at XG
  have HXG := Lib.hid XG
  clear PP XG
  go_wp2_with fail
  refine bodyPost_end (v := .tuple #[]) (by simp [results, Tryz.results47, go_sem]) rfl ⟨rfl, HS1.out, HXG.out, U.out⟩
set_option maxHeartbeats 4000000 in
set_option maxRecDepth 10000 in
theorem octNums4 (b P G k0 k1 k2 k3 c : Nat) (csG : Array Value) (TG : TypeId) (st : Option (List Nat)) (w : World) (hr : RS w b st) (hPt : Whl w P 99 #[.pointer (some ⟨G, k0, none⟩), .pointer (some ⟨G, k1, none⟩), .pointer (some ⟨G, k2, none⟩), .pointer (some ⟨G, k3, none⟩)]) (hG : Whl w G TG csG) (huG : noU8 csG) (hk0 : k0 < csG.size) (hk1 : k1 < csG.size) (hk2 : k2 < csG.size) (hk3 : k3 < csG.size) (hbP : b ≠ P) (hbG : b ≠ G) (hPG : P ≠ G) :
    Calls Tryz.prog 47 #[.pointer (some ⟨b, 0, none⟩), .slice (some ⟨P, 0, none⟩) 4 c] w fun e w' => e = .returned (.tuple #[]) ∧ RS w' b (nx (nx (nx (nx st).2).2).2).2 ∧ Whl w' G TG ((((csG.setIfInBounds k0 (.int .i64 ((nx st).1 : Int))).setIfInBounds k1 (.int .i64 ((nx (nx st).2).1 : Int))).setIfInBounds k2 (.int .i64 ((nx (nx (nx st).2).2).1 : Int))).setIfInBounds k3 (.int .i64 ((nx (nx (nx (nx st).2).2).2).1 : Int))) ∧ Touch (fun x => x = b ∨ x = G) w w' := by
  have HS0 := Lib.hid hr
  have XG := hG
  have PP := hPt
  have HUG0 := Lib.hid huG
  have U := Lib.hid (Touch.refl (fun x => x = b ∨ x = G) w)
  have hlow := hr.low
  have hPl := hPt.low
  have hloG := hG.low
  clear hr hPt hG huG
  go_enter Tryz.func47, Tryz.ntmps47
  go_wp2_with fail
  refine wp_loop_rounds 5 ?_
  rw [rounds_succ]
  have p0 := PP.cell 0
  simp only [List.getElem?_toArray, List.getElem?_cons_succ, List.getElem?_cons_zero] at p0
  go_wp2_with fail
  refine (octNxT b st _ HS0.out).mono ?_
  rintro e v0 ⟨rfl, hrs, ht⟩
  have hl0 := ht.size
  replace XG := XG.tch ht (Ne.symm hbG)
  replace PP := PP.tch ht (Ne.symm hbP)
  have U1 := U.out.trans ht.touch (D := (fun x => x = b ∨ x = G)) (fun n _ e => Or.inl e)
  obtain ⟨n0, hn0⟩ : ∃ z : Int, z = ((nx st).1 : Int) := ⟨_, rfl⟩
  rw [← hn0]
  have HN0 := Lib.hid hn0
  clear hn0 ht HS0 p0 U
  have hsz0 : k0 < csG.size := by simpa using hk0
  have ck : _ = some (csG[k0]'hsz0) := (XG.cell k0).trans (Array.getElem?_eq_getElem hsz0)
  have fk := XG.free k0
  generalize (csG[k0]'hsz0) = old at ck
  have HS1 := Lib.hid (RS.setBlk (i := k0) (v := .int .i64 n0) hrs XG HUG0.out (Ne.symm hbG))
  have HUG1 := Lib.hid (HUG0.out.setInt k0 n0)
  have XN : Whl (v0.setCell ⟨G, k0, none⟩ (.int .i64 n0)) G TG (csG.setIfInBounds k0 (.int .i64 n0)) := Whl.set XG k0 (.int .i64 n0)
  have PN : Whl (v0.setCell ⟨G, k0, none⟩ (.int .i64 n0)) P 99 #[.pointer (some ⟨G, k0, none⟩), .pointer (some ⟨G, k1, none⟩), .pointer (some ⟨G, k2, none⟩), .pointer (some ⟨G, k3, none⟩)] := PP.far hPG
  have UN : Touch (fun x => x = b ∨ x = G) w (v0.setCell ⟨G, k0, none⟩ (.int .i64 n0)) := U1.set (fun _ => by simp)
  have hz0 : v0.heap.size = (v0.setCell ⟨G, k0, none⟩ (.int .i64 n0)).heap.size := by simp [World.setCell]
  clear hrs PP U1 hsz0 XG
  go_wp2_with fail
  generalize (v0.setCell ⟨G, k0, none⟩ (.int .i64 n0)) = V0 at *
  have XG := XN
  have PP := PN
  have U := Lib.hid UN
  clear ck fk XN PN UN  old
  rw [rounds_succ]
  have p1 := PP.cell 1
  simp only [List.getElem?_toArray, List.getElem?_cons_succ, List.getElem?_cons_zero] at p1
  go_wp2_with fail
  refine (octNxT b (nx st).2 _ HS1.out).mono ?_
  rintro e v1 ⟨rfl, hrs, ht⟩
  have hl1 := ht.size
  replace XG := XG.tch ht (Ne.symm hbG)
  replace PP := PP.tch ht (Ne.symm hbP)
  have U1 := U.out.trans ht.touch (D := (fun x => x = b ∨ x = G)) (fun n _ e => Or.inl e)
  obtain ⟨n1, hn1⟩ : ∃ z : Int, z = ((nx (nx st).2).1 : Int) := ⟨_, rfl⟩
  rw [← hn1]
  have HN1 := Lib.hid hn1
  clear hn1 ht HS1 p1 U
  have hsz1 : k1 < (csG.setIfInBounds k0 (.int .i64 n0)).size := by simpa using hk1
  have ck : _ = some ((csG.setIfInBounds k0 (.int .i64 n0))[k1]'hsz1) := (XG.cell k1).trans (Array.getElem?_eq_getElem hsz1)
  have fk := XG.free k1
  generalize ((csG.setIfInBounds k0 (.int .i64 n0))[k1]'hsz1) = old at ck
  have HS2 := Lib.hid (RS.setBlk (i := k1) (v := .int .i64 n1) hrs XG HUG1.out (Ne.symm hbG))
  have HUG2 := Lib.hid (HUG1.out.setInt k1 n1)
  have XN : Whl (v1.setCell ⟨G, k1, none⟩ (.int .i64 n1)) G TG ((csG.setIfInBounds k0 (.int .i64 n0)).setIfInBounds k1 (.int .i64 n1)) := Whl.set XG k1 (.int .i64 n1)
  have PN : Whl (v1.setCell ⟨G, k1, none⟩ (.int .i64 n1)) P 99 #[.pointer (some ⟨G, k0, none⟩), .pointer (some ⟨G, k1, none⟩), .pointer (some ⟨G, k2, none⟩), .pointer (some ⟨G, k3, none⟩)] := PP.far hPG
  have UN : Touch (fun x => x = b ∨ x = G) w (v1.setCell ⟨G, k1, none⟩ (.int .i64 n1)) := U1.set (fun _ => by simp)
  have hz1 : v1.heap.size = (v1.setCell ⟨G, k1, none⟩ (.int .i64 n1)).heap.size := by simp [World.setCell]
  clear hrs PP U1 hsz1 XG
  go_wp2_with fail
  generalize (v1.setCell ⟨G, k1, none⟩ (.int .i64 n1)) = V1 at *
  have XG := XN
  have PP := PN
  have U := Lib.hid UN
  clear ck fk XN PN UN  old
  rw [rounds_succ]
  have p2 := PP.cell 2
  simp only [List.getElem?_toArray, List.getElem?_cons_succ, List.getElem?_cons_zero] at p2
  go_wp2_with fail
  refine (octNxT b (nx (nx st).2).2 _ HS2.out).mono ?_
  rintro e v2 ⟨rfl, hrs, ht⟩
  have hl2 := ht.size
  replace XG := XG.tch ht (Ne.symm hbG)
  replace PP := PP.tch ht (Ne.symm hbP)
  have U1 := U.out.trans ht.touch (D := (fun x => x = b ∨ x = G)) (fun n _ e => Or.inl e)
  obtain ⟨n2, hn2⟩ : ∃ z : Int, z = ((nx (nx (nx st).2).2).1 : Int) := ⟨_, rfl⟩
  rw [← hn2]
  have HN2 := Lib.hid hn2
  clear hn2 ht HS2 p2 U
  have hsz2 : k2 < ((csG.setIfInBounds k0 (.int .i64 n0)).setIfInBounds k1 (.int .i64 n1)).size := by simpa using hk2
  have ck : _ = some (((csG.setIfInBounds k0 (.int .i64 n0)).setIfInBounds k1 (.int .i64 n1))[k2]'hsz2) := (XG.cell k2).trans (Array.getElem?_eq_getElem hsz2)
  have fk := XG.free k2
  generalize (((csG.setIfInBounds k0 (.int .i64 n0)).setIfInBounds k1 (.int .i64 n1))[k2]'hsz2) = old at ck
  have HS3 := Lib.hid (RS.setBlk (i := k2) (v := .int .i64 n2) hrs XG HUG2.out (Ne.symm hbG))
  have HUG3 := Lib.hid (HUG2.out.setInt k2 n2)
  have XN : Whl (v2.setCell ⟨G, k2, none⟩ (.int .i64 n2)) G TG (((csG.setIfInBounds k0 (.int .i64 n0)).setIfInBounds k1 (.int .i64 n1)).setIfInBounds k2 (.int .i64 n2)) := Whl.set XG k2 (.int .i64 n2)
  have PN : Whl (v2.setCell ⟨G, k2, none⟩ (.int .i64 n2)) P 99 #[.pointer (some ⟨G, k0, none⟩), .pointer (some ⟨G, k1, none⟩), .pointer (some ⟨G, k2, none⟩), .pointer (some ⟨G, k3, none⟩)] := PP.far hPG
  have UN : Touch (fun x => x = b ∨ x = G) w (v2.setCell ⟨G, k2, none⟩ (.int .i64 n2)) := U1.set (fun _ => by simp)
  have hz2 : v2.heap.size = (v2.setCell ⟨G, k2, none⟩ (.int .i64 n2)).heap.size := by simp [World.setCell]
  clear hrs PP U1 hsz2 XG
  go_wp2_with fail
  generalize (v2.setCell ⟨G, k2, none⟩ (.int .i64 n2)) = V2 at *
  have XG := XN
  have PP := PN
  have U := Lib.hid UN
  clear ck fk XN PN UN  old
  rw [rounds_succ]
  have p3 := PP.cell 3
  simp only [List.getElem?_toArray, List.getElem?_cons_succ, List.getElem?_cons_zero] at p3
  go_wp2_with fail
  refine (octNxT b (nx (nx (nx st).2).2).2 _ HS3.out).mono ?_
  rintro e v3 ⟨rfl, hrs, ht⟩
  have hl3 := ht.size
  replace XG := XG.tch ht (Ne.symm hbG)
  replace PP := PP.tch ht (Ne.symm hbP)
  have U1 := U.out.trans ht.touch (D := (fun x => x = b ∨ x = G)) (fun n _ e => Or.inl e)
  obtain ⟨n3, hn3⟩ : ∃ z : Int, z = ((nx (nx (nx (nx st).2).2).2).1 : Int) := ⟨_, rfl⟩
  rw [← hn3]
  have HN3 := Lib.hid hn3
  clear hn3 ht HS3 p3 U
  have hsz3 : k3 < (((csG.setIfInBounds k0 (.int .i64 n0)).setIfInBounds k1 (.int .i64 n1)).setIfInBounds k2 (.int .i64 n2)).size := by simpa using hk3
  have ck : _ = some ((((csG.setIfInBounds k0 (.int .i64 n0)).setIfInBounds k1 (.int .i64 n1)).setIfInBounds k2 (.int .i64 n2))[k3]'hsz3) := (XG.cell k3).trans (Array.getElem?_eq_getElem hsz3)
  have fk := XG.free k3
  generalize ((((csG.setIfInBounds k0 (.int .i64 n0)).setIfInBounds k1 (.int .i64 n1)).setIfInBounds k2 (.int .i64 n2))[k3]'hsz3) = old at ck
  have HS4 := Lib.hid (RS.setBlk (i := k3) (v := .int .i64 n3) hrs XG HUG3.out (Ne.symm hbG))
  have HUG4 := Lib.hid (HUG3.out.setInt k3 n3)
  have XN : Whl (v3.setCell ⟨G, k3, none⟩ (.int .i64 n3)) G TG ((((csG.setIfInBounds k0 (.int .i64 n0)).setIfInBounds k1 (.int .i64 n1)).setIfInBounds k2 (.int .i64 n2)).setIfInBounds k3 (.int .i64 n3)) := Whl.set XG k3 (.int .i64 n3)
  have PN : Whl (v3.setCell ⟨G, k3, none⟩ (.int .i64 n3)) P 99 #[.pointer (some ⟨G, k0, none⟩), .pointer (some ⟨G, k1, none⟩), .pointer (some ⟨G, k2, none⟩), .pointer (some ⟨G, k3, none⟩)] := PP.far hPG
  have UN : Touch (fun x => x = b ∨ x = G) w (v3.setCell ⟨G, k3, none⟩ (.int .i64 n3)) := U1.set (fun _ => by simp)
  have hz3 : v3.heap.size = (v3.setCell ⟨G, k3, none⟩ (.int .i64 n3)).heap.size := by simp [World.setCell]
  clear hrs PP U1 hsz3 XG
  go_wp2_with fail
  generalize (v3.setCell ⟨G, k3, none⟩ (.int .i64 n3)) = V3 at *
  have XG := XN
  have PP := PN
  have U := Lib.hid UN
  clear ck fk XN PN UN  old
  rw [rounds_succ]
  rw [HN0.out, HN1.out, HN2.out, HN3.out] at XG
  have HXG := Lib.hid XG
  clear PP XG
  go_wp2_with fail
  refine bodyPost_end (v := .tuple #[]) (by simp [results, Tryz.results47, go_sem]) rfl ⟨rfl, HS4.out, HXG.out, U.out⟩
set_option maxHeartbeats 4000000 in
set_option maxRecDepth 10000 in
theorem octNums3 (b P G H k0 k1 k2 c : Nat) (csG : Array Value) (TG : TypeId) (csH : Array Value) (TH : TypeId) (st : Option (List Nat)) (w : World) (hr : RS w b st) (hPt : Whl w P 99 #[.pointer (some ⟨G, k0, none⟩), .pointer (some ⟨G, k1, none⟩), .pointer (some ⟨H, k2, none⟩)]) (hG : Whl w G TG csG) (huG : noU8 csG) (hH : Whl w H TH csH) (huH : noU8 csH) (hk0 : k0 < csG.size) (hk1 : k1 < csG.size) (hk2 : k2 < csH.size) (hbP : b ≠ P) (hbG : b ≠ G) (hPG : P ≠ G) (hbH : b ≠ H) (hPH : P ≠ H) (hGG : G ≠ H) :
    Calls Tryz.prog 47 #[.pointer (some ⟨b, 0, none⟩), .slice (some ⟨P, 0, none⟩) 3 c] w fun e w' => e = .returned (.tuple #[]) ∧ RS w' b (nx (nx (nx st).2).2).2 ∧ Whl w' G TG ((csG.setIfInBounds k0 (.int .i64 ((nx st).1 : Int))).setIfInBounds k1 (.int .i64 ((nx (nx st).2).1 : Int))) ∧ Whl w' H TH (csH.setIfInBounds k2 (.int .i64 ((nx (nx (nx st).2).2).1 : Int))) ∧ Touch (fun x => x = b ∨ x = G ∨ x = H) w w' := by
  have HS0 := Lib.hid hr
  have XG := hG
  have XH := hH
  have PP := hPt
  have HUG0 := Lib.hid huG
  have HUH0 := Lib.hid huH
  have U := Lib.hid (Touch.refl (fun x => x = b ∨ x = G ∨ x = H) w)
  have hlow := hr.low
  have hPl := hPt.low
  have hloG := hG.low
  have hloH := hH.low
  clear hr hPt hG huG hH huH
  go_enter Tryz.func47, Tryz.ntmps47
  go_wp2_with fail
  refine wp_loop_rounds 4 ?_
  rw [rounds_succ]
  have p0 := PP.cell 0
  simp only [List.getElem?_toArray, List.getElem?_cons_succ, List.getElem?_cons_zero] at p0
  go_wp2_with fail
  refine (octNxT b st _ HS0.out).mono ?_
  rintro e v0 ⟨rfl, hrs, ht⟩
  have hl0 := ht.size
  replace XG := XG.tch ht (Ne.symm hbG)
  replace XH := XH.tch ht (Ne.symm hbH)
  replace PP := PP.tch ht (Ne.symm hbP)
  have U1 := U.out.trans ht.touch (D := (fun x => x = b ∨ x = G ∨ x = H)) (fun n _ e => Or.inl e)
  obtain ⟨n0, hn0⟩ : ∃ z : Int, z = ((nx st).1 : Int) := ⟨_, rfl⟩
  rw [← hn0]
  have HN0 := Lib.hid hn0
  clear hn0 ht HS0 p0 U
  have hsz0 : k0 < csG.size := by simpa using hk0
  have ck : _ = some (csG[k0]'hsz0) := (XG.cell k0).trans (Array.getElem?_eq_getElem hsz0)
  have fk := XG.free k0
  generalize (csG[k0]'hsz0) = old at ck
  have HS1 := Lib.hid (RS.setBlk (i := k0) (v := .int .i64 n0) hrs XG HUG0.out (Ne.symm hbG))
  have HUG1 := Lib.hid (HUG0.out.setInt k0 n0)
  have XN : Whl (v0.setCell ⟨G, k0, none⟩ (.int .i64 n0)) G TG (csG.setIfInBounds k0 (.int .i64 n0)) := Whl.set XG k0 (.int .i64 n0)
  have PN : Whl (v0.setCell ⟨G, k0, none⟩ (.int .i64 n0)) P 99 #[.pointer (some ⟨G, k0, none⟩), .pointer (some ⟨G, k1, none⟩), .pointer (some ⟨H, k2, none⟩)] := PP.far hPG
  have ONH := XH.far (a := ⟨G, k0, none⟩) (v := .int .i64 n0) (Ne.symm hGG)
  have UN : Touch (fun x => x = b ∨ x = G ∨ x = H) w (v0.setCell ⟨G, k0, none⟩ (.int .i64 n0)) := U1.set (fun _ => by simp)
  have hz0 : v0.heap.size = (v0.setCell ⟨G, k0, none⟩ (.int .i64 n0)).heap.size := by simp [World.setCell]
  clear hrs PP U1 hsz0 XG XH
  go_wp2_with fail
  generalize (v0.setCell ⟨G, k0, none⟩ (.int .i64 n0)) = V0 at *
  have XG := XN
  have XH := ONH
  have PP := PN
  have U := Lib.hid UN
  clear ck fk XN PN UN ONH old
  rw [rounds_succ]
  have p1 := PP.cell 1
  simp only [List.getElem?_toArray, List.getElem?_cons_succ, List.getElem?_cons_zero] at p1
  go_wp2_with fail
  refine (octNxT b (nx st).2 _ HS1.out).mono ?_
  rintro e v1 ⟨rfl, hrs, ht⟩
  have hl1 := ht.size
  replace XG := XG.tch ht (Ne.symm hbG)
  replace XH := XH.tch ht (Ne.symm hbH)
  replace PP := PP.tch ht (Ne.symm hbP)
  have U1 := U.out.trans ht.touch (D := (fun x => x = b ∨ x = G ∨ x = H)) (fun n _ e => Or.inl e)
  obtain ⟨n1, hn1⟩ : ∃ z : Int, z = ((nx (nx st).2).1 : Int) := ⟨_, rfl⟩
  rw [← hn1]
  have HN1 := Lib.hid hn1
  clear hn1 ht HS1 p1 U
  have hsz1 : k1 < (csG.setIfInBounds k0 (.int .i64 n0)).size := by simpa using hk1
  have ck : _ = some ((csG.setIfInBounds k0 (.int .i64 n0))[k1]'hsz1) := (XG.cell k1).trans (Array.getElem?_eq_getElem hsz1)
  have fk := XG.free k1
  generalize ((csG.setIfInBounds k0 (.int .i64 n0))[k1]'hsz1) = old at ck
  have HS2 := Lib.hid (RS.setBlk (i := k1) (v := .int .i64 n1) hrs XG HUG1.out (Ne.symm hbG))
  have HUG2 := Lib.hid (HUG1.out.setInt k1 n1)
  have XN : Whl (v1.setCell ⟨G, k1, none⟩ (.int .i64 n1)) G TG ((csG.setIfInBounds k0 (.int .i64 n0)).setIfInBounds k1 (.int .i64 n1)) := Whl.set XG k1 (.int .i64 n1)
  have PN : Whl (v1.setCell ⟨G, k1, none⟩ (.int .i64 n1)) P 99 #[.pointer (some ⟨G, k0, none⟩), .pointer (some ⟨G, k1, none⟩), .pointer (some ⟨H, k2, none⟩)] := PP.far hPG
  have ONH := XH.far (a := ⟨G, k1, none⟩) (v := .int .i64 n1) (Ne.symm hGG)
  have UN : Touch (fun x => x = b ∨ x = G ∨ x = H) w (v1.setCell ⟨G, k1, none⟩ (.int .i64 n1)) := U1.set (fun _ => by simp)
  have hz1 : v1.heap.size = (v1.setCell ⟨G, k1, none⟩ (.int .i64 n1)).heap.size := by simp [World.setCell]
  clear hrs PP U1 hsz1 XG XH
  go_wp2_with fail
  generalize (v1.setCell ⟨G, k1, none⟩ (.int .i64 n1)) = V1 at *
  have XG := XN
  have XH := ONH
  have PP := PN
  have U := Lib.hid UN
  clear ck fk XN PN UN ONH old
  rw [rounds_succ]
  have p2 := PP.cell 2
  simp only [List.getElem?_toArray, List.getElem?_cons_succ, List.getElem?_cons_zero] at p2
  go_wp2_with fail
  refine (octNxT b (nx (nx st).2).2 _ HS2.out).mono ?_
  rintro e v2 ⟨rfl, hrs, ht⟩
  have hl2 := ht.size
  replace XG := XG.tch ht (Ne.symm hbG)
  replace XH := XH.tch ht (Ne.symm hbH)
  replace PP := PP.tch ht (Ne.symm hbP)
  have U1 := U.out.trans ht.touch (D := (fun x => x = b ∨ x = G ∨ x = H)) (fun n _ e => Or.inl e)
  obtain ⟨n2, hn2⟩ : ∃ z : Int, z = ((nx (nx (nx st).2).2).1 : Int) := ⟨_, rfl⟩
  rw [← hn2]
  have HN2 := Lib.hid hn2
  clear hn2 ht HS2 p2 U
  have hsz2 : k2 < csH.size := by simpa using hk2
  have ck : _ = some (csH[k2]'hsz2) := (XH.cell k2).trans (Array.getElem?_eq_getElem hsz2)
  have fk := XH.free k2
  generalize (csH[k2]'hsz2) = old at ck
  have HS3 := Lib.hid (RS.setBlk (i := k2) (v := .int .i64 n2) hrs XH HUH0.out (Ne.symm hbH))
  have HUH3 := Lib.hid (HUH0.out.setInt k2 n2)
  have XN : Whl (v2.setCell ⟨H, k2, none⟩ (.int .i64 n2)) H TH (csH.setIfInBounds k2 (.int .i64 n2)) := Whl.set XH k2 (.int .i64 n2)
  have PN : Whl (v2.setCell ⟨H, k2, none⟩ (.int .i64 n2)) P 99 #[.pointer (some ⟨G, k0, none⟩), .pointer (some ⟨G, k1, none⟩), .pointer (some ⟨H, k2, none⟩)] := PP.far hPH
  have ONG := XG.far (a := ⟨H, k2, none⟩) (v := .int .i64 n2) hGG
  have UN : Touch (fun x => x = b ∨ x = G ∨ x = H) w (v2.setCell ⟨H, k2, none⟩ (.int .i64 n2)) := U1.set (fun _ => by simp)
  have hz2 : v2.heap.size = (v2.setCell ⟨H, k2, none⟩ (.int .i64 n2)).heap.size := by simp [World.setCell]
  clear hrs PP U1 hsz2 XG XH
  go_wp2_with fail
  generalize (v2.setCell ⟨H, k2, none⟩ (.int .i64 n2)) = V2 at *
  have XH := XN
  have XG := ONG
  have PP := PN
  have U := Lib.hid UN
  clear ck fk XN PN UN ONG old
  rw [rounds_succ]
  rw [HN0.out, HN1.out] at XG
  rw [HN2.out] at XH
  have HXG := Lib.hid XG
  have HXH := Lib.hid XH
  clear PP XG XH
  go_wp2_with fail
  refine bodyPost_end (v := .tuple #[]) (by simp [results, Tryz.results47, go_sem]) rfl ⟨rfl, HS3.out, HXG.out, HXH.out, U.out⟩
end Go.Proofs.YtepjehcmiofehaaGreat
