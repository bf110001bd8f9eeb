/- vault: Readers once more; the code's Nums into two blocks. -/
import Derived.Test.YtdlbiobjnohfbaaGreatVd25
namespace Go.Proofs.YtdlbiobjnohfbaaGreat
open Go.RowKit
set_option linter.unusedVariables false
set_option linter.unusedSimpArgs false
theorem Tch.touch {b : Nat} {w w' : World} (h : Tch b w w') : Touch (fun k => k = b) w w' := ⟨h.os, h.tape, h.output, h.size, fun k hk hn => h.block k hk hn⟩
theorem Whl.tou {D : Nat → Prop} {w w' : World} {g : Nat} {t : TypeId} {cs : Array Value} (h : Whl w g t cs) (hb : Touch D w w') (hD : ¬ D g) : Whl w' g t cs := (hb.block g h.low hD).trans h
theorem Whl.tch {w w' : World} {g b : Nat} {t : TypeId} {cs : Array Value} (h : Whl w g t cs) (hb : Tch b w w') (hB : g ≠ b) : Whl w' g t cs := (hb.block g h.low hB).trans h
theorem RS.fresh {w w' : World} {b : Nat} {st : Option (List Nat)} (h : RS w b st) (hb : Below w.heap.size w w') : RS w' b st := h.below hb h.low
theorem tchSet {b H : Nat} {w w' : World} (h : Tch b w w') (hH : w.heap.size ≤ H) (j : Nat) (v : Value) : Tch b w (w'.setCell ⟨H, j, none⟩ v) := ⟨h.os, h.tape, h.output, by simpa [World.setCell] using h.size, fun k hk hn => (Below.heap_setCell _ _ _ _ (by simp; omega)).trans (h.block k hk hn)⟩
theorem noU8.setInt {cs : Array Value} (h : noU8 cs) (i : Nat) (n : Int) : noU8 (cs.setIfInBounds i (.int .i64 n)) := by
  intro j x e
  rw [Array.getElem?_setIfInBounds] at e
  split at e
  · split at e <;> simp at e
  · exact h _ _ e
theorem octBadV (b : Nat) (st : Option (List Nat)) (w : World) (hr : RS w b st) :
    Calls Tryz.prog 79 #[.pointer (some ⟨b, 0, none⟩)] w fun e w' => e = .returned (.tuple #[]) ∧ RS w' b none ∧ Tch b w w' :=
  (rdBadT b _ _ w hr.rd).mono fun e w' ⟨he, h1, h2⟩ => ⟨he, RS.bad h1, h2⟩
theorem octGoodV (b : Nat) (st : Option (List Nat)) (w : World) (hr : RS w b st) :
    Calls Tryz.prog 77 #[.pointer (some ⟨b, 0, none⟩)] w fun e w' => e = .returned (.bool (!st.isNone)) ∧ w = w' := rdGood b _ _ w hr.rd
/-- a change of blocks that hold no bytes leaves a Reader as it is -/
theorem RS.touchV {w w' : World} {b : Nat} {st : Option (List Nat)} {D : Nat → Prop} (h : RS w b st) (ht : Touch D w w') (hD : ∀ k, D k → k ≠ b ∧ ∀ (o : Nat) (x : Int), w.cell? ⟨k, o, none⟩ ≠ some (.int .u8 x)) : RS w' b st := by
  obtain ⟨A, c, h0, h1, h2, h3⟩ := h.rd.row
  have hb : ¬ D b := fun hd => (hD b hd).1 rfl
  have hlow := h.low
  refine ⟨⟨⟨A, c, ht.cell h0 hb, h1, h2, h3.1, h3.2.1, fun j u hu => ?_⟩, ht.cell h.rd.flag hb, fun j => ht.frozen hlow (h.rd.free j) hb, Nat.lt_of_lt_of_le hlow ht.size⟩, h.len, h.byt⟩
  obtain ⟨q, o, e, hq, hc⟩ := h3.2.2 j u hu
  refine ⟨q, o, e, hq, ht.cell hc (fun hd => ?_)⟩
  obtain ⟨x, rfl⟩ := flatU_is hu
  exact (hD q hd).2 _ _ hc
set_option maxHeartbeats 4000000 in
set_option maxRecDepth 10000 in
theorem octNumsV (b P G H k0 k1 k2 k3 c : Nat) (csG : Array Value) (TG : TypeId) (csH : Array Value) (TH : TypeId) (st : Option (List Nat)) (w : World) (hr : RS w b st) (hPt : Whl w P 141 #[.pointer (some ⟨G, k0, none⟩), .pointer (some ⟨H, k1, none⟩), .pointer (some ⟨H, k2, none⟩), .pointer (some ⟨H, k3, none⟩)]) (hG : Whl w G TG csG) (huG : noU8 csG) (hH : Whl w H TH csH) (huH : noU8 csH) (hk0 : k0 < csG.size) (hk1 : k1 < csH.size) (hk2 : k2 < csH.size) (hk3 : k3 < csH.size) (hbP : b ≠ P) (hbG : b ≠ G) (hPG : P ≠ G) (hbH : b ≠ H) (hPH : P ≠ H) (hGG : G ≠ H) :
    Calls Tryz.prog 80 #[.pointer (some ⟨b, 0, none⟩), .slice (some ⟨P, 0, none⟩) 4 c] w fun e w' => e = .returned (.tuple #[]) ∧ RS w' b (nx (nx (nx (nx st).2).2).2).2 ∧ Whl w' G TG (csG.setIfInBounds k0 (.int .i64 ((nx st).1 : Int))) ∧ Whl w' H TH (((csH.setIfInBounds k1 (.int .i64 ((nx (nx st).2).1 : Int))).setIfInBounds k2 (.int .i64 ((nx (nx (nx st).2).2).1 : Int))).setIfInBounds k3 (.int .i64 ((nx (nx (nx (nx st).2).2).2).1 : Int))) ∧ Touch (fun x => x = b ∨ x = G ∨ x = H) w w' := by
  have HS0 := Lib.hid hr
  have XG := hG
  have XH := hH
  have PP := hPt
  have HUG0 := Lib.hid huG
  have HUH0 := Lib.hid huH
  have U := Lib.hid (Touch.refl (fun x => x = b ∨ x = G ∨ x = H) w)
  have hlow := hr.low
  have hPl := hPt.low
  have hloG := hG.low
  have hloH := hH.low
  clear hr hPt hG huG hH huH
  go_enter Tryz.func80, Tryz.ntmps80
  go_wp2_with fail
  refine wp_loop_rounds 5 ?_
  rw [rounds_succ]
  have p0 := PP.cell 0
  simp only [List.getElem?_toArray, List.getElem?_cons_succ, List.getElem?_cons_zero] at p0
  go_wp2_with fail
  refine (octNxT b st _ HS0.out).mono ?_
  rintro e v0 ⟨rfl, hrs, ht⟩
  have hl0 := ht.size
  replace XG := XG.tch ht (Ne.symm hbG)
  replace XH := XH.tch ht (Ne.symm hbH)
  replace PP := PP.tch ht (Ne.symm hbP)
  have U1 := U.out.trans ht.touch (D := (fun x => x = b ∨ x = G ∨ x = H)) (fun n _ e => Or.inl e)
  obtain ⟨n0, hn0⟩ : ∃ z : Int, z = ((nx st).1 : Int) := ⟨_, rfl⟩
  rw [← hn0]
  have HN0 := Lib.hid hn0
  clear hn0 ht HS0 p0 U
  have hsz0 : k0 < csG.size := by simpa using hk0
  have ck : _ = some (csG[k0]'hsz0) := (XG.cell k0).trans (Array.getElem?_eq_getElem hsz0)
  have fk := XG.free k0
  generalize (csG[k0]'hsz0) = old at ck
  have HS1 := Lib.hid (RS.setBlk (i := k0) (v := .int .i64 n0) hrs XG HUG0.out (Ne.symm hbG))
  have HUG1 := Lib.hid (HUG0.out.setInt k0 n0)
  have XN : Whl (v0.setCell ⟨G, k0, none⟩ (.int .i64 n0)) G TG (csG.setIfInBounds k0 (.int .i64 n0)) := Whl.set XG k0 (.int .i64 n0)
  have PN : Whl (v0.setCell ⟨G, k0, none⟩ (.int .i64 n0)) P 141 #[.pointer (some ⟨G, k0, none⟩), .pointer (some ⟨H, k1, none⟩), .pointer (some ⟨H, k2, none⟩), .pointer (some ⟨H, k3, none⟩)] := PP.far hPG
  have ONH := XH.far (a := ⟨G, k0, none⟩) (v := .int .i64 n0) (Ne.symm hGG)
  have UN : Touch (fun x => x = b ∨ x = G ∨ x = H) w (v0.setCell ⟨G, k0, none⟩ (.int .i64 n0)) := U1.set (fun _ => by simp)
  have hz0 : v0.heap.size = (v0.setCell ⟨G, k0, none⟩ (.int .i64 n0)).heap.size := by simp [World.setCell]
  clear hrs PP U1 hsz0 XG XH
  go_wp2_with fail
  generalize (v0.setCell ⟨G, k0, none⟩ (.int .i64 n0)) = V0 at *
  have XG := XN
  have XH := ONH
  have PP := PN
  have U := Lib.hid UN
  clear ck fk XN PN UN ONH old
  rw [rounds_succ]
  have p1 := PP.cell 1
  simp only [List.getElem?_toArray, List.getElem?_cons_succ, List.getElem?_cons_zero] at p1
  go_wp2_with fail
  refine (octNxT b (nx st).2 _ HS1.out).mono ?_
  rintro e v1 ⟨rfl, hrs, ht⟩
  have hl1 := ht.size
  replace XG := XG.tch ht (Ne.symm hbG)
  replace XH := XH.tch ht (Ne.symm hbH)
  replace PP := PP.tch ht (Ne.symm hbP)
  have U1 := U.out.trans ht.touch (D := (fun x => x = b ∨ x = G ∨ x = H)) (fun n _ e => Or.inl e)
  obtain ⟨n1, hn1⟩ : ∃ z : Int, z = ((nx (nx st).2).1 : Int) := ⟨_, rfl⟩
  rw [← hn1]
  have HN1 := Lib.hid hn1
  clear hn1 ht HS1 p1 U
  have hsz1 : k1 < csH.size := by simpa using hk1
  have ck : _ = some (csH[k1]'hsz1) := (XH.cell k1).trans (Array.getElem?_eq_getElem hsz1)
  have fk := XH.free k1
  generalize (csH[k1]'hsz1) = old at ck
  have HS2 := Lib.hid (RS.setBlk (i := k1) (v := .int .i64 n1) hrs XH HUH0.out (Ne.symm hbH))
  have HUH2 := Lib.hid (HUH0.out.setInt k1 n1)
  have XN : Whl (v1.setCell ⟨H, k1, none⟩ (.int .i64 n1)) H TH (csH.setIfInBounds k1 (.int .i64 n1)) := Whl.set XH k1 (.int .i64 n1)
  have PN : Whl (v1.setCell ⟨H, k1, none⟩ (.int .i64 n1)) P 141 #[.pointer (some ⟨G, k0, none⟩), .pointer (some ⟨H, k1, none⟩), .pointer (some ⟨H, k2, none⟩), .pointer (some ⟨H, k3, none⟩)] := PP.far hPH
  have ONG := XG.far (a := ⟨H, k1, none⟩) (v := .int .i64 n1) hGG
  have UN : Touch (fun x => x = b ∨ x = G ∨ x = H) w (v1.setCell ⟨H, k1, none⟩ (.int .i64 n1)) := U1.set (fun _ => by simp)
  have hz1 : v1.heap.size = (v1.setCell ⟨H, k1, none⟩ (.int .i64 n1)).heap.size := by simp [World.setCell]
  clear hrs PP U1 hsz1 XG XH
  go_wp2_with fail
  generalize (v1.setCell ⟨H, k1, none⟩ (.int .i64 n1)) = V1 at *
  have XH := XN
  have XG := ONG
  have PP := PN
  have U := Lib.hid UN
  clear ck fk XN PN UN ONG old
  rw [rounds_succ]
  have p2 := PP.cell 2
  simp only [List.getElem?_toArray, List.getElem?_cons_succ, List.getElem?_cons_zero] at p2
  go_wp2_with fail
  refine (octNxT b (nx (nx st).2).2 _ HS2.out).mono ?_
  rintro e v2 ⟨rfl, hrs, ht⟩
  have hl2 := ht.size
  replace XG := XG.tch ht (Ne.symm hbG)
  replace XH := XH.tch ht (Ne.symm hbH)
  replace PP := PP.tch ht (Ne.symm hbP)
  have U1 := U.out.trans ht.touch (D := (fun x => x = b ∨ x = G ∨ x = H)) (fun n _ e => Or.inl e)
  obtain ⟨n2, hn2⟩ : ∃ z : Int, z = ((nx (nx (nx st).2).2).1 : Int) := ⟨_, rfl⟩
  rw [← hn2]
  have HN2 := Lib.hid hn2
  clear hn2 ht HS2 p2 U
  have hsz2 : k2 < (csH.setIfInBounds k1 (.int .i64 n1)).size := by simpa using hk2
  have ck : _ = some ((csH.setIfInBounds k1 (.int .i64 n1))[k2]'hsz2) := (XH.cell k2).trans (Array.getElem?_eq_getElem hsz2)
  have fk := XH.free k2
  generalize ((csH.setIfInBounds k1 (.int .i64 n1))[k2]'hsz2) = old at ck
  have HS3 := Lib.hid (RS.setBlk (i := k2) (v := .int .i64 n2) hrs XH HUH2.out (Ne.symm hbH))
  have HUH3 := Lib.hid (HUH2.out.setInt k2 n2)
  have XN : Whl (v2.setCell ⟨H, k2, none⟩ (.int .i64 n2)) H TH ((csH.setIfInBounds k1 (.int .i64 n1)).setIfInBounds k2 (.int .i64 n2)) := Whl.set XH k2 (.int .i64 n2)
  have PN : Whl (v2.setCell ⟨H, k2, none⟩ (.int .i64 n2)) P 141 #[.pointer (some ⟨G, k0, none⟩), .pointer (some ⟨H, k1, none⟩), .pointer (some ⟨H, k2, none⟩), .pointer (some ⟨H, k3, none⟩)] := PP.far hPH
  have ONG := XG.far (a := ⟨H, k2, none⟩) (v := .int .i64 n2) hGG
  have UN : Touch (fun x => x = b ∨ x = G ∨ x = H) w (v2.setCell ⟨H, k2, none⟩ (.int .i64 n2)) := U1.set (fun _ => by simp)
  have hz2 : v2.heap.size = (v2.setCell ⟨H, k2, none⟩ (.int .i64 n2)).heap.size := by simp [World.setCell]
  clear hrs PP U1 hsz2 XG XH
  go_wp2_with fail
  generalize (v2.setCell ⟨H, k2, none⟩ (.int .i64 n2)) = V2 at *
  have XH := XN
  have XG := ONG
  have PP := PN
  have U := Lib.hid UN
  clear ck fk XN PN UN ONG old
  rw [rounds_succ]
  have p3 := PP.cell 3
  simp only [List.getElem?_toArray, List.getElem?_cons_succ, List.getElem?_cons_zero] at p3
  go_wp2_with fail
  refine (octNxT b (nx (nx (nx st).2).2).2 _ HS3.out).mono ?_
  rintro e v3 ⟨rfl, hrs, ht⟩
  have hl3 := ht.size
  replace XG := XG.tch ht (Ne.symm hbG)
  replace XH := XH.tch ht (Ne.symm hbH)
  replace PP := PP.tch ht (Ne.symm hbP)
  have U1 := U.out.trans ht.touch (D := (fun x => x = b ∨ x = G ∨ x = H)) (fun n _ e => Or.inl e)
  obtain ⟨n3, hn3⟩ : ∃ z : Int, z = ((nx (nx (nx (nx st).2).2).2).1 : Int) := ⟨_, rfl⟩
  rw [← hn3]
  have HN3 := Lib.hid hn3
  clear hn3 ht HS3 p3 U
  have hsz3 : k3 < ((csH.setIfInBounds k1 (.int .i64 n1)).setIfInBounds k2 (.int .i64 n2)).size := by simpa using hk3
  have ck : _ = some (((csH.setIfInBounds k1 (.int .i64 n1)).setIfInBounds k2 (.int .i64 n2))[k3]'hsz3) := (XH.cell k3).trans (Array.getElem?_eq_getElem hsz3)
  have fk := XH.free k3
  generalize (((csH.setIfInBounds k1 (.int .i64 n1)).setIfInBounds k2 (.int .i64 n2))[k3]'hsz3) = old at ck
  have HS4 := Lib.hid (RS.setBlk (i := k3) (v := .int .i64 n3) hrs XH HUH3.out (Ne.symm hbH))
  have HUH4 := Lib.hid (HUH3.out.setInt k3 n3)
  have XN : Whl (v3.setCell ⟨H, k3, none⟩ (.int .i64 n3)) H TH (((csH.setIfInBounds k1 (.int .i64 n1)).setIfInBounds k2 (.int .i64 n2)).setIfInBounds k3 (.int .i64 n3)) := Whl.set XH k3 (.int .i64 n3)
  have PN : Whl (v3.setCell ⟨H, k3, none⟩ (.int .i64 n3)) P 141 #[.pointer (some ⟨G, k0, none⟩), .pointer (some ⟨H, k1, none⟩), .pointer (some ⟨H, k2, none⟩), .pointer (some ⟨H, k3, none⟩)] := PP.far hPH
  have ONG := XG.far (a := ⟨H, k3, none⟩) (v := .int .i64 n3) hGG
  have UN : Touch (fun x => x = b ∨ x = G ∨ x = H) w (v3.setCell ⟨H, k3, none⟩ (.int .i64 n3)) := U1.set (fun _ => by simp)
  have hz3 : v3.heap.size = (v3.setCell ⟨H, k3, none⟩ (.int .i64 n3)).heap.size := by simp [World.setCell]
  clear hrs PP U1 hsz3 XG XH
  go_wp2_with fail
  generalize (v3.setCell ⟨H, k3, none⟩ (.int .i64 n3)) = V3 at *
  have XH := XN
  have XG := ONG
  have PP := PN
  have U := Lib.hid UN
  clear ck fk XN PN UN ONG old
  rw [rounds_succ]
  rw [HN0.out] at XG
  rw [HN1.out, HN2.out, HN3.out] at XH
  have HXG := Lib.hid XG
  have HXH := Lib.hid XH
  clear PP XG XH
  go_wp2_with fail
  refine bodyPost_end (v := .tuple #[]) (by simp [results, Tryz.results80, go_sem]) rfl ⟨rfl, HS4.out, HXG.out, HXH.out, U.out⟩
end Go.Proofs.YtdlbiobjnohfbaaGreat
