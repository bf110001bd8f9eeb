/- vault: Readers once more; the code's Nums into two blocks. slices.SortFunc on orders, by their numbers. -/
import Derived.Test.YtdlbiobjnohfbaaGreatLay
import Derived.Shelf.SlSortCmp.NoneTotal
import Derived.Test.YtdlbiobjnohfbaaGreatVb21
namespace Go.Proofs.YtdlbiobjnohfbaaGreat
open Go.RowKit
set_option linter.unusedVariables false
set_option linter.unusedSimpArgs false
theorem Tch.touch {b : Nat} {w w' : World} (h : Tch b w w') : Touch (fun k => k = b) w w' := ⟨h.os, h.tape, h.output, h.size, fun k hk hn => h.block k hk hn⟩
theorem Whl.tch {w w' : World} {g b : Nat} {t : TypeId} {cs : Array Value} (h : Whl w g t cs) (hb : Tch b w w') (hB : g ≠ b) : Whl w' g t cs := (hb.block g h.low hB).trans h
theorem RS.fresh {w w' : World} {b : Nat} {st : Option (List Nat)} (h : RS w b st) (hb : Below w.heap.size w w') : RS w' b st := h.below hb h.low
theorem noU8.setInt {cs : Array Value} (h : noU8 cs) (i : Nat) (n : Int) : noU8 (cs.setIfInBounds i (.int .i64 n)) := by
 intro j x e
 rw [Array.getElem?_setIfInBounds] at e
 split at e
 · split at e <;> simp at e
 · exact h _ _ e
theorem octBadV (b : Nat) (st : Option (List Nat)) (w : World) (hr : RS w b st) :
  Calls Tryz.prog 79 #[.pointer (some ⟨b, 0, none⟩)] w fun e w' => e = .returned (.tuple #[]) ∧ RS w' b none ∧ Tch b w w' :=
 (rdBadT b _ _ w hr.rd).mono fun e w' ⟨he, h1, h2⟩ => ⟨he, RS.bad h1, h2⟩
theorem octGoodV (b : Nat) (st : Option (List Nat)) (w : World) (hr : RS w b st) :
  Calls Tryz.prog 77 #[.pointer (some ⟨b, 0, none⟩)] w fun e w' => e = .returned (.bool (!st.isNone)) ∧ w = w' := rdGood b _ _ w hr.rd
theorem RS.touchV {w w' : World} {b : Nat} {st : Option (List Nat)} {D : Nat → Prop} (h : RS w b st) (ht : Touch D w w') (hD : ∀ k, D k → k ≠ b ∧ ∀ (o : Nat) (x : Int), w.cell? ⟨k, o, none⟩ ≠ some (.int .u8 x)) : RS w' b st := by
 obtain ⟨A, c, h0, h1, h2, h3⟩ := h.rd.row
 have hb : ¬ D b := fun hd => (hD b hd).1 rfl
 have hlow := h.low
 refine ⟨⟨⟨A, c, ht.cell h0 hb, h1, h2, h3.1, h3.2.1, fun j u hu => ?_⟩, ht.cell h.rd.flag hb, fun j => ht.frozen hlow (h.rd.free j) hb, Nat.lt_of_lt_of_le hlow ht.size⟩, h.len, h.byt⟩
 obtain ⟨q, o, e, hq, hc⟩ := h3.2.2 j u hu
 refine ⟨q, o, e, hq, ht.cell hc (fun hd => ?_)⟩
 obtain ⟨x, rfl⟩ := flatU_is hu
 exact (hD q hd).2 _ _ hc
set_option maxHeartbeats 4000000 in
set_option maxRecDepth 10000 in
theorem octNumsV (b P G H k0 k1 k2 k3 c : Nat) (csG : Array Value) (TG : TypeId) (csH : Array Value) (TH : TypeId) (st : Option (List Nat)) (w : World) (hr : RS w b st) (hPt : Whl w P 141 #[.pointer (some ⟨G, k0, none⟩), .pointer (some ⟨H, k1, none⟩), .pointer (some ⟨H, k2, none⟩), .pointer (some ⟨H, k3, none⟩)]) (hG : Whl w G TG csG) (huG : noU8 csG) (hH : Whl w H TH csH) (huH : noU8 csH) (hk0 : k0 < csG.size) (hk1 : k1 < csH.size) (hk2 : k2 < csH.size) (hk3 : k3 < csH.size) (hbP : b ≠ P) (hbG : b ≠ G) (hPG : P ≠ G) (hbH : b ≠ H) (hPH : P ≠ H) (hGG : G ≠ H) :
  Calls Tryz.prog 80 #[.pointer (some ⟨b, 0, none⟩), .slice (some ⟨P, 0, none⟩) 4 c] w fun e w' => e = .returned (.tuple #[]) ∧ RS w' b (nx (nx (nx (nx st).2).2).2).2 ∧ Whl w' G TG (csG.setIfInBounds k0 (.int .i64 ((nx st).1 : Int))) ∧ Whl w' H TH (((csH.setIfInBounds k1 (.int .i64 ((nx (nx st).2).1 : Int))).setIfInBounds k2 (.int .i64 ((nx (nx (nx st).2).2).1 : Int))).setIfInBounds k3 (.int .i64 ((nx (nx (nx (nx st).2).2).2).1 : Int))) ∧ Touch (fun x => x = b ∨ x = G ∨ x = H) w w' := by
 have HS0 := Lib.hid hr
 have XG := hG
 have XH := hH
 have PP := hPt
 have HUG0 := Lib.hid huG
 have HUH0 := Lib.hid huH
 have U := Lib.hid (Touch.refl (fun x => x = b ∨ x = G ∨ x = H) w)
 have hlow := hr.low
 have hPl := hPt.low
 have hloG := hG.low
 have hloH := hH.low
 clear hr hPt hG huG hH huH
 go_enter Tryz.func80, Tryz.ntmps80
 go_wp2_with fail
 refine wp_loop_rounds 5 ?_
 rw [rounds_succ]
 have p0 := PP.cell 0
 simp only [List.getElem?_toArray, List.getElem?_cons_succ, List.getElem?_cons_zero] at p0
 go_wp2_with fail
 refine (octNxT b st _ HS0.out).mono ?_
 rintro e v0 ⟨rfl, hrs, ht⟩
 have hl0 := ht.size
 replace XG := XG.tch ht (Ne.symm hbG)
 replace XH := XH.tch ht (Ne.symm hbH)
 replace PP := PP.tch ht (Ne.symm hbP)
 have U1 := U.out.trans ht.touch (D := (fun x => x = b ∨ x = G ∨ x = H)) (fun n _ e => Or.inl e)
 obtain ⟨n0, hn0⟩ : ∃ z : Int, z = ((nx st).1 : Int) := ⟨_, rfl⟩
 rw [← hn0]
 have HN0 := Lib.hid hn0
 clear hn0 ht HS0 p0 U
 have hsz0 : k0 < csG.size := by simpa using hk0
 have ck : _ = some (csG[k0]'hsz0) := (XG.cell k0).trans (Array.getElem?_eq_getElem hsz0)
 have fk := XG.free k0
 generalize (csG[k0]'hsz0) = old at ck
 have HS1 := Lib.hid (RS.setBlk (i := k0) (v := .int .i64 n0) hrs XG HUG0.out (Ne.symm hbG))
 have HUG1 := Lib.hid (HUG0.out.setInt k0 n0)
 have XN : Whl (v0.setCell ⟨G, k0, none⟩ (.int .i64 n0)) G TG (csG.setIfInBounds k0 (.int .i64 n0)) := Whl.set XG k0 (.int .i64 n0)
 have PN : Whl (v0.setCell ⟨G, k0, none⟩ (.int .i64 n0)) P 141 #[.pointer (some ⟨G, k0, none⟩), .pointer (some ⟨H, k1, none⟩), .pointer (some ⟨H, k2, none⟩), .pointer (some ⟨H, k3, none⟩)] := PP.far hPG
 have ONH := XH.far (a := ⟨G, k0, none⟩) (v := .int .i64 n0) (Ne.symm hGG)
 have UN : Touch (fun x => x = b ∨ x = G ∨ x = H) w (v0.setCell ⟨G, k0, none⟩ (.int .i64 n0)) := U1.set (fun _ => by simp)
 have hz0 : v0.heap.size = (v0.setCell ⟨G, k0, none⟩ (.int .i64 n0)).heap.size := by simp [World.setCell]
 clear hrs PP U1 hsz0 XG XH
 go_wp2_with fail
 generalize (v0.setCell ⟨G, k0, none⟩ (.int .i64 n0)) = V0 at *
 have XG := XN
 have XH := ONH
 have PP := PN
 have U := Lib.hid UN
 clear ck fk XN PN UN ONH old
 rw [rounds_succ]
 have p1 := PP.cell 1
 simp only [List.getElem?_toArray, List.getElem?_cons_succ, List.getElem?_cons_zero] at p1
 go_wp2_with fail
 refine (octNxT b (nx st).2 _ HS1.out).mono ?_
 rintro e v1 ⟨rfl, hrs, ht⟩
 have hl1 := ht.size
 replace XG := XG.tch ht (Ne.symm hbG)
 replace XH := XH.tch ht (Ne.symm hbH)
 replace PP := PP.tch ht (Ne.symm hbP)
 have U1 := U.out.trans ht.touch (D := (fun x => x = b ∨ x = G ∨ x = H)) (fun n _ e => Or.inl e)
 obtain ⟨n1, hn1⟩ : ∃ z : Int, z = ((nx (nx st).2).1 : Int) := ⟨_, rfl⟩
 rw [← hn1]
 have HN1 := Lib.hid hn1
 clear hn1 ht HS1 p1 U
 have hsz1 : k1 < csH.size := by simpa using hk1
 have ck : _ = some (csH[k1]'hsz1) := (XH.cell k1).trans (Array.getElem?_eq_getElem hsz1)
 have fk := XH.free k1
 generalize (csH[k1]'hsz1) = old at ck
 have HS2 := Lib.hid (RS.setBlk (i := k1) (v := .int .i64 n1) hrs XH HUH0.out (Ne.symm hbH))
 have HUH2 := Lib.hid (HUH0.out.setInt k1 n1)
 have XN : Whl (v1.setCell ⟨H, k1, none⟩ (.int .i64 n1)) H TH (csH.setIfInBounds k1 (.int .i64 n1)) := Whl.set XH k1 (.int .i64 n1)
 have PN : Whl (v1.setCell ⟨H, k1, none⟩ (.int .i64 n1)) P 141 #[.pointer (some ⟨G, k0, none⟩), .pointer (some ⟨H, k1, none⟩), .pointer (some ⟨H, k2, none⟩), .pointer (some ⟨H, k3, none⟩)] := PP.far hPH
 have ONG := XG.far (a := ⟨H, k1, none⟩) (v := .int .i64 n1) hGG
 have UN : Touch (fun x => x = b ∨ x = G ∨ x = H) w (v1.setCell ⟨H, k1, none⟩ (.int .i64 n1)) := U1.set (fun _ => by simp)
 have hz1 : v1.heap.size = (v1.setCell ⟨H, k1, none⟩ (.int .i64 n1)).heap.size := by simp [World.setCell]
 clear hrs PP U1 hsz1 XG XH
 go_wp2_with fail
 generalize (v1.setCell ⟨H, k1, none⟩ (.int .i64 n1)) = V1 at *
 have XH := XN
 have XG := ONG
 have PP := PN
 have U := Lib.hid UN
 clear ck fk XN PN UN ONG old
 rw [rounds_succ]
 have p2 := PP.cell 2
 simp only [List.getElem?_toArray, List.getElem?_cons_succ, List.getElem?_cons_zero] at p2
 go_wp2_with fail
 refine (octNxT b (nx (nx st).2).2 _ HS2.out).mono ?_
 rintro e v2 ⟨rfl, hrs, ht⟩
 have hl2 := ht.size
 replace XG := XG.tch ht (Ne.symm hbG)
 replace XH := XH.tch ht (Ne.symm hbH)
 replace PP := PP.tch ht (Ne.symm hbP)
 have U1 := U.out.trans ht.touch (D := (fun x => x = b ∨ x = G ∨ x = H)) (fun n _ e => Or.inl e)
 obtain ⟨n2, hn2⟩ : ∃ z : Int, z = ((nx (nx (nx st).2).2).1 : Int) := ⟨_, rfl⟩
 rw [← hn2]
 have HN2 := Lib.hid hn2
 clear hn2 ht HS2 p2 U
 have hsz2 : k2 < (csH.setIfInBounds k1 (.int .i64 n1)).size := by simpa using hk2
 have ck : _ = some ((csH.setIfInBounds k1 (.int .i64 n1))[k2]'hsz2) := (XH.cell k2).trans (Array.getElem?_eq_getElem hsz2)
 have fk := XH.free k2
 generalize ((csH.setIfInBounds k1 (.int .i64 n1))[k2]'hsz2) = old at ck
 have HS3 := Lib.hid (RS.setBlk (i := k2) (v := .int .i64 n2) hrs XH HUH2.out (Ne.symm hbH))
 have HUH3 := Lib.hid (HUH2.out.setInt k2 n2)
 have XN : Whl (v2.setCell ⟨H, k2, none⟩ (.int .i64 n2)) H TH ((csH.setIfInBounds k1 (.int .i64 n1)).setIfInBounds k2 (.int .i64 n2)) := Whl.set XH k2 (.int .i64 n2)
 have PN : Whl (v2.setCell ⟨H, k2, none⟩ (.int .i64 n2)) P 141 #[.pointer (some ⟨G, k0, none⟩), .pointer (some ⟨H, k1, none⟩), .pointer (some ⟨H, k2, none⟩), .pointer (some ⟨H, k3, none⟩)] := PP.far hPH
 have ONG := XG.far (a := ⟨H, k2, none⟩) (v := .int .i64 n2) hGG
 have UN : Touch (fun x => x = b ∨ x = G ∨ x = H) w (v2.setCell ⟨H, k2, none⟩ (.int .i64 n2)) := U1.set (fun _ => by simp)
 have hz2 : v2.heap.size = (v2.setCell ⟨H, k2, none⟩ (.int .i64 n2)).heap.size := by simp [World.setCell]
 clear hrs PP U1 hsz2 XG XH
 go_wp2_with fail
 generalize (v2.setCell ⟨H, k2, none⟩ (.int .i64 n2)) = V2 at *
 have XH := XN
 have XG := ONG
 have PP := PN
 have U := Lib.hid UN
 clear ck fk XN PN UN ONG old
 rw [rounds_succ]
 have p3 := PP.cell 3
 simp only [List.getElem?_toArray, List.getElem?_cons_succ, List.getElem?_cons_zero] at p3
 go_wp2_with fail
 refine (octNxT b (nx (nx (nx st).2).2).2 _ HS3.out).mono ?_
 rintro e v3 ⟨rfl, hrs, ht⟩
 have hl3 := ht.size
 replace XG := XG.tch ht (Ne.symm hbG)
 replace XH := XH.tch ht (Ne.symm hbH)
 replace PP := PP.tch ht (Ne.symm hbP)
 have U1 := U.out.trans ht.touch (D := (fun x => x = b ∨ x = G ∨ x = H)) (fun n _ e => Or.inl e)
 obtain ⟨n3, hn3⟩ : ∃ z : Int, z = ((nx (nx (nx (nx st).2).2).2).1 : Int) := ⟨_, rfl⟩
 rw [← hn3]
 have HN3 := Lib.hid hn3
 clear hn3 ht HS3 p3 U
 have hsz3 : k3 < ((csH.setIfInBounds k1 (.int .i64 n1)).setIfInBounds k2 (.int .i64 n2)).size := by simpa using hk3
 have ck : _ = some (((csH.setIfInBounds k1 (.int .i64 n1)).setIfInBounds k2 (.int .i64 n2))[k3]'hsz3) := (XH.cell k3).trans (Array.getElem?_eq_getElem hsz3)
 have fk := XH.free k3
 generalize (((csH.setIfInBounds k1 (.int .i64 n1)).setIfInBounds k2 (.int .i64 n2))[k3]'hsz3) = old at ck
 have HS4 := Lib.hid (RS.setBlk (i := k3) (v := .int .i64 n3) hrs XH HUH3.out (Ne.symm hbH))
 have HUH4 := Lib.hid (HUH3.out.setInt k3 n3)
 have XN : Whl (v3.setCell ⟨H, k3, none⟩ (.int .i64 n3)) H TH (((csH.setIfInBounds k1 (.int .i64 n1)).setIfInBounds k2 (.int .i64 n2)).setIfInBounds k3 (.int .i64 n3)) := Whl.set XH k3 (.int .i64 n3)
 have PN : Whl (v3.setCell ⟨H, k3, none⟩ (.int .i64 n3)) P 141 #[.pointer (some ⟨G, k0, none⟩), .pointer (some ⟨H, k1, none⟩), .pointer (some ⟨H, k2, none⟩), .pointer (some ⟨H, k3, none⟩)] := PP.far hPH
 have ONG := XG.far (a := ⟨H, k3, none⟩) (v := .int .i64 n3) hGG
 have UN : Touch (fun x => x = b ∨ x = G ∨ x = H) w (v3.setCell ⟨H, k3, none⟩ (.int .i64 n3)) := U1.set (fun _ => by simp)
 have hz3 : v3.heap.size = (v3.setCell ⟨H, k3, none⟩ (.int .i64 n3)).heap.size := by simp [World.setCell]
 clear hrs PP U1 hsz3 XG XH
 go_wp2_with fail
 generalize (v3.setCell ⟨H, k3, none⟩ (.int .i64 n3)) = V3 at *
 have XH := XN
 have XG := ONG
 have PP := PN
 have U := Lib.hid UN
 clear ck fk XN PN UN ONG old
 rw [rounds_succ]
 rw [HN0.out] at XG
 rw [HN1.out, HN2.out, HN3.out] at XH
 have HXG := Lib.hid XG
 have HXH := Lib.hid XH
 clear PP XG XH
 go_wp2_with fail
 refine bodyPost_end (v := .tuple #[]) (by simp [results, Tryz.results80, go_sem]) rfl ⟨rfl, HS4.out, HXG.out, HXH.out, U.out⟩
open Go.RowKit Go.Shelf Go.Sort Go.Lib
open Go.Proofs
instance : Inhabited Od := ⟨⟨0, ⟨#[]⟩, false, 0, 0, 0⟩⟩
theorem odV_len (o : Od) : (odV o).length = 6 := rfl
theorem odV_one (o : Od) : ∀ u ∈ odV o, u.oneCell' = true := by
 intro u hu
 simp only [odV, List.mem_cons, List.not_mem_nil, or_false] at hu
 rcases hu with rfl | rfl | rfl | rfl | rfl | rfl <;> rfl
theorem flatO_get (l : List Od) (t : Nat) (h : t < l.length * 6) : (flatO l)[t]? = some ((odV (l[t / 6]'(by omega)))[t % 6]!) := by
 obtain ⟨a0, a1, a2, a3, a4, a5⟩ := flatO_at l (t / 6) (by omega)
 have e : t = t / 6 * 6 + t % 6 := by omega
 rcases (show t % 6 = 0 ∨ t % 6 = 1 ∨ t % 6 = 2 ∨ t % 6 = 3 ∨ t % 6 = 4 ∨ t % 6 = 5 by omega) with h | h | h | h | h | h <;> (rw [h] at e; rw [h]; conv => lhs; rw [e])
 · exact a0
 · exact a1
 · exact a2
 · exact a3
 · exact a4
 · exact a5
theorem flatK_get (d : Array Od) (t : Nat) (h : t < d.size * 6) : (flatO d.toList)[t]? = some ((flatK odV 6 d)[t]!) := by
 rw [flatO_get d.toList t (by simpa using h), get_flatK odV 6 d t h]
 congr 3
 have h6 : t / 6 < d.size := by omega
 rw [Array.getElem_toList]
 exact (getElem!_pos d (t / 6) h6).symm
theorem ids_eq : ∀ {l m : List Od}, Ids l → Ids m → l.Perm m → l = m
 | [], m, _, _, p => (List.nil_perm.1 p).symm
 | a :: r, [], _, _, p => (List.perm_nil.1 p)
 | a :: r, b :: s, hl, hm, p => by
  obtain ⟨h1, h2⟩ := List.pairwise_cons.1 hl
  obtain ⟨k1, k2⟩ := List.pairwise_cons.1 hm
  have e : a = b := by
   rcases List.mem_cons.1 (p.mem_iff.1 (List.mem_cons_self (a := a) (l := r))) with e | e
   · exact e
   ·
    have := k1 a e
    rcases List.mem_cons.1 (p.mem_iff.2 (List.mem_cons_self (a := b) (l := s))) with e2 | e2
    · exact e2.symm
    · have := h1 b e2; omega
  subst e
  rw [ids_eq h2 k2 ((List.perm_cons a).1 p)]
theorem ltId (x y : Od) : ltOf (fun x y : Od => Lib.compareInt x.id y.id) x y = decide (x.id < y.id) := by
 unfold ltOf Lib.compareInt
 by_cases h1 : x.id < y.id
 · simp [h1]
 · by_cases h2 : y.id < x.id <;> simp [h1, h2]
theorem swoId : SWO (ltOf fun x y : Od => Lib.compareInt x.id y.id) where
 irrefl x := by rw [ltId]; simp
 trans x y z h1 h2 := by rw [ltId] at *; simp at *; omega
 ntrans x y z h1 h2 := by rw [ltId] at *; simp at *; omega
set_option maxHeartbeats 1000000 in
theorem closureId (x y : Od) (W : World) : Calls Tryz.prog 97 #[.agg (odV x).toArray, .agg (odV y).toArray] W fun e w' => e = .returned (.int .i64 (Lib.compareInt x.id y.id)) ∧ ∃ q os', w' = grow (W.drewN q) os' := by
 have hcon := fun W' => AnyG.cmp_Compare_int Tryz.cmpInt x.id y.id W'
 change ∀ W', Calls Tryz.prog 98 _ _ _ at hcon
 generalize Lib.compareInt x.id y.id = r at hcon ⊢
 show Calls Tryz.prog 97 #[.agg #[.int .i64 x.id, .string x.who, .bool x.buy, .int .i64 x.item, .int .i64 x.ct, .int .i64 x.pr], .agg #[.int .i64 y.id, .string y.who, .bool y.buy, .int .i64 y.item, .int .i64 y.ct, .int .i64 y.pr]] W _
 go_enter Tryz.func97, Tryz.ntmps97
 go_wp2_with (go_at_call 98; refine (hcon _).mono ?_; rintro e w' ⟨rfl, rfl⟩)
 go_ret
 exact ⟨rfl, 0, _, by rw [alloc_eq_grow, alloc_eq_grow, grow_grow]; rfl⟩
theorem cmpLaysId (blk off size : Nat) (w : World) : CmpLays Tryz.prog 97 #[] odV 6 (fun x y => Lib.compareInt x.id y.id) blk off size w :=
 fun _ _ _ _ x y => closureId x y _
theorem own_put {w : World} {B g n cap m : Nat} {l : List Od} {d : Array Od} {os : Array Obj} (h : w.ownsRow B 38 6 (.slice (some ⟨g, 0, none⟩) n cap) n (flatO l)) (hd : d.size = n) :
  (sortWorldK odV 6 w g 0 m d os).ownsRow B 38 6 (.slice (some ⟨g, 0, none⟩) n cap) n (flatO d.toList) ∧ Touch (fun x => x = g) w (sortWorldK odV 6 w g 0 m d os) := by
 have hlen : (flatO d.toList).length = n * 6 := by rw [flatO_len]; simp [hd]
 have hg : g < w.heap.size := (h.lt g rfl).2
 constructor
 ·
  refine ⟨hlen, ?_⟩
  rcases h.2 with ⟨e, _⟩ | ⟨g', cap', cur, e, h1, h2, h3, h4, h5, h6⟩
  · cases e
  ·
   injection e with e0 e1 e2
   injection e0 with e0
   injection e0 with e0
   subst e0 e2
   refine .inr ⟨g, cap, putCells id 0 (flatK odV 6 d) cur, rfl, h1, ?_, h3, h4, by simp [putCells, h5], ?_⟩
   ·
    unfold sortWorldK
    rw [heap_grow_old _ _ (by rw [size_putRowK]; exact hg)]
    show (mapBlock (Go.Sort.ahead w m) g (putCells id 0 (flatK odV 6 d))).heap[g]? = _
    unfold mapBlock
    rw [Array.getElem?_modify, if_pos rfl, show (Go.Sort.ahead w m).heap = w.heap from rfl, h2]
    rfl
   ·
    refine List.ext_getElem? fun t => ?_
    by_cases ht : t < n * 6
    ·
     rw [flatK_get d t (by rw [hd]; exact ht), List.getElem?_take_of_lt ht]
     have hc : n * 6 ≤ cap * 6 := Nat.mul_le_mul_right 6 h3
     have : (putCells id 0 (flatK odV 6 d) cur)[t]? = some ((flatK odV 6 d)[t]!) := by
      unfold putCells
      rw [Array.getElem?_mapIdx, Array.getElem?_eq_getElem (show t < cur.size by rw [h5]; omega)]
      simp [hd, ht]
     simpa using this
    · rw [List.getElem?_eq_none (by rw [List.length_take]; omega), List.getElem?_eq_none (by omega)]
 ·
  refine ⟨rfl, rfl, rfl, ?_, fun k hk hn => ?_⟩
  ·
   unfold sortWorldK
   rw [size_grow, size_putRowK]
   show w.heap.size ≤ w.heap.size + _
   omega
  ·
   unfold sortWorldK
   rw [heap_grow_old _ _ (by rw [size_putRowK]; exact hk)]
   show (mapBlock (Go.Sort.ahead w m) g _).heap[k]? = _
   unfold mapBlock
   rw [Array.getElem?_modify, if_neg (fun e => hn e.symm)]
   rfl
theorem sortOrders (B : Nat) (C L : List Od) (v : Value) (n : Nat) (hn : C.length = n) (w : World) (h : w.ownsRow B 38 6 v n (flatO C)) (hlen : n ≤ 1000) (hL : Ids L) (hp : C.Perm L) :
  Calls Tryz.prog 96 #[v, .func (.func 97) #[] #[]] w fun e w' => e = .returned (.tuple #[]) ∧ w'.ownsRow B 38 6 v n (flatO L) ∧ Touch (fun x => v.ownBlock = some x) w w' := by
 by_cases h0 : n = 0
 ·
  subst h0
  obtain ⟨A, c, rfl, _⟩ := own_slice h
  have hC : C = [] := List.eq_nil_of_length_eq_zero hn
  subst hC
  have hLn : L = [] := List.nil_perm.1 hp
  subst hLn
  refine (AnyF.slices_SortFunc_none Tryz.sortO A c _ w).mono ?_
  rintro e w' ⟨rfl, rfl⟩
  exact ⟨rfl, h, Touch.refl _ _⟩
 ·
  obtain ⟨g, cp, rfl, hg1, hg2, hg3, hg4⟩ := own_form h (by omega)
  subst hn
  have hH : HoldsK odV 6 w g 0 C.toArray := by
   intro j hj
   have hj' : j < C.length * 6 := by simpa using hj
   refine ⟨?_, ?_⟩
   ·
    rw [Nat.zero_add, h.cellAt j hj']
    have := flatK_get C.toArray j (by simpa using hj')
    simpa using this
   · rw [Nat.zero_add]; exact h.frozenAt j
  have eg : ∀ args w, (callFunc 97 args).run Tryz.prog w = .ok (.enter 97 args) w := enters_of Tryz.func97 (by kernel_rfl) rfl
  have hcon := AnyQ.slices_SortFunc Tryz.sortO 6 Tryz.isAgg38 Tryz.sizeOf38 odV odV_len odV_one (fun x y => Lib.compareInt x.id y.id) swoId 97 #[] g 0 cp C.toArray w eg (cmpLaysId g 0 _ w) hH hg2 (by simp; omega)
  rw [List.size_toArray] at hcon
  refine hcon.mono ?_
  rintro e w' ⟨rfl, d', q, os, hperm, hsort, rfl⟩
  have hsz : d'.size = C.length := by have := hperm.1; simpa using this
  have hpd : d'.toList.Perm C := by
   have := hperm.2.2
   rw [Array.extract_eq_self_of_le (by omega), Array.extract_eq_self_of_le (by simp)] at this
   simpa using this
  have hids : Ids d'.toList := by
   unfold Ids
   refine List.pairwise_iff_getElem.2 fun i j hi hj hij => ?_
   have h1 := hsort i j (Nat.zero_le _) hij (by simpa [hsz] using hj)
   rw [ltId] at h1
   have hi' : i < d'.size := by simpa using hi
   have hj' : j < d'.size := by simpa using hj
   rw [getElem!_pos d' i hi', getElem!_pos d' j hj'] at h1
   have h2 : d'[i].id ≤ d'[j].id := by simpa using h1
   have hnd : (d'.toList.map (·.id)).Nodup := perm_nodup (hpd.trans hp) hL.nodup
   have h3 : d'[i].id ≠ d'[j].id := by
    intro e
    have := (List.pairwise_iff_getElem.1 hnd) i j (by simpa using hi') (by simpa using hj') hij
    simp at this
    exact this e
   simp only [Array.getElem_toList]
   omega
  have e := ids_eq hids hL (hpd.trans hp)
  have := own_put (m := q) (d := d') (os := os) h hsz
  rw [e] at this
  exact ⟨rfl, this.1, this.2.mono (fun x hx => by subst hx; rfl)⟩
end Go.Proofs.YtdlbiobjnohfbaaGreat
