/- plan: its zones as cells. plan: a table's rows; which is a zone's. -/
import Derived.Test.YtepjehcmiofehaaGreatPq11
namespace Go.Proofs.YtepjehcmiofehaaGreat
open Go.RowKit
set_option linter.unusedVariables false
set_option linter.unusedSimpArgs false
/-- a zone of a plan -/
structure Pz where
  z : Zn
  hits : Int
  mid : ByteArray
  fr : Bool
  nd : Int
def pzV (p : Pz) : List Value := [.int .i64 p.z.id, .string p.z.fr, .string p.z.tt, .int .i64 p.z.ow, .int .i64 p.z.ep, .int .i64 p.z.pd, .int .i64 p.z.mv, .string p.z.ky, .int .i64 p.z.nw, .int .i64 p.hits, .string p.mid, .bool p.fr, .int .i64 p.nd]
def flatP (l : List Pz) : List Value := l.flatMap pzV
theorem flatP_app (a b : List Pz) : flatP (a ++ b) = flatP a ++ flatP b := by simp [flatP]
theorem flatP_len (l : List Pz) : (flatP l).length = l.length * 13 := by
  induction l with
  | nil => rfl
  | cons a r ih =>
    have : flatP (a :: r) = pzV a ++ flatP r := rfl
    rw [this, List.length_append, ih]
    simp [pzV]; omega
theorem flatP_at : ∀ (l : List Pz) (j : Nat) (h : j < l.length), (flatP l)[j * 13]? = some (.int .i64 l[j].z.id) ∧ (flatP l)[j * 13 + 1]? = some (.string l[j].z.fr) ∧ (flatP l)[j * 13 + 2]? = some (.string l[j].z.tt) ∧ (flatP l)[j * 13 + 3]? = some (.int .i64 l[j].z.ow) ∧ (flatP l)[j * 13 + 4]? = some (.int .i64 l[j].z.ep) ∧ (flatP l)[j * 13 + 5]? = some (.int .i64 l[j].z.pd) ∧ (flatP l)[j * 13 + 6]? = some (.int .i64 l[j].z.mv) ∧ (flatP l)[j * 13 + 7]? = some (.string l[j].z.ky) ∧ (flatP l)[j * 13 + 8]? = some (.int .i64 l[j].z.nw) ∧ (flatP l)[j * 13 + 9]? = some (.int .i64 l[j].hits) ∧ (flatP l)[j * 13 + 10]? = some (.string l[j].mid) ∧ (flatP l)[j * 13 + 11]? = some (.bool l[j].fr) ∧ (flatP l)[j * 13 + 12]? = some (.int .i64 l[j].nd)
  | [], j, h => by cases h
  | a :: r, 0, h => by simp [flatP, pzV]
  | a :: r, j + 1, h => by
    have := flatP_at r j (by simpa using h)
    have e : (j + 1) * 13 = j * 13 + 13 := by omega
    simp only [flatP, List.flatMap_cons, pzV, List.getElem_cons_succ] at this ⊢
    rw [e]
    exact this
theorem pzV_one (z : Pz) : ∀ u ∈ pzV z, u.oneCell' = true := by
  intro u hz
  simp only [pzV, List.mem_cons, List.not_mem_nil, or_false] at hz
  rcases hz with rfl | rfl | rfl | rfl | rfl | rfl | rfl | rfl | rfl | rfl | rfl | rfl | rfl <;> rfl
theorem flatP_one (l : List Pz) : ∀ u ∈ flatP l, u.oneCell' = true := by
  intro u hu
  obtain ⟨z, _, hz⟩ := List.mem_flatMap.1 hu
  exact pzV_one z u hz
theorem flatP_setcell : ∀ (l : List Pz) (j : Nat) (h : j < l.length) (k : Nat) (hk : k < 13) (z : Pz) (v : Value) (hz : pzV z = (pzV l[j]).set k v), flatP (l.set j z) = (flatP l).set (j * 13 + k) v
  | [], j, h, _, _, _, _, _ => by cases h
  | a :: r, 0, h, k, hk, z, v, hz => by
    have e : flatP (a :: r) = pzV a ++ flatP r := rfl
    have e2 : flatP ((a :: r).set 0 z) = pzV z ++ flatP r := rfl
    rw [e, e2, hz, List.set_append_left _ _ (by simp [pzV]; omega)]
    simp
  | a :: r, j + 1, h, k, hk, z, v, hz => by
    have := flatP_setcell r j (by simpa using h) k hk z v hz
    have e : (j + 1) * 13 + k = (j * 13 + k) + 13 := by omega
    have e1 : flatP (a :: r) = pzV a ++ flatP r := rfl
    have e2 : flatP ((a :: r).set (j + 1) z) = pzV a ++ flatP (r.set j z) := rfl
    rw [e1, e2, this, e, List.set_append_right _ _ (by simp [pzV])]
    simp [pzV]
theorem ixP {n i : Nat} (h : i < n) (k : Nat) (hk : k < 13) : i * 13 + k < n * 13 := by omega
theorem rowP_at {w : World} {B g c : Nat} {l : List Pz} (h : w.ownsRow B 74 13 (.slice (some ⟨g, 0, none⟩) l.length c) l.length (flatP l)) {i : Nat} (hi : i < l.length) :
    w.cell? ⟨g, i * 13, none⟩ = some (.int .i64 l[i].z.id) ∧ w.cell? ⟨g, i * 13 + 1, none⟩ = some (.string l[i].z.fr) ∧ w.cell? ⟨g, i * 13 + 2, none⟩ = some (.string l[i].z.tt) ∧ w.cell? ⟨g, i * 13 + 3, none⟩ = some (.int .i64 l[i].z.ow) ∧ w.cell? ⟨g, i * 13 + 4, none⟩ = some (.int .i64 l[i].z.ep) ∧ w.cell? ⟨g, i * 13 + 5, none⟩ = some (.int .i64 l[i].z.pd) ∧ w.cell? ⟨g, i * 13 + 6, none⟩ = some (.int .i64 l[i].z.mv) ∧ w.cell? ⟨g, i * 13 + 7, none⟩ = some (.string l[i].z.ky) ∧ w.cell? ⟨g, i * 13 + 8, none⟩ = some (.int .i64 l[i].z.nw) ∧ w.cell? ⟨g, i * 13 + 9, none⟩ = some (.int .i64 l[i].hits) ∧ w.cell? ⟨g, i * 13 + 10, none⟩ = some (.string l[i].mid) ∧ w.cell? ⟨g, i * 13 + 11, none⟩ = some (.bool l[i].fr) ∧ w.cell? ⟨g, i * 13 + 12, none⟩ = some (.int .i64 l[i].nd) := by
  obtain ⟨r0, r1, r2, r3, r4, r5, r6, r7, r8, r9, r10, r11, r12⟩ := flatP_at l i hi
  exact ⟨(h.cellAt _ (ixP hi 0 (by decide))).trans r0, (h.cellAt _ (ixP hi 1 (by decide))).trans r1, (h.cellAt _ (ixP hi 2 (by decide))).trans r2, (h.cellAt _ (ixP hi 3 (by decide))).trans r3, (h.cellAt _ (ixP hi 4 (by decide))).trans r4, (h.cellAt _ (ixP hi 5 (by decide))).trans r5, (h.cellAt _ (ixP hi 6 (by decide))).trans r6, (h.cellAt _ (ixP hi 7 (by decide))).trans r7, (h.cellAt _ (ixP hi 8 (by decide))).trans r8, (h.cellAt _ (ixP hi 9 (by decide))).trans r9, (h.cellAt _ (ixP hi 10 (by decide))).trans r10, (h.cellAt _ (ixP hi 11 (by decide))).trans r11, (h.cellAt _ (ixP hi 12 (by decide))).trans r12⟩
/-- a plan in memory: block b; its zones, hosts, changes -/
structure PlH (w : World) (B b : Nat) (zv hv cv : Value) (ps : List Pz) (cs : List Ch) : Prop where
  blk : Whl w b 52 #[zv, hv, cv]
  row : w.ownsRow B 74 13 zv ps.length (flatP ps)
  crow : w.ownsRow B 58 5 cv cs.length (cs.flatMap chV)
  za : zv.ownBlock ≠ some b
  ca : cv.ownBlock ≠ some b
  zc : ∀ q, zv.ownBlock = some q → cv.ownBlock ≠ some q
  low : B ≤ b
/-- the blocks of a plan -/
def Fp (b : Nat) (zv cv : Value) (k : Nat) : Prop := k = b ∨ zv.ownBlock = some k ∨ cv.ownBlock = some k
theorem PlH.lows {w : World} {B b : Nat} {zv hv cv : Value} {ps : List Pz} {cs : List Ch} (h : PlH w B b zv hv cv ps cs) : ∀ k, Fp b zv cv k → B ≤ k ∧ k < w.heap.size := by
  rintro k (rfl | e | e)
  · exact ⟨h.low, h.blk.low⟩
  · exact h.row.lt k e
  · exact h.crow.lt k e
theorem PlH.keep {D : Nat → Prop} {w w' : World} {B b : Nat} {zv hv cv : Value} {ps : List Pz} {cs : List Ch} (h : PlH w B b zv hv cv ps cs) (ht : Touch D w w') (hD : ∀ k, Fp b zv cv k → ¬ D k) : PlH w' B b zv hv cv ps cs :=
  ⟨(ht.block b h.blk.low (hD b (.inl rfl))).trans h.blk, ht.own h.row (fun q hq => hD q (.inr (.inl hq))), ht.own h.crow (fun q hq => hD q (.inr (.inr hq))), h.za, h.ca, h.zc, h.low⟩
theorem PlH.below {w w' : World} {B b : Nat} {zv hv cv : Value} {ps : List Pz} {cs : List Ch} (h : PlH w B b zv hv cv ps cs) (hb : Below w.heap.size w w') : PlH w' B b zv hv cv ps cs :=
  h.keep (Touch.of_below hb) (fun k hk hd => by have := (h.lows k hk).2; omega)
theorem PlH.setcell {w : World} {B b g c n : Nat} {hv cv : Value} {ps : List Pz} {cs : List Ch} (h : PlH w B b (.slice (some ⟨g, 0, none⟩) n c) hv cv ps cs) {j : Nat} (hj : j < ps.length) {k : Nat} (hk : k < 13) {z : Pz} {v : Value} (hz : pzV z = (pzV ps[j]).set k v) :
    PlH (w.setCell ⟨g, j * 13 + k, none⟩ v) B b (.slice (some ⟨g, 0, none⟩) n c) hv cv (ps.set j z) cs := by
  obtain ⟨A', c', e', _⟩ := own_slice h.row
  injection e' with e1 e2 e3
  subst e2
  refine ⟨h.blk.far (fun e => h.za (by rw [e]; rfl)), ?_, own_set_ne h.crow (fun q hq e => h.zc g rfl (by have e : q = g := e; rw [← e]; exact hq)), h.za, h.ca, h.zc, h.low⟩
  rw [flatP_setcell ps j hj k hk z v hz, List.length_set]
  exact (h.row.stored (j * 13 + k) v).1
end Go.Proofs.YtepjehcmiofehaaGreat
namespace Go.Proofs.YtepjehcmiofehaaGreat
open Go.RowKit
set_option linter.unusedVariables false
set_option linter.unusedSimpArgs false
structure Lr where
  zo : Int
  hits : Int
  mid : ByteArray
def lrV (r : Lr) : List Value := [.int .i64 r.zo, .int .i64 r.hits, .string r.mid]
def flatL (l : List Lr) : List Value := l.flatMap lrV
theorem flatL_at : ∀ (l : List Lr) (j : Nat) (h : j < l.length), (flatL l)[j * 3]? = some (.int .i64 l[j].zo) ∧ (flatL l)[j * 3 + 1]? = some (.int .i64 l[j].hits) ∧ (flatL l)[j * 3 + 2]? = some (.string l[j].mid)
  | [], j, h => by cases h
  | a :: r, 0, h => by simp [flatL, lrV]
  | a :: r, j + 1, h => by
    have := flatL_at r j (by simpa using h)
    have e : (j + 1) * 3 = j * 3 + 3 := by omega
    simp only [flatL, List.flatMap_cons, lrV, List.getElem_cons_succ] at this ⊢
    rw [e]
    exact this
/-- a table among the arguments -/
def RowL (w : World) (A : Option Addr) (c : Nat) (l : List Lr) : Prop := Cells w w.heap.size A l.length c 3 (flatL l)
theorem RowL.below {w w' : World} {A : Option Addr} {c : Nat} {l : List Lr} (h : RowL w A c l) (hb : Below w.heap.size w w') : RowL w' A c l := cells_keep h hb hb.size
theorem RowL.at_ {w : World} {A : Option Addr} {c : Nat} {l : List Lr} (h : RowL w A c l) {i : Nat} (hi : i < l.length) :
    ∃ g o, A = some ⟨g, o, none⟩ ∧ g < w.heap.size ∧ w.cell? ⟨g, o + i * 3, none⟩ = some (.int .i64 l[i].zo) ∧ w.cell? ⟨g, o + i * 3 + 1, none⟩ = some (.int .i64 l[i].hits) ∧ w.cell? ⟨g, o + i * 3 + 2, none⟩ = some (.string l[i].mid) := by
  obtain ⟨r0, r1, r2⟩ := flatL_at l i hi
  obtain ⟨g, o, e, hg, h0⟩ := h.2.2 _ _ r0
  obtain ⟨g1, o1, e1, _, h1⟩ := h.2.2 _ _ r1
  obtain ⟨g2, o2, e2, _, h2⟩ := h.2.2 _ _ r2
  rw [e] at e1 e2
  injection e1 with e1; injection e1 with e11 e12
  injection e2 with e2; injection e2 with e21 e22
  subst e11 e12 e21 e22
  exact ⟨g, o, e, hg, h0, by rw [Nat.add_assoc]; exact h1, by rw [Nat.add_assoc]; exact h2⟩
/-- the first row of a zone stands there; -1: none -/
def AtL (l : List Lr) (id : Int) (k : Int) : Prop := (k = -1 ∧ ∀ j (hj : j < l.length), l[j].zo ≠ id) ∨ ∃ i : Nat, k = i ∧ ∃ h : i < l.length, l[i].zo = id ∧ ∀ j (hj : j < l.length), j < i → l[j].zo ≠ id
/-- hits, and the middle, of a zone -/
def hm (l : List Lr) (id : Int) : Int × ByteArray := match l.find? (fun r => decide (r.zo = id)) with
  | none => (0, ⟨#[]⟩)
  | some r => (min (max r.hits 0) 1099511627776, r.mid)
theorem AtL.no {l : List Lr} {id : Int} (h : ∀ j (hj : j < l.length), l[j].zo ≠ id) : hm l id = (0, ⟨#[]⟩) := by
  unfold hm
  rw [List.find?_eq_none.2 (fun r hr => by obtain ⟨j, hj, rfl⟩ := List.getElem_of_mem hr; simpa using h j hj)]
theorem AtL.yes : ∀ {l : List Lr} {id : Int} {i : Nat} (h : i < l.length), l[i].zo = id → (∀ j (hj : j < l.length), j < i → l[j].zo ≠ id) → hm l id = (min (max l[i].hits 0) 1099511627776, l[i].mid)
  | [], _, _, h, _, _ => by cases h
  | a :: r, id, 0, h, e, _ => by
    unfold hm
    rw [List.find?_cons_of_pos (by simpa using e)]
    rfl
  | a :: r, id, i + 1, h, e, hn => by
    have h00 : a.zo ≠ id := hn 0 (Nat.succ_pos _) (Nat.succ_pos _)
    have h0 : ¬ (decide (a.zo = id) = true) := by rw [decide_eq_true_eq]; exact h00
    have ih := AtL.yes (l := r) (id := id) (i := i) (Nat.lt_of_succ_lt_succ h) e (fun j hj hlt => hn (j + 1) (Nat.succ_lt_succ hj) (Nat.succ_lt_succ hlt))
    unfold hm at ih ⊢
    rw [List.find?_cons_of_neg (p := fun r : Lr => decide (r.zo = id)) h0]
    exact ih
/-- what begin makes of a zone -/
def pz0 (l : List Lr) (z : Zn) : Pz := ⟨z, (hm l z.id).1, (hm l z.id).2, decide (z.pd = 0), if z.pd = 3 then z.mv else z.ow⟩
def begP (l : List Lr) (zs : List Zn) : List Pz := zs.map (pz0 l)
theorem begP_snoc (l : List Lr) {zs : List Zn} {i : Nat} (h : i < zs.length) : begP l (zs.take (i + 1)) = begP l (zs.take i) ++ [pz0 l zs[i]] := by
  unfold begP
  rw [List.take_add_one, List.getElem?_eq_getElem h, List.map_append]
  rfl
theorem plIs (p : Nat) (r : Lr) (zo zid : Int) (w : World) (l1 : w.cell? ⟨p, 0, none⟩ = some (.int .i64 zid)) :
    Calls Tryz.prog 30 #[.agg #[.int .i64 zo, .int .i64 r.hits, .string r.mid], .pointer (some ⟨p, 0, none⟩)] w fun e w' => e = .returned (.bool (decide (zo = zid))) ∧ Below w.heap.size w w' := by
  have hpl : p < w.heap.size := World.block_lt_of_cell? w ⟨p, 0, none⟩ l1
  go_enter Tryz.func30, Tryz.ntmps30
  go_wp2_with fail
  go_ret
  exact ⟨ret_bool (by first | rfl | simp), by ((repeat (first | (with_reducible exact Below.refl _ _) | (with_reducible assumption) | ((with_reducible refine b_set ?_ ?_); · (first | omega | (simp; done) | (simp; omega))) | ((with_reducible refine b_alloc ?_ ?_); · (first | omega | (simp; done) | (simp; omega))) | (with_reducible refine Below.drew ?_) | (with_reducible refine b_drewN ?_) | ((with_reducible refine b_call (by assumption) ?_ ?_); · (first | omega | (simp; done) | (simp; omega))))); done)⟩
set_option maxHeartbeats 4000000 in
set_option maxRecDepth 10000 in
theorem plIndex (p : Nat) (A : Option Addr) (cc : Nat) (l : List Lr) (zid : Int) (w : World) (h : RowL w A cc l) (l1 : w.cell? ⟨p, 0, none⟩ = some (.int .i64 zid)) (hl : l.length ≤ 100000) :
    Calls Tryz.prog 29 #[.slice A l.length cc, .func (.func 30) #[] #[.pointer (some ⟨p, 0, none⟩)]] w fun e w' => ∃ k, e = .returned (.int .i64 k) ∧ AtL l zid k ∧ Below w.heap.size w w' := by
  have HR := Lib.hid h
  have hpl : p < w.heap.size := World.block_lt_of_cell? w ⟨p, 0, none⟩ l1
  clear h
  go_enter Tryz.func29, Tryz.ntmps29
  go_wp2_with fail
  go_loopw [8] (fun iv wr => ∃ i : Nat, i ≤ l.length ∧ iv = .int .i64 i ∧ (∀ j (hj : j < l.length), j < i → l[j].zo ≠ zid) ∧ Below w.heap.size w wr) (fun iv _ => l.length - (intOf iv).toNat)
  case atStart => exact ⟨0, Nat.zero_le _, rfl, fun j hj h => absurd h (Nat.not_lt_zero _), Below.refl _ _⟩
  case round =>
    obtain ⟨i, hil, rfl, hno, hBw⟩ := hrel
    have HBW := Lib.hid hBw
    have HNO := Lib.hid hno
    have hsw := hBw.size
    have l2 := bkeep hBw l1 hpl
    by_cases hlt : i < l.length
    · have q3 : (i : Int) < (l.length : Int) := by omega
      obtain ⟨g, o, e5, hg, a0, a1, a2⟩ := (HR.out.below hBw).at_ hlt
      subst e5
      obtain ⟨z, hz⟩ : ∃ z, z = l[i] := ⟨_, rfl⟩
      rw [← hz] at a0 a1 a2
      have HZ := Lib.hid hz
      clear hBw hz hno
      by_cases hk : z.zo = zid
      · go_wp2_with (first
          | (go_at_call 30; go_loud (refine (plIs p z _ zid _ l2).mono ?_; rintro e w2 ⟨he, hb2⟩; rw [decide_eq_true rfl] at he; subst he; have HB2 := Lib.hid hb2; clear hb2))
          | fail)
        go_ret
        exact ⟨_, rfl, .inr ⟨i, rfl, hlt, by rw [← HZ.out]; exact hk, HNO.out⟩, HBW.out.trans (HB2.out.mono hsw)⟩
      · go_wp2_with (first
          | (go_at_call 30; go_loud (refine (plIs p z _ zid _ l2).mono ?_; rintro e w2 ⟨he, hb2⟩; rw [decide_eq_false hk] at he; subst he; have HB2 := Lib.hid hb2; clear hb2))
          | fail)
        refine ⟨⟨i + 1, hlt, by go_num, fun j hj h => ?_, HBW.out.trans (HB2.out.mono hsw)⟩, measZ hlt⟩
        by_cases e : j = i
        · subst e; rw [← HZ.out]; exact hk
        · exact HNO.out j hj (by omega)
    · obtain rfl : l.length = i := by omega
      go_wp2_with fail
      go_ret
      exact ⟨_, rfl, .inl ⟨rfl, fun j hj => HNO.out j hj hj⟩, HBW.out⟩
end Go.Proofs.YtepjehcmiofehaaGreat
