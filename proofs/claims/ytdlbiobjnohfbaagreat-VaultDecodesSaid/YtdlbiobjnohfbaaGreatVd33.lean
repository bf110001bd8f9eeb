/- The document's book: what it is behind a change; Cancel. The document's vault: spot, Has. The document's vault: Put, Take. The document's vault: pays, Holds, New. -/
import Derived.Test.YtdlbiobjnohfbaaGreatVd31
import Derived.Test.YtdlbiobjnohfbaaGreatVd32
namespace Go.Proofs.YtdlbiobjnohfbaaGreat
open Go.RowKit
set_option linter.unusedVariables false
set_option linter.unusedSimpArgs false
def Fx (x : Nat) (u : Value) (k : Nat) : Prop := k = x ∨ u.ownBlock = some k
theorem RfB.keep {D : Nat → Prop} {w w' : World} {B x : Nat} {u : Value} {L : List Od} {last : Int} (h : RfB w B x u L last) (ht : Touch D w w') (hD : ∀ k, Fx x u k → ¬ D k) : RfB w' B x u L last :=
  ⟨(ht.block x h.blk.low (hD x (.inl rfl))).trans h.blk, ht.own h.row (fun g hg => hD g (.inr hg)), h.apart, h.low⟩
theorem RfB.lows {w : World} {B x : Nat} {u : Value} {L : List Od} {last : Int} (h : RfB w B x u L last) : ∀ k, Fx x u k → B ≤ k ∧ k < w.heap.size := by
  rintro k (rfl | hk)
  · exact ⟨h.low, h.blk.low⟩
  · exact h.row.lt k hk
theorem RfB.below {w w' : World} {B x : Nat} {u : Value} {L : List Od} {last : Int} (h : RfB w B x u L last) (hb : Below w.heap.size w w') : RfB w' B x u L last :=
  h.keep (Touch.of_below hb) (fun k hk hd => by have := (h.lows k hk).2; omega)
theorem RfB.setlast {w : World} {B x : Nat} {u : Value} {L : List Od} {last : Int} (h : RfB w B x u L last) (z : Int) : RfB (w.setCell ⟨x, 1, none⟩ (.int .i64 z)) B x u L z :=
  ⟨h.blk.set 1 _, own_set_ne h.row (fun g hg => h.apart g hg), h.apart, h.low⟩
theorem RfB.new {w : World} {B : Nat} (hB : B ≤ w.heap.size) : RfB (w.alloc (.cells #[.slice none 0 0, .int .i64 0] 68)) B w.heap.size (.slice none 0 0) [] 0 :=
  ⟨Whl.new rfl, World.ownsRow_nil _ _ _ _, (fun g hg => by cases hg), hB⟩
theorem best_none {o : Od} {L : List Od} {k : Int} (h : BestAt o L L.length k) (hn : NoneMeets o L) : k = -1 := by
  rcases h.whole with ⟨e, _⟩ | ⟨kn, _, hk, hb⟩
  · exact e
  · have := hn _ hb.1; rw [hb.2.1] at this; cases this
theorem best_some {o : Od} {L : List Od} {k : Int} (h : BestAt o L L.length k) (hn : ¬ NoneMeets o L) : ∃ kn : Nat, k = kn ∧ ∃ h : kn < L.length, Best o L[kn] L := by
  rcases h.whole with ⟨_, e⟩ | h
  · exact absurd e hn
  · exact h
theorem od_cells {w : World} {e : TypeId} (o : Od) : Cells (w.alloc (.cells #[.int .i64 o.id, .string o.who, .bool o.buy, .int .i64 o.item, .int .i64 o.ct, .int .i64 o.pr] e)) (w.alloc (.cells #[.int .i64 o.id, .string o.who, .bool o.buy, .int .i64 o.item, .int .i64 o.ct, .int .i64 o.pr] e)).heap.size (some ⟨w.heap.size, 0, none⟩) 1 1 6 (odV o) := by
  refine ⟨rfl, (fun e => by cases e), ?_⟩
  intro j u hu
  refine ⟨w.heap.size, 0, rfl, by simp, ?_⟩
  rw [Nat.zero_add, cell_of_row _ _ _ _ _ _ (heap_alloc_new w _)]
  simpa [odV] using hu
theorem od_one (o : Od) : ∀ u ∈ odV o, u.oneCell' = true := by
  intro u hu
  simp only [odV, List.mem_cons, List.not_mem_nil, or_false] at hu
  rcases hu with rfl | rfl | rfl | rfl | rfl | rfl <;> rfl
/-- what the document's Place answers, and the book behind it -/
inductive PlacedR (L : List Od) (last : Int) (o : Od) : List Td → Int → Int → List Od → Int → Prop
  | bad (h : ¬ (OkO o ∧ last < o.id)) : PlacedR L last o [] 0 1 L last
  | full (h1 : OkO o) (h2 : last < o.id) (h : 32 ≤ L.length) : PlacedR L last o [] 0 6 L last
  | ok (h1 : OkO o) (h2 : last < o.id) (h : L.length < 32) (T : List Td) (o1 : Od) (L1 : List Od) (hp : Places o L T o1 L1) (hl : T.length ≤ 1048576) : PlacedR L last o T o1.ct 0 (laid o1 L1) o.id
end Go.Proofs.YtdlbiobjnohfbaaGreat
namespace Go.Proofs.YtdlbiobjnohfbaaGreat
open Go.RowKit Go.ChangeMaps Go.MapKept
set_option linter.unusedVariables false
set_option linter.unusedSimpArgs false
theorem row_belowR {w w' : World} {base e size n : Nat} {v : Value} {xs : List Value} (h : w.ownsRow base e size v n xs) (hb : Below w.heap.size w w') : w'.ownsRow base e size v n xs := (Touch.of_below hb).own h (fun g hg hd => by have := (h.lt g hg).2; omega)
/-- the document's vault in memory: block d, its purses' row, its book -/
structure RvH (w : World) (B d x : Nat) (u u2 : Value) (r : Pm) (L : List Od) (last nx : Int) : Prop where
  whl : Whl w d 65 #[u, .pointer (some ⟨x, 0, none⟩), .int .i64 nx]
  row : w.ownsRow B 85 5 u r.length (flatH r)
  bk : RfB w B x u2 L last
  low : B ≤ d
  dx : d ≠ x
  ud : u.ownBlock ≠ some d
  ux : u.ownBlock ≠ some x
  vd : u2.ownBlock ≠ some d
  uv : ∀ g, u.ownBlock = some g → u2.ownBlock ≠ some g
/-- its blocks -/
def Fr (d x : Nat) (u u2 : Value) (k : Nat) : Prop := (k = d ∨ u.ownBlock = some k) ∨ Fx x u2 k
theorem RvH.lows {w : World} {B d x : Nat} {u u2 : Value} {r : Pm} {L : List Od} {last nx : Int} (h : RvH w B d x u u2 r L last nx) : ∀ k, Fr d x u u2 k → B ≤ k ∧ k < w.heap.size := by
  rintro k ((rfl | hk) | hk)
  · exact ⟨h.low, h.whl.low⟩
  · exact h.row.lt k hk
  · exact h.bk.lows k hk
theorem RvH.keep {D : Nat → Prop} {w w' : World} {B d x : Nat} {u u2 : Value} {r : Pm} {L : List Od} {last nx : Int} (h : RvH w B d x u u2 r L last nx) (ht : Touch D w w') (hD : ∀ k, Fr d x u u2 k → ¬ D k) : RvH w' B d x u u2 r L last nx :=
  ⟨(ht.block d h.whl.low (hD d (.inl (.inl rfl)))).trans h.whl, ht.own h.row (fun g hg => hD g (.inl (.inr hg))), h.bk.keep ht (fun k hk => hD k (.inr hk)), h.low, h.dx, h.ud, h.ux, h.vd, h.uv⟩
theorem RvH.below {w w' : World} {B d x : Nat} {u u2 : Value} {r : Pm} {L : List Od} {last nx : Int} (h : RvH w B d x u u2 r L last nx) (hb : Below w.heap.size w w') : RvH w' B d x u u2 r L last nx :=
  h.keep (Touch.of_below hb) (fun k hk hd => by have := (h.lows k hk).2; omega)
/-- its purses alone: what spot reads -/
structure RvL (w : World) (d : Nat) (u : Value) (r : Pm) : Prop where
  c0 : w.cell? ⟨d, 0, none⟩ = some u
  row : w.ownsRow 0 85 5 u r.length (flatH r)
  low : d < w.heap.size
end Go.Proofs.YtdlbiobjnohfbaaGreat
namespace Go.Proofs.YtdlbiobjnohfbaaGreat
open Go.RowKit Go.ChangeMaps Go.MapKept
set_option linter.unusedVariables false
set_option linter.unusedSimpArgs false
/-- rows as they may be -/
structure RowOk (r : Pm) : Prop where
  srt : SortedH r
  is : ∀ k, isI (hasP r k) = true
  len : r.length ≤ 1000
def keyB (s : ByteArray) : Bool := decide (1 ≤ s.size) && decide (s.size ≤ 16)
set_option maxHeartbeats 1000000 in
theorem refIsKey (s : ByteArray) (w : World) : Calls Tryz.prog 60 #[.string s] w fun e w' => e = .returned (.bool (keyB s)) ∧ Below w.heap.size w w' := by
  unfold keyB
  by_cases h1 : 1 ≤ s.size
  · have k1 : (1 : Int) ≤ (s.size : Int) := by omega
    by_cases h2 : s.size ≤ 16
    · have k2 : (s.size : Int) ≤ 16 := by omega
      go_enter Tryz.func60, Tryz.ntmps60
      go_wp2_with fail
      refine bodyPost_ret (v := .bool true) (by simp [results, Tryz.results60, go_sem]) rfl ⟨by simp [h1, h2], by ((repeat (first | (with_reducible exact Below.refl _ _) | (with_reducible assumption) | ((with_reducible refine b_set ?_ ?_); · (first | omega | (simp; done) | (simp; omega))) | ((with_reducible refine b_alloc ?_ ?_); · (first | omega | (simp; done) | (simp; omega))) | (with_reducible refine Below.drew ?_) | (with_reducible refine b_drewN ?_) | ((with_reducible refine b_call (by assumption) ?_ ?_); · (first | omega | (simp; done) | (simp; omega))))); done)⟩
    · have k2 : ¬ (s.size : Int) ≤ 16 := by omega
      go_enter Tryz.func60, Tryz.ntmps60
      go_wp2_with fail
      refine bodyPost_ret (v := .bool false) (by simp [results, Tryz.results60, go_sem]) rfl ⟨by simp [h2], by ((repeat (first | (with_reducible exact Below.refl _ _) | (with_reducible assumption) | ((with_reducible refine b_set ?_ ?_); · (first | omega | (simp; done) | (simp; omega))) | ((with_reducible refine b_alloc ?_ ?_); · (first | omega | (simp; done) | (simp; omega))) | (with_reducible refine Below.drew ?_) | (with_reducible refine b_drewN ?_) | ((with_reducible refine b_call (by assumption) ?_ ?_); · (first | omega | (simp; done) | (simp; omega))))); done)⟩
  · have k1 : ¬ (1 : Int) ≤ (s.size : Int) := by omega
    go_enter Tryz.func60, Tryz.ntmps60
    go_wp2_with fail
    refine bodyPost_ret (v := .bool false) (by simp [results, Tryz.results60, go_sem]) rfl ⟨by simp [h1], by ((repeat (first | (with_reducible exact Below.refl _ _) | (with_reducible assumption) | ((with_reducible refine b_set ?_ ?_); · (first | omega | (simp; done) | (simp; omega))) | ((with_reducible refine b_alloc ?_ ?_); · (first | omega | (simp; done) | (simp; omega))) | (with_reducible refine Below.drew ?_) | (with_reducible refine b_drewN ?_) | ((with_reducible refine b_call (by assumption) ?_ ?_); · (first | omega | (simp; done) | (simp; omega))))); done)⟩
theorem mayB_eq (s : ByteArray) (i : It4) : mayB s i = (keyB s && isP i.1 i.2.1 i.2.2.1 i.2.2.2) := by unfold mayB keyB isI; cases decide (1 ≤ s.size) <;> simp
end Go.Proofs.YtdlbiobjnohfbaaGreat
namespace Go.Proofs.YtdlbiobjnohfbaaGreat
open Go.RowKit Go.ChangeMaps Go.MapKept
set_option linter.unusedVariables false
set_option linter.unusedSimpArgs false
set_option maxHeartbeats 2000000 in
set_option maxRecDepth 10000 in
theorem refHoldsB (o : Od) (w : World) (hb : o.buy = true) (hc : 0 ≤ o.ct ∧ o.ct ≤ 1048576) (hp : 0 ≤ o.pr ∧ o.pr ≤ 1024) :
    Calls Tryz.prog 48 #[odA o] w fun e w' => e = .returned (itV (heldP o)) ∧ Below w.heap.size w w' := by
  have hm : IntKind.i64.wrap (o.ct * o.pr) = o.ct * o.pr := by
    have h1 := prod_ok hc hp
    rw [IntKind.wrap_i64]; omega
  have hh : heldP o = (o.ct * o.pr, 0, 0, 0) := by unfold heldP; rw [if_pos hb]
  rw [hh]
  obtain ⟨id, who, buy, item, ct, pr⟩ := o
  subst hb
  unfold odA itV
  simp only at hm ⊢
  clear hh
  go_enter Tryz.func48, Tryz.ntmps48
  go_wp2_with fail
  refine bodyPost_ret (v := .agg #[.int .i64 (ct * pr), .int .i64 0, .int .i64 0, .int .i64 0]) (by simp [results, Tryz.results48, go_sem, ↓IntWalk.iteOmega, *]) rfl ⟨rfl, by ((repeat (first | (with_reducible exact Below.refl _ _) | (with_reducible assumption) | ((with_reducible refine b_set ?_ ?_); · (first | omega | (simp; done) | (simp; omega))) | ((with_reducible refine b_alloc ?_ ?_); · (first | omega | (simp; done) | (simp; omega))) | (with_reducible refine Below.drew ?_) | (with_reducible refine b_drewN ?_) | ((with_reducible refine b_call (by assumption) ?_ ?_); · (first | omega | (simp; done) | (simp; omega))))); done)⟩
set_option maxHeartbeats 2000000 in
set_option maxRecDepth 10000 in
theorem refHolds1 (id ct pr : Int) (who : ByteArray) (w : World) :
    Calls Tryz.prog 48 #[.agg #[.int .i64 id, .string who, .bool false, .int .i64 1, .int .i64 ct, .int .i64 pr]] w fun e w' => e = .returned (.agg #[.int .i64 0, .int .i64 ct, .int .i64 0, .int .i64 0]) ∧ Below w.heap.size w w' := by
  go_enter Tryz.func48, Tryz.ntmps48
  go_wp2_with fail
  refine bodyPost_ret (v := .agg #[.int .i64 0, .int .i64 ct, .int .i64 0, .int .i64 0]) (by simp [results, Tryz.results48, go_sem, ↓IntWalk.iteOmega, *]) rfl ⟨rfl, by ((repeat (first | (with_reducible exact Below.refl _ _) | (with_reducible assumption) | ((with_reducible refine b_set ?_ ?_); · (first | omega | (simp; done) | (simp; omega))) | ((with_reducible refine b_alloc ?_ ?_); · (first | omega | (simp; done) | (simp; omega))) | (with_reducible refine Below.drew ?_) | (with_reducible refine b_drewN ?_) | ((with_reducible refine b_call (by assumption) ?_ ?_); · (first | omega | (simp; done) | (simp; omega))))); done)⟩
set_option maxHeartbeats 2000000 in
set_option maxRecDepth 10000 in
theorem refHolds2 (id ct pr : Int) (who : ByteArray) (w : World) :
    Calls Tryz.prog 48 #[.agg #[.int .i64 id, .string who, .bool false, .int .i64 2, .int .i64 ct, .int .i64 pr]] w fun e w' => e = .returned (.agg #[.int .i64 0, .int .i64 0, .int .i64 ct, .int .i64 0]) ∧ Below w.heap.size w w' := by
  go_enter Tryz.func48, Tryz.ntmps48
  go_wp2_with fail
  refine bodyPost_ret (v := .agg #[.int .i64 0, .int .i64 0, .int .i64 ct, .int .i64 0]) (by simp [results, Tryz.results48, go_sem, ↓IntWalk.iteOmega, *]) rfl ⟨rfl, by ((repeat (first | (with_reducible exact Below.refl _ _) | (with_reducible assumption) | ((with_reducible refine b_set ?_ ?_); · (first | omega | (simp; done) | (simp; omega))) | ((with_reducible refine b_alloc ?_ ?_); · (first | omega | (simp; done) | (simp; omega))) | (with_reducible refine Below.drew ?_) | (with_reducible refine b_drewN ?_) | ((with_reducible refine b_call (by assumption) ?_ ?_); · (first | omega | (simp; done) | (simp; omega))))); done)⟩
set_option maxHeartbeats 2000000 in
set_option maxRecDepth 10000 in
theorem refHolds3 (id ct pr : Int) (who : ByteArray) (w : World) :
    Calls Tryz.prog 48 #[.agg #[.int .i64 id, .string who, .bool false, .int .i64 3, .int .i64 ct, .int .i64 pr]] w fun e w' => e = .returned (.agg #[.int .i64 0, .int .i64 0, .int .i64 0, .int .i64 ct]) ∧ Below w.heap.size w w' := by
  go_enter Tryz.func48, Tryz.ntmps48
  go_wp2_with fail
  refine bodyPost_ret (v := .agg #[.int .i64 0, .int .i64 0, .int .i64 0, .int .i64 ct]) (by simp [results, Tryz.results48, go_sem, ↓IntWalk.iteOmega, *]) rfl ⟨rfl, by ((repeat (first | (with_reducible exact Below.refl _ _) | (with_reducible assumption) | ((with_reducible refine b_set ?_ ?_); · (first | omega | (simp; done) | (simp; omega))) | ((with_reducible refine b_alloc ?_ ?_); · (first | omega | (simp; done) | (simp; omega))) | (with_reducible refine Below.drew ?_) | (with_reducible refine b_drewN ?_) | ((with_reducible refine b_call (by assumption) ?_ ?_); · (first | omega | (simp; done) | (simp; omega))))); done)⟩
theorem refHolds (o : Od) (w : World) (h : OkO o) : Calls Tryz.prog 48 #[odA o] w fun e w' => e = .returned (itV (heldP o)) ∧ Below w.heap.size w w' := by
  cases hb : o.buy with
  | true => exact refHoldsB o w hb (by have := h.ct; omega) (by have := h.pr; omega)
  | false =>
    obtain ⟨id, who, buy, item, ct, pr⟩ := o
    have hi := h.item
    simp only at hi hb
    subst hb
    rcases (show item = 1 ∨ item = 2 ∨ item = 3 by omega) with rfl | rfl | rfl
    · exact refHolds1 id ct pr who w
    · exact refHolds2 id ct pr who w
    · exact refHolds3 id ct pr who w
theorem refNew (w : World) : Calls Tryz.prog 16 #[] w fun e w' => e = .returned (.pointer (some ⟨w.heap.size + 1, 0, none⟩)) ∧ RvH w' w.heap.size (w.heap.size + 1) w.heap.size (.slice none 0 0) (.slice none 0 0) [] [] 0 1 ∧ Below w.heap.size w w' := by
  go_enter Tryz.func16, Tryz.ntmps16
  go_wp2_with fail
  go_ret
  refine ⟨rfl, ⟨Whl.new (by simp), World.ownsRow_nil _ _ _ _, (RfB.new (Nat.le_refl _)).below ((Below.refl _ _).alloc (Nat.le_refl _) _), by omega, by omega, (fun e => by cases e), (fun e => by cases e), (fun e => by cases e), (fun g hg => by cases hg)⟩, by ((repeat (first | (with_reducible exact Below.refl _ _) | (with_reducible assumption) | ((with_reducible refine b_set ?_ ?_); · (first | omega | (simp; done) | (simp; omega))) | ((with_reducible refine b_alloc ?_ ?_); · (first | omega | (simp; done) | (simp; omega))) | (with_reducible refine Below.drew ?_) | (with_reducible refine b_drewN ?_) | ((with_reducible refine b_call (by assumption) ?_ ?_); · (first | omega | (simp; done) | (simp; omega))))); done)⟩
end Go.Proofs.YtdlbiobjnohfbaaGreat
