/- The document's directory: Apply. Apply and Would of both directories, in one word. -/
import Derived.Test.YtbohpjinkdffhaaRdS
import Derived.Test.YtbohpjinkdffhaaRdB
import Derived.Deep.DeepCutAuto
namespace Go.Proofs.Ytbohpjinkdffhaa
open Go.RowKit
set_option linter.unusedVariables false
set_option linter.unusedSimpArgs false

/-- whether a change applies, and what the map is then -/
def Ap (hosts : List Int) (m : Mp) (c : Ch) (b : Bool) (m' : Mp) : Prop := (b = true ∧ Applies hosts m c m') ∨ (b = false ∧ m' = m ∧ ∀ m1, ¬ Applies hosts m c m1)
theorem Ap.ex (hosts : List Int) (m : Mp) (c : Ch) : ∃ b m', Ap hosts m c b m' := by
  by_cases h : ∃ m1, Applies hosts m c m1
  · obtain ⟨m1, h⟩ := h
    exact ⟨true, m1, .inl ⟨rfl, h⟩⟩
  · exact ⟨false, m, .inr ⟨rfl, rfl, fun m1 h1 => h ⟨m1, h1⟩⟩⟩
theorem Ap.det {hosts : List Int} {m m1 m2 : Mp} {c : Ch} {b1 b2 : Bool} (h1 : Ap hosts m c b1 m1) (h2 : Ap hosts m c b2 m2) : b1 = b2 ∧ m1 = m2 := by
  rcases h1 with ⟨rfl, h1⟩ | ⟨rfl, rfl, h1⟩
  · rcases h2 with ⟨rfl, h2⟩ | ⟨rfl, rfl, h2⟩
    · exact ⟨rfl, h1.det h2⟩
    · exact absurd h1 (h2 _)
  · rcases h2 with ⟨rfl, h2⟩ | ⟨rfl, rfl, h2⟩
    · exact absurd h2 (h1 _)
    · exact ⟨rfl, rfl⟩
theorem Ap.may {hosts : List Int} {m m' : Mp} {c : Ch} {b : Bool} (h : Ap hosts m c b m') (hm : MayI m) : MayI m' := by
  rcases h with ⟨_, h⟩ | ⟨_, rfl, _⟩
  · exact h.may hm
  · exact hm
theorem Ap.ver1 {hosts : List Int} {m m' : Mp} {c : Ch} {b : Bool} (h : Ap hosts m c b m') (hv : 1 ≤ m.ver) : 1 ≤ m'.ver := by
  rcases h with ⟨_, h⟩ | ⟨_, rfl, _⟩
  · exact h.ver1 hv
  · exact hv
theorem Small.mono {m : Mp} {n k : Int} (h : Small m n) (hk : n ≤ k) : Small m k := ⟨by have := h.ver; omega, by have := h.nxt; omega, fun z hz => by have := h.ep z hz; omega⟩
theorem Ap.small {hosts : List Int} {m m' : Mp} {c : Ch} {b : Bool} (h : Ap hosts m c b m') {n : Int} (hs : Small m n) : Small m' (n + 1) := by
  rcases h with ⟨_, h⟩ | ⟨_, rfl, _⟩
  · exact h.small hs
  · exact hs.mono (by omega)
/-- what the document's Apply answers -/
def RApQ (B d : Nat) (hv zv : Value) (hosts : List Int) (m : Mp) (c : Ch) (w : World) (e : Ending) (w' : World) : Prop :=
  ∃ (b : Bool) (m' : Mp) (zv' : Value), Ap hosts m c b m' ∧ e = .returned (.bool b) ∧ RdH w' B d hv zv' hosts m' ∧ Touch (Fz d zv) w w' ∧ (∀ k, zv'.ownBlock = some k → zv.ownBlock = some k ∨ w.heap.size ≤ k)
theorem RdQ.yes {B d : Nat} {hv zv : Value} {hosts : List Int} {m : Mp} {c : Ch} {i : Nat} {hi : i < m.zs.length} {w : World} {w' : World} (h : RdQ B d hv zv hosts m c i hi w (.returned (.bool true)) w') : ∃ (m1 : Mp) (zv' : Value), Deed hosts m c i hi m1 ∧ RdH w' B d hv zv' hosts m1 ∧ Touch (Fz d zv) w w' ∧ (∀ k, zv'.ownBlock = some k → zv.ownBlock = some k ∨ w.heap.size ≤ k) := by
  rcases h with ⟨m1, zv', h1, h2, h3, h4, h5⟩ | ⟨h1, h2, h3⟩
  · exact ⟨m1, zv', h1, h3, h4, h5⟩
  · cases h2
theorem RdQ.no {B d : Nat} {hv zv : Value} {hosts : List Int} {m : Mp} {c : Ch} {i : Nat} {hi : i < m.zs.length} {w : World} {w' : World} (h : RdQ B d hv zv hosts m c i hi w (.returned (.bool false)) w') : (∀ m1, ¬ Deed hosts m c i hi m1) ∧ Below w.heap.size w w' := by
  rcases h with ⟨m1, zv', h1, h2, h3, h4, h5⟩ | ⟨h1, h2, h3⟩
  · cases h2
  · exact ⟨h1, h3⟩
theorem RdQ.isyes {B d : Nat} {hv zv : Value} {hosts : List Int} {m : Mp} {c : Ch} {i : Nat} {hi : i < m.zs.length} {w : World} {e : Ending} {w' : World} (h : RdQ B d hv zv hosts m c i hi w e w') (hx : ∃ m1, Deed hosts m c i hi m1) : ∃ (m1 : Mp) (zv' : Value), e = .returned (.bool true) ∧ Deed hosts m c i hi m1 ∧ RdH w' B d hv zv' hosts m1 ∧ Touch (Fz d zv) w w' ∧ (∀ k, zv'.ownBlock = some k → zv.ownBlock = some k ∨ w.heap.size ≤ k) := by
  rcases h with ⟨m1, zv', h1, h2, h3, h4, h5⟩ | ⟨h1, h2, h3⟩
  · exact ⟨m1, zv', h2, h1, h3, h4, h5⟩
  · obtain ⟨m1, hx⟩ := hx
    exact absurd hx (h1 m1)
theorem RdQ.isno {B d : Nat} {hv zv : Value} {hosts : List Int} {m : Mp} {c : Ch} {i : Nat} {hi : i < m.zs.length} {w : World} {e : Ending} {w' : World} (h : RdQ B d hv zv hosts m c i hi w e w') (hx : ∀ m1, ¬ Deed hosts m c i hi m1) : e = .returned (.bool false) ∧ Below w.heap.size w w' := by
  rcases h with ⟨m1, zv', h1, h2, h3, h4, h5⟩ | ⟨h1, h2, h3⟩
  · exact absurd h1 (hx m1)
  · exact ⟨h2, h3⟩
set_option maxHeartbeats 8000000 in
set_option maxRecDepth 10000 in
theorem rdApply (B d : Nat) (hv zv : Value) (hosts : List Int) (m : Mp) (c : Ch) (w : World) (h : RdH w B d hv zv hosts m) (hB : B ≤ w.heap.size) (hlh : hosts.length ≤ 100000) (hm : MayI m) (hv1 : 1 ≤ m.ver) (hs : Small m 999999) :
    Calls Try.prog 17 #[.pointer (some ⟨d, 0, none⟩), .agg #[.int .i64 c.kd, .int .i64 c.zo, .int .i64 c.ep, .int .i64 c.mv, .string c.ky]] w fun e w' => RApQ B d hv zv hosts m c w e w' := by
  have HD := Lib.hid h
  have hdl := h.blk.low
  have hl : m.zs.length ≤ 16 ∧ 1 ≤ m.zs.length := by have := hm.okn.sum; have := hm.okn.one; omega
  have HM := Lib.hid hm
  have HS := Lib.hid hs
  have hver : m.ver ≤ 999999 := hs.ver
  have HV1 := Lib.hid hv1
  clear h hm hs
  by_cases hok : OkCh c
  case neg =>
    have HNOK := Lib.hid hok
    have HOKB : Hid (decide (OkCh c) = false) := Lib.hid (decide_eq_false hok)
    clear hok
    go_enter Try.func17, Try.ntmps17
    go_upto_region 1 with fail
    have hP : Whl (w.alloc (.cells #[.int .i64 c.kd, .int .i64 c.zo, .int .i64 c.ep, .int .i64 c.mv, .string c.ky] 47)) w.heap.size 47 #[.int .i64 c.kd, .int .i64 c.zo, .int .i64 c.ep, .int .i64 c.mv, .string c.ky] := Whl.new rfl
    have HBV : Hid (Below w.heap.size w (w.alloc (.cells #[.int .i64 c.kd, .int .i64 c.zo, .int .i64 c.ep, .int .i64 c.mv, .string c.ky] 47))) := Lib.hid ((Below.refl _ _).alloc (Nat.le_refl _) _)
    have HDV := Lib.hid (HD.out.below HBV.out)
    have HPV := Lib.hid hP
    have p1 := hP.cell 1
    have k2 := HDV.out.blk.cell 2
    simp only [List.getElem?_toArray, List.getElem?_cons_succ, List.getElem?_cons_zero] at p1 k2
    have hsv : w.heap.size < (w.alloc (.cells #[.int .i64 c.kd, .int .i64 c.zo, .int .i64 c.ep, .int .i64 c.mv, .string c.ky] 47)).heap.size := by simp
    clear hP
    generalize (w.alloc (.cells #[.int .i64 c.kd, .int .i64 c.zo, .int .i64 c.ep, .int .i64 c.mv, .string c.ky] 47)) = V at *
    refine wp_region_held_drew (S := (fun W => Below V.heap.size V W ∧ W.cell? ⟨d, 2, none⟩ = some zv ∧ W.cell? ⟨w.heap.size, 1, none⟩ = some (.int .i64 c.zo))) (by kernel_rfl) ⟨(Below.refl _ _).drew, k2, p1⟩ (fun hHeld => ?_)
    refine wpAnyH_take (i := 0) (oi := ⟨some 7, _, _, _, _, _⟩) (v := ?v0a) rfl (by kernel_rfl) (by kernel_rfl) (by kernel_rfl) (fun _ _ _ h => h) (Or.inl ⟨by rfl, ?y0a⟩) (by assumption) ?r0a
    case y0a => (intro w hSw; (try dsimp only at hSw); (try go_split_ands); go_simp); (try with_reducible rfl)
    case r0a =>
    (try simp only [Act.put, List.setIfInBounds_toArray, List.set_cons_zero, List.set_cons_succ])
    refine wpAnyH_take (i := 1) (oi := ⟨some 8, _, _, _, _, _⟩) (v := ?v1a) rfl (by kernel_rfl) (by kernel_rfl) (by kernel_rfl) (fun _ _ _ h => h) (Or.inl ⟨by rfl, ?y1a⟩) (by assumption) ?r1a
    case y1a => (intro w hSw; (try dsimp only at hSw); (try go_split_ands); go_simp); (try with_reducible rfl)
    case r1a =>
    (try simp only [Act.put, List.setIfInBounds_toArray, List.set_cons_zero, List.set_cons_succ])
    refine wpAnyH_take (i := 2) (oi := ⟨some 9, _, _, _, _, _⟩) (v := ?v2a) rfl (by kernel_rfl) (by kernel_rfl) (by kernel_rfl) (fun _ _ _ h => h) (Or.inl ⟨by rfl, ?y2a⟩) (by assumption) ?r2a
    case y2a => (intro w hSw; (try dsimp only at hSw); (try go_split_ands); go_simp); (try with_reducible rfl)
    case r2a =>
    (try simp only [Act.put, List.setIfInBounds_toArray, List.set_cons_zero, List.set_cons_succ])
    refine wpAnyH_take (i := 3) (oi := ⟨some 10, _, _, _, _, _⟩) (v := ?v3a) rfl (by kernel_rfl) (by kernel_rfl) (by kernel_rfl) (fun _ _ _ h => h) (Or.inl ⟨by rfl, ?y3a⟩) (by assumption) ?r3a
    case y3a => (intro w hSw; (try dsimp only at hSw); (try go_split_ands); go_simp); (try with_reducible rfl)
    case r3a =>
    (try simp only [Act.put, List.setIfInBounds_toArray, List.set_cons_zero, List.set_cons_succ])
    refine wpAnyH_take (i := 4) (oi := ⟨some 11, _, _, _, _, _⟩) (v := ?v4a) rfl (by kernel_rfl) (by kernel_rfl) (by kernel_rfl) (fun _ _ _ h => h) (Or.inl ⟨by rfl, ?y4a⟩) (by assumption) ?r4a
    case y4a => (intro w hSw; (try dsimp only at hSw); (try go_split_ands); go_simp); (try with_reducible rfl)
    case r4a =>
    (try simp only [Act.put, List.setIfInBounds_toArray, List.set_cons_zero, List.set_cons_succ])
    refine wpAnyH_take (i := 5) (oi := ⟨some 12, _, _, _, _, _⟩) (v := ?v5a) rfl (by kernel_rfl) (by kernel_rfl) (by kernel_rfl) (fun _ _ _ h => h) (Or.inl ⟨by rfl, ?y5a⟩) (by assumption) ?r5a
    case y5a => (intro w hSw; (try dsimp only at hSw); (try go_split_ands); go_simp); (try with_reducible rfl)
    case r5a =>
    (try simp only [Act.put, List.setIfInBounds_toArray, List.set_cons_zero, List.set_cons_succ])
    refine wpAnyH_take (i := 6) (oi := ⟨some 13, _, _, _, _, _⟩) (v := ?v6a) rfl (by kernel_rfl) (by kernel_rfl) (by kernel_rfl) (fun _ _ _ h => h) (Or.inl ⟨by rfl, ?y6a⟩) (by assumption) ?r6a
    case y6a => (intro w hSw; (try dsimp only at hSw); (try go_split_ands); go_simp); (try with_reducible rfl)
    case r6a =>
    (try simp only [Act.put, List.setIfInBounds_toArray, List.set_cons_zero, List.set_cons_succ])
    refine wpAnyH_ready (rs := [7]) (by kernel_rfl) (by simp) ?_
    refine AllReadyH.cons (o := ⟨some 14, _, _, _, _, _⟩) rfl (fun K hK => ?_) AllReadyH.nil
    go_simp
    refine (rdFind B zv m.zs c.zo _ (HDV.out.below hHeld.1).row (by omega)).mono ?_; rintro e w2 ⟨k, rfl, hat, hb3⟩
    go_wp2_with fail
    have HAT := Lib.hid hat
    clear hat
    refine hK.out _ _ (by have hh := Below.trans hHeld.1 (Below.mono hb3 (Below.size hHeld.1)); exact ⟨hh, bkeep hh k2 (by omega), bkeep hh p1 (by omega)⟩) (fun hHeld => ?_)
    clear hK K
    (try simp only [Act.put, List.setIfInBounds_toArray, List.set_cons_zero, List.set_cons_succ])
    refine wpAnyH_take (i := 8) (oi := ⟨some 5, _, _, _, _, _⟩) (v := ?v8a) rfl (by kernel_rfl) (by kernel_rfl) (by kernel_rfl) (fun _ _ _ h => h) (Or.inl ⟨by rfl, ?y8a⟩) (by assumption) ?r8a
    case y8a => (intro w hSw; (try dsimp only at hSw); (try go_split_ands); go_simp); (try with_reducible rfl)
    case r8a =>
    (try simp only [Act.put, List.setIfInBounds_toArray, List.set_cons_zero, List.set_cons_succ])
    refine wpAnyH_done (by kernel_rfl) ?_ _
    have HB2 : Hid (Below V.heap.size V w2) := Lib.hid hHeld.1
    have hs2 := HB2.out.size
    have HD2 := Lib.hid (HDV.out.below HB2.out)
    have HP2 := Lib.hid (HPV.out.below HB2.out hsv)
    have p0 := HP2.out.cell 0
    have p2 := HP2.out.cell 2
    have p3 := HP2.out.cell 3
    have p4 := HP2.out.cell 4
    have k0 := HD2.out.blk.cell 0
    have k1 := HD2.out.blk.cell 1
    have p1 := HP2.out.cell 1
    have k2 := HD2.out.blk.cell 2
    simp only [List.getElem?_toArray, List.getElem?_cons_succ, List.getElem?_cons_zero] at p0 p1 p2 p3 p4 k0 k1 k2
    have HBW2 := Lib.hid (HBV.out.trans (HB2.out.mono (Nat.le_of_lt hsv)))
    clear hHeld hb3
    go_wp2_with (first
      | (go_at_call 41; go_loud (refine (rdMayChange c _).mono ?_; rintro e w3 ⟨rfl, hb3⟩; rw [HOKB.out]; have HB3 := Lib.hid hb3; have hs3 := hb3.size; have k0 := bkeep hb3 k0 (by omega); have k1 := bkeep hb3 k1 (by omega); have k2 := bkeep hb3 k2 (by omega); have p0 := bkeep hb3 p0 (by omega); have p1 := bkeep hb3 p1 (by omega); have p2 := bkeep hb3 p2 (by omega); have p3 := bkeep hb3 p3 (by omega); have p4 := bkeep hb3 p4 (by omega); clear hb3))
      | fail)
    refine bodyPost_ret (v := .bool false) (by simp [results, Try.results17, go_sem]) rfl ⟨false, m, zv, .inr ⟨rfl, rfl, fun m1 hd => HNOK.out hd.ok⟩, rfl, HD.out.below (HBW2.out.trans (HB3.out.mono (by omega))), (Touch.of_below (HBW2.out.trans (HB3.out.mono (by omega)))).mono'' (fun k h1 h2 => absurd h2 (by omega)), fun k hk => .inl hk⟩

  have HOK := Lib.hid hok
  have HOKB : Hid (decide (OkCh c) = true) := Lib.hid (decide_eq_true hok)
  clear hok
  go_enter Try.func17, Try.ntmps17
  go_upto_region 1 with fail
  have hP : Whl (w.alloc (.cells #[.int .i64 c.kd, .int .i64 c.zo, .int .i64 c.ep, .int .i64 c.mv, .string c.ky] 47)) w.heap.size 47 #[.int .i64 c.kd, .int .i64 c.zo, .int .i64 c.ep, .int .i64 c.mv, .string c.ky] := Whl.new rfl
  have HBV : Hid (Below w.heap.size w (w.alloc (.cells #[.int .i64 c.kd, .int .i64 c.zo, .int .i64 c.ep, .int .i64 c.mv, .string c.ky] 47))) := Lib.hid ((Below.refl _ _).alloc (Nat.le_refl _) _)
  have HDV := Lib.hid (HD.out.below HBV.out)
  have HPV := Lib.hid hP
  have p1 := hP.cell 1
  have k2 := HDV.out.blk.cell 2
  simp only [List.getElem?_toArray, List.getElem?_cons_succ, List.getElem?_cons_zero] at p1 k2
  have hsv : w.heap.size < (w.alloc (.cells #[.int .i64 c.kd, .int .i64 c.zo, .int .i64 c.ep, .int .i64 c.mv, .string c.ky] 47)).heap.size := by simp
  clear hP
  generalize (w.alloc (.cells #[.int .i64 c.kd, .int .i64 c.zo, .int .i64 c.ep, .int .i64 c.mv, .string c.ky] 47)) = V at *
  refine wp_region_held_drew (S := (fun W => Below V.heap.size V W ∧ W.cell? ⟨d, 2, none⟩ = some zv ∧ W.cell? ⟨w.heap.size, 1, none⟩ = some (.int .i64 c.zo))) (by kernel_rfl) ⟨(Below.refl _ _).drew, k2, p1⟩ (fun hHeld => ?_)
  refine wpAnyH_take (i := 0) (oi := ⟨some 7, _, _, _, _, _⟩) (v := ?v0b) rfl (by kernel_rfl) (by kernel_rfl) (by kernel_rfl) (fun _ _ _ h => h) (Or.inl ⟨by rfl, ?y0b⟩) (by assumption) ?r0b
  case y0b => (intro w hSw; (try dsimp only at hSw); (try go_split_ands); go_simp); (try with_reducible rfl)
  case r0b =>
  (try simp only [Act.put, List.setIfInBounds_toArray, List.set_cons_zero, List.set_cons_succ])
  refine wpAnyH_take (i := 1) (oi := ⟨some 8, _, _, _, _, _⟩) (v := ?v1b) rfl (by kernel_rfl) (by kernel_rfl) (by kernel_rfl) (fun _ _ _ h => h) (Or.inl ⟨by rfl, ?y1b⟩) (by assumption) ?r1b
  case y1b => (intro w hSw; (try dsimp only at hSw); (try go_split_ands); go_simp); (try with_reducible rfl)
  case r1b =>
  (try simp only [Act.put, List.setIfInBounds_toArray, List.set_cons_zero, List.set_cons_succ])
  refine wpAnyH_take (i := 2) (oi := ⟨some 9, _, _, _, _, _⟩) (v := ?v2b) rfl (by kernel_rfl) (by kernel_rfl) (by kernel_rfl) (fun _ _ _ h => h) (Or.inl ⟨by rfl, ?y2b⟩) (by assumption) ?r2b
  case y2b => (intro w hSw; (try dsimp only at hSw); (try go_split_ands); go_simp); (try with_reducible rfl)
  case r2b =>
  (try simp only [Act.put, List.setIfInBounds_toArray, List.set_cons_zero, List.set_cons_succ])
  refine wpAnyH_take (i := 3) (oi := ⟨some 10, _, _, _, _, _⟩) (v := ?v3b) rfl (by kernel_rfl) (by kernel_rfl) (by kernel_rfl) (fun _ _ _ h => h) (Or.inl ⟨by rfl, ?y3b⟩) (by assumption) ?r3b
  case y3b => (intro w hSw; (try dsimp only at hSw); (try go_split_ands); go_simp); (try with_reducible rfl)
  case r3b =>
  (try simp only [Act.put, List.setIfInBounds_toArray, List.set_cons_zero, List.set_cons_succ])
  refine wpAnyH_take (i := 4) (oi := ⟨some 11, _, _, _, _, _⟩) (v := ?v4b) rfl (by kernel_rfl) (by kernel_rfl) (by kernel_rfl) (fun _ _ _ h => h) (Or.inl ⟨by rfl, ?y4b⟩) (by assumption) ?r4b
  case y4b => (intro w hSw; (try dsimp only at hSw); (try go_split_ands); go_simp); (try with_reducible rfl)
  case r4b =>
  (try simp only [Act.put, List.setIfInBounds_toArray, List.set_cons_zero, List.set_cons_succ])
  refine wpAnyH_take (i := 5) (oi := ⟨some 12, _, _, _, _, _⟩) (v := ?v5b) rfl (by kernel_rfl) (by kernel_rfl) (by kernel_rfl) (fun _ _ _ h => h) (Or.inl ⟨by rfl, ?y5b⟩) (by assumption) ?r5b
  case y5b => (intro w hSw; (try dsimp only at hSw); (try go_split_ands); go_simp); (try with_reducible rfl)
  case r5b =>
  (try simp only [Act.put, List.setIfInBounds_toArray, List.set_cons_zero, List.set_cons_succ])
  refine wpAnyH_take (i := 6) (oi := ⟨some 13, _, _, _, _, _⟩) (v := ?v6b) rfl (by kernel_rfl) (by kernel_rfl) (by kernel_rfl) (fun _ _ _ h => h) (Or.inl ⟨by rfl, ?y6b⟩) (by assumption) ?r6b
  case y6b => (intro w hSw; (try dsimp only at hSw); (try go_split_ands); go_simp); (try with_reducible rfl)
  case r6b =>
  (try simp only [Act.put, List.setIfInBounds_toArray, List.set_cons_zero, List.set_cons_succ])
  refine wpAnyH_ready (rs := [7]) (by kernel_rfl) (by simp) ?_
  refine AllReadyH.cons (o := ⟨some 14, _, _, _, _, _⟩) rfl (fun K hK => ?_) AllReadyH.nil
  go_simp
  refine (rdFind B zv m.zs c.zo _ (HDV.out.below hHeld.1).row (by omega)).mono ?_; rintro e w2 ⟨k, rfl, hat, hb3⟩
  go_wp2_with fail
  have HAT := Lib.hid hat
  clear hat
  refine hK.out _ _ (by have hh := Below.trans hHeld.1 (Below.mono hb3 (Below.size hHeld.1)); exact ⟨hh, bkeep hh k2 (by omega), bkeep hh p1 (by omega)⟩) (fun hHeld => ?_)
  clear hK K
  (try simp only [Act.put, List.setIfInBounds_toArray, List.set_cons_zero, List.set_cons_succ])
  refine wpAnyH_take (i := 8) (oi := ⟨some 5, _, _, _, _, _⟩) (v := ?v8b) rfl (by kernel_rfl) (by kernel_rfl) (by kernel_rfl) (fun _ _ _ h => h) (Or.inl ⟨by rfl, ?y8b⟩) (by assumption) ?r8b
  case y8b => (intro w hSw; (try dsimp only at hSw); (try go_split_ands); go_simp); (try with_reducible rfl)
  case r8b =>
  (try simp only [Act.put, List.setIfInBounds_toArray, List.set_cons_zero, List.set_cons_succ])
  refine wpAnyH_done (by kernel_rfl) ?_ _
  have HB2 : Hid (Below V.heap.size V w2) := Lib.hid hHeld.1
  have hs2 := HB2.out.size
  have HD2 := Lib.hid (HDV.out.below HB2.out)
  have HP2 := Lib.hid (HPV.out.below HB2.out hsv)
  have p0 := HP2.out.cell 0
  have p2 := HP2.out.cell 2
  have p3 := HP2.out.cell 3
  have p4 := HP2.out.cell 4
  have k0 := HD2.out.blk.cell 0
  have k1 := HD2.out.blk.cell 1
  have p1 := HP2.out.cell 1
  have k2 := HD2.out.blk.cell 2
  simp only [List.getElem?_toArray, List.getElem?_cons_succ, List.getElem?_cons_zero] at p0 p1 p2 p3 p4 k0 k1 k2
  have HBW2 := Lib.hid (HBV.out.trans (HB2.out.mono (Nat.le_of_lt hsv)))
  clear hHeld hb3
  rcases HAT.out with ⟨hk, hno⟩ | ⟨i, hk, hi, hid, hfi⟩
  · subst hk
    have HNOI := Lib.hid hno
    clear hno
    go_wp2_with (first
      | (go_at_call 41; go_loud (refine (rdMayChange c _).mono ?_; rintro e w3 ⟨rfl, hb3⟩; rw [HOKB.out]; have HB3 := Lib.hid hb3; have hs3 := hb3.size; have k0 := bkeep hb3 k0 (by omega); have k1 := bkeep hb3 k1 (by omega); have k2 := bkeep hb3 k2 (by omega); have p0 := bkeep hb3 p0 (by omega); have p1 := bkeep hb3 p1 (by omega); have p2 := bkeep hb3 p2 (by omega); have p3 := bkeep hb3 p3 (by omega); have p4 := bkeep hb3 p4 (by omega); clear hb3))
      | fail)
    refine bodyPost_ret (v := .bool false) (by simp [results, Try.results17, go_sem]) rfl ⟨false, m, zv, .inr ⟨rfl, rfl, fun m1 hd => by (obtain ⟨j, hj, hjd, _⟩ := hd.deed; exact HNOI.out j hj hj hjd)⟩, rfl, HD.out.below (HBW2.out.trans (HB3.out.mono (by omega))), (Touch.of_below (HBW2.out.trans (HB3.out.mono (by omega)))).mono'' (fun k h1 h2 => absurd h2 (by omega)), fun k hk => .inl hk⟩

  subst hk
  have HID := Lib.hid hid
  have HFI := Lib.hid hfi
  have q4 : ¬ ((i : Int) < 0) := by omega
  have q5 : ¬ ((1099511627776 : Int) ≤ m.ver) := by omega
  obtain ⟨gz, cc, hzv, _, hgz, hnc, hcm⟩ := own_form HD.out.row (by omega)
  subst hzv
  clear hid hfi
  go_upto_region 5 with (first
    | (go_at_call 41; go_loud (refine (rdMayChange c _).mono ?_; rintro e w3 ⟨rfl, hb3⟩; rw [HOKB.out]; have HB3 := Lib.hid hb3; have hs3 := hb3.size; have k0 := bkeep hb3 k0 (by omega); have k1 := bkeep hb3 k1 (by omega); have k2 := bkeep hb3 k2 (by omega); have p0 := bkeep hb3 p0 (by omega); have p1 := bkeep hb3 p1 (by omega); have p2 := bkeep hb3 p2 (by omega); have p3 := bkeep hb3 p3 (by omega); have p4 := bkeep hb3 p4 (by omega); clear hb3))
    | (go_at_call 42; go_loud (refine (rdOwn B _ m _ (HD2.out.below HB3.out).row (by omega) (by omega)).mono ?_; rintro e w4 ⟨v4, rfl, ho4, hb4⟩; obtain ⟨g4, c4, hv4, hg4, hg4l, hn4, hc4⟩ := own_form ho4 (by omega); subst hv4; have HO4 := Lib.hid ho4; have HB4 := Lib.hid hb4; clear ho4 hb4))
    | fail)
  obtain ⟨V5, hV5⟩ : ∃ V, V = (w4.alloc (.cells #[.int .i64 m.ver, .int .i64 m.nxt, .slice (some ⟨g4, 0, none⟩) m.zs.length c4] 33)) := ⟨_, rfl⟩
  obtain ⟨N, hN⟩ : ∃ n, n = w4.heap.size := ⟨_, rfl⟩
  have hB3 := HB3.out
  have hB4 := HB4.out
  have hs4 := hB4.size
  have hW5 : Whl V5 N 33 #[.int .i64 m.ver, .int .i64 m.nxt, .slice (some ⟨g4, 0, none⟩) m.zs.length c4] := by rw [hV5, hN]; exact Whl.new rfl
  have hB25 : Below w2.heap.size w2 V5 := by rw [hV5]; exact (hB3.trans (hB4.mono hB3.size)).alloc (by omega) _
  have hBV5 : Below w.heap.size w V5 := HBW2.out.trans (hB25.mono (by omega))
  have hO5 : V5.ownsRow w3.heap.size 39 9 (.slice (some ⟨g4, 0, none⟩) m.zs.length c4) m.zs.length (flatZ m.zs) := by rw [hV5]; exact HO4.out.alloc _
  have hV5s : w4.heap.size < V5.heap.size := by rw [hV5]; simp
  rw [← hN, ← hV5]
  have HW5 := Lib.hid hW5
  have HBV5 := Lib.hid hBV5
  have HO5 := Lib.hid hO5
  have HD5 := Lib.hid (HD2.out.below hB25)
  have hP5 := HP2.out.below hB25 (by omega)
  have hNV := hW5.low
  have hNl : w2.heap.size ≤ N := by omega
  have hg3 : w3.heap.size ≤ g4 := by omega
  clear p0 p1 p2 p3 p4 k0 k1 k2
  have p0 := hP5.cell 0
  have p1 := hP5.cell 1
  have p2 := hP5.cell 2
  have p3 := hP5.cell 3
  have p4 := hP5.cell 4
  simp only [List.getElem?_toArray, List.getElem?_cons_succ, List.getElem?_cons_zero] at p0 p1 p2 p3 p4
  have HS1 := Lib.hid (HS.out.mono (show (999999 : Int) ≤ 1000000 by decide))
  clear hV5 hN hB3 hB4 hW5 hB25 hBV5 hO5 hP5
  by_cases hdd : ∃ m1, Deed hosts m c i hi m1
  · have HDD := Lib.hid hdd
    clear hdd
    go_wp2_with (first
      | (go_at_call 43; go_loud (refine (rdChange B d i hv _ hosts m c hi _ HD5.out (by omega) hlh HOK.out HM.out HS1.out).mono ?_; rintro e w6 hq; obtain ⟨m1, zv6, rfl, hd6, hr6, ht6, hw6⟩ := hq.isyes HDD.out; have HDE := Lib.hid hd6; have HR6 := Lib.hid hr6; have HT6 := Lib.hid ht6; have HW6 := Lib.hid hw6; have u0 := hr6.blk.cell 0; have u1 := hr6.blk.cell 1; have u2 := hr6.blk.cell 2; simp only [List.getElem?_toArray, List.getElem?_cons_succ, List.getElem?_cons_zero] at u0 u1 u2; have hd6s := hr6.blk.low; have hmv : m1.ver = m.ver := hd6.ver; rw [hmv] at u0; have HMV := Lib.hid hmv; clear hq hd6 hr6 ht6 hw6 hmv))
      | (go_at_call 28; go_loud (have hMM := rdMay B _ m1 _ HR6.out.row (HDE.out.may HOK.out HM.out) (by (rw [HMV.out]; exact HV1.out)) ((HDE.out.small HS.out).mono (by decide)); rw [HMV.out] at hMM; refine hMM.mono ?_; rintro e w7 ⟨rfl, hb7⟩; have HB7 := Lib.hid hb7; have hs7 := hb7.size; have u0 := bkeep hb7 u0 (by omega); have HR7 := Lib.hid (HR6.out.below hb7); have uf := fun k => HR7.out.blk.free k; clear hb7 hMM))
      | fail)
    have hw5 := HBV5.out.size
    have hw6 := HT6.out.size
    have hfin := HR7.out.setver (m.ver + 1)
    have hT := ((((Touch.of_below HBV5.out).mono'' (D' := Fz d (.slice (some ⟨gz, 0, none⟩) m.zs.length cc)) (fun k h1 h2 => absurd h2 (by omega))).trans HT6.out (fun _ _ h => h)).trans (Touch.of_below HB7.out) (fun k h1 h2 => absurd h2 (by omega))).set (a := ⟨d, 0, none⟩) (v := .int .i64 (m.ver + 1)) (fun _ => .inl rfl)
    refine bodyPost_ret (v := .bool true) (by simp [results, Try.results17, go_sem]) rfl ⟨true, ⟨m1.ver + 1, m1.nxt, m1.zs⟩, zv6, .inl ⟨rfl, HOK.out, by unfold topN; omega, i, hi, HID.out, HFI.out, m1, HDE.out, rfl⟩, rfl, ?_, hT, ?_⟩
    · rw [HMV.out]; exact hfin
    · intro k hk
      rcases HW6.out k hk with h | h
      · exact .inl h
      · exact .inr (by omega)
  · have HND : Hid (∀ m1, ¬ Deed hosts m c i hi m1) := Lib.hid (fun m1 h => hdd ⟨m1, h⟩)
    clear hdd
    go_wp2_with (first
      | (go_at_call 43; go_loud (refine (rdChange B d i hv _ hosts m c hi _ HD5.out (by omega) hlh HOK.out HM.out HS1.out).mono ?_; rintro e w6 hq; obtain ⟨rfl, hb6⟩ := hq.isno HND.out; have HB6 := Lib.hid hb6; have HR6 := Lib.hid (HD5.out.below hb6); have hW6 := HW5.out.below hb6 hNV; have u0 := hW6.cell 0; have u1 := hW6.cell 1; have u2 := hW6.cell 2; have d0 := HR6.out.blk.cell 0; have d1 := HR6.out.blk.cell 1; have d2 := HR6.out.blk.cell 2; simp only [List.getElem?_toArray, List.getElem?_cons_succ, List.getElem?_cons_zero] at u0 u1 u2 d0 d1 d2; have hs6 := hb6.size; have uf := fun k => HR6.out.blk.free k; clear hq hb6 hW6))
      | fail)
    have hw5 := HBV5.out.size
    have hge : ∀ q, (Value.slice (some ⟨g4, 0, none⟩) m.zs.length c4).ownBlock = some q → q = g4 := fun q hq => by
      have : g4 = q := by simpa [Value.ownBlock] using hq
      exact this.symm
    have hgd : ∀ q, (Value.slice (some ⟨g4, 0, none⟩) m.zs.length c4).ownBlock = some q → q ≠ d := fun q hq => by
      have := hge q hq
      omega
    have s2 := (HR6.out.setver m.ver).setnxt m.nxt
    have hrow : ((w6.setCell ⟨d, 0, none⟩ (.int .i64 m.ver)).setCell ⟨d, 1, none⟩ (.int .i64 m.nxt)).ownsRow w3.heap.size 39 9 (.slice (some ⟨g4, 0, none⟩) m.zs.length c4) m.zs.length (flatZ m.zs) := own_set_ne (own_set_ne (row_belowZ HO5.out HB6.out) hgd) hgd
    have s3 := s2.stored (l := m.zs) hrow (by omega) (by omega) (fun q hq => by have := (HD.out.lows q (.inr (.inl hq))).2; omega)
    have hT := ((((Touch.of_below (HBV5.out.trans (HB6.out.mono hw5))).mono'' (D' := Fz d (.slice (some ⟨gz, 0, none⟩) m.zs.length cc)) (fun k h1 h2 => absurd h2 (by omega))).set (a := ⟨d, 0, none⟩) (v := .int .i64 m.ver) (fun _ => .inl rfl)).set (a := ⟨d, 1, none⟩) (v := .int .i64 m.nxt) (fun _ => .inl rfl)).set (a := ⟨d, 2, none⟩) (v := .slice (some ⟨g4, 0, none⟩) m.zs.length c4) (fun _ => .inl rfl)
    refine bodyPost_ret (v := .bool false) (by simp [results, Try.results17, go_sem]) rfl ⟨false, m, .slice (some ⟨g4, 0, none⟩) m.zs.length c4, .inr ⟨rfl, rfl, fun m2 ha => ?_⟩, rfl, s3, hT, fun k hk => .inr (by have := hge k hk; omega)⟩
    obtain ⟨i2, hi2, hid2, hfi2, m3, hd2, _⟩ := ha.deed
    have hii : i2 = i := by
      rcases Nat.lt_trichotomy i2 i with h | h | h
      · exact absurd hid2 (HFI.out i2 hi2 h)
      · exact h
      · exact absurd HID.out (hfi2 i hi h)
    subst hii
    exact HND.out m3 hd2
end Go.Proofs.Ytbohpjinkdffhaa

namespace Go.Proofs.Ytbohpjinkdffhaa
open Go.RowKit
set_option linter.unusedVariables false
set_option linter.unusedSimpArgs false

theorem twRd (b0 : Nat) (W : World) (d : Nat) (hv zv : Value) (hosts : List Int) (m : Mp) (hd : d = W.heap.size) (h1 : W.ownsRow b0 3 1 hv hosts.length (intsV hosts)) (h2 : W.ownsRow b0 39 9 zv m.zs.length (flatZ m.zs)) (hne : ∀ g, hv.ownBlock = some g → zv.ownBlock ≠ some g) (hb : b0 ≤ W.heap.size) :
    RdH (W.alloc (.cells #[.int .i64 m.ver, .int .i64 m.nxt, zv, hv] 44)) b0 d hv zv hosts m := by
  subst hd
  refine ⟨Whl.new rfl, h1.alloc _, h2.alloc _, fun g hg => ?_, fun g hg => ?_, hne, hb⟩
  · have := (h1.lt g hg).2; omega
  · have := (h2.lt g hg).2; omega
theorem twDr (b0 : Nat) (W : World) (d : Nat) (hv zv : Value) (hosts : List Int) (m : Mp) (hd : d = W.heap.size) (h1 : W.ownsRow b0 3 1 hv hosts.length (intsV hosts)) (h2 : W.ownsRow b0 39 9 zv m.zs.length (flatZ m.zs)) (hne : ∀ g, hv.ownBlock = some g → zv.ownBlock ≠ some g) (hb : b0 ≤ W.heap.size) :
    DrH (W.alloc (.cells #[hv, .int .i64 m.ver, .int .i64 m.nxt, zv] 74)) b0 d hv zv hosts m := by
  subst hd
  refine ⟨Whl.new rfl, h1.alloc _, h2.alloc _, fun g hg => ?_, fun g hg => ?_, hne, hb⟩
  · have := (h1.lt g hg).2; omega
  · have := (h2.lt g hg).2; omega
theorem twDr2 (b0 n : Nat) (W : World) (hv zv : Value) (hosts : List Int) (m : Mp) {a b c e : Value} (hg : Whl W n 74 #[a, b, c, e]) (h1 : W.ownsRow b0 3 1 hv hosts.length (intsV hosts)) (h2 : W.ownsRow b0 39 9 zv m.zs.length (flatZ m.zs)) (ha : ∀ g, hv.ownBlock = some g → g ≠ n) (za : ∀ g, zv.ownBlock = some g → g ≠ n) (hne : ∀ g, hv.ownBlock = some g → zv.ownBlock ≠ some g) (hb : b0 ≤ n) :
    DrH ((((W.setCell ⟨n, 0, none⟩ hv).setCell ⟨n, 1, none⟩ (.int .i64 m.ver)).setCell ⟨n, 2, none⟩ (.int .i64 m.nxt)).setCell ⟨n, 3, none⟩ zv) b0 n hv zv hosts m := by
  have k0 := hg.set 0 hv
  have k1 := k0.set 1 (.int .i64 m.ver)
  have k2 := k1.set 2 (.int .i64 m.nxt)
  have k3 := k2.set 3 zv
  exact ⟨k3, own_set_ne (own_set_ne (own_set_ne (own_set_ne h1 ha) ha) ha) ha, own_set_ne (own_set_ne (own_set_ne (own_set_ne h2 za) za) za) za, ha, za, hne, hb⟩
set_option maxHeartbeats 8000000 in
set_option maxRecDepth 10000 in
theorem drAp (B d : Nat) (hv zv : Value) (hosts : List Int) (m : Mp) (c : Ch) (w : World) (h : DrH w B d hv zv hosts m) (hB : B ≤ w.heap.size) (hM : OkM m) (hhl : hosts.length ≤ 1000) {b : Bool} {m' : Mp} (ha : Ap hosts m c b m') :
    Calls Try.prog 16 #[.pointer (some ⟨d, 0, none⟩), .agg #[.int .i64 c.kd, .int .i64 c.zo, .int .i64 c.ep, .int .i64 c.mv, .string c.ky]] w fun e w' => ∃ zv', e = .returned (.bool b) ∧ DrH w' B d hv zv' hosts m' ∧ Touch (Fz d zv) w w' ∧ (∀ k, zv'.ownBlock = some k → zv.ownBlock = some k ∨ w.heap.size ≤ k) := by
  refine (drApply B d hv zv hosts m c w h hB hM hhl).mono ?_
  rintro e w' (⟨m1, zv', h1, h2, h3, h4, h5⟩ | ⟨h1, h2, h3⟩)
  · obtain ⟨e1, e2⟩ := Ap.det ha (.inl ⟨rfl, h1⟩)
    rw [e1, e2]
    exact ⟨zv', h2, h3, h4, h5⟩
  · obtain ⟨e1, e2⟩ := Ap.det ha (.inr ⟨rfl, rfl, h1⟩)
    rw [e1, e2]
    exact ⟨zv, h2, h.below h3, (Touch.of_below h3).mono'' (fun k h1 h2 => absurd h2 (by omega)), fun k hk => .inl hk⟩
theorem rdAp (B d : Nat) (hv zv : Value) (hosts : List Int) (m : Mp) (c : Ch) (w : World) (h : RdH w B d hv zv hosts m) (hB : B ≤ w.heap.size) (hlh : hosts.length ≤ 100000) (hm : MayI m) (hv1 : 1 ≤ m.ver) (hs : Small m 999999) {b : Bool} {m' : Mp} (ha : Ap hosts m c b m') :
    Calls Try.prog 17 #[.pointer (some ⟨d, 0, none⟩), .agg #[.int .i64 c.kd, .int .i64 c.zo, .int .i64 c.ep, .int .i64 c.mv, .string c.ky]] w fun e w' => ∃ zv', e = .returned (.bool b) ∧ RdH w' B d hv zv' hosts m' ∧ Touch (Fz d zv) w w' ∧ (∀ k, zv'.ownBlock = some k → zv.ownBlock = some k ∨ w.heap.size ≤ k) := by
  refine (rdApply B d hv zv hosts m c w h hB hlh hm hv1 hs).mono ?_
  rintro e w' ⟨b1, m1, zv', h1, h2, h3, h4, h5⟩
  obtain ⟨e1, e2⟩ := Ap.det ha h1
  rw [e1, e2]
  exact ⟨zv', h2, h3, h4, h5⟩
set_option maxHeartbeats 8000000 in
set_option maxRecDepth 10000 in
theorem drWould (B d : Nat) (hv zv : Value) (hosts : List Int) (m : Mp) (c : Ch) (w : World) (h : DrH w B d hv zv hosts m) (hB : B ≤ w.heap.size) (hM : OkM m) (hhl : hosts.length ≤ 1000) {b : Bool} {m' : Mp} (ha : Ap hosts m c b m') :
    Calls Try.prog 31 #[.pointer (some ⟨d, 0, none⟩), .agg #[.int .i64 c.kd, .int .i64 c.zo, .int .i64 c.ep, .int .i64 c.mv, .string c.ky]] w fun e w' => e = .returned (.bool b) ∧ Below w.heap.size w w' := by
  have HD := Lib.hid h
  have hdl := h.blk.low
  have HA := Lib.hid ha
  obtain ⟨Ah, ch, hhv, _, _, _⟩ := own_slice h.hrow
  obtain ⟨Az, cz, hzv, _, _, _⟩ := own_slice h.row
  subst hhv hzv
  clear h ha
  go_enter Try.func31, Try.ntmps31
  go_upto_region 3 with fail
  have hP : Whl (w.alloc (.cells #[.int .i64 c.kd, .int .i64 c.zo, .int .i64 c.ep, .int .i64 c.mv, .string c.ky] 47)) w.heap.size 47 #[.int .i64 c.kd, .int .i64 c.zo, .int .i64 c.ep, .int .i64 c.mv, .string c.ky] := Whl.new rfl
  have HBV : Hid (Below w.heap.size w (w.alloc (.cells #[.int .i64 c.kd, .int .i64 c.zo, .int .i64 c.ep, .int .i64 c.mv, .string c.ky] 47))) := Lib.hid ((Below.refl _ _).alloc (Nat.le_refl _) _)
  have HDV := Lib.hid (HD.out.below HBV.out)
  have HPV := Lib.hid hP
  have k0 := HDV.out.blk.cell 0
  have k1 := HDV.out.blk.cell 1
  have k2 := HDV.out.blk.cell 2
  have k3 := HDV.out.blk.cell 3
  simp only [List.getElem?_toArray, List.getElem?_cons_succ, List.getElem?_cons_zero] at k0 k1 k2 k3
  have hsv : w.heap.size < (w.alloc (.cells #[.int .i64 c.kd, .int .i64 c.zo, .int .i64 c.ep, .int .i64 c.mv, .string c.ky] 47)).heap.size := by simp
  clear hP
  generalize (w.alloc (.cells #[.int .i64 c.kd, .int .i64 c.zo, .int .i64 c.ep, .int .i64 c.mv, .string c.ky] 47)) = V at *
  go_cut [5] (fun p wx => ∃ (d2 : Nat) (z2 : Value), p = .pointer (some ⟨d2, 0, none⟩) ∧ DrH wx B d2 (.slice Ah hosts.length ch) z2 hosts m ∧ (∀ k, Fz d2 z2 k → w.heap.size ≤ k) ∧ Below w.heap.size w wx ∧ Whl wx w.heap.size 47 #[.int .i64 c.kd, .int .i64 c.zo, .int .i64 c.ep, .int .i64 c.mv, .string c.ky])
  case first =>
    go_region_with (first
      | (go_at_call 33; go_loud (refine (drClone B _ m _ (HDV.out.below (by ((repeat (first | (with_reducible exact Below.refl _ _) | (with_reducible assumption) | ((with_reducible refine b_set ?_ ?_); · (first | omega | (simp; done) | (simp; omega))) | ((with_reducible refine b_alloc ?_ ?_); · (first | omega | (simp; done) | (simp; omega))) | (with_reducible refine Below.drew ?_) | (with_reducible refine b_drewN ?_) | ((with_reducible refine b_call (by assumption) ?_ ?_); · (first | omega | (simp; done) | (simp; omega))))); done))).row hM.len).mono ?_; rintro e w3 ⟨v3, rfl, ho3, hb3⟩; obtain ⟨A3, c3, hv3, _, _, _⟩ := own_slice ho3; subst hv3; have HO3 := Lib.hid ho3; have HB3 := Lib.hid hb3; have hs3 := hb3.size; (try simp at hs3); have HBX := Lib.hid (Below.trans (show Below V.heap.size V _ from by ((repeat (first | (with_reducible exact Below.refl _ _) | (with_reducible assumption) | ((with_reducible refine b_set ?_ ?_); · (first | omega | (simp; done) | (simp; omega))) | ((with_reducible refine b_alloc ?_ ?_); · (first | omega | (simp; done) | (simp; omega))) | (with_reducible refine Below.drew ?_) | (with_reducible refine b_drewN ?_) | ((with_reducible refine b_call (by assumption) ?_ ?_); · (first | omega | (simp; done) | (simp; omega))))); done)) (hb3.mono (by (try simp) <;> omega))); have HD3 := Lib.hid ((HDV.out.below (show Below V.heap.size V _ from by ((repeat (first | (with_reducible exact Below.refl _ _) | (with_reducible assumption) | ((with_reducible refine b_set ?_ ?_); · (first | omega | (simp; done) | (simp; omega))) | ((with_reducible refine b_alloc ?_ ?_); · (first | omega | (simp; done) | (simp; omega))) | (with_reducible refine Below.drew ?_) | (with_reducible refine b_drewN ?_) | ((with_reducible refine b_call (by assumption) ?_ ?_); · (first | omega | (simp; done) | (simp; omega))))); done))).below hb3); have j0 := HD3.out.blk.cell 0; simp only [List.getElem?_toArray, List.getElem?_cons_succ, List.getElem?_cons_zero] at j0; (try (have g1 := (Whl.new (w := V.drew) (t := 74) (cs := #[.slice none 0 0, .int .i64 0, .int .i64 0, .slice none 0 0]) (n := V.heap.size) (by simp)).below hb3 (by simp); have x0 := g1.cell 0; have x1 := g1.cell 1; have x2 := g1.cell 2; have x3 := g1.cell 3; simp only [List.getElem?_toArray, List.getElem?_cons_succ, List.getElem?_cons_zero] at x0 x1 x2 x3; have xf := fun k => g1.free k; have G1 := Lib.hid g1; clear g1)); clear ho3 hb3))
      | fail)
    all_goals
      go_wp2_with fail
      go_meet
      have hbw := HBX.out.size
      have hb3 : Below w.heap.size w w3 := HBV.out.trans (HBX.out.mono (by omega))
      have hP3 := HPV.out.below HBX.out hsv
      have hlo : ∀ q, (Value.slice A3 m.zs.length c3).ownBlock = some q → V.heap.size ≤ q ∧ q < w3.heap.size := fun q hq => by
        have := HO3.out.lt q hq
        simp at this
        omega
      have hhh : ∀ q, (Value.slice Ah hosts.length ch).ownBlock = some q → q < w.heap.size := fun q hq => (HD.out.hrow.lt q hq).2
      first
        | (have hG := G1.out
           have hlo2 : ∀ q, (Value.slice A3 m.zs.length c3).ownBlock = some q → q ≠ V.heap.size := fun q hq => by
             have := (HO3.out.lt q hq).1
             simp at this
             omega
           have ht : Touch (fun k => k = V.heap.size) w3 ((((w3.setCell ⟨V.heap.size, 0, none⟩ (.slice Ah hosts.length ch)).setCell ⟨V.heap.size, 1, none⟩ (.int .i64 m.ver)).setCell ⟨V.heap.size, 2, none⟩ (.int .i64 m.nxt)).setCell ⟨V.heap.size, 3, none⟩ (.slice A3 m.zs.length c3)) := by
             refine ((((Touch.refl _ _).set ?_).set ?_).set ?_).set ?_ <;> exact fun _ => rfl
           refine ⟨V.heap.size, .slice A3 m.zs.length c3, rfl, twDr2 B V.heap.size w3 _ _ hosts m hG HD3.out.hrow (own_mono HO3.out (by simp; omega)) (fun q hq => by have := hhh q hq; omega) hlo2 (fun q hq e => by have := hhh q hq; have := hlo q e; omega) (by omega), ?_, hb3.trans (ht.below (by omega) (fun k hk => by omega)), hP3.tou' ht (by omega)⟩
           rintro k (hk | hk)
           · omega
           · have := hlo k hk; omega)
        | (refine ⟨w3.heap.size, .slice A3 m.zs.length c3, rfl, twDr B w3 _ _ _ hosts m rfl HD3.out.hrow (own_mono HO3.out (by simp; omega)) (fun q hq e => by have := hhh q hq; have := hlo q e; omega) (by omega), ?_, hb3.alloc (by omega) _, hP3.alloc _⟩
           rintro k (hk | hk)
           · omega
           · have := hlo k hk; omega)
  case rest =>
    obtain ⟨d2, z2, rfl, hD2, hf2, hb2, hP2⟩ := hcut
    have HD2 := Lib.hid hD2
    have HF2 := Lib.hid hf2
    have HB2 := Lib.hid hb2
    have p0 := hP2.cell 0
    have p1 := hP2.cell 1
    have p2 := hP2.cell 2
    have p3 := hP2.cell 3
    have p4 := hP2.cell 4
    simp only [List.getElem?_toArray, List.getElem?_cons_succ, List.getElem?_cons_zero] at p0 p1 p2 p3 p4
    clear hP2 hD2 hf2 hb2 k0 k1 k2 k3
    go_wp2_with (first
      | (go_at_call 16; go_loud (refine (drAp B d2 _ z2 hosts m c _ HD2.out (by have := HB2.out.size; omega) hM hhl HA.out).mono ?_; rintro e w5 ⟨z5, rfl, _, ht5, _⟩; have HT5 := Lib.hid ht5; clear ht5))
      | fail)
    refine bodyPost_ret (v := .bool b) (by simp [results, Try.results31, go_sem]) rfl ⟨rfl, HB2.out.trans (HT5.out.below HB2.out.size HF2.out)⟩
set_option maxHeartbeats 8000000 in
set_option maxRecDepth 10000 in
theorem rdWould (B d : Nat) (hv zv : Value) (hosts : List Int) (m : Mp) (c : Ch) (w : World) (h : RdH w B d hv zv hosts m) (hB : B ≤ w.heap.size) (hlh : hosts.length ≤ 100000) (hm : MayI m) (hv1 : 1 ≤ m.ver) (hs : Small m 999999) {b : Bool} {m' : Mp} (ha : Ap hosts m c b m') :
    Calls Try.prog 32 #[.pointer (some ⟨d, 0, none⟩), .agg #[.int .i64 c.kd, .int .i64 c.zo, .int .i64 c.ep, .int .i64 c.mv, .string c.ky]] w fun e w' => e = .returned (.bool b) ∧ Below w.heap.size w w' := by
  have HM := Lib.hid hm
  have HSM := Lib.hid hs
  have hl : m.zs.length ≤ 16 ∧ 1 ≤ m.zs.length := by have := hm.okn.sum; have := hm.okn.one; omega
  clear hm hs
  have HD := Lib.hid h
  have hdl := h.blk.low
  have HA := Lib.hid ha
  obtain ⟨Ah, ch, hhv, _, _, _⟩ := own_slice h.hrow
  obtain ⟨Az, cz, hzv, _, _, _⟩ := own_slice h.row
  subst hhv hzv
  clear h ha
  go_enter Try.func32, Try.ntmps32
  go_upto_region 1 with fail
  have hP : Whl (w.alloc (.cells #[.int .i64 c.kd, .int .i64 c.zo, .int .i64 c.ep, .int .i64 c.mv, .string c.ky] 47)) w.heap.size 47 #[.int .i64 c.kd, .int .i64 c.zo, .int .i64 c.ep, .int .i64 c.mv, .string c.ky] := Whl.new rfl
  have HBV : Hid (Below w.heap.size w (w.alloc (.cells #[.int .i64 c.kd, .int .i64 c.zo, .int .i64 c.ep, .int .i64 c.mv, .string c.ky] 47))) := Lib.hid ((Below.refl _ _).alloc (Nat.le_refl _) _)
  have HDV := Lib.hid (HD.out.below HBV.out)
  have HPV := Lib.hid hP
  have k0 := HDV.out.blk.cell 0
  have k1 := HDV.out.blk.cell 1
  have k2 := HDV.out.blk.cell 2
  have k3 := HDV.out.blk.cell 3
  simp only [List.getElem?_toArray, List.getElem?_cons_succ, List.getElem?_cons_zero] at k0 k1 k2 k3
  have hsv : w.heap.size < (w.alloc (.cells #[.int .i64 c.kd, .int .i64 c.zo, .int .i64 c.ep, .int .i64 c.mv, .string c.ky] 47)).heap.size := by simp
  clear hP
  generalize (w.alloc (.cells #[.int .i64 c.kd, .int .i64 c.zo, .int .i64 c.ep, .int .i64 c.mv, .string c.ky] 47)) = V at *
  go_cut [5] (fun p wx => ∃ (d2 : Nat) (z2 : Value), p = .pointer (some ⟨d2, 0, none⟩) ∧ RdH wx B d2 (.slice Ah hosts.length ch) z2 hosts m ∧ (∀ k, Fz d2 z2 k → w.heap.size ≤ k) ∧ Below w.heap.size w wx ∧ Whl wx w.heap.size 47 #[.int .i64 c.kd, .int .i64 c.zo, .int .i64 c.ep, .int .i64 c.mv, .string c.ky])
  case first =>
    go_region_with (first
      | (go_at_call 42; go_loud (refine (rdOwn B _ m _ (HDV.out.below (by ((repeat (first | (with_reducible exact Below.refl _ _) | (with_reducible assumption) | ((with_reducible refine b_set ?_ ?_); · (first | omega | (simp; done) | (simp; omega))) | ((with_reducible refine b_alloc ?_ ?_); · (first | omega | (simp; done) | (simp; omega))) | (with_reducible refine Below.drew ?_) | (with_reducible refine b_drewN ?_) | ((with_reducible refine b_call (by assumption) ?_ ?_); · (first | omega | (simp; done) | (simp; omega))))); done))).row (by omega) (by omega)).mono ?_; rintro e w3 ⟨v3, rfl, ho3, hb3⟩; obtain ⟨A3, c3, hv3, _, _, _⟩ := own_slice ho3; subst hv3; have HO3 := Lib.hid ho3; have HB3 := Lib.hid hb3; have hs3 := hb3.size; (try simp at hs3); have k3 := bkeep HB3.out k3 (by (try simp) <;> omega); clear ho3 hb3))
      | fail)
    all_goals
      go_wp2_with fail
      go_meet
      have hb4 : Below w.heap.size w (w3.alloc (.cells #[.int .i64 m.ver, .int .i64 m.nxt, .slice A3 m.zs.length c3, .slice Ah hosts.length ch] 44)) := Below.alloc (HBV.out.trans (Below.trans (show Below w.heap.size V V.drew from (Below.refl _ _).drew) (HB3.out.mono (by simp; omega)))) (by omega) _
      have hwl := (HO3.out.lt)
      refine ⟨w3.heap.size, .slice A3 m.zs.length c3, rfl, twRd B w3 _ _ _ hosts m rfl ((HDV.out.below (Below.trans (Below.refl _ _).drew HB3.out)).hrow) (own_mono HO3.out (by simp; omega)) (fun q hq e => ?_) (by omega), ?_, hb4, ((HPV.out.drew).below HB3.out (by simpa using hsv)).alloc _⟩
      · have e1 := (HO3.out.lt q e).1
        have e2 := (HDV.out.hrow.lt q hq).2
        simp at e1
        omega
      · rintro k (hk | hk)
        · omega
        · have := (HO3.out.lt k hk).1
          simp at this
          omega
  case rest =>
    obtain ⟨d2, z2, rfl, hD2, hf2, hb2, hP2⟩ := hcut
    have HD2 := Lib.hid hD2
    have HF2 := Lib.hid hf2
    have HB2 := Lib.hid hb2
    have p0 := hP2.cell 0
    have p1 := hP2.cell 1
    have p2 := hP2.cell 2
    have p3 := hP2.cell 3
    have p4 := hP2.cell 4
    simp only [List.getElem?_toArray, List.getElem?_cons_succ, List.getElem?_cons_zero] at p0 p1 p2 p3 p4
    clear hP2 hD2 hf2 hb2 k0 k1 k2 k3
    go_wp2_with (first
      | (go_at_call 17; go_loud (refine (rdAp B d2 _ z2 hosts m c _ HD2.out (by have := HB2.out.size; omega) hlh HM.out hv1 HSM.out HA.out).mono ?_; rintro e w5 ⟨z5, rfl, _, ht5, _⟩; have HT5 := Lib.hid ht5; clear ht5))
      | fail)
    refine bodyPost_ret (v := .bool b) (by simp [results, Try.results32, go_sem]) rfl ⟨rfl, HB2.out.trans (HT5.out.below HB2.out.size HF2.out)⟩
end Go.Proofs.Ytbohpjinkdffhaa
