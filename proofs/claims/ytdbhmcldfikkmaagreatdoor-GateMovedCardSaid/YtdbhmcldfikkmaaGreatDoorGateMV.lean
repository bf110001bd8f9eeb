/- GateMoved: the walk of the law itself. -/
import Derived.Test.YtdbhmcldfikkmaaGreatDoorGateMW
import Derived.Test.YtdbhmcldfikkmaaGreatDoorGateMHs
import Derived.Test.YtdbhmcldfikkmaaGreatDoorGateK
import Derived.Deep.WholeRow
import Derived.Laws.Rows
namespace Go.Proofs.YtdbhmcldfikkmaaGreatDoor
open Go.RowKit
set_option linter.unusedVariables false
set_option linter.unusedSimpArgs false

theorem amongG (n h : Int) (hh : 1 ≤ h ∧ h ≤ 6) (w : World) : Calls Tryz.prog 11 #[.int .i64 n, .int .i64 h] w fun e w' => e = .returned (.bool (decide (8 ≤ n) && decide (n < 8 + h))) ∧ Below w.heap.size w w' := by
  have hw : IntKind.i64.wrap (8 + h) = 8 + h := wrap_id (by omega) (by omega)
  have hw2 : IntKind.i64.wrap (h + 8) = 8 + h := by rw [Int.add_comm]; exact hw
  go_enter Tryz.func11, Tryz.ntmps11
  by_cases h8 : 8 ≤ n
  · go_wp2_with fail
    go_ret
    exact ⟨by simp [h8], Below.refl _ _⟩
  · go_wp2_with fail
    go_ret
    exact ⟨by simp [h8]; omega, Below.refl _ _⟩
def gmWl (n : Int) : List Value := (.int .i64 6) :: (.int .i64 0) :: (.int .i64 0) :: (.int .i64 0) :: (.int .i64 0) :: (.int .i64 0) :: (.int .i64 n) :: (.int .i64 15) :: (.string ⟨#[]⟩) :: (.string ⟨#[]⟩) :: (.int .i64 5) :: (.int .i64 1) :: (.int .i64 1) :: (.string ⟨#[]⟩) :: (.string ⟨#[]⟩) :: (.string ⟨#[]⟩) :: (.string ⟨#[]⟩) :: (.int .i64 0) :: (.int .i64 0) :: (.int .i64 0) :: (.bool false) :: (.int .i64 0) :: (.int .i64 0) :: (.int .i64 0) :: (.int .i64 0) :: (.int .i64 0) :: (.int .i64 0) :: (.int .i64 0) :: (.int .i64 0) :: (.int .i64 0) :: (.slice none 0 0) :: (.int .i64 0) :: (.int .i64 0) :: (.int .i64 0) :: (.int .i64 0) :: (.string ⟨#[]⟩) :: (.slice none 0 0) :: []
def gmZl : List Value := (.int .i64 0) :: (.int .i64 0) :: (.int .i64 0) :: (.int .i64 0) :: (.int .i64 0) :: (.int .i64 0) :: (.int .i64 0) :: (.int .i64 0) :: (.string ⟨#[]⟩) :: (.string ⟨#[]⟩) :: (.int .i64 0) :: (.int .i64 0) :: (.int .i64 0) :: (.string ⟨#[]⟩) :: (.string ⟨#[]⟩) :: (.string ⟨#[]⟩) :: (.string ⟨#[]⟩) :: (.int .i64 0) :: (.int .i64 0) :: (.int .i64 0) :: (.bool false) :: (.int .i64 0) :: (.int .i64 0) :: (.int .i64 0) :: (.int .i64 0) :: (.int .i64 0) :: (.int .i64 0) :: (.int .i64 0) :: (.int .i64 0) :: (.int .i64 0) :: (.slice none 0 0) :: (.int .i64 0) :: (.int .i64 0) :: (.int .i64 0) :: (.int .i64 0) :: (.string ⟨#[]⟩) :: (.slice none 0 0) :: []
theorem gmWl_one (n : Int) : (gmWl n).toArray.all (·.oneCell') = true := by simp [gmWl, Value.oneCell']
theorem built49 (n : Int) : Tryz.prog.built 49 [(0, .int .i64 6), (7, .int .i64 15), (6, .int .i64 n), (9, .agg #[.int .i64 5, .int .i64 1, .int .i64 1, .string ⟨#[]⟩, .string ⟨#[]⟩, .string ⟨#[]⟩, .string ⟨#[]⟩, .int .i64 0, .int .i64 0, .int .i64 0, .bool false, .int .i64 0])] = some (gmWl n).toArray := by kernel_rfl
theorem zero49 : (Tryz.prog.info? 49).map (fun i => (i.zero, i.size)) = some (some (.agg gmZl.toArray), 37) := by kernel_rfl
theorem wpList_build_as {P : Program} {ops : Array Oper} {rest : List Oper} {o : Oper} {a : Act} {w : World} {Q : Exit → Act → World → Prop} (hg : o.guard = none) (t : TypeId) (parts : Array (Nat × Operand)) (ho : o.op = .build t parts) (cells : Array Value)
    (hb : P.built t (parts.map fun (i, x) => (i, a.eval x)).toList = some cells) (h : wpList P ops Q rest (a.put o.dst (.agg cells)) w) : wpList P ops Q (o :: rest) a w :=
  wpList_build hg t parts ho (by rw [hb]; rfl) (by rw [hb]; exact h)
theorem wpList_store_new {P : Program} {ops : Array Oper} {rest : List Oper} {o : Oper} {a : Act} {W : World} {Q : Exit → Act → World → Prop} (hgd : o.guard = none) (ty : TypeId) (x y : Operand) (ho : o.op = .store ty x y) (w : World) (t : TypeId) (old cells : Array Value) (hW : W = w.alloc (.cells old t))
    (hx : a.eval x = .pointer (some ⟨w.heap.size, 0, none⟩)) (hy : a.eval y = .agg cells) (hi : (P.info? ty).map (·.size) = some cells.size) (hold : old.size = cells.size) (h1 : cells.all (·.oneCell') = true)
    (h : wpList P ops Q rest (a.put o.dst undef) (w.alloc (.cells cells t))) : wpList P ops Q (o :: rest) a W := by
  subst hW
  exact wpList_store_row hgd ty x y ho w.heap.size cells hx hy t old (heap_alloc_last w _) hi hold h1 (by rw [World.setRow_alloc_new]; exact h)
theorem at49 {P : Program} {ops : Array Oper} {rest : List Oper} {dst : Option Tmp} {x y : Operand} {t : TypeId} {ps : String} {af : Array Edge} {gd : Option (Nat × Bool)} {a : Act} {W : World} {Q : Exit → Act → World → Prop} (h : wpList P ops Q ({ dst := dst, op := .store 49 x y, type := t, pos := ps, after := af, guard := gd } :: rest) a W) :
    wpList P ops Q ({ dst := dst, op := .store 49 x y, type := t, pos := ps, after := af, guard := gd } :: rest) a W := h
theorem at49l {P : Program} {ops : Array Oper} {rest : List Oper} {dst : Option Tmp} {x : Operand} {t : TypeId} {ps : String} {af : Array Edge} {gd : Option (Nat × Bool)} {a : Act} {W : World} {Q : Exit → Act → World → Prop} (h : wpList P ops Q ({ dst := dst, op := .load 49 x, type := t, pos := ps, after := af, guard := gd } :: rest) a W) :
    wpList P ops Q ({ dst := dst, op := .load 49 x, type := t, pos := ps, after := af, guard := gd } :: rest) a W := h
theorem below2 {s : TypeId} {l : List Value} {w : World} (h : w.heap[1]? = some (.cells l.toArray s (0, 0))) : 2 ≤ w.heap.size := by
  rcases Nat.lt_or_ge 1 w.heap.size with h1 | h1
  · omega
  · rw [Array.getElem?_eq_none h1] at h; cases h
theorem get2 (s t : TypeId) (g : Option AObj) : (gmT s t g []).get 2 = g := by rfl
theorem Gs.lt2 {f h : Int} {s t : TypeId} {l : List Value} {k B : Nat} {ρ : Ren} {w : World} (g : Gs f h (gmT s t (gmRow l) []) k B ρ w) : ρ.φ 2 < w.heap.size := (g.st.holds 2 _ trivial (get2 s t _)).lt
theorem cells_new {w wd : World} {cs : Array Value} {t : TypeId} (h : wd.heap[w.heap.size]? = (w.alloc (.cells cs t (0, 0))).heap[w.heap.size]?) (o : Nat) : wd.cell? ⟨w.heap.size, o, none⟩ = cs[o]? := by
  have : wd.heap[w.heap.size]? = some (.cells cs t (0, 0)) := by rw [h]; exact heap_alloc_last w _
  simp [World.cell?, this]
theorem amongT {n h : Int} (hh : 1 ≤ h ∧ h ≤ 6) (h1 : 8 ≤ n) (h2 : n < 8 + h) (w : World) : Calls Tryz.prog 11 #[.int .i64 n, .int .i64 h] w fun e w' => e = .returned (.bool true) ∧ Below w.heap.size w w' :=
  (amongG n h hh w).mono fun e w' ⟨he, hb⟩ => ⟨by rw [he]; simp [h1, h2], hb⟩
theorem amongF {n h : Int} (hh : 1 ≤ h ∧ h ≤ 6) (h1 : ¬ (8 ≤ n ∧ n < 8 + h)) (w : World) : Calls Tryz.prog 11 #[.int .i64 n, .int .i64 h] w fun e w' => e = .returned (.bool false) ∧ Below w.heap.size w w' :=
  (amongG n h hh w).mono fun e w' ⟨he, hb⟩ => ⟨by rw [he]; congr 2; simp; omega, hb⟩
theorem knownG {s t : TypeId} {w W : World} (g0 : w.heap[0]? = some (.cells gateLow.toArray s (0, 0))) (g1 : w.heap[1]? = some (.cells gateHigh.toArray t (0, 0))) (hb : Below w.heap.size w W) (h2 : 2 ≤ w.heap.size) :
    Calls Tryz.prog 4 #[] W fun e w' => e = .returned (.bool true) ∧ Below w.heap.size w w' :=
  (gateKKnown W s t (by rw [hb.block 0 (by omega)]; exact g0) (by rw [hb.block 1 (by omega)]; exact g1)).mono fun e w' ⟨he, hb'⟩ => ⟨he, hb.trans (hb'.mono hb.size)⟩
theorem lt_of_cell {w : World} {b o : Nat} {v : Value} (h : w.cell? ⟨b, o, none⟩ = some v) : b < w.heap.size := by
  rcases Nat.lt_or_ge b w.heap.size with h1 | h1
  · exact h1
  · simp [World.cell?, Array.getElem?_eq_none h1] at h
set_option maxHeartbeats 4000000 in
theorem walkGateMoved1 (f h : Int) (n : Nat) (h1 : 1 ≤ h) (h2 : h ≤ 6) (hn : n ≤ 100) (s t : TypeId) (HM : ∀ i, i < 101 → okMsg s t i = true) (hL : ∀ i, i < 8 → okHearN gmFc s t i = true) (hN : ∀ i, 8 ≤ i → i < 101 → okHearN (gmFh (Int.ofNat i) false) s t i = true) (hY : ∀ i, 8 ≤ i → i < 14 → okHearY s t i = true) (hA : ∀ i, 8 ≤ i → i < 14 → okAns s t i = true)
    (w : World) (g0 : w.heap[0]? = some (.cells gateLow.toArray s (0, 0))) (g1 : w.heap[1]? = some (.cells gateHigh.toArray t (0, 0))) :
    Calls Tryz.prog 3 #[.int .i64 h, .int .i64 n, .int .i64 f] w fun e w' => e = .returned (.bool true) ∧ Below w.heap.size w w' := by
  have c1 : decide (h < 1) = false := by simp; omega
  have c2 : decide (6 < h) = false := by simp; omega
  have c3 : decide ((n : Int) < 0) = false := by simp
  have c4 : decide ((100 : Int) < (n : Int)) = false := by simp; omega
  have HG0 := Lib.hid g0
  have HG1 := Lib.hid g1
  clear g0 g1
  go_enter Tryz.func3, Tryz.ntmps3
  go_upto_region 7 with (first
    | (go_at_call 5; refine (newG (f := f) h1 h2 HG0.out HG1.out).mono ?_; rintro e wa ⟨ρ1, rfl, G1, B1⟩; have Z1 := B1.size)
    | (go_at_call 7; refine (lookG h1 h2 G1 B1 Z1).mono ?_; rintro e wb ⟨ρ2, rfl, P2, G2, B2⟩; have Z2 := B2.size)
    | (go_at_call 6; refine (submitG h1 h2 G2 P2 B2 Z2).mono ?_; rintro e wc ⟨ρ3, rfl, P3, G3, B3⟩; have Z3 := B3.size)
    | fail)
  have hs2 : 2 ≤ w.heap.size := below2 HG1.out
  have L3 : ρ3.φ 2 < wc.heap.size := Gs.lt2 G3
  have L1 : w.heap.size ≤ ρ3.φ 2 := G3.low 2 (Nat.le_refl _) (by decide)
  rw [P3] at L3 L1
  go_upto_region 8 with (first
    | (go_at_call 8; refine (tickG h1 h2 (G3.keep (Below.alloc (Below.refl _ _) (Nat.le_refl _) _)) P3 (Below.alloc B3 Z3 _) (by simp; omega)).mono ?_; rintro e wd ⟨ρ4, v4, rfl, P4, G4, B4, F4⟩; have Z4 := B4.size)
    | fail)
  have FC := F4 wc.heap.size (by simp) (by omega) (by omega)
  have y0 := cells_new FC 0
  have y1 := cells_new FC 1
  have y2 := cells_new FC 2
  simp only [List.getElem?_toArray, List.getElem?_cons_succ, List.getElem?_cons_zero] at y0 y1 y2
  clear F4 FC
  go_upto_region 9 with (first
    | (with_reducible refine at49 ?_; refine wpList_store_new rfl 49 (.tmp 11) (.tmp 55) rfl wd 49 gmZl.toArray (gmWl n).toArray rfl rfl rfl (by kernel_rfl) rfl (gmWl_one n) ?_)
    | fail)
  by_cases cc : 8 ≤ f ∧ f < 8 + h ∧ 8 ≤ n ∧ (n : Int) < 8 + h
  · go_upto_region 10 with (first
      | (with_reducible refine at49l ?_; refine wpList_load_row rfl 49 (.tmp 11) rfl wd.heap.size rfl 49 (gmWl n).toArray (0, 0) _ (heap_alloc_last wd _) Tryz.underlying49 rfl (by kernel_rfl) ?_)
      | (go_at_call 10; refine (msgG h1 h2 (HM n (by omega)) (G4.keep (Below.alloc (Below.refl _ _) (Nat.le_refl _) _)) P4 (Below.alloc B4 Z4 _) (by simp; omega) rfl).mono ?_; rintro e we ⟨ρ5, rfl, P5, G5, B5⟩; have Z5 := B5.size)
      | (go_at_call 9; refine (hearG h1 h2 hn hL hN hY G5 P5 B5 Z5).mono ?_; rintro e wf ⟨_, q2⟩; obtain ⟨ρ6, b, c, rfl, x1, P6, G6, B6⟩ := q2 cc; have Z6 := B6.size)
      | fail)
    obtain ⟨d1, d2, d3, d4⟩ := cc
    have d3' : (8 : Int) ≤ (n : Int) := by omega
    have LB := lt_of_cell x1
    go_wp2_with (first
      | (go_at_call 11; refine (amongT ⟨h1, h2⟩ (by omega) (by omega) _).mono ?_; rintro e wg ⟨rfl, B7⟩; replace x1 := bkeep B7 x1 LB; replace LB := Nat.lt_of_lt_of_le LB B7.size; replace G6 := G6.keep B7; replace B6 := B6.trans (B7.mono Z6); replace Z6 := B6.size; clear B7)
      | (go_at_call 12; refine (ansG h1 h2 (hA n d3 (by omega)) G6 P6 B6 Z6).mono ?_; rintro e wh ⟨rfl, B8⟩)
      | (go_at_call 4; refine (knownG HG0.out HG1.out B8 hs2).mono ?_; rintro e wk ⟨rfl, B9⟩)
      | fail)
    go_ret
    exact ⟨rfl, B9⟩
  · go_upto_region 10 with (first
      | (with_reducible refine at49l ?_; refine wpList_load_row rfl 49 (.tmp 11) rfl wd.heap.size rfl 49 (gmWl n).toArray (0, 0) _ (heap_alloc_last wd _) Tryz.underlying49 rfl (by kernel_rfl) ?_)
      | (go_at_call 10; refine (msgG h1 h2 (HM n (by omega)) (G4.keep (Below.alloc (Below.refl _ _) (Nat.le_refl _) _)) P4 (Below.alloc B4 Z4 _) (by simp; omega) rfl).mono ?_; rintro e we ⟨ρ5, rfl, P5, G5, B5⟩; have Z5 := B5.size)
      | (go_at_call 9; refine (hearG h1 h2 hn hL hN hY G5 P5 B5 Z5).mono ?_; rintro e wf ⟨q1, _⟩; obtain ⟨rfl, B6⟩ := q1 cc; have Z6 := B6.size)
      | fail)
    by_cases ca : 8 ≤ (n : Int) ∧ (n : Int) < 8 + h
    · have cb : ¬ (8 ≤ f ∧ f < 8 + h) := fun hc => cc ⟨hc.1, hc.2, by omega, ca.2⟩
      have u1 : (decide (8 ≤ (n : Int)) && decide ((n : Int) < 8 + h)) = true := by simp [ca.1, ca.2]
      have u2 : (decide (8 ≤ f) && decide (f < 8 + h)) = false := by simp; omega
      clear ca cb cc
      go_wp2_with (first
        | (go_at_call 11; refine (amongG _ h ⟨h1, h2⟩ _).mono ?_; rintro e wg ⟨he, B7⟩; (first | rw [u1] at he | rw [u2] at he); subst he; replace B6 := B6.trans (B7.mono Z6); replace Z6 := B6.size; clear B7)
        | (go_at_call 4; refine (knownG HG0.out HG1.out B6 hs2).mono ?_; rintro e wk ⟨rfl, B9⟩)
        | fail)
      all_goals go_ret
      all_goals exact ⟨rfl, B9⟩
    · go_wp2_with (first
        | (go_at_call 11; refine (amongF ⟨h1, h2⟩ ca _).mono ?_; rintro e wg ⟨rfl, B7⟩; replace B6 := B6.trans (B7.mono Z6); replace Z6 := B6.size; clear B7)
        | (go_at_call 4; refine (knownG HG0.out HG1.out B6 hs2).mono ?_; rintro e wk ⟨rfl, B9⟩)
        | fail)
      all_goals go_ret
      all_goals exact ⟨rfl, B9⟩
theorem walkGateMoved (a0 a1 a2 : Int) (w0 : (Lit.int .i64 a0).wf = true) (w1 : (Lit.int .i64 a1).wf = true) (w2 : (Lit.int .i64 a2).wf = true) (s t : TypeId) (w : World) (g0 : w.heap[0]? = some (.cells gateLow.toArray s (0, 0))) (g1 : w.heap[1]? = some (.cells gateHigh.toArray t (0, 0))) :
    Calls Tryz.prog 3 #[.int .i64 a0, .int .i64 a1, .int .i64 a2] w fun e w' => e = .returned (.bool true) ∧ Below w.heap.size w w' := by
  by_cases hr : 1 ≤ a0 ∧ a0 ≤ 6 ∧ 0 ≤ a1 ∧ a1 ≤ 100
  · obtain ⟨h1, h2, h3, h4⟩ := hr
    obtain ⟨n, rfl⟩ : ∃ n : Nat, a1 = n := ⟨a1.toNat, by omega⟩
    exact walkGateMoved1 a2 a0 n h1 h2 (by omega) s t (fun i hi => msgNs s t i (by omega) hi) (fun i hi => hearLs s t i (by omega) hi) (fun i h hi => hearNs s t i h hi) (fun i h hi => hearYs s t i h hi) (fun i h hi => ansNs s t i h hi) w g0 g1
  · have hs2 := below2 g1
    have HG0 := Lib.hid g0
    have HG1 := Lib.hid g1
    clear g0 g1
    go_enter Tryz.func3, Tryz.ntmps3
    go_wp2_with (first | (go_at_call 4; refine (knownG HG0.out HG1.out (Below.refl _ _) hs2).mono ?_; rintro e w4 ⟨rfl, hb4⟩) | fail)
    all_goals first | (exfalso; simp_all; omega) | (go_ret; exact ⟨rfl, hb4⟩)
end Go.Proofs.YtdbhmcldfikkmaaGreatDoor
