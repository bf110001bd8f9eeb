/- the law's known. -/
import Derived.Test.YtepjehcmiofehaaGreatPlQ
namespace Go.Proofs.YtepjehcmiofehaaGreat
open Go.RowKit
set_option linter.unusedVariables false
set_option linter.unusedSimpArgs false

theorem kRowZ (w : World) (o1 o2 o3 : Obj) : RowZ ((((w.alloc (.cells #[.int .i64 1, .string ⟨#[]⟩, .string ⟨#[109]⟩, .int .i64 8, .int .i64 2, .int .i64 0, .int .i64 0, .string ⟨#[]⟩, .int .i64 0, .int .i64 2, .string ⟨#[109]⟩, .string ⟨#[]⟩, .int .i64 8, .int .i64 2, .int .i64 0, .int .i64 0, .string ⟨#[]⟩, .int .i64 0] 56)).alloc o1).alloc o2).alloc o3) (some ⟨w.heap.size, 0, none⟩) 2 kM.zs := by
  have h : (w.alloc (.cells #[.int .i64 1, .string ⟨#[]⟩, .string ⟨#[109]⟩, .int .i64 8, .int .i64 2, .int .i64 0, .int .i64 0, .string ⟨#[]⟩, .int .i64 0, .int .i64 2, .string ⟨#[109]⟩, .string ⟨#[]⟩, .int .i64 8, .int .i64 2, .int .i64 0, .int .i64 0, .string ⟨#[]⟩, .int .i64 0] 56)).ownsRow w.heap.size 56 9 (.slice (some ⟨w.heap.size, 0, none⟩) 2 2) kM.zs.length (flatZ kM.zs) := World.ownsRow_lit w #[.int .i64 1, .string ⟨#[]⟩, .string ⟨#[109]⟩, .int .i64 8, .int .i64 2, .int .i64 0, .int .i64 0, .string ⟨#[]⟩, .int .i64 0, .int .i64 2, .string ⟨#[109]⟩, .string ⟨#[]⟩, .int .i64 8, .int .i64 2, .int .i64 0, .int .i64 0, .string ⟨#[]⟩, .int .i64 0] 2 (Nat.le_refl _) (by unfold maxLen; omega) rfl
  obtain ⟨A, c, e, hr⟩ := RowZ.of (n := 0) h
  injection e with e1 e2 e3
  subst e1 e3
  exact ((hr.alloc o1).alloc o2).alloc o3
theorem kRowH (w : World) (o3 : Obj) (k : Nat) (hk : k = w.heap.size) : Cells ((w.alloc (.cells #[.int .i64 8, .int .i64 9] 3)).alloc o3) ((w.alloc (.cells #[.int .i64 8, .int .i64 9] 3)).alloc o3).heap.size (some ⟨k, 0, none⟩) ([8, 9] : List Int).length 2 1 (intsV [8, 9]) := by
  subst hk
  have h : (w.alloc (.cells #[.int .i64 8, .int .i64 9] 3)).ownsRow w.heap.size 3 1 (.slice (some ⟨w.heap.size, 0, none⟩) 2 2) ([8, 9] : List Int).length (intsV [8, 9]) := World.ownsRow_lit w #[.int .i64 8, .int .i64 9] 2 (Nat.le_refl _) (by unfold maxLen; omega) rfl
  obtain ⟨A, c, e, _, _, hr⟩ := row_cells h
  injection e with e1 e2 e3
  subst e1 e3
  have hb : Below (w.alloc (.cells #[.int .i64 8, .int .i64 9] 3)).heap.size (w.alloc (.cells #[.int .i64 8, .int .i64 9] 3)) ((w.alloc (.cells #[.int .i64 8, .int .i64 9] 3)).alloc o3) := (Below.refl _ _).alloc (Nat.le_refl _) _
  exact cells_keep hr hb hb.size
theorem kRowL (w : World) (k : Nat) (hk : k = w.heap.size) : RowL (w.alloc (.cells #[.int .i64 1, .int .i64 5, .string ⟨#[]⟩, .int .i64 2, .int .i64 4, .string ⟨#[]⟩] 34)) (some ⟨k, 0, none⟩) 2 kL := by
  subst hk
  have h : (w.alloc (.cells #[.int .i64 1, .int .i64 5, .string ⟨#[]⟩, .int .i64 2, .int .i64 4, .string ⟨#[]⟩] 34)).ownsRow w.heap.size 34 3 (.slice (some ⟨w.heap.size, 0, none⟩) 2 2) kL.length (flatL kL) := World.ownsRow_lit w #[.int .i64 1, .int .i64 5, .string ⟨#[]⟩, .int .i64 2, .int .i64 4, .string ⟨#[]⟩] 2 (Nat.le_refl _) (by unfold maxLen; omega) rfl
  obtain ⟨A, c, e, _, _, hr⟩ := row_cells h
  injection e with e1 e2 e3
  subst e1 e3
  exact hr
set_option maxHeartbeats 8000000 in
set_option maxRecDepth 10000 in
theorem plKnown (w : World) :
    Calls Tryz.prog 11 #[] w fun e w' => e = .returned (.bool true) ∧ Below w.heap.size w w' := by
  go_enter Tryz.func11, Tryz.ntmps11
  go_wp2_with (first
    | (go_at_call 6; go_loud (refine (plMakeYes (some ⟨w.heap.size, 0, none⟩) 2 kM (some ⟨w.heap.size + 1 + 1, 0, none⟩) 2 [8, 9] (some ⟨w.heap.size + 1 + 1 + 1, 0, none⟩) 2 kL 100 0 _ (kRowZ w _ _ _) kSm (kRowH _ _ _ (by simp)) (kRowL _ _ (by simp)) (by decide) kMay kHosts).mono ?_; rintro e w1 ⟨v, cs, rfl, hR, ho, hb⟩; obtain rfl := kPlan hR; obtain ⟨g, c, rfl, hg, hgl, _, _⟩ := own_form ho (by decide); have y0 : w1.cell? ⟨g, 0, none⟩ = some (.int .i64 3) := ho.cellAt 0 (by decide); have y1 : w1.cell? ⟨g, 1, none⟩ = some (.int .i64 1) := ho.cellAt 1 (by decide); have y2 : w1.cell? ⟨g, 2, none⟩ = some (.int .i64 0) := ho.cellAt 2 (by decide); have y3 : w1.cell? ⟨g, 3, none⟩ = some (.int .i64 9) := ho.cellAt 3 (by decide); have y4 : w1.cell? ⟨g, 4, none⟩ = some (.string ⟨#[]⟩) := ho.cellAt 4 (by decide); have HB := Lib.hid hb; clear ho hb hR))
    | fail)
  go_ret
  exact ⟨rfl, ((((((Below.refl _ _).alloc (Nat.le_refl _) _).alloc (by simp) _).alloc (by simp; omega) _).alloc (by simp; omega) _)).trans (HB.out.mono (by simp; omega))⟩
end Go.Proofs.YtepjehcmiofehaaGreat
