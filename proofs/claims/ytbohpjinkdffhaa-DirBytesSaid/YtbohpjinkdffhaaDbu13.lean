/- The directory: settled; a zone stored whole. -/
import Derived.Test.YtbohpjinkdffhaaProg
import Derived.WalkKit
import Derived.WalkSpells
import Derived.WalkLawsBesides
import Derived.Deep.QuietTactic
import Derived.BigQuiet
import Derived.RegionTactic
import Derived.BigRegion
import Derived.Outline
import Derived.LoopTactic
import Derived.Lib.Hide
import Derived.Deep.RegionHeld3
import GoSem.Op.String
import Derived.Lib.Strings
import Derived.Laws.AppendOwnNone
import Derived.Deep.AppendLies
import Derived.Maps.AppendAt
import Derived.Laws.Rows
import Derived.Deep.Cut
import Derived.StillTailTactics
import Derived.Deep.RegionLaw
import Derived.Test.YtbohpjinkdffhaaDbu0
import Derived.Test.YtbohpjinkdffhaaDbu3
import Derived.Test.YtbohpjinkdffhaaDbu6
import Derived.Test.YtbohpjinkdffhaaDbu11
import Derived.Test.YtbohpjinkdffhaaDbu12
namespace Go.Proofs.Ytbohpjinkdffhaa
open Go.RowKit
set_option linter.unusedVariables false
set_option linter.unusedSimpArgs false
def putZ (w : World) (g j : Nat) (z : Zn) : World := ((((((((w.setCell ⟨g, j * 9, none⟩ (.int .i64 z.id)).setCell ⟨g, j * 9 + 1, none⟩ (.string z.fr)).setCell ⟨g, j * 9 + 2, none⟩ (.string z.tt)).setCell ⟨g, j * 9 + 3, none⟩ (.int .i64 z.ow)).setCell ⟨g, j * 9 + 4, none⟩ (.int .i64 z.ep)).setCell ⟨g, j * 9 + 5, none⟩ (.int .i64 z.pd)).setCell ⟨g, j * 9 + 6, none⟩ (.int .i64 z.mv)).setCell ⟨g, j * 9 + 7, none⟩ (.string z.ky)).setCell ⟨g, j * 9 + 8, none⟩ (.int .i64 z.nw)
theorem flatZ_set (l : List Zn) (j : Nat) (z : Zn) (h : j < l.length) : flatZ (l.set j z) = (((((((((flatZ l).set (j * 9) (.int .i64 z.id)).set (j * 9 + 1) (.string z.fr)).set (j * 9 + 2) (.string z.tt)).set (j * 9 + 3) (.int .i64 z.ow)).set (j * 9 + 4) (.int .i64 z.ep)).set (j * 9 + 5) (.int .i64 z.pd)).set (j * 9 + 6) (.int .i64 z.mv)).set (j * 9 + 7) (.string z.ky)).set (j * 9 + 8) (.int .i64 z.nw) := by
  induction l generalizing j with
  | nil => cases h
  | cons a r ih =>
    cases j with
    | zero => simp [flatZ, znV]
    | succ j =>
      have := ih j (by simpa using h)
      have e : (j + 1) * 9 = j * 9 + 9 := by omega
      simp only [flatZ, List.flatMap_cons, znV, List.set_cons_succ] at this ⊢
      rw [e, this]
      rfl
theorem putZ_own {w : World} {B g n c j : Nat} {l : List Zn} (h : w.ownsRow B 39 9 (.slice (some ⟨g, 0, none⟩) n c) n (flatZ l)) (hj : j < l.length) (z : Zn) : (putZ w g j z).ownsRow B 39 9 (.slice (some ⟨g, 0, none⟩) n c) n (flatZ (l.set j z)) := by
  rw [flatZ_set l j z hj]
  exact (((((((((h.stored (j * 9) _).1.stored (j * 9 + 1) _).1.stored (j * 9 + 2) _).1.stored (j * 9 + 3) _).1.stored (j * 9 + 4) _).1.stored (j * 9 + 5) _).1.stored (j * 9 + 6) _).1.stored (j * 9 + 7) _).1.stored (j * 9 + 8) _).1
theorem putZ_touch (w : World) (g j : Nat) (z : Zn) : Touch (fun k => k = g) w (putZ w g j z) := by
  have t0 : Touch (fun k => k = g) w (w.setCell ⟨g, j * 9, none⟩ (.int .i64 z.id)) := (Touch.refl _ _).set (fun _ => rfl)
  have t1 := t0.set (a := ⟨g, j * 9 + 1, none⟩) (v := .string z.fr) (fun _ => rfl)
  have t2 := t1.set (a := ⟨g, j * 9 + 2, none⟩) (v := .string z.tt) (fun _ => rfl)
  have t3 := t2.set (a := ⟨g, j * 9 + 3, none⟩) (v := .int .i64 z.ow) (fun _ => rfl)
  have t4 := t3.set (a := ⟨g, j * 9 + 4, none⟩) (v := .int .i64 z.ep) (fun _ => rfl)
  have t5 := t4.set (a := ⟨g, j * 9 + 5, none⟩) (v := .int .i64 z.pd) (fun _ => rfl)
  have t6 := t5.set (a := ⟨g, j * 9 + 6, none⟩) (v := .int .i64 z.mv) (fun _ => rfl)
  have t7 := t6.set (a := ⟨g, j * 9 + 7, none⟩) (v := .string z.ky) (fun _ => rfl)
  have t8 := t7.set (a := ⟨g, j * 9 + 8, none⟩) (v := .int .i64 z.nw) (fun _ => rfl)
  exact t8
theorem DrH.putZ {w : World} {B d g c n : Nat} {hv : Value} {hosts : List Int} {m : Mp} (h : DrH w B d hv (.slice (some ⟨g, 0, none⟩) n c) hosts m) {j : Nat} (hj : j < m.zs.length) (z : Zn) :
    DrH (Go.Proofs.Ytbohpjinkdffhaa.putZ w g j z) B d hv (.slice (some ⟨g, 0, none⟩) n c) hosts ⟨m.ver, m.nxt, m.zs.set j z⟩ := by
  obtain rfl := h.len rfl
  have ht := putZ_touch w g j z
  refine ⟨(ht.block d h.blk.low (fun e => h.za g rfl e.symm)).trans h.blk, ht.own h.hrow (fun q hq e => h.hz q hq (by rw [e]; rfl)), ?_, h.ha, h.za, h.hz, h.low⟩
  show World.ownsRow _ B _ 9 _ (m.zs.set j z).length (flatZ (m.zs.set j z))
  rw [List.length_set]
  exact putZ_own h.row hj z
set_option maxHeartbeats 4000000 in
set_option maxRecDepth 10000 in
theorem drSettled (z : Zn) (n : Int) (w : World) : Calls Try.prog 94 #[.agg #[.int .i64 z.id, .string z.fr, .string z.tt, .int .i64 z.ow, .int .i64 z.ep, .int .i64 z.pd, .int .i64 z.mv, .string z.ky, .int .i64 z.nw], .int .i64 n] w fun e w' => e = .returned (.agg #[.int .i64 (settled z n).id, .string (settled z n).fr, .string (settled z n).tt, .int .i64 (settled z n).ow, .int .i64 (settled z n).ep, .int .i64 (settled z n).pd, .int .i64 (settled z n).mv, .string (settled z n).ky, .int .i64 (settled z n).nw]) ∧ Below w.heap.size w w' := by
  go_enter Try.func94, Try.ntmps94
  go_wp2_with fail
  refine bodyPost_ret (v := .agg #[.int .i64 (settled z n).id, .string (settled z n).fr, .string (settled z n).tt, .int .i64 (settled z n).ow, .int .i64 (settled z n).ep, .int .i64 (settled z n).pd, .int .i64 (settled z n).mv, .string (settled z n).ky, .int .i64 (settled z n).nw]) (by simp [results, Try.results94, go_sem, ↓IntWalk.iteOmega, settled, *]) rfl ⟨rfl, ?_⟩
  ((repeat (first | (with_reducible exact Below.refl _ _) | (with_reducible assumption) | ((with_reducible refine b_set ?_ ?_); · (first | omega | (simp; done) | (simp; omega))) | ((with_reducible refine b_alloc ?_ ?_); · (first | omega | (simp; done) | (simp; omega))) | (with_reducible refine Below.drew ?_) | (with_reducible refine b_drewN ?_) | ((with_reducible refine b_call (by assumption) ?_ ?_); · (first | omega | (simp; done) | (simp; omega))))); done)
end Go.Proofs.Ytbohpjinkdffhaa
