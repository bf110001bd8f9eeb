/- The directory: Apply. -/
import Derived.Test.YtbohpjinkdffhaaProg
import Derived.WalkKit
import Derived.WalkSpells
import Derived.WalkLawsBesides
import Derived.Deep.QuietTactic
import Derived.BigQuiet
import Derived.RegionTactic
import Derived.BigRegion
import Derived.Outline
import Derived.LoopTactic
import Derived.Lib.Hide
import Derived.Deep.RegionHeld3
import GoSem.Op.String
import Derived.Lib.Strings
import Derived.Laws.AppendOwnNone
import Derived.Deep.AppendLies
import Derived.Maps.AppendAt
import Derived.Laws.Rows
import Derived.Deep.Cut
import Derived.StillTailTactics
import Derived.Laws.IdiomCopy
import Derived.Lib.AppendZerosOnto
import Derived.Lib.Overlaps
import Derived.Lib.ReflectliteSwap
import Derived.Deep.RegionLaw
import Derived.Deep.DeepCutAuto
import Derived.Laws.EntriesVeiled
import Derived.Test.YtbohpjinkdffhaaDbu0
import Derived.Test.YtbohpjinkdffhaaDbu3
import Derived.Test.YtbohpjinkdffhaaDbu6
import Derived.Test.YtbohpjinkdffhaaDbu7
import Derived.Test.YtbohpjinkdffhaaDbu9
import Derived.Test.YtbohpjinkdffhaaDbu10
import Derived.Test.YtbohpjinkdffhaaDbu11
import Derived.Test.YtbohpjinkdffhaaDbu12
import Derived.Test.YtbohpjinkdffhaaDbu13
import Derived.Test.YtbohpjinkdffhaaDbu14
import Derived.Test.YtbohpjinkdffhaaDbu15
import Derived.Test.YtbohpjinkdffhaaDbu16
import Derived.Test.YtbohpjinkdffhaaDbu17
import Derived.Test.YtbohpjinkdffhaaDbu18
namespace Go.Proofs.Ytbohpjinkdffhaa
open Go.RowKit
set_option linter.unusedVariables false
set_option linter.unusedSimpArgs false
set_option maxRecDepth 10000 in
theorem drDeeds (w : World) : Calls Try.prog 39 #[] w fun e w' => e = .returned (.agg #[.nilFunc, (.func (.func 67) #[] #[]), (.func (.func 68) #[] #[]), (.func (.func 69) #[] #[]), (.func (.func 70) #[] #[]), (.func (.func 71) #[] #[])]) ∧ Below w.heap.size w w' := by
  go_enter Try.func39, Try.ntmps39
  go_wp2_with fail
  refine bodyPost_ret (v := (.agg #[.nilFunc, (.func (.func 67) #[] #[]), (.func (.func 68) #[] #[]), (.func (.func 69) #[] #[]), (.func (.func 70) #[] #[]), (.func (.func 71) #[] #[])])) (by simp [results, Try.results39, go_sem, ↓IntWalk.iteOmega]) rfl ⟨rfl, ?_⟩
  ((repeat (first | (with_reducible exact Below.refl _ _) | (with_reducible assumption) | ((with_reducible refine b_set ?_ ?_); · (first | omega | (simp; done) | (simp; omega))) | ((with_reducible refine b_alloc ?_ ?_); · (first | omega | (simp; done) | (simp; omega))) | (with_reducible refine Below.drew ?_) | (with_reducible refine b_drewN ?_) | ((with_reducible refine b_call (by assumption) ?_ ?_); · (first | omega | (simp; done) | (simp; omega))))); done)
theorem drIx1 (w : World) : (Instr.index 79 (.agg #[.nilFunc, (.func (.func 67) #[] #[]), (.func (.func 68) #[] #[]), (.func (.func 69) #[] #[]), (.func (.func 70) #[] #[]), (.func (.func 71) #[] #[])]) (.int .i64 1)).run Try.prog w = .ok (.func (.func 67) #[] #[]) w := by kernel_rfl
theorem drIx2 (w : World) : (Instr.index 79 (.agg #[.nilFunc, (.func (.func 67) #[] #[]), (.func (.func 68) #[] #[]), (.func (.func 69) #[] #[]), (.func (.func 70) #[] #[]), (.func (.func 71) #[] #[])]) (.int .i64 2)).run Try.prog w = .ok (.func (.func 68) #[] #[]) w := by kernel_rfl
theorem drIx3 (w : World) : (Instr.index 79 (.agg #[.nilFunc, (.func (.func 67) #[] #[]), (.func (.func 68) #[] #[]), (.func (.func 69) #[] #[]), (.func (.func 70) #[] #[]), (.func (.func 71) #[] #[])]) (.int .i64 3)).run Try.prog w = .ok (.func (.func 69) #[] #[]) w := by kernel_rfl
theorem drIx4 (w : World) : (Instr.index 79 (.agg #[.nilFunc, (.func (.func 67) #[] #[]), (.func (.func 68) #[] #[]), (.func (.func 69) #[] #[]), (.func (.func 70) #[] #[]), (.func (.func 71) #[] #[])]) (.int .i64 4)).run Try.prog w = .ok (.func (.func 70) #[] #[]) w := by kernel_rfl
theorem drIx5 (w : World) : (Instr.index 79 (.agg #[.nilFunc, (.func (.func 67) #[] #[]), (.func (.func 68) #[] #[]), (.func (.func 69) #[] #[]), (.func (.func 70) #[] #[]), (.func (.func 71) #[] #[])]) (.int .i64 5)).run Try.prog w = .ok (.func (.func 71) #[] #[]) w := by kernel_rfl
/-- what is asked of a map that changes -/
structure OkM (m : Mp) : Prop where
  len : m.zs.length ≤ 1000
  nxt : 0 ≤ m.nxt
  ver : 0 ≤ m.ver
  ep : ∀ z ∈ m.zs, 0 ≤ z.ep
def deedF (k : Int) : FuncId := if k = 1 then 67 else if k = 2 then 68 else if k = 3 then 69 else if k = 4 then 70 else 71
theorem drDeed (B d i : Nat) (hv zv : Value) (hosts : List Int) (m : Mp) (c : Ch) (hi : i < m.zs.length) (hM : OkM m) (hhl : hosts.length ≤ 1000) (hc : OkCh c) (w : World) (h : DrH w B d hv zv hosts m) (hB : B ≤ w.heap.size) :
    Calls Try.prog (deedF c.kd) #[.pointer (some ⟨d, 0, none⟩), .int .i64 i, .agg #[.int .i64 c.kd, .int .i64 c.zo, .int .i64 c.ep, .int .i64 c.mv, .string c.ky]] w fun e w' => DeedQ B d hv zv hosts m c i hi w e w' := by
  have hk := hc.kd
  unfold deedF
  by_cases h1 : c.kd = 1
  · rw [if_pos h1]; exact drSplit B d i hv zv hosts m c hi w h hM.len h1 hM.nxt
  rw [if_neg h1]
  by_cases h2 : c.kd = 2
  · rw [if_pos h2]; exact drMerge B d i hv zv hosts m c hi w h hM.len h2
  rw [if_neg h2]
  by_cases h3 : c.kd = 3
  · rw [if_pos h3]; exact drMove B d i hv zv hosts m c hi w h hM.len hhl h3
  rw [if_neg h3]
  by_cases h4 : c.kd = 4
  · rw [if_pos h4]; exact drDone B d i hv zv hosts m c hi w h hB hM.len h4 hM.ep
  rw [if_neg h4]
  have h5 : c.kd = 5 := by omega
  exact drAbort B d i hv zv hosts m c hi w h hM.len h5 (hc.ep.1 (.inr h5)).1
/-- what Apply answers -/
def ApQ (B d : Nat) (hv zv : Value) (hosts : List Int) (m : Mp) (c : Ch) (w : World) (e : Ending) (w' : World) : Prop :=
  (∃ (m1 : Mp) (zv' : Value), Applies hosts m c m1 ∧ e = .returned (.bool true) ∧ DrH w' B d hv zv' hosts m1 ∧ Touch (Fz d zv) w w' ∧ (∀ k, zv'.ownBlock = some k → zv.ownBlock = some k ∨ w.heap.size ≤ k)) ∨
  ((∀ m1, ¬ Applies hosts m c m1) ∧ e = .returned (.bool false) ∧ Below w.heap.size w w')
theorem DeedQ.touch {B d : Nat} {hv zv : Value} {hosts : List Int} {m : Mp} {c : Ch} {i : Nat} {hi : i < m.zs.length} {w : World} {e : Ending} {w' : World} (h : DeedQ B d hv zv hosts m c i hi w e w') : Touch (Fz d zv) w w' := by
  rcases h with ⟨m1, zv', _, _, _, h4, _⟩ | ⟨_, _, h3⟩
  · exact h4
  · exact (Touch.of_below h3).mono'' (fun k h1 h2 => absurd h2 (by omega))
theorem Deed.ver {hosts : List Int} {m m' : Mp} {c : Ch} {i : Nat} {h : i < m.zs.length} (hd : Deed hosts m c i h m') : m'.ver = m.ver := by cases hd <;> rfl
theorem DeedQ.yes {B d : Nat} {hv zv : Value} {hosts : List Int} {m : Mp} {c : Ch} {i : Nat} {hi : i < m.zs.length} {w : World} {w' : World} (h : DeedQ B d hv zv hosts m c i hi w (.returned (.bool true)) w') : ∃ (m1 : Mp) (zv' : Value), Deed hosts m c i hi m1 ∧ DrH w' B d hv zv' hosts m1 ∧ Touch (Fz d zv) w w' ∧ (∀ k, zv'.ownBlock = some k → zv.ownBlock = some k ∨ w.heap.size ≤ k) := by
  rcases h with ⟨m1, zv', h1, h2, h3, h4, h5⟩ | ⟨h1, h2, h3⟩
  · exact ⟨m1, zv', h1, h3, h4, h5⟩
  · cases h2
theorem DeedQ.no {B d : Nat} {hv zv : Value} {hosts : List Int} {m : Mp} {c : Ch} {i : Nat} {hi : i < m.zs.length} {w : World} {w' : World} (h : DeedQ B d hv zv hosts m c i hi w (.returned (.bool false)) w') : (∀ m1, ¬ Deed hosts m c i hi m1) ∧ Below w.heap.size w w' := by
  rcases h with ⟨m1, zv', h1, h2, h3, h4, h5⟩ | ⟨h1, h2, h3⟩
  · cases h2
  · exact ⟨h1, h3⟩
set_option maxHeartbeats 8000000 in
set_option maxRecDepth 10000 in
theorem drApply (B d : Nat) (hv zv : Value) (hosts : List Int) (m : Mp) (c : Ch) (w : World) (h : DrH w B d hv zv hosts m) (hB : B ≤ w.heap.size) (hM : OkM m) (hhl : hosts.length ≤ 1000) :
    Calls Try.prog 16 #[.pointer (some ⟨d, 0, none⟩), .agg #[.int .i64 c.kd, .int .i64 c.zo, .int .i64 c.ep, .int .i64 c.mv, .string c.ky]] w fun e w' => ApQ B d hv zv hosts m c w e w' := by
  have HD := Lib.hid h
  have l1 := h.blk.cell 1
  have l3 := h.blk.cell 3
  simp only [List.getElem?_toArray, List.getElem?_cons_succ, List.getElem?_cons_zero] at l1 l3
  have hdl := h.blk.low
  have hM' := Lib.hid hM
  have hver0 := hM.ver
  clear h hM
  by_cases hok : OkCh c
  case neg =>
    have HOK := Lib.hid hok
    go_enter Try.func16, Try.ntmps16
    go_wp2_with (first
      | (go_at_call 36; refine (drMayChange c _).mono ?_; rintro e w2 ⟨rfl, hb2⟩; rw [decide_eq_false HOK.out]; have HB2 := Lib.hid hb2; clear hb2)
      | fail)
    exact bodyPost_ret (v := .bool false) (by simp [results, Try.results16, go_sem]) rfl (.inr ⟨fun m1 hd => HOK.out hd.ok, rfl, ((Below.refl _ _).alloc (Nat.le_refl _) _).trans (HB2.out.mono (by simp))⟩)
  have HOK := Lib.hid hok
  have hk1 := hok.kd
  clear hok
  by_cases hver : m.ver < 1099511627776
  case neg =>
    go_enter Try.func16, Try.ntmps16
    go_wp2_with (first
      | (go_at_call 36; refine (drMayChange c _).mono ?_; rintro e w2 ⟨rfl, hb2⟩; rw [decide_eq_true HOK.out]; have HB2 := Lib.hid hb2; obtain ⟨hc2, hf2⟩ := bcell hb2; clear hb2)
      | fail)
    exact bodyPost_ret (v := .bool false) (by simp [results, Try.results16, go_sem]) rfl (.inr ⟨fun m1 hd => by (have := hd.ver; unfold topN at this; omega), rfl, ((Below.refl _ _).alloc (Nat.le_refl _) _).trans (HB2.out.mono (by simp))⟩)
  go_enter Try.func16, Try.ntmps16
  go_upto_region 3 with (first
    | (go_at_call 36; refine (drMayChange c _).mono ?_; rintro e w2 ⟨rfl, hb2⟩; rw [decide_eq_true HOK.out]; have HB2 := Lib.hid hb2; obtain ⟨hc2, hf2⟩ := bcell hb2; clear hb2)
    | fail)
  have HBU : Hid (Below w.heap.size w w2) := Lib.hid (((Below.refl _ _).alloc (Nat.le_refl _) _).trans (HB2.out.mono (by simp)))
  have hsu : w.heap.size < w2.heap.size := Nat.lt_of_lt_of_le (by simp) HB2.out.size
  have hP : Whl w2 w.heap.size 47 #[.int .i64 c.kd, .int .i64 c.zo, .int .i64 c.ep, .int .i64 c.mv, .string c.ky] := (Whl.new rfl).below HB2.out (by simp)
  have HP := Lib.hid hP
  have HDU := Lib.hid (HD.out.below HBU.out)
  have l1 := HDU.out.blk.cell 1
  have l3 := HDU.out.blk.cell 3
  simp only [List.getElem?_toArray, List.getElem?_cons_succ, List.getElem?_cons_zero] at l1 l3
  clear hP hc2 hf2
  go_wp2_with (first
    | (go_at_call 37; refine (drIndex B w.heap.size zv m.zs c _ HDU.out.row HP.out hM'.out.len).mono ?_; rintro e V ⟨k, rfl, hat, hb4⟩; have HAT := Lib.hid hat; have HB4 := Lib.hid hb4; clear hat hb4)
    | fail)
  have HBV : Hid (Below w.heap.size w V) := Lib.hid (HBU.out.trans (HB4.out.mono (Nat.le_of_lt hsu)))
  have hsv : w.heap.size < V.heap.size := Nat.lt_of_lt_of_le hsu HB4.out.size
  have HDV := Lib.hid (HD.out.below HBV.out)
  have HPV := Lib.hid (HP.out.below HB4.out hsu)
  have l1 := HDV.out.blk.cell 1
  have p0 := HPV.out.cell 0
  have p1 := HPV.out.cell 1
  have p2 := HPV.out.cell 2
  have p3 := HPV.out.cell 3
  have p4 := HPV.out.cell 4
  simp only [List.getElem?_toArray, List.getElem?_cons_succ, List.getElem?_cons_zero] at l1 p0 p1 p2 p3 p4
  rcases HAT.out with ⟨rfl, hno⟩ | ⟨i, rfl, hi, hid, hfi⟩
  · have q4 : decide ((-1 : Int) < 0) = true := rfl
    go_quiet (fail)
    go_wp2_with fail
    refine bodyPost_ret (v := .bool false) (by simp [results, Try.results16, go_sem]) rfl (.inr ⟨fun m1 hd => ?_, rfl, b_drewN HBV.out⟩)
    obtain ⟨i, hi, hid, _⟩ := hd.deed
    exact hno i hi hi hid
  have HID := Lib.hid hid
  have HFI := Lib.hid hfi
  have q4 : ¬ ((i : Int) < 0) := by omega
  have hk5 : c.kd = 1 ∨ c.kd = 2 ∨ c.kd = 3 ∨ c.kd = 4 ∨ c.kd = 5 := by omega
  have hFz : ¬ Fz d zv w.heap.size := by
    rintro (h | h)
    · omega
    · exact absurd (HD.out.row.lt _ h).2 (by omega)
  have hgo : ∀ W, Below V.heap.size V W → Calls Try.prog (deedF c.kd) #[.pointer (some ⟨d, 0, none⟩), .int .i64 i, .agg #[.int .i64 c.kd, .int .i64 c.zo, .int .i64 c.ep, .int .i64 c.mv, .string c.ky]] W fun e w' => DeedQ B d hv zv hosts m c i hi W e w' := fun W hW =>
    drDeed B d i hv zv hosts m c hi hM'.out hhl HOK.out W (HDV.out.below hW) (by have := hW.size; omega)
  clear hk1 hid hfi l1 l3
  rcases hk5 with hkk | hkk | hkk | hkk | hkk
  · have hkk : c.kd = 1 := hkk
    have hgo1 : ∀ W, Below V.heap.size V W → Calls Try.prog 67 #[.pointer (some ⟨d, 0, none⟩), .int .i64 i, .agg #[.int .i64 1, .int .i64 c.zo, .int .i64 c.ep, .int .i64 c.mv, .string c.ky]] W fun e w' => DeedQ B d hv zv hosts m c i hi W e w' := fun W hW => by have := hgo W hW; rw [hkk] at this; exact this
    clear hgo
    rw [hkk] at p0
    have hix := drIx1
    refine wp_region_held_drew (S := (fun W => W.cell? ⟨w.heap.size, 0, none⟩ = some (.int .i64 1) ∧ W.cell? ⟨w.heap.size, 1, none⟩ = some (.int .i64 c.zo) ∧ W.cell? ⟨w.heap.size, 2, none⟩ = some (.int .i64 c.ep) ∧ W.cell? ⟨w.heap.size, 3, none⟩ = some (.int .i64 c.mv) ∧ W.cell? ⟨w.heap.size, 4, none⟩ = some (.string c.ky))) (by kernel_rfl) ⟨p0, p1, p2, p3, p4⟩ (fun hHeld => ?_)
    refine wpAnyH_take (i := 0) (oi := ⟨some 28, _, _, _, _, _⟩) (v := ?v0k1) rfl (by kernel_rfl) (by kernel_rfl) (by kernel_rfl) (fun _ _ _ h => h) (Or.inl ⟨by rfl, ?y0k1⟩) (by assumption) ?r0k1
    case y0k1 => (intro w hSw; (try dsimp only at hSw); (try go_split_ands); go_simp); (try with_reducible rfl)
    case r0k1 =>
    (try simp only [Act.put, List.setIfInBounds_toArray, List.set_cons_zero, List.set_cons_succ])
    refine wpAnyH_take (i := 1) (oi := ⟨some 29, _, _, _, _, _⟩) (v := .bool false) rfl (by kernel_rfl) (by kernel_rfl) (by kernel_rfl) (fun _ _ _ h => h) (Or.inl ⟨by rfl, ?y1k1⟩) (by assumption) ?r1k1
    case y1k1 => (intro w hSw; (try dsimp only at hSw); (try go_split_ands); go_simp)
    case r1k1 =>
    (try simp only [Act.put, List.setIfInBounds_toArray, List.set_cons_zero, List.set_cons_succ])
    refine wpAnyH_take (i := 2) (oi := ⟨some 30, _, _, _, _, _⟩) (v := .bool false) rfl (by kernel_rfl) (by kernel_rfl) (by kernel_rfl) (fun _ _ _ h => h) (Or.inl ⟨by rfl, ?y2k1⟩) (by assumption) ?r2k1
    case y2k1 => (intro w hSw; (try dsimp only at hSw); (try go_split_ands); go_simp)
    case r2k1 =>
    (try simp only [Act.put, List.setIfInBounds_toArray, List.set_cons_zero, List.set_cons_succ])
    refine wpAnyH_take (i := 4) (oi := ⟨some 32, _, _, _, _, _⟩) (v := ?v4k1) rfl (by kernel_rfl) (by kernel_rfl) (by kernel_rfl) (fun _ _ _ h => h) (Or.inl ⟨by rfl, ?y4k1⟩) (by assumption) ?r4k1
    case y4k1 => (intro w hSw; (try dsimp only at hSw); (try go_split_ands); go_simp); (try with_reducible rfl)
    case r4k1 =>
    (try simp only [Act.put, List.setIfInBounds_toArray, List.set_cons_zero, List.set_cons_succ])
    refine wpAnyH_take (i := 5) (oi := ⟨some 33, _, _, _, _, _⟩) (v := ?v5k1) rfl (by kernel_rfl) (by kernel_rfl) (by kernel_rfl) (fun _ _ _ h => h) (Or.inl ⟨by rfl, ?y5k1⟩) (by assumption) ?r5k1
    case y5k1 => (intro w hSw; (try dsimp only at hSw); (try go_split_ands); go_simp); (try with_reducible rfl)
    case r5k1 =>
    (try simp only [Act.put, List.setIfInBounds_toArray, List.set_cons_zero, List.set_cons_succ])
    refine wpAnyH_take (i := 7) (oi := ⟨some 35, _, _, _, _, _⟩) (v := ?v7k1) rfl (by kernel_rfl) (by kernel_rfl) (by kernel_rfl) (fun _ _ _ h => h) (Or.inl ⟨by rfl, ?y7k1⟩) (by assumption) ?r7k1
    case y7k1 => (intro w hSw; (try dsimp only at hSw); (try go_split_ands); go_simp); (try with_reducible rfl)
    case r7k1 =>
    (try simp only [Act.put, List.setIfInBounds_toArray, List.set_cons_zero, List.set_cons_succ])
    refine wpAnyH_take (i := 8) (oi := ⟨some 36, _, _, _, _, _⟩) (v := ?v8k1) rfl (by kernel_rfl) (by kernel_rfl) (by kernel_rfl) (fun _ _ _ h => h) (Or.inl ⟨by rfl, ?y8k1⟩) (by assumption) ?r8k1
    case y8k1 => (intro w hSw; (try dsimp only at hSw); (try go_split_ands); go_simp); (try with_reducible rfl)
    case r8k1 =>
    (try simp only [Act.put, List.setIfInBounds_toArray, List.set_cons_zero, List.set_cons_succ])
    refine wpAnyH_take (i := 9) (oi := ⟨some 37, _, _, _, _, _⟩) (v := ?v9k1) rfl (by kernel_rfl) (by kernel_rfl) (by kernel_rfl) (fun _ _ _ h => h) (Or.inl ⟨by rfl, ?y9k1⟩) (by assumption) ?r9k1
    case y9k1 => (intro w hSw; (try dsimp only at hSw); (try go_split_ands); go_simp); (try with_reducible rfl)
    case r9k1 =>
    (try simp only [Act.put, List.setIfInBounds_toArray, List.set_cons_zero, List.set_cons_succ])
    refine wpAnyH_ready (rs := [3]) (by kernel_rfl) (by simp) ?_
    refine AllReadyH.cons (o := ⟨some 31, _, _, _, _, _⟩) rfl (fun K hK => ?_) AllReadyH.nil
    go_simp
    refine (drDeeds _).mono ?_; rintro e w3 ⟨rfl, hb3⟩
    go_wp2_with fail
    have HB3 : Hid (Below V.heap.size V w3) := Lib.hid ((Below.refl _ _).drew.trans hb3)
    have hA0 := bkeep HB3.out p0 hsv
    have hA1 := bkeep HB3.out p1 hsv
    have hA2 := bkeep HB3.out p2 hsv
    have hA3 := bkeep HB3.out p3 hsv
    have hA4 := bkeep HB3.out p4 hsv
    clear hb3
    refine hK.out _ _ (by first | exact ⟨hB0, hB1, hB2, hB3, hB4⟩ | exact ⟨hA0, hA1, hA2, hA3, hA4⟩) (fun hHeld => ?_)
    clear hK K
    (try simp only [Act.put, List.setIfInBounds_toArray, List.set_cons_zero, List.set_cons_succ])
    refine wpAnyH_take (i := 6) (oi := ⟨some 34, _, _, _, _, _⟩) (v := ?v6k1) rfl (by kernel_rfl) (by kernel_rfl) (by kernel_rfl) (fun _ _ _ h => h) (Or.inl ⟨by rfl, ?y6k1⟩) (by assumption) ?r6k1
    case y6k1 => (intro w hSw; (try dsimp only at hSw); (try go_split_ands); go_simp); (try with_reducible rfl)
    case r6k1 =>
    (try simp only [Act.put, List.setIfInBounds_toArray, List.set_cons_zero, List.set_cons_succ])
    refine wpAnyH_ready (rs := [10]) (by kernel_rfl) (by simp) ?_
    refine AllReadyH.cons (o := ⟨some 38, _, _, _, _, _⟩) rfl (fun K hK => ?_) AllReadyH.nil
    go_simp
    refine (hgo1 w3 HB3.out).mono ?_; rintro e w5 hq
    obtain ⟨bb, rfl⟩ := hq.bool
    go_wp2_with fail
    have HQ5 := Lib.hid hq
    have ht5 := hq.touch
    have hB0 := ht5.cell hA0 hFz
    have hB1 := ht5.cell hA1 hFz
    have hB2 := ht5.cell hA2 hFz
    have hB3 := ht5.cell hA3 hFz
    have hB4 := ht5.cell hA4 hFz
    clear hq ht5
    refine hK.out _ _ (by first | exact ⟨hB0, hB1, hB2, hB3, hB4⟩ | exact ⟨hA0, hA1, hA2, hA3, hA4⟩) (fun hHeld => ?_)
    clear hK K
    (try simp only [Act.put, List.setIfInBounds_toArray, List.set_cons_zero, List.set_cons_succ])
    refine wpAnyH_take (i := 11) (oi := ⟨some 39, _, _, _, _, _⟩) (v := ?v11k1) rfl (by kernel_rfl) (by kernel_rfl) (by kernel_rfl) (fun _ _ _ h => h) (Or.inl ⟨by rfl, ?y11k1⟩) (by assumption) ?r11k1
    case y11k1 => (intro w hSw; (try dsimp only at hSw); (try go_split_ands); go_simp); (try with_reducible rfl)
    case r11k1 =>
    (try simp only [Act.put, List.setIfInBounds_toArray, List.set_cons_zero, List.set_cons_succ])
    refine wpAnyH_take (i := 12) (oi := ⟨some 40, _, _, _, _, _⟩) (v := ?v12k1) rfl (by kernel_rfl) (by kernel_rfl) (by kernel_rfl) (fun _ _ _ h => h) (Or.inl ⟨by rfl, ?y12k1⟩) (by assumption) ?r12k1
    case y12k1 => (intro w hSw; (try dsimp only at hSw); (try go_split_ands); go_simp); (try with_reducible rfl)
    case r12k1 =>
    (try simp only [Act.put, List.setIfInBounds_toArray, List.set_cons_zero, List.set_cons_succ])
    refine wpAnyH_done (by kernel_rfl) ?_ _
    cases bb with
    | true =>
      rcases HQ5.out.yes with ⟨m1, zv5, hdd, hd5, ht5, hw5⟩
      have HD5 := Lib.hid hd5
      have v1 := hd5.blk.cell 1
      have vf := fun k => hd5.blk.free k
      simp only [List.getElem?_toArray, List.getElem?_cons_succ, List.getElem?_cons_zero] at v1
      have hmv : m1.ver = m.ver := hdd.ver
      rw [hmv] at v1
      have HDD := Lib.hid hdd
      have HT5 := Lib.hid ht5
      have HMV := Lib.hid hmv
      have hwv : IntKind.i64.wrap (m.ver + 1) = m.ver + 1 := (by rw [IntKind.wrap_i64]; omega)
      clear hd5 hdd ht5 hmv
      go_wp2_with fail
      refine bodyPost_ret (v := .bool true) (by simp [results, Try.results16, go_sem]) rfl (.inl ⟨⟨m1.ver + 1, m1.nxt, m1.zs⟩, zv5, ⟨HOK.out, by unfold topN; omega, i, hi, HID.out, HFI.out, m1, HDD.out, rfl⟩, rfl, ?_, ?_, ?_⟩)
      · have h9 := HD5.out.setver (m1.ver + 1)
        rw [HMV.out] at h9 ⊢
        exact h9
      · exact (((Touch.of_below (HBV.out.trans (HB3.out.mono (Nat.le_of_lt hsv)))).mono'' (fun k h1 h2 => absurd h2 (by omega))).trans HT5.out (fun _ _ h => h)).set (fun _ => .inl rfl)
      · intro k hk
        rcases hw5 k hk with h | h
        · exact .inl h
        · exact .inr (by have := HB3.out.size; omega)
    | false =>
      go_wp2_with fail
      refine bodyPost_ret (v := .bool false) (by simp [results, Try.results16, go_sem]) rfl (.inr ⟨fun m1 hd => ?_, rfl, (HBV.out.trans (HB3.out.mono (Nat.le_of_lt hsv))).trans (HQ5.out.no.2.mono (by have := HB3.out.size; omega))⟩)
      obtain ⟨i2, hi2, hid2, hfi2, m2, hd2, _⟩ := hd.deed
      have hii : i2 = i := by
        rcases Nat.lt_trichotomy i2 i with h | h | h
        · exact absurd hid2 (HFI.out i2 hi2 h)
        · exact h
        · exact absurd HID.out (hfi2 i hi h)
      subst hii
      exact HQ5.out.no.1 m2 hd2
  · have hkk : c.kd = 2 := hkk
    have hgo1 : ∀ W, Below V.heap.size V W → Calls Try.prog 68 #[.pointer (some ⟨d, 0, none⟩), .int .i64 i, .agg #[.int .i64 2, .int .i64 c.zo, .int .i64 c.ep, .int .i64 c.mv, .string c.ky]] W fun e w' => DeedQ B d hv zv hosts m c i hi W e w' := fun W hW => by have := hgo W hW; rw [hkk] at this; exact this
    clear hgo
    rw [hkk] at p0
    have hix := drIx2
    refine wp_region_held_drew (S := (fun W => W.cell? ⟨w.heap.size, 0, none⟩ = some (.int .i64 2) ∧ W.cell? ⟨w.heap.size, 1, none⟩ = some (.int .i64 c.zo) ∧ W.cell? ⟨w.heap.size, 2, none⟩ = some (.int .i64 c.ep) ∧ W.cell? ⟨w.heap.size, 3, none⟩ = some (.int .i64 c.mv) ∧ W.cell? ⟨w.heap.size, 4, none⟩ = some (.string c.ky))) (by kernel_rfl) ⟨p0, p1, p2, p3, p4⟩ (fun hHeld => ?_)
    refine wpAnyH_take (i := 0) (oi := ⟨some 28, _, _, _, _, _⟩) (v := ?v0k2) rfl (by kernel_rfl) (by kernel_rfl) (by kernel_rfl) (fun _ _ _ h => h) (Or.inl ⟨by rfl, ?y0k2⟩) (by assumption) ?r0k2
    case y0k2 => (intro w hSw; (try dsimp only at hSw); (try go_split_ands); go_simp); (try with_reducible rfl)
    case r0k2 =>
    (try simp only [Act.put, List.setIfInBounds_toArray, List.set_cons_zero, List.set_cons_succ])
    refine wpAnyH_take (i := 1) (oi := ⟨some 29, _, _, _, _, _⟩) (v := .bool false) rfl (by kernel_rfl) (by kernel_rfl) (by kernel_rfl) (fun _ _ _ h => h) (Or.inl ⟨by rfl, ?y1k2⟩) (by assumption) ?r1k2
    case y1k2 => (intro w hSw; (try dsimp only at hSw); (try go_split_ands); go_simp)
    case r1k2 =>
    (try simp only [Act.put, List.setIfInBounds_toArray, List.set_cons_zero, List.set_cons_succ])
    refine wpAnyH_take (i := 2) (oi := ⟨some 30, _, _, _, _, _⟩) (v := .bool false) rfl (by kernel_rfl) (by kernel_rfl) (by kernel_rfl) (fun _ _ _ h => h) (Or.inl ⟨by rfl, ?y2k2⟩) (by assumption) ?r2k2
    case y2k2 => (intro w hSw; (try dsimp only at hSw); (try go_split_ands); go_simp)
    case r2k2 =>
    (try simp only [Act.put, List.setIfInBounds_toArray, List.set_cons_zero, List.set_cons_succ])
    refine wpAnyH_take (i := 4) (oi := ⟨some 32, _, _, _, _, _⟩) (v := ?v4k2) rfl (by kernel_rfl) (by kernel_rfl) (by kernel_rfl) (fun _ _ _ h => h) (Or.inl ⟨by rfl, ?y4k2⟩) (by assumption) ?r4k2
    case y4k2 => (intro w hSw; (try dsimp only at hSw); (try go_split_ands); go_simp); (try with_reducible rfl)
    case r4k2 =>
    (try simp only [Act.put, List.setIfInBounds_toArray, List.set_cons_zero, List.set_cons_succ])
    refine wpAnyH_take (i := 5) (oi := ⟨some 33, _, _, _, _, _⟩) (v := ?v5k2) rfl (by kernel_rfl) (by kernel_rfl) (by kernel_rfl) (fun _ _ _ h => h) (Or.inl ⟨by rfl, ?y5k2⟩) (by assumption) ?r5k2
    case y5k2 => (intro w hSw; (try dsimp only at hSw); (try go_split_ands); go_simp); (try with_reducible rfl)
    case r5k2 =>
    (try simp only [Act.put, List.setIfInBounds_toArray, List.set_cons_zero, List.set_cons_succ])
    refine wpAnyH_take (i := 7) (oi := ⟨some 35, _, _, _, _, _⟩) (v := ?v7k2) rfl (by kernel_rfl) (by kernel_rfl) (by kernel_rfl) (fun _ _ _ h => h) (Or.inl ⟨by rfl, ?y7k2⟩) (by assumption) ?r7k2
    case y7k2 => (intro w hSw; (try dsimp only at hSw); (try go_split_ands); go_simp); (try with_reducible rfl)
    case r7k2 =>
    (try simp only [Act.put, List.setIfInBounds_toArray, List.set_cons_zero, List.set_cons_succ])
    refine wpAnyH_take (i := 8) (oi := ⟨some 36, _, _, _, _, _⟩) (v := ?v8k2) rfl (by kernel_rfl) (by kernel_rfl) (by kernel_rfl) (fun _ _ _ h => h) (Or.inl ⟨by rfl, ?y8k2⟩) (by assumption) ?r8k2
    case y8k2 => (intro w hSw; (try dsimp only at hSw); (try go_split_ands); go_simp); (try with_reducible rfl)
    case r8k2 =>
    (try simp only [Act.put, List.setIfInBounds_toArray, List.set_cons_zero, List.set_cons_succ])
    refine wpAnyH_take (i := 9) (oi := ⟨some 37, _, _, _, _, _⟩) (v := ?v9k2) rfl (by kernel_rfl) (by kernel_rfl) (by kernel_rfl) (fun _ _ _ h => h) (Or.inl ⟨by rfl, ?y9k2⟩) (by assumption) ?r9k2
    case y9k2 => (intro w hSw; (try dsimp only at hSw); (try go_split_ands); go_simp); (try with_reducible rfl)
    case r9k2 =>
    (try simp only [Act.put, List.setIfInBounds_toArray, List.set_cons_zero, List.set_cons_succ])
    refine wpAnyH_ready (rs := [3]) (by kernel_rfl) (by simp) ?_
    refine AllReadyH.cons (o := ⟨some 31, _, _, _, _, _⟩) rfl (fun K hK => ?_) AllReadyH.nil
    go_simp
    refine (drDeeds _).mono ?_; rintro e w3 ⟨rfl, hb3⟩
    go_wp2_with fail
    have HB3 : Hid (Below V.heap.size V w3) := Lib.hid ((Below.refl _ _).drew.trans hb3)
    have hA0 := bkeep HB3.out p0 hsv
    have hA1 := bkeep HB3.out p1 hsv
    have hA2 := bkeep HB3.out p2 hsv
    have hA3 := bkeep HB3.out p3 hsv
    have hA4 := bkeep HB3.out p4 hsv
    clear hb3
    refine hK.out _ _ (by first | exact ⟨hB0, hB1, hB2, hB3, hB4⟩ | exact ⟨hA0, hA1, hA2, hA3, hA4⟩) (fun hHeld => ?_)
    clear hK K
    (try simp only [Act.put, List.setIfInBounds_toArray, List.set_cons_zero, List.set_cons_succ])
    refine wpAnyH_take (i := 6) (oi := ⟨some 34, _, _, _, _, _⟩) (v := ?v6k2) rfl (by kernel_rfl) (by kernel_rfl) (by kernel_rfl) (fun _ _ _ h => h) (Or.inl ⟨by rfl, ?y6k2⟩) (by assumption) ?r6k2
    case y6k2 => (intro w hSw; (try dsimp only at hSw); (try go_split_ands); go_simp); (try with_reducible rfl)
    case r6k2 =>
    (try simp only [Act.put, List.setIfInBounds_toArray, List.set_cons_zero, List.set_cons_succ])
    refine wpAnyH_ready (rs := [10]) (by kernel_rfl) (by simp) ?_
    refine AllReadyH.cons (o := ⟨some 38, _, _, _, _, _⟩) rfl (fun K hK => ?_) AllReadyH.nil
    go_simp
    refine (hgo1 w3 HB3.out).mono ?_; rintro e w5 hq
    obtain ⟨bb, rfl⟩ := hq.bool
    go_wp2_with fail
    have HQ5 := Lib.hid hq
    have ht5 := hq.touch
    have hB0 := ht5.cell hA0 hFz
    have hB1 := ht5.cell hA1 hFz
    have hB2 := ht5.cell hA2 hFz
    have hB3 := ht5.cell hA3 hFz
    have hB4 := ht5.cell hA4 hFz
    clear hq ht5
    refine hK.out _ _ (by first | exact ⟨hB0, hB1, hB2, hB3, hB4⟩ | exact ⟨hA0, hA1, hA2, hA3, hA4⟩) (fun hHeld => ?_)
    clear hK K
    (try simp only [Act.put, List.setIfInBounds_toArray, List.set_cons_zero, List.set_cons_succ])
    refine wpAnyH_take (i := 11) (oi := ⟨some 39, _, _, _, _, _⟩) (v := ?v11k2) rfl (by kernel_rfl) (by kernel_rfl) (by kernel_rfl) (fun _ _ _ h => h) (Or.inl ⟨by rfl, ?y11k2⟩) (by assumption) ?r11k2
    case y11k2 => (intro w hSw; (try dsimp only at hSw); (try go_split_ands); go_simp); (try with_reducible rfl)
    case r11k2 =>
    (try simp only [Act.put, List.setIfInBounds_toArray, List.set_cons_zero, List.set_cons_succ])
    refine wpAnyH_take (i := 12) (oi := ⟨some 40, _, _, _, _, _⟩) (v := ?v12k2) rfl (by kernel_rfl) (by kernel_rfl) (by kernel_rfl) (fun _ _ _ h => h) (Or.inl ⟨by rfl, ?y12k2⟩) (by assumption) ?r12k2
    case y12k2 => (intro w hSw; (try dsimp only at hSw); (try go_split_ands); go_simp); (try with_reducible rfl)
    case r12k2 =>
    (try simp only [Act.put, List.setIfInBounds_toArray, List.set_cons_zero, List.set_cons_succ])
    refine wpAnyH_done (by kernel_rfl) ?_ _
    cases bb with
    | true =>
      rcases HQ5.out.yes with ⟨m1, zv5, hdd, hd5, ht5, hw5⟩
      have HD5 := Lib.hid hd5
      have v1 := hd5.blk.cell 1
      have vf := fun k => hd5.blk.free k
      simp only [List.getElem?_toArray, List.getElem?_cons_succ, List.getElem?_cons_zero] at v1
      have hmv : m1.ver = m.ver := hdd.ver
      rw [hmv] at v1
      have HDD := Lib.hid hdd
      have HT5 := Lib.hid ht5
      have HMV := Lib.hid hmv
      have hwv : IntKind.i64.wrap (m.ver + 1) = m.ver + 1 := (by rw [IntKind.wrap_i64]; omega)
      clear hd5 hdd ht5 hmv
      go_wp2_with fail
      refine bodyPost_ret (v := .bool true) (by simp [results, Try.results16, go_sem]) rfl (.inl ⟨⟨m1.ver + 1, m1.nxt, m1.zs⟩, zv5, ⟨HOK.out, by unfold topN; omega, i, hi, HID.out, HFI.out, m1, HDD.out, rfl⟩, rfl, ?_, ?_, ?_⟩)
      · have h9 := HD5.out.setver (m1.ver + 1)
        rw [HMV.out] at h9 ⊢
        exact h9
      · exact (((Touch.of_below (HBV.out.trans (HB3.out.mono (Nat.le_of_lt hsv)))).mono'' (fun k h1 h2 => absurd h2 (by omega))).trans HT5.out (fun _ _ h => h)).set (fun _ => .inl rfl)
      · intro k hk
        rcases hw5 k hk with h | h
        · exact .inl h
        · exact .inr (by have := HB3.out.size; omega)
    | false =>
      go_wp2_with fail
      refine bodyPost_ret (v := .bool false) (by simp [results, Try.results16, go_sem]) rfl (.inr ⟨fun m1 hd => ?_, rfl, (HBV.out.trans (HB3.out.mono (Nat.le_of_lt hsv))).trans (HQ5.out.no.2.mono (by have := HB3.out.size; omega))⟩)
      obtain ⟨i2, hi2, hid2, hfi2, m2, hd2, _⟩ := hd.deed
      have hii : i2 = i := by
        rcases Nat.lt_trichotomy i2 i with h | h | h
        · exact absurd hid2 (HFI.out i2 hi2 h)
        · exact h
        · exact absurd HID.out (hfi2 i hi h)
      subst hii
      exact HQ5.out.no.1 m2 hd2
  · have hkk : c.kd = 3 := hkk
    have hgo1 : ∀ W, Below V.heap.size V W → Calls Try.prog 69 #[.pointer (some ⟨d, 0, none⟩), .int .i64 i, .agg #[.int .i64 3, .int .i64 c.zo, .int .i64 c.ep, .int .i64 c.mv, .string c.ky]] W fun e w' => DeedQ B d hv zv hosts m c i hi W e w' := fun W hW => by have := hgo W hW; rw [hkk] at this; exact this
    clear hgo
    rw [hkk] at p0
    have hix := drIx3
    refine wp_region_held_drew (S := (fun W => W.cell? ⟨w.heap.size, 0, none⟩ = some (.int .i64 3) ∧ W.cell? ⟨w.heap.size, 1, none⟩ = some (.int .i64 c.zo) ∧ W.cell? ⟨w.heap.size, 2, none⟩ = some (.int .i64 c.ep) ∧ W.cell? ⟨w.heap.size, 3, none⟩ = some (.int .i64 c.mv) ∧ W.cell? ⟨w.heap.size, 4, none⟩ = some (.string c.ky))) (by kernel_rfl) ⟨p0, p1, p2, p3, p4⟩ (fun hHeld => ?_)
    refine wpAnyH_take (i := 0) (oi := ⟨some 28, _, _, _, _, _⟩) (v := ?v0k3) rfl (by kernel_rfl) (by kernel_rfl) (by kernel_rfl) (fun _ _ _ h => h) (Or.inl ⟨by rfl, ?y0k3⟩) (by assumption) ?r0k3
    case y0k3 => (intro w hSw; (try dsimp only at hSw); (try go_split_ands); go_simp); (try with_reducible rfl)
    case r0k3 =>
    (try simp only [Act.put, List.setIfInBounds_toArray, List.set_cons_zero, List.set_cons_succ])
    refine wpAnyH_take (i := 1) (oi := ⟨some 29, _, _, _, _, _⟩) (v := .bool false) rfl (by kernel_rfl) (by kernel_rfl) (by kernel_rfl) (fun _ _ _ h => h) (Or.inl ⟨by rfl, ?y1k3⟩) (by assumption) ?r1k3
    case y1k3 => (intro w hSw; (try dsimp only at hSw); (try go_split_ands); go_simp)
    case r1k3 =>
    (try simp only [Act.put, List.setIfInBounds_toArray, List.set_cons_zero, List.set_cons_succ])
    refine wpAnyH_take (i := 2) (oi := ⟨some 30, _, _, _, _, _⟩) (v := .bool false) rfl (by kernel_rfl) (by kernel_rfl) (by kernel_rfl) (fun _ _ _ h => h) (Or.inl ⟨by rfl, ?y2k3⟩) (by assumption) ?r2k3
    case y2k3 => (intro w hSw; (try dsimp only at hSw); (try go_split_ands); go_simp)
    case r2k3 =>
    (try simp only [Act.put, List.setIfInBounds_toArray, List.set_cons_zero, List.set_cons_succ])
    refine wpAnyH_take (i := 4) (oi := ⟨some 32, _, _, _, _, _⟩) (v := ?v4k3) rfl (by kernel_rfl) (by kernel_rfl) (by kernel_rfl) (fun _ _ _ h => h) (Or.inl ⟨by rfl, ?y4k3⟩) (by assumption) ?r4k3
    case y4k3 => (intro w hSw; (try dsimp only at hSw); (try go_split_ands); go_simp); (try with_reducible rfl)
    case r4k3 =>
    (try simp only [Act.put, List.setIfInBounds_toArray, List.set_cons_zero, List.set_cons_succ])
    refine wpAnyH_take (i := 5) (oi := ⟨some 33, _, _, _, _, _⟩) (v := ?v5k3) rfl (by kernel_rfl) (by kernel_rfl) (by kernel_rfl) (fun _ _ _ h => h) (Or.inl ⟨by rfl, ?y5k3⟩) (by assumption) ?r5k3
    case y5k3 => (intro w hSw; (try dsimp only at hSw); (try go_split_ands); go_simp); (try with_reducible rfl)
    case r5k3 =>
    (try simp only [Act.put, List.setIfInBounds_toArray, List.set_cons_zero, List.set_cons_succ])
    refine wpAnyH_take (i := 7) (oi := ⟨some 35, _, _, _, _, _⟩) (v := ?v7k3) rfl (by kernel_rfl) (by kernel_rfl) (by kernel_rfl) (fun _ _ _ h => h) (Or.inl ⟨by rfl, ?y7k3⟩) (by assumption) ?r7k3
    case y7k3 => (intro w hSw; (try dsimp only at hSw); (try go_split_ands); go_simp); (try with_reducible rfl)
    case r7k3 =>
    (try simp only [Act.put, List.setIfInBounds_toArray, List.set_cons_zero, List.set_cons_succ])
    refine wpAnyH_take (i := 8) (oi := ⟨some 36, _, _, _, _, _⟩) (v := ?v8k3) rfl (by kernel_rfl) (by kernel_rfl) (by kernel_rfl) (fun _ _ _ h => h) (Or.inl ⟨by rfl, ?y8k3⟩) (by assumption) ?r8k3
    case y8k3 => (intro w hSw; (try dsimp only at hSw); (try go_split_ands); go_simp); (try with_reducible rfl)
    case r8k3 =>
    (try simp only [Act.put, List.setIfInBounds_toArray, List.set_cons_zero, List.set_cons_succ])
    refine wpAnyH_take (i := 9) (oi := ⟨some 37, _, _, _, _, _⟩) (v := ?v9k3) rfl (by kernel_rfl) (by kernel_rfl) (by kernel_rfl) (fun _ _ _ h => h) (Or.inl ⟨by rfl, ?y9k3⟩) (by assumption) ?r9k3
    case y9k3 => (intro w hSw; (try dsimp only at hSw); (try go_split_ands); go_simp); (try with_reducible rfl)
    case r9k3 =>
    (try simp only [Act.put, List.setIfInBounds_toArray, List.set_cons_zero, List.set_cons_succ])
    refine wpAnyH_ready (rs := [3]) (by kernel_rfl) (by simp) ?_
    refine AllReadyH.cons (o := ⟨some 31, _, _, _, _, _⟩) rfl (fun K hK => ?_) AllReadyH.nil
    go_simp
    refine (drDeeds _).mono ?_; rintro e w3 ⟨rfl, hb3⟩
    go_wp2_with fail
    have HB3 : Hid (Below V.heap.size V w3) := Lib.hid ((Below.refl _ _).drew.trans hb3)
    have hA0 := bkeep HB3.out p0 hsv
    have hA1 := bkeep HB3.out p1 hsv
    have hA2 := bkeep HB3.out p2 hsv
    have hA3 := bkeep HB3.out p3 hsv
    have hA4 := bkeep HB3.out p4 hsv
    clear hb3
    refine hK.out _ _ (by first | exact ⟨hB0, hB1, hB2, hB3, hB4⟩ | exact ⟨hA0, hA1, hA2, hA3, hA4⟩) (fun hHeld => ?_)
    clear hK K
    (try simp only [Act.put, List.setIfInBounds_toArray, List.set_cons_zero, List.set_cons_succ])
    refine wpAnyH_take (i := 6) (oi := ⟨some 34, _, _, _, _, _⟩) (v := ?v6k3) rfl (by kernel_rfl) (by kernel_rfl) (by kernel_rfl) (fun _ _ _ h => h) (Or.inl ⟨by rfl, ?y6k3⟩) (by assumption) ?r6k3
    case y6k3 => (intro w hSw; (try dsimp only at hSw); (try go_split_ands); go_simp); (try with_reducible rfl)
    case r6k3 =>
    (try simp only [Act.put, List.setIfInBounds_toArray, List.set_cons_zero, List.set_cons_succ])
    refine wpAnyH_ready (rs := [10]) (by kernel_rfl) (by simp) ?_
    refine AllReadyH.cons (o := ⟨some 38, _, _, _, _, _⟩) rfl (fun K hK => ?_) AllReadyH.nil
    go_simp
    refine (hgo1 w3 HB3.out).mono ?_; rintro e w5 hq
    obtain ⟨bb, rfl⟩ := hq.bool
    go_wp2_with fail
    have HQ5 := Lib.hid hq
    have ht5 := hq.touch
    have hB0 := ht5.cell hA0 hFz
    have hB1 := ht5.cell hA1 hFz
    have hB2 := ht5.cell hA2 hFz
    have hB3 := ht5.cell hA3 hFz
    have hB4 := ht5.cell hA4 hFz
    clear hq ht5
    refine hK.out _ _ (by first | exact ⟨hB0, hB1, hB2, hB3, hB4⟩ | exact ⟨hA0, hA1, hA2, hA3, hA4⟩) (fun hHeld => ?_)
    clear hK K
    (try simp only [Act.put, List.setIfInBounds_toArray, List.set_cons_zero, List.set_cons_succ])
    refine wpAnyH_take (i := 11) (oi := ⟨some 39, _, _, _, _, _⟩) (v := ?v11k3) rfl (by kernel_rfl) (by kernel_rfl) (by kernel_rfl) (fun _ _ _ h => h) (Or.inl ⟨by rfl, ?y11k3⟩) (by assumption) ?r11k3
    case y11k3 => (intro w hSw; (try dsimp only at hSw); (try go_split_ands); go_simp); (try with_reducible rfl)
    case r11k3 =>
    (try simp only [Act.put, List.setIfInBounds_toArray, List.set_cons_zero, List.set_cons_succ])
    refine wpAnyH_take (i := 12) (oi := ⟨some 40, _, _, _, _, _⟩) (v := ?v12k3) rfl (by kernel_rfl) (by kernel_rfl) (by kernel_rfl) (fun _ _ _ h => h) (Or.inl ⟨by rfl, ?y12k3⟩) (by assumption) ?r12k3
    case y12k3 => (intro w hSw; (try dsimp only at hSw); (try go_split_ands); go_simp); (try with_reducible rfl)
    case r12k3 =>
    (try simp only [Act.put, List.setIfInBounds_toArray, List.set_cons_zero, List.set_cons_succ])
    refine wpAnyH_done (by kernel_rfl) ?_ _
    cases bb with
    | true =>
      rcases HQ5.out.yes with ⟨m1, zv5, hdd, hd5, ht5, hw5⟩
      have HD5 := Lib.hid hd5
      have v1 := hd5.blk.cell 1
      have vf := fun k => hd5.blk.free k
      simp only [List.getElem?_toArray, List.getElem?_cons_succ, List.getElem?_cons_zero] at v1
      have hmv : m1.ver = m.ver := hdd.ver
      rw [hmv] at v1
      have HDD := Lib.hid hdd
      have HT5 := Lib.hid ht5
      have HMV := Lib.hid hmv
      have hwv : IntKind.i64.wrap (m.ver + 1) = m.ver + 1 := (by rw [IntKind.wrap_i64]; omega)
      clear hd5 hdd ht5 hmv
      go_wp2_with fail
      refine bodyPost_ret (v := .bool true) (by simp [results, Try.results16, go_sem]) rfl (.inl ⟨⟨m1.ver + 1, m1.nxt, m1.zs⟩, zv5, ⟨HOK.out, by unfold topN; omega, i, hi, HID.out, HFI.out, m1, HDD.out, rfl⟩, rfl, ?_, ?_, ?_⟩)
      · have h9 := HD5.out.setver (m1.ver + 1)
        rw [HMV.out] at h9 ⊢
        exact h9
      · exact (((Touch.of_below (HBV.out.trans (HB3.out.mono (Nat.le_of_lt hsv)))).mono'' (fun k h1 h2 => absurd h2 (by omega))).trans HT5.out (fun _ _ h => h)).set (fun _ => .inl rfl)
      · intro k hk
        rcases hw5 k hk with h | h
        · exact .inl h
        · exact .inr (by have := HB3.out.size; omega)
    | false =>
      go_wp2_with fail
      refine bodyPost_ret (v := .bool false) (by simp [results, Try.results16, go_sem]) rfl (.inr ⟨fun m1 hd => ?_, rfl, (HBV.out.trans (HB3.out.mono (Nat.le_of_lt hsv))).trans (HQ5.out.no.2.mono (by have := HB3.out.size; omega))⟩)
      obtain ⟨i2, hi2, hid2, hfi2, m2, hd2, _⟩ := hd.deed
      have hii : i2 = i := by
        rcases Nat.lt_trichotomy i2 i with h | h | h
        · exact absurd hid2 (HFI.out i2 hi2 h)
        · exact h
        · exact absurd HID.out (hfi2 i hi h)
      subst hii
      exact HQ5.out.no.1 m2 hd2
  · have hkk : c.kd = 4 := hkk
    have hgo1 : ∀ W, Below V.heap.size V W → Calls Try.prog 70 #[.pointer (some ⟨d, 0, none⟩), .int .i64 i, .agg #[.int .i64 4, .int .i64 c.zo, .int .i64 c.ep, .int .i64 c.mv, .string c.ky]] W fun e w' => DeedQ B d hv zv hosts m c i hi W e w' := fun W hW => by have := hgo W hW; rw [hkk] at this; exact this
    clear hgo
    rw [hkk] at p0
    have hix := drIx4
    refine wp_region_held_drew (S := (fun W => W.cell? ⟨w.heap.size, 0, none⟩ = some (.int .i64 4) ∧ W.cell? ⟨w.heap.size, 1, none⟩ = some (.int .i64 c.zo) ∧ W.cell? ⟨w.heap.size, 2, none⟩ = some (.int .i64 c.ep) ∧ W.cell? ⟨w.heap.size, 3, none⟩ = some (.int .i64 c.mv) ∧ W.cell? ⟨w.heap.size, 4, none⟩ = some (.string c.ky))) (by kernel_rfl) ⟨p0, p1, p2, p3, p4⟩ (fun hHeld => ?_)
    refine wpAnyH_take (i := 0) (oi := ⟨some 28, _, _, _, _, _⟩) (v := ?v0k4) rfl (by kernel_rfl) (by kernel_rfl) (by kernel_rfl) (fun _ _ _ h => h) (Or.inl ⟨by rfl, ?y0k4⟩) (by assumption) ?r0k4
    case y0k4 => (intro w hSw; (try dsimp only at hSw); (try go_split_ands); go_simp); (try with_reducible rfl)
    case r0k4 =>
    (try simp only [Act.put, List.setIfInBounds_toArray, List.set_cons_zero, List.set_cons_succ])
    refine wpAnyH_take (i := 1) (oi := ⟨some 29, _, _, _, _, _⟩) (v := .bool false) rfl (by kernel_rfl) (by kernel_rfl) (by kernel_rfl) (fun _ _ _ h => h) (Or.inl ⟨by rfl, ?y1k4⟩) (by assumption) ?r1k4
    case y1k4 => (intro w hSw; (try dsimp only at hSw); (try go_split_ands); go_simp)
    case r1k4 =>
    (try simp only [Act.put, List.setIfInBounds_toArray, List.set_cons_zero, List.set_cons_succ])
    refine wpAnyH_take (i := 2) (oi := ⟨some 30, _, _, _, _, _⟩) (v := .bool false) rfl (by kernel_rfl) (by kernel_rfl) (by kernel_rfl) (fun _ _ _ h => h) (Or.inl ⟨by rfl, ?y2k4⟩) (by assumption) ?r2k4
    case y2k4 => (intro w hSw; (try dsimp only at hSw); (try go_split_ands); go_simp)
    case r2k4 =>
    (try simp only [Act.put, List.setIfInBounds_toArray, List.set_cons_zero, List.set_cons_succ])
    refine wpAnyH_take (i := 4) (oi := ⟨some 32, _, _, _, _, _⟩) (v := ?v4k4) rfl (by kernel_rfl) (by kernel_rfl) (by kernel_rfl) (fun _ _ _ h => h) (Or.inl ⟨by rfl, ?y4k4⟩) (by assumption) ?r4k4
    case y4k4 => (intro w hSw; (try dsimp only at hSw); (try go_split_ands); go_simp); (try with_reducible rfl)
    case r4k4 =>
    (try simp only [Act.put, List.setIfInBounds_toArray, List.set_cons_zero, List.set_cons_succ])
    refine wpAnyH_take (i := 5) (oi := ⟨some 33, _, _, _, _, _⟩) (v := ?v5k4) rfl (by kernel_rfl) (by kernel_rfl) (by kernel_rfl) (fun _ _ _ h => h) (Or.inl ⟨by rfl, ?y5k4⟩) (by assumption) ?r5k4
    case y5k4 => (intro w hSw; (try dsimp only at hSw); (try go_split_ands); go_simp); (try with_reducible rfl)
    case r5k4 =>
    (try simp only [Act.put, List.setIfInBounds_toArray, List.set_cons_zero, List.set_cons_succ])
    refine wpAnyH_take (i := 7) (oi := ⟨some 35, _, _, _, _, _⟩) (v := ?v7k4) rfl (by kernel_rfl) (by kernel_rfl) (by kernel_rfl) (fun _ _ _ h => h) (Or.inl ⟨by rfl, ?y7k4⟩) (by assumption) ?r7k4
    case y7k4 => (intro w hSw; (try dsimp only at hSw); (try go_split_ands); go_simp); (try with_reducible rfl)
    case r7k4 =>
    (try simp only [Act.put, List.setIfInBounds_toArray, List.set_cons_zero, List.set_cons_succ])
    refine wpAnyH_take (i := 8) (oi := ⟨some 36, _, _, _, _, _⟩) (v := ?v8k4) rfl (by kernel_rfl) (by kernel_rfl) (by kernel_rfl) (fun _ _ _ h => h) (Or.inl ⟨by rfl, ?y8k4⟩) (by assumption) ?r8k4
    case y8k4 => (intro w hSw; (try dsimp only at hSw); (try go_split_ands); go_simp); (try with_reducible rfl)
    case r8k4 =>
    (try simp only [Act.put, List.setIfInBounds_toArray, List.set_cons_zero, List.set_cons_succ])
    refine wpAnyH_take (i := 9) (oi := ⟨some 37, _, _, _, _, _⟩) (v := ?v9k4) rfl (by kernel_rfl) (by kernel_rfl) (by kernel_rfl) (fun _ _ _ h => h) (Or.inl ⟨by rfl, ?y9k4⟩) (by assumption) ?r9k4
    case y9k4 => (intro w hSw; (try dsimp only at hSw); (try go_split_ands); go_simp); (try with_reducible rfl)
    case r9k4 =>
    (try simp only [Act.put, List.setIfInBounds_toArray, List.set_cons_zero, List.set_cons_succ])
    refine wpAnyH_ready (rs := [3]) (by kernel_rfl) (by simp) ?_
    refine AllReadyH.cons (o := ⟨some 31, _, _, _, _, _⟩) rfl (fun K hK => ?_) AllReadyH.nil
    go_simp
    refine (drDeeds _).mono ?_; rintro e w3 ⟨rfl, hb3⟩
    go_wp2_with fail
    have HB3 : Hid (Below V.heap.size V w3) := Lib.hid ((Below.refl _ _).drew.trans hb3)
    have hA0 := bkeep HB3.out p0 hsv
    have hA1 := bkeep HB3.out p1 hsv
    have hA2 := bkeep HB3.out p2 hsv
    have hA3 := bkeep HB3.out p3 hsv
    have hA4 := bkeep HB3.out p4 hsv
    clear hb3
    refine hK.out _ _ (by first | exact ⟨hB0, hB1, hB2, hB3, hB4⟩ | exact ⟨hA0, hA1, hA2, hA3, hA4⟩) (fun hHeld => ?_)
    clear hK K
    (try simp only [Act.put, List.setIfInBounds_toArray, List.set_cons_zero, List.set_cons_succ])
    refine wpAnyH_take (i := 6) (oi := ⟨some 34, _, _, _, _, _⟩) (v := ?v6k4) rfl (by kernel_rfl) (by kernel_rfl) (by kernel_rfl) (fun _ _ _ h => h) (Or.inl ⟨by rfl, ?y6k4⟩) (by assumption) ?r6k4
    case y6k4 => (intro w hSw; (try dsimp only at hSw); (try go_split_ands); go_simp); (try with_reducible rfl)
    case r6k4 =>
    (try simp only [Act.put, List.setIfInBounds_toArray, List.set_cons_zero, List.set_cons_succ])
    refine wpAnyH_ready (rs := [10]) (by kernel_rfl) (by simp) ?_
    refine AllReadyH.cons (o := ⟨some 38, _, _, _, _, _⟩) rfl (fun K hK => ?_) AllReadyH.nil
    go_simp
    refine (hgo1 w3 HB3.out).mono ?_; rintro e w5 hq
    obtain ⟨bb, rfl⟩ := hq.bool
    go_wp2_with fail
    have HQ5 := Lib.hid hq
    have ht5 := hq.touch
    have hB0 := ht5.cell hA0 hFz
    have hB1 := ht5.cell hA1 hFz
    have hB2 := ht5.cell hA2 hFz
    have hB3 := ht5.cell hA3 hFz
    have hB4 := ht5.cell hA4 hFz
    clear hq ht5
    refine hK.out _ _ (by first | exact ⟨hB0, hB1, hB2, hB3, hB4⟩ | exact ⟨hA0, hA1, hA2, hA3, hA4⟩) (fun hHeld => ?_)
    clear hK K
    (try simp only [Act.put, List.setIfInBounds_toArray, List.set_cons_zero, List.set_cons_succ])
    refine wpAnyH_take (i := 11) (oi := ⟨some 39, _, _, _, _, _⟩) (v := ?v11k4) rfl (by kernel_rfl) (by kernel_rfl) (by kernel_rfl) (fun _ _ _ h => h) (Or.inl ⟨by rfl, ?y11k4⟩) (by assumption) ?r11k4
    case y11k4 => (intro w hSw; (try dsimp only at hSw); (try go_split_ands); go_simp); (try with_reducible rfl)
    case r11k4 =>
    (try simp only [Act.put, List.setIfInBounds_toArray, List.set_cons_zero, List.set_cons_succ])
    refine wpAnyH_take (i := 12) (oi := ⟨some 40, _, _, _, _, _⟩) (v := ?v12k4) rfl (by kernel_rfl) (by kernel_rfl) (by kernel_rfl) (fun _ _ _ h => h) (Or.inl ⟨by rfl, ?y12k4⟩) (by assumption) ?r12k4
    case y12k4 => (intro w hSw; (try dsimp only at hSw); (try go_split_ands); go_simp); (try with_reducible rfl)
    case r12k4 =>
    (try simp only [Act.put, List.setIfInBounds_toArray, List.set_cons_zero, List.set_cons_succ])
    refine wpAnyH_done (by kernel_rfl) ?_ _
    cases bb with
    | true =>
      rcases HQ5.out.yes with ⟨m1, zv5, hdd, hd5, ht5, hw5⟩
      have HD5 := Lib.hid hd5
      have v1 := hd5.blk.cell 1
      have vf := fun k => hd5.blk.free k
      simp only [List.getElem?_toArray, List.getElem?_cons_succ, List.getElem?_cons_zero] at v1
      have hmv : m1.ver = m.ver := hdd.ver
      rw [hmv] at v1
      have HDD := Lib.hid hdd
      have HT5 := Lib.hid ht5
      have HMV := Lib.hid hmv
      have hwv : IntKind.i64.wrap (m.ver + 1) = m.ver + 1 := (by rw [IntKind.wrap_i64]; omega)
      clear hd5 hdd ht5 hmv
      go_wp2_with fail
      refine bodyPost_ret (v := .bool true) (by simp [results, Try.results16, go_sem]) rfl (.inl ⟨⟨m1.ver + 1, m1.nxt, m1.zs⟩, zv5, ⟨HOK.out, by unfold topN; omega, i, hi, HID.out, HFI.out, m1, HDD.out, rfl⟩, rfl, ?_, ?_, ?_⟩)
      · have h9 := HD5.out.setver (m1.ver + 1)
        rw [HMV.out] at h9 ⊢
        exact h9
      · exact (((Touch.of_below (HBV.out.trans (HB3.out.mono (Nat.le_of_lt hsv)))).mono'' (fun k h1 h2 => absurd h2 (by omega))).trans HT5.out (fun _ _ h => h)).set (fun _ => .inl rfl)
      · intro k hk
        rcases hw5 k hk with h | h
        · exact .inl h
        · exact .inr (by have := HB3.out.size; omega)
    | false =>
      go_wp2_with fail
      refine bodyPost_ret (v := .bool false) (by simp [results, Try.results16, go_sem]) rfl (.inr ⟨fun m1 hd => ?_, rfl, (HBV.out.trans (HB3.out.mono (Nat.le_of_lt hsv))).trans (HQ5.out.no.2.mono (by have := HB3.out.size; omega))⟩)
      obtain ⟨i2, hi2, hid2, hfi2, m2, hd2, _⟩ := hd.deed
      have hii : i2 = i := by
        rcases Nat.lt_trichotomy i2 i with h | h | h
        · exact absurd hid2 (HFI.out i2 hi2 h)
        · exact h
        · exact absurd HID.out (hfi2 i hi h)
      subst hii
      exact HQ5.out.no.1 m2 hd2
  · have hkk : c.kd = 5 := hkk
    have hgo1 : ∀ W, Below V.heap.size V W → Calls Try.prog 71 #[.pointer (some ⟨d, 0, none⟩), .int .i64 i, .agg #[.int .i64 5, .int .i64 c.zo, .int .i64 c.ep, .int .i64 c.mv, .string c.ky]] W fun e w' => DeedQ B d hv zv hosts m c i hi W e w' := fun W hW => by have := hgo W hW; rw [hkk] at this; exact this
    clear hgo
    rw [hkk] at p0
    have hix := drIx5
    refine wp_region_held_drew (S := (fun W => W.cell? ⟨w.heap.size, 0, none⟩ = some (.int .i64 5) ∧ W.cell? ⟨w.heap.size, 1, none⟩ = some (.int .i64 c.zo) ∧ W.cell? ⟨w.heap.size, 2, none⟩ = some (.int .i64 c.ep) ∧ W.cell? ⟨w.heap.size, 3, none⟩ = some (.int .i64 c.mv) ∧ W.cell? ⟨w.heap.size, 4, none⟩ = some (.string c.ky))) (by kernel_rfl) ⟨p0, p1, p2, p3, p4⟩ (fun hHeld => ?_)
    refine wpAnyH_take (i := 0) (oi := ⟨some 28, _, _, _, _, _⟩) (v := ?v0k5) rfl (by kernel_rfl) (by kernel_rfl) (by kernel_rfl) (fun _ _ _ h => h) (Or.inl ⟨by rfl, ?y0k5⟩) (by assumption) ?r0k5
    case y0k5 => (intro w hSw; (try dsimp only at hSw); (try go_split_ands); go_simp); (try with_reducible rfl)
    case r0k5 =>
    (try simp only [Act.put, List.setIfInBounds_toArray, List.set_cons_zero, List.set_cons_succ])
    refine wpAnyH_take (i := 1) (oi := ⟨some 29, _, _, _, _, _⟩) (v := .bool false) rfl (by kernel_rfl) (by kernel_rfl) (by kernel_rfl) (fun _ _ _ h => h) (Or.inl ⟨by rfl, ?y1k5⟩) (by assumption) ?r1k5
    case y1k5 => (intro w hSw; (try dsimp only at hSw); (try go_split_ands); go_simp)
    case r1k5 =>
    (try simp only [Act.put, List.setIfInBounds_toArray, List.set_cons_zero, List.set_cons_succ])
    refine wpAnyH_take (i := 2) (oi := ⟨some 30, _, _, _, _, _⟩) (v := .bool false) rfl (by kernel_rfl) (by kernel_rfl) (by kernel_rfl) (fun _ _ _ h => h) (Or.inl ⟨by rfl, ?y2k5⟩) (by assumption) ?r2k5
    case y2k5 => (intro w hSw; (try dsimp only at hSw); (try go_split_ands); go_simp)
    case r2k5 =>
    (try simp only [Act.put, List.setIfInBounds_toArray, List.set_cons_zero, List.set_cons_succ])
    refine wpAnyH_take (i := 4) (oi := ⟨some 32, _, _, _, _, _⟩) (v := ?v4k5) rfl (by kernel_rfl) (by kernel_rfl) (by kernel_rfl) (fun _ _ _ h => h) (Or.inl ⟨by rfl, ?y4k5⟩) (by assumption) ?r4k5
    case y4k5 => (intro w hSw; (try dsimp only at hSw); (try go_split_ands); go_simp); (try with_reducible rfl)
    case r4k5 =>
    (try simp only [Act.put, List.setIfInBounds_toArray, List.set_cons_zero, List.set_cons_succ])
    refine wpAnyH_take (i := 5) (oi := ⟨some 33, _, _, _, _, _⟩) (v := ?v5k5) rfl (by kernel_rfl) (by kernel_rfl) (by kernel_rfl) (fun _ _ _ h => h) (Or.inl ⟨by rfl, ?y5k5⟩) (by assumption) ?r5k5
    case y5k5 => (intro w hSw; (try dsimp only at hSw); (try go_split_ands); go_simp); (try with_reducible rfl)
    case r5k5 =>
    (try simp only [Act.put, List.setIfInBounds_toArray, List.set_cons_zero, List.set_cons_succ])
    refine wpAnyH_take (i := 7) (oi := ⟨some 35, _, _, _, _, _⟩) (v := ?v7k5) rfl (by kernel_rfl) (by kernel_rfl) (by kernel_rfl) (fun _ _ _ h => h) (Or.inl ⟨by rfl, ?y7k5⟩) (by assumption) ?r7k5
    case y7k5 => (intro w hSw; (try dsimp only at hSw); (try go_split_ands); go_simp); (try with_reducible rfl)
    case r7k5 =>
    (try simp only [Act.put, List.setIfInBounds_toArray, List.set_cons_zero, List.set_cons_succ])
    refine wpAnyH_take (i := 8) (oi := ⟨some 36, _, _, _, _, _⟩) (v := ?v8k5) rfl (by kernel_rfl) (by kernel_rfl) (by kernel_rfl) (fun _ _ _ h => h) (Or.inl ⟨by rfl, ?y8k5⟩) (by assumption) ?r8k5
    case y8k5 => (intro w hSw; (try dsimp only at hSw); (try go_split_ands); go_simp); (try with_reducible rfl)
    case r8k5 =>
    (try simp only [Act.put, List.setIfInBounds_toArray, List.set_cons_zero, List.set_cons_succ])
    refine wpAnyH_take (i := 9) (oi := ⟨some 37, _, _, _, _, _⟩) (v := ?v9k5) rfl (by kernel_rfl) (by kernel_rfl) (by kernel_rfl) (fun _ _ _ h => h) (Or.inl ⟨by rfl, ?y9k5⟩) (by assumption) ?r9k5
    case y9k5 => (intro w hSw; (try dsimp only at hSw); (try go_split_ands); go_simp); (try with_reducible rfl)
    case r9k5 =>
    (try simp only [Act.put, List.setIfInBounds_toArray, List.set_cons_zero, List.set_cons_succ])
    refine wpAnyH_ready (rs := [3]) (by kernel_rfl) (by simp) ?_
    refine AllReadyH.cons (o := ⟨some 31, _, _, _, _, _⟩) rfl (fun K hK => ?_) AllReadyH.nil
    go_simp
    refine (drDeeds _).mono ?_; rintro e w3 ⟨rfl, hb3⟩
    go_wp2_with fail
    have HB3 : Hid (Below V.heap.size V w3) := Lib.hid ((Below.refl _ _).drew.trans hb3)
    have hA0 := bkeep HB3.out p0 hsv
    have hA1 := bkeep HB3.out p1 hsv
    have hA2 := bkeep HB3.out p2 hsv
    have hA3 := bkeep HB3.out p3 hsv
    have hA4 := bkeep HB3.out p4 hsv
    clear hb3
    refine hK.out _ _ (by first | exact ⟨hB0, hB1, hB2, hB3, hB4⟩ | exact ⟨hA0, hA1, hA2, hA3, hA4⟩) (fun hHeld => ?_)
    clear hK K
    (try simp only [Act.put, List.setIfInBounds_toArray, List.set_cons_zero, List.set_cons_succ])
    refine wpAnyH_take (i := 6) (oi := ⟨some 34, _, _, _, _, _⟩) (v := ?v6k5) rfl (by kernel_rfl) (by kernel_rfl) (by kernel_rfl) (fun _ _ _ h => h) (Or.inl ⟨by rfl, ?y6k5⟩) (by assumption) ?r6k5
    case y6k5 => (intro w hSw; (try dsimp only at hSw); (try go_split_ands); go_simp); (try with_reducible rfl)
    case r6k5 =>
    (try simp only [Act.put, List.setIfInBounds_toArray, List.set_cons_zero, List.set_cons_succ])
    refine wpAnyH_ready (rs := [10]) (by kernel_rfl) (by simp) ?_
    refine AllReadyH.cons (o := ⟨some 38, _, _, _, _, _⟩) rfl (fun K hK => ?_) AllReadyH.nil
    go_simp
    refine (hgo1 w3 HB3.out).mono ?_; rintro e w5 hq
    obtain ⟨bb, rfl⟩ := hq.bool
    go_wp2_with fail
    have HQ5 := Lib.hid hq
    have ht5 := hq.touch
    have hB0 := ht5.cell hA0 hFz
    have hB1 := ht5.cell hA1 hFz
    have hB2 := ht5.cell hA2 hFz
    have hB3 := ht5.cell hA3 hFz
    have hB4 := ht5.cell hA4 hFz
    clear hq ht5
    refine hK.out _ _ (by first | exact ⟨hB0, hB1, hB2, hB3, hB4⟩ | exact ⟨hA0, hA1, hA2, hA3, hA4⟩) (fun hHeld => ?_)
    clear hK K
    (try simp only [Act.put, List.setIfInBounds_toArray, List.set_cons_zero, List.set_cons_succ])
    refine wpAnyH_take (i := 11) (oi := ⟨some 39, _, _, _, _, _⟩) (v := ?v11k5) rfl (by kernel_rfl) (by kernel_rfl) (by kernel_rfl) (fun _ _ _ h => h) (Or.inl ⟨by rfl, ?y11k5⟩) (by assumption) ?r11k5
    case y11k5 => (intro w hSw; (try dsimp only at hSw); (try go_split_ands); go_simp); (try with_reducible rfl)
    case r11k5 =>
    (try simp only [Act.put, List.setIfInBounds_toArray, List.set_cons_zero, List.set_cons_succ])
    refine wpAnyH_take (i := 12) (oi := ⟨some 40, _, _, _, _, _⟩) (v := ?v12k5) rfl (by kernel_rfl) (by kernel_rfl) (by kernel_rfl) (fun _ _ _ h => h) (Or.inl ⟨by rfl, ?y12k5⟩) (by assumption) ?r12k5
    case y12k5 => (intro w hSw; (try dsimp only at hSw); (try go_split_ands); go_simp); (try with_reducible rfl)
    case r12k5 =>
    (try simp only [Act.put, List.setIfInBounds_toArray, List.set_cons_zero, List.set_cons_succ])
    refine wpAnyH_done (by kernel_rfl) ?_ _
    cases bb with
    | true =>
      rcases HQ5.out.yes with ⟨m1, zv5, hdd, hd5, ht5, hw5⟩
      have HD5 := Lib.hid hd5
      have v1 := hd5.blk.cell 1
      have vf := fun k => hd5.blk.free k
      simp only [List.getElem?_toArray, List.getElem?_cons_succ, List.getElem?_cons_zero] at v1
      have hmv : m1.ver = m.ver := hdd.ver
      rw [hmv] at v1
      have HDD := Lib.hid hdd
      have HT5 := Lib.hid ht5
      have HMV := Lib.hid hmv
      have hwv : IntKind.i64.wrap (m.ver + 1) = m.ver + 1 := (by rw [IntKind.wrap_i64]; omega)
      clear hd5 hdd ht5 hmv
      go_wp2_with fail
      refine bodyPost_ret (v := .bool true) (by simp [results, Try.results16, go_sem]) rfl (.inl ⟨⟨m1.ver + 1, m1.nxt, m1.zs⟩, zv5, ⟨HOK.out, by unfold topN; omega, i, hi, HID.out, HFI.out, m1, HDD.out, rfl⟩, rfl, ?_, ?_, ?_⟩)
      · have h9 := HD5.out.setver (m1.ver + 1)
        rw [HMV.out] at h9 ⊢
        exact h9
      · exact (((Touch.of_below (HBV.out.trans (HB3.out.mono (Nat.le_of_lt hsv)))).mono'' (fun k h1 h2 => absurd h2 (by omega))).trans HT5.out (fun _ _ h => h)).set (fun _ => .inl rfl)
      · intro k hk
        rcases hw5 k hk with h | h
        · exact .inl h
        · exact .inr (by have := HB3.out.size; omega)
    | false =>
      go_wp2_with fail
      refine bodyPost_ret (v := .bool false) (by simp [results, Try.results16, go_sem]) rfl (.inr ⟨fun m1 hd => ?_, rfl, (HBV.out.trans (HB3.out.mono (Nat.le_of_lt hsv))).trans (HQ5.out.no.2.mono (by have := HB3.out.size; omega))⟩)
      obtain ⟨i2, hi2, hid2, hfi2, m2, hd2, _⟩ := hd.deed
      have hii : i2 = i := by
        rcases Nat.lt_trichotomy i2 i with h | h | h
        · exact absurd hid2 (HFI.out i2 hi2 h)
        · exact h
        · exact absurd HID.out (hfi2 i hi h)
      subst hii
      exact HQ5.out.no.1 m2 hd2
end Go.Proofs.Ytbohpjinkdffhaa
