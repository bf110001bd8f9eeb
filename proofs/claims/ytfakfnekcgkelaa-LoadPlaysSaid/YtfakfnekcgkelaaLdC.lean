/- Hit of a load. -/
import Derived.Test.YtfakfnekcgkelaaLdB
import Derived.ProofKit
import Derived.Deep.RegionLaw
namespace Go.Proofs.Ytfakfnekcgkelaa
open Go.RowKit Go.MapKept
open Go.ChangeMaps (setBlock)
set_option linter.unusedVariables false
set_option linter.unusedSimpArgs false

theorem zI0 : ∀ w, (zeroValue 3).run Try.prog w = .ok (.int .i64 0) w := fun _ => by kernel_rfl
theorem zM0 : ∀ w, (zeroValue 48).run Try.prog w = .ok (.map none) w := fun _ => by kernel_rfl
theorem eqM1 : ∀ (m : Option Nat) w, (binOp .eql 45 (.map m) (.map none)).run Try.prog w = .ok (.bool m.isNone) w := fun m _ => by cases m <;> kernel_rfl
theorem eqM2 : ∀ (m : Option Nat) w, (binOp .eql 48 (.map m) (.map none)).run Try.prog w = .ok (.bool m.isNone) w := fun m _ => by cases m <;> kernel_rfl
theorem len0 : ∀ w, (Builtin.len_ #[48] 3 #[.map none]).run Try.prog w = .ok (.int .i64 0) w := fun _ => by kernel_rfl
theorem touch_grown {D : Nat → Prop} {a w w' : World} {g : Nat} (h : Touch D a w) (hg : w.grownBy w' (some g)) (hD : g < a.heap.size → D g) : Touch D a w' :=
  h.trans (Touch.of_grown hg) (fun n hn e => by injection e with e; subst e; exact hD hn)
theorem whl_grown {w w' : World} {b g : Nat} {t : TypeId} {cs : Array Value} (h : Whl w b t cs) (hg : w.grownBy w' (some g)) (hne : b ≠ g) : Whl w' b t cs := (hg.block b h.low (by intro e; injection e with e; exact hne e)).trans h
theorem map_grown {α : Type} {enc : α → Value} {w w' : World} {b g : Nat} {l : List (α × Value)} (h : MapOf enc w b l) (hg : w.grownBy w' (some g)) (hne : b ≠ g) : MapOf enc w' b l := h.grown hg (by intro e; injection e with e; exact hne e)
theorem map_alloc {α : Type} {enc : α → Value} {w : World} {b : Nat} {l : List (α × Value)} (h : MapOf enc w b l) (o : Obj) : MapOf enc (w.alloc o) b l := h.grown (World.grownBy_alloc w o none) (by simp)
theorem map_set {α : Type} {enc : α → Value} {w : World} {b : Nat} {l : List (α × Value)} (h : MapOf enc w b l) {a : Addr} {v : Value} (hne : b ≠ a.block) : MapOf enc (w.setCell a v) b l := h.block (Below.heap_setCell w a v b hne)
theorem get_vKm (k : By) (l : Km) : (get1 k (vKm l)).getD (.int .i64 0) = .int .i64 ((get1 k l).getD 0) := by
  unfold vKm; rw [get1_map (fun n => Value.int .i64 n)]; cases get1 k l <;> rfl
theorem put_vKm (k : By) (n : Int) (l : Km) : put1 k (.int .i64 n) (vKm l) = vKm (put1 k n l) := by
  unfold vKm; rw [put1_map (fun n => Value.int .i64 n)]
theorem okHit_no {K : Ks} {z : Int} {k : By} (h : ¬ okHitK K z k) : hitK K z k = K := by unfold hitK; rw [if_neg h]

set_option maxHeartbeats 4000000 in
theorem hitNo (b : Nat) (z : Int) (s : ByteArray) (w : World) (h : ¬ (1 ≤ z ∧ 1 ≤ s.size ∧ s.size ≤ 16)) :
    Calls Try.prog 7 #[.pointer (some ⟨b, 0, none⟩), .int .i64 z, .string s] w fun e w' => e = .returned (.tuple #[]) ∧ w' = w := by
  by_cases h1 : z < 1
  · go_enter Try.func7, Try.ntmps7
    go_wp2_with fail
    refine bodyPost_ret (v := .tuple #[]) (by simp [results, Try.results7, go_sem]) rfl ⟨rfl, rfl⟩
  · by_cases h2 : (s.size : Int) < 1
    · go_enter Try.func7, Try.ntmps7
      go_wp2_with fail
      refine bodyPost_ret (v := .tuple #[]) (by simp [results, Try.results7, go_sem]) rfl ⟨rfl, rfl⟩
    · have h3 : (16 : Int) < (s.size : Int) := by omega
      go_enter Try.func7, Try.ntmps7
      go_wp2_with fail
      refine bodyPost_ret (v := .tuple #[]) (by simp [results, Try.results7, go_sem]) rfl ⟨rfl, rfl⟩
theorem sz_len (s : ByteArray) : s.data.toList.length = s.size := Array.length_toList
set_option maxHeartbeats 2000000 in
set_option maxRecDepth 10000 in
/-- the first hit of all -/
theorem hitFirst (b : Nat) (z : Int) (s : ByteArray) (w : World) (hv : 1 ≤ z ∧ 1 ≤ s.size ∧ s.size ≤ 16) (h : Whl w b 47 #[.map none]) :
    Calls Try.prog 7 #[.pointer (some ⟨b, 0, none⟩), .int .i64 z, .string s] w fun e w' => e = .returned (.tuple #[]) ∧ (∃ fp', LdH w' b fp' (hitK [] z s.data.toList) ∧ (∀ g ∈ fp', w.heap.size ≤ g)) ∧ Touch (fun x => x = b) w w' := by
  obtain ⟨hz, hs1, hs2⟩ := hv
  have kz : ¬ z < 1 := by omega
  have ks1 : ¬ (s.size : Int) < 1 := by omega
  have ks2 : ¬ (16 : Int) < (s.size : Int) := by omega
  have hmm := @run_makeMap Try.prog
  have hq1 := eqM1
  have hq2 := eqM2
  have hl0 := len0
  have hlow := h.low
  have c0 : w.cell? ⟨b, 0, none⟩ = some (.map none) := h.cell 0
  have f0 := h.free 0
  have lk1 : (Instr.lookup 45 (.map none) (.int .i64 z) false).run Try.prog w = .ok (.map none) w := look_nil kI Try.underlying45 (zM0 w) z
  have lk2 : (Instr.lookup 48 (.map none) (.string s) false).run Try.prog w = .ok (.int .i64 0) w := by have := look_nil (w := w) kB Try.underlying48 (zI0 w) s.data.toList; rw [bytes_data] at this; exact this
  obtain ⟨w2, hw2⟩ : ∃ x, x = (w.setCell ⟨b, 0, none⟩ (.map (some w.heap.size))).alloc (.map #[] 0) := ⟨_, rfl⟩
  have hz2 : w2.heap.size = w.heap.size + 1 := by rw [hw2]; simp [World.setCell]
  have L2 : Whl w2 b 47 #[.map (some w.heap.size)] := by rw [hw2]; exact (h.set 0 _).alloc _
  have G2 : MapOf encI w2 w.heap.size [] := by rw [hw2]; have := MapOf.made (enc := encI) (w.setCell ⟨b, 0, none⟩ (.map (some w.heap.size))); simpa [World.setCell] using this
  have T2 : Touch (fun x => x = b) w w2 := by rw [hw2]; exact ((Touch.refl (fun x => x = b) w).set (fun _ => rfl)).alloc _
  obtain ⟨w3, hw3⟩ : ∃ x, x = w2.alloc (.map #[] 0) := ⟨_, rfl⟩
  have hz3 : w3.heap.size = w.heap.size + 2 := by rw [hw3]; simp; omega
  have L3 : Whl w3 b 47 #[.map (some w.heap.size)] := by rw [hw3]; exact L2.alloc _
  have G3 : MapOf encI w3 w.heap.size [] := by rw [hw3]; exact map_alloc G2 _
  have H3 : MapOf encStr w3 (w.heap.size + 1) [] := by rw [hw3, ← hz2]; exact MapOf.made w2
  have T3 : Touch (fun x => x = b) w w3 := by rw [hw3]; exact T2.alloc _
  obtain ⟨w4, up4, G4, gr4, hz4⟩ := G3.put (P := Try.prog) kI Try.underlying45 z (.map (some (w.heap.size + 1)))
  have L4 := whl_grown L3 gr4 (by omega)
  have H4 := map_grown H3 gr4 (by omega)
  have T4 := touch_grown T3 gr4 (by omega)
  have lk4 := H4.look (P := Try.prog) kB Try.underlying48 (zI0 w4) s.data.toList
  rw [bytes_data] at lk4
  simp only [get1, Option.getD_none] at lk4
  obtain ⟨w5, up5, H5, gr5, hz5⟩ := H4.put (P := Try.prog) kB Try.underlying48 s.data.toList (.int .i64 1)
  rw [bytes_data] at up5
  have L5 := whl_grown L4 gr5 (by omega)
  have G5 := map_grown G4 gr5 (by omega)
  have T5 := touch_grown T4 gr5 (by omega)
  simp only [encI] at up4
  have c3 : w3.cell? ⟨b, 0, none⟩ = some (.map (some w.heap.size)) := L3.cell 0
  have hfin : (∃ fp', LdH w5 b fp' (hitK [] z s.data.toList) ∧ (∀ g ∈ fp', w.heap.size ≤ g)) ∧ Touch (fun x => x = b) w w5 := by
    refine ⟨⟨[w.heap.size, w.heap.size + 1], .inr ⟨w.heap.size, [(z, w.heap.size + 1, [(s.data.toList, 1)])], L5, rfl, ⟨G5, ?_, ?_⟩, ?_⟩, ?_⟩, T5⟩
    · intro e he
      simp only [List.mem_cons, List.not_mem_nil, or_false] at he
      subst he
      exact H5
    · simp; omega
    · have hok : okHitK [] z s.data.toList := by simp [okHitK, cntK, zoneK, get1, sz_len]; omega
      have := Rep.nil.hit hok
      simpa [cntK, zoneK, get1, put1, zEz] using this
    · intro g hg
      simp at hg
      omega
  have HF := Lib.hid hfin
  clear hfin L2 G2 T2 L3 G3 H3 T3 G4 gr4 L4 H4 T4 H5 gr5 L5 G5 T5 h
  subst hw3
  subst hw2
  clear hz2 hz3 hz4 hz5
  go_enter Try.func7, Try.ntmps7
  go_wp2_with fail
  refine bodyPost_end (v := .tuple #[]) (by simp [results, Try.results7, go_sem]) rfl ⟨rfl, HF.out.1, HF.out.2⟩
end Go.Proofs.Ytfakfnekcgkelaa
