/- container/heap on a side: the interface's methods; up. -/
import Derived.Test.YtdlbiobjnohfbaaGreatVd2
namespace Go.Proofs.YtdlbiobjnohfbaaGreat
open Go.RowKit
set_option linter.unusedVariables false
set_option linter.unusedSimpArgs false
/-- cell k of block b is a side: these orders -/
structure Sd (w : World) (b k : Nat) (t : TypeId) (cs : Array Value) (l : List Od) (v : Value) : Prop where
  whl : Whl w b t cs
  at_ : cs[k]? = some v
  own : w.ownsRow 0 38 6 v l.length (flatO l)
  far : v.ownBlock ≠ some b
theorem Sd.cell {w : World} {b k : Nat} {t : TypeId} {cs : Array Value} {l : List Od} {v : Value} (h : Sd w b k t cs l v) : w.cell? ⟨b, k, none⟩ = some v := (h.whl.cell k).trans h.at_
theorem Sd.below {w w' : World} {b k : Nat} {t : TypeId} {cs : Array Value} {l : List Od} {v : Value} (h : Sd w b k t cs l v) (hb : Below w.heap.size w w') : Sd w' b k t cs l v :=
  ⟨h.whl.below hb h.whl.low, h.at_, (Touch.of_below hb).own h.own (fun g hg hd => by have := (h.own.lt g hg).2; omega), h.far⟩
/-- its row is another one now -/
theorem Sd.row {w w' : World} {b k : Nat} {t : TypeId} {cs : Array Value} {l l' : List Od} {v : Value} (h : Sd w b k t cs l v) (ht : Touch (fun x => v.ownBlock = some x) w w') (ho : w'.ownsRow 0 38 6 v l'.length (flatO l')) : Sd w' b k t cs l' v :=
  ⟨(ht.block b h.whl.low h.far).trans h.whl, h.at_, ho, h.far⟩
theorem meth_push (a : Addr) (w : World) : (method 320 148 (.pointer (some a)) "Push").run Tryz.prog w = .ok (165, .pointer (some a)) w := by kernel_rfl
theorem meth_pop (a : Addr) (w : World) : (method 320 148 (.pointer (some a)) "Pop").run Tryz.prog w = .ok (164, .pointer (some a)) w := by kernel_rfl
theorem meth_len0 (a : Addr) (w : World) : (method 320 148 (.pointer (some a)) "Len").run Tryz.prog w = (loadVar 75 a >>= fun v => pure ((161 : FuncId), v)).run Tryz.prog w := by kernel_rfl
theorem meth_less0 (a : Addr) (w : World) : (method 320 148 (.pointer (some a)) "Less").run Tryz.prog w = (loadVar 75 a >>= fun v => pure ((162 : FuncId), v)).run Tryz.prog w := by kernel_rfl
theorem meth_swap0 (a : Addr) (w : World) : (method 320 148 (.pointer (some a)) "Swap").run Tryz.prog w = (loadVar 75 a >>= fun v => pure ((163 : FuncId), v)).run Tryz.prog w := by kernel_rfl
theorem Sd.meth {w : World} {b k : Nat} {t : TypeId} {cs : Array Value} {l : List Od} {v : Value} (hs : Sd w b k t cs l v) :
    (method 320 148 (.pointer (some ⟨b, k, none⟩)) "Len").run Tryz.prog w = .ok (161, v) w ∧
    (method 320 148 (.pointer (some ⟨b, k, none⟩)) "Less").run Tryz.prog w = .ok (162, v) w ∧
    (method 320 148 (.pointer (some ⟨b, k, none⟩)) "Swap").run Tryz.prog w = .ok (163, v) w := by
  obtain ⟨A, c, rfl, _⟩ := own_slice hs.own
  have h := hs.cell
  refine ⟨?_, ?_, ?_⟩
  · rw [meth_len0]; go_simp
  · rw [meth_less0]; go_simp
  · rw [meth_swap0]; go_simp
theorem sideLen (r : Option Addr) (n c : Nat) (w : World) : Calls Tryz.prog 161 #[.slice r n c] w fun e w' => e = .returned (.int .i64 n) ∧ w' = w := by
  go_enter Tryz.func161, Tryz.ntmps161
  go_wp2_with fail
  go_ret
  exact ⟨rfl, rfl⟩
theorem sideLenV {w : World} {B n : Nat} {l : List Value} {v : Value} (h : w.ownsRow B 38 6 v n l) (w1 : World) : Calls Tryz.prog 161 #[v] w1 fun e w' => e = .returned (.int .i64 n) ∧ w' = w1 := by
  obtain ⟨A, c, rfl, _⟩ := own_slice h
  exact sideLen _ _ _ _
theorem swapL_far {l : List Od} {i j k : Nat} (hi : i ≠ k) (hj : j ≠ k) : (swapL l i j)[k]? = l[k]? := by
  unfold swapL
  split
  · rw [List.getElem?_set_ne hj, List.getElem?_set_ne hi]
  · rfl
set_option maxHeartbeats 2000000 in
set_option maxRecDepth 10000 in
theorem heapUp (b k : Nat) (t : TypeId) (cs : Array Value) (bb : Bool) (l : List Od) (v : Value) (j : Nat) (w : World) (h : Sd w b k t cs l v) (hq : SideQ bb l) (N : Nat) (hN : N ≤ l.length) (hu : UpI (kf l) N j) (hj : j < N) (hlen : l.length ≤ 1000) :
    Calls Tryz.prog 105 #[.iface 148 (.pointer (some ⟨b, k, none⟩)), .int .i64 j] w fun e w' => e = .returned (.tuple #[]) ∧ ∃ l', l'.Perm l ∧ HeapF (kf l') N ∧ (∀ k, N ≤ k → l'[k]? = l[k]?) ∧ Sd w' b k t cs l' v ∧ Touch (fun x => v.ownBlock = some x) w w' := by
  go_enter Tryz.func105, Tryz.ntmps105
  go_wp2_with fail
  go_loopw [1, 4] (fun jv iv wr => ∃ (m : Nat) (l1 : List Od), m < N ∧ jv = .int .i64 m ∧ l1.Perm l ∧ UpI (kf l1) N m ∧ (∀ k, N ≤ k → l1[k]? = l[k]?) ∧ Sd wr b k t cs l1 v ∧ Touch (fun x => v.ownBlock = some x) w wr) (fun jv _ _ => (intOf jv).toNat)
  case atStart => exact ⟨j, l, hj, rfl, List.Perm.refl _, hu, fun _ _ => rfl, h, Touch.refl _ _⟩
  case round =>
    obtain ⟨m, l1, hm, rfl, hp, hU, hF, hS, hT⟩ := hrel
    have hl1 : l1.length = l.length := hp.length_eq
    have hq1 := hq.perm hp
    have hms := hS.meth.2.1
    have HS := Lib.hid hS
    have HT := Lib.hid hT
    have HU := Lib.hid hU
    have HF := Lib.hid hF
    have HP := Lib.hid hp
    have HQ := Lib.hid hq1
    clear hS hT hU hF hp hq1 hq h hu
    by_cases h0 : m = 0
    · subst h0
      go_wp2_with fail
      exact bodyPost_end (v := .tuple #[]) (by simp [results, Tryz.results105, go_sem]) rfl ⟨rfl, l1, HP.out, HU.out.zero, HF.out, HS.out, HT.out⟩
    · have hm0 : 0 < m := by omega
      obtain ⟨p, hpp⟩ : ∃ p, p = (m - 1) / 2 := ⟨_, rfl⟩
      have hpe : ((m : Int) - 1) / 2 = (p : Int) := by omega
      have hpm : p < m := by omega
      have hne : ¬ (p : Int) = (m : Int) := by omega
      have HPP := Lib.hid hpp
      clear hpp
      have hlk := less_kf HQ.out (show m < l1.length by omega) (show p < l1.length by omega)
      have hsl := sideSwap 0 l1 v l1.length p m rfl (by omega) (by omega)
      by_cases hlt : kf l1 m < kf l1 p
      · have hle : lessO (l1[m]'(by omega)) (l1[p]'(by omega)) = true := by rw [hlk]; exact decide_eq_true hlt
        have HLE := Lib.hid hle
        have HLT := Lib.hid hlt
        clear hlk hle hlt
        go_wp2_with (first
          | (go_at_call 162; refine (sideLess 0 l1 v l1.length m p rfl (by omega) (by omega) _ HS.out.own).mono ?_; rintro e w2 ⟨he, hb2⟩; rw [HLE.out] at he; subst he; have hs2 := hb2.size; have HS2 := Lib.hid (HS.out.below hb2); have hm2 := HS2.out.meth.2.2; have HT2 := Lib.hid (HT.out.trans (Touch.of_below hb2) (fun x hx hg => absurd hg (by have := HT.out.size; omega))))
          | (go_at_call 163; refine (hsl _ HS2.out.own).mono ?_; rintro e w3 ⟨rfl, ho3, ht3⟩; have HT3 := Lib.hid (HT2.out.trans ht3 (fun _ _ hg => hg)); have HS3 := Lib.hid (HS2.out.row ht3 (l' := swapL l1 p m) (by rw [swapL_len]; exact ho3)); clear ho3 ht3)
          | fail)
        refine ⟨⟨p, swapL l1 p m, by omega, rfl, (swapL_perm (by omega) (by omega)).trans HP.out, ?_, ?_, HS3.out, HT3.out⟩, by simp [intOf]; omega⟩
        · rw [swapL_kf (by omega) (by omega)]
          exact HU.out.step hm0 hm HPP.out HLT.out
        · intro k hk
          rw [swapL_far (by omega) (by omega)]
          exact HF.out k hk
      · have hle : lessO (l1[m]'(by omega)) (l1[p]'(by omega)) = false := by rw [hlk]; exact decide_eq_false hlt
        have HLE := Lib.hid hle
        have HLT := Lib.hid hlt
        clear hlk hle hlt hsl
        go_wp2_with (first
          | (go_at_call 162; refine (sideLess 0 l1 v l1.length m p rfl (by omega) (by omega) _ HS.out.own).mono ?_; rintro e w2 ⟨he, hb2⟩; rw [HLE.out] at he; subst he; have hs2 := hb2.size; have HS2 := Lib.hid (HS.out.below hb2); have HT2 := Lib.hid (HT.out.trans (Touch.of_below hb2) (fun x hx hg => absurd hg (by have := HT.out.size; omega))))
          | fail)
        refine bodyPost_end (v := .tuple #[]) (by simp [results, Tryz.results105, go_sem]) rfl ⟨rfl, l1, HP.out, ?_, HF.out, HS2.out, HT2.out⟩
        exact HU.out.stop (by rw [← HPP.out]; have := HLT.out; omega)
end Go.Proofs.YtdlbiobjnohfbaaGreat
