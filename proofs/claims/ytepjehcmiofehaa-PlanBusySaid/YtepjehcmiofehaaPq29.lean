/- plan: heaps of hosts; the hosts with the most and the least load. -/
import Derived.Test.YtepjehcmiofehaaPq28
namespace Go.Proofs.Ytepjehcmiofehaa
open Go.RowKit
set_option linter.unusedVariables false
set_option linter.unusedSimpArgs false
theorem mR_push (a : Addr) (w : World) : (method 275 115 (.pointer (some a)) "Push").run Try.prog w = .ok (115, .pointer (some a)) w := by kernel_rfl
theorem mR_len (a : Addr) (w : World) : (method 275 115 (.pointer (some a)) "Len").run Try.prog w = .ok (113, .pointer (some a)) w := by kernel_rfl
theorem mR_less (a : Addr) (w : World) : (method 275 115 (.pointer (some a)) "Less").run Try.prog w = .ok (114, .pointer (some a)) w := by kernel_rfl
theorem mR_swap (a : Addr) (w : World) : (method 275 115 (.pointer (some a)) "Swap").run Try.prog w = .ok (116, .pointer (some a)) w := by kernel_rfl
theorem RkH.perm {w : World} {B b : Nat} {s : Int} {v : Value} {rs : List Rk} (h : RkH w B b s v rs) {rs' : List Rk} (hp : rs'.Perm rs) : ∀ r ∈ rs', RkOk r := fun r hr => h.ok r (hp.mem_iff.1 hr)
theorem swapG_mem {α : Type} {l : List α} {i j : Nat} (hi : i < l.length) (hj : j < l.length) {P : α → Prop} (h : ∀ r ∈ l, P r) : ∀ r ∈ swapG l i j, P r := fun r hr => h r ((swapG_perm hi hj).mem_iff.1 hr)
set_option maxHeartbeats 4000000 in
set_option maxRecDepth 10000 in
theorem rkUp (B b : Nat) (s : Int) (v : Value) (rs : List Rk) (j : Nat) (w : World) (h : RkH w B b s v rs) (hu : UpI (kfR s rs) rs.length j) (hj : j < rs.length) (hlen : rs.length ≤ 1000) :
    Calls Try.prog 74 #[.iface 115 (.pointer (some ⟨b, 0, none⟩)), .int .i64 j] w fun e w' => e = .returned (.tuple #[]) ∧ ∃ rs', rs'.Perm rs ∧ HeapF (kfR s rs') rs.length ∧ RkH w' B b s v rs' ∧ Touch (fun x => v.ownBlock = some x) w w' := by
  have ml := mR_less
  have ms := mR_swap
  go_enter Try.func74, Try.ntmps74
  go_wp2_with fail
  go_loopw [1, 4] (fun jv iv wr => ∃ (m : Nat) (l1 : List Rk), m < rs.length ∧ jv = .int .i64 m ∧ l1.Perm rs ∧ UpI (kfR s l1) rs.length m ∧ RkH wr B b s v l1 ∧ Touch (fun x => v.ownBlock = some x) w wr) (fun jv _ _ => (intOf jv).toNat)
  case atStart => exact ⟨j, rs, hj, rfl, List.Perm.refl _, hu, h, Touch.refl _ _⟩
  case round =>
    obtain ⟨m, l1, hm, rfl, hp, hU, hS, hT⟩ := hrel
    have hl1 : l1.length = rs.length := hp.length_eq
    have HS := Lib.hid hS
    have HT := Lib.hid hT
    have HU := Lib.hid hU
    have HP := Lib.hid hp
    clear hS hT hU hp h hu
    by_cases h0 : m = 0
    · subst h0
      go_wp2_with fail
      exact bodyPost_end (v := .tuple #[]) (by simp [results, Try.results74, go_sem]) rfl ⟨rfl, l1, HP.out, HU.out.zero, HS.out, HT.out⟩
    · have hm0 : 0 < m := by omega
      obtain ⟨p, hpp⟩ : ∃ p, p = (m - 1) / 2 := ⟨_, rfl⟩
      have hpe : ((m : Int) - 1) / 2 = (p : Int) := by omega
      have hpm : p < m := by omega
      have hne : ¬ (p : Int) = (m : Int) := by omega
      have HPP := Lib.hid hpp
      clear hpp
      have hml : m < l1.length := by omega
      have hpl : p < l1.length := by omega
      have hlk := lessR_key HS.out.sg (HS.out.ok _ (List.getElem_mem hml)) (HS.out.ok _ (List.getElem_mem hpl))
      rw [← kfR_lt hml, ← kfR_lt hpl] at hlk
      by_cases hlt : kfR s l1 m < kfR s l1 p
      · have hle : lessR s l1[m] l1[p] = true := by rw [hlk]; exact decide_eq_true hlt
        have HLE := Lib.hid hle
        have HLT := Lib.hid hlt
        clear hlk hle hlt
        go_wp2_with (first
          | (go_at_call 114; refine (rkLess B b s v l1 m p _ HS.out hml hpl (by omega)).mono ?_; rintro e w2 ⟨he, hb2⟩; rw [HLE.out] at he; subst he; have hs2 := hb2.size; have HS2 := Lib.hid (HS.out.below hb2); have HT2 := Lib.hid (HT.out.trans (Touch.of_below hb2) (fun x hx hg => absurd hg (by have := HT.out.size; omega))); clear hb2)
          | (go_at_call 116; refine (rkSwap B b s v l1 p m _ HS2.out hpl hml (by omega) (by omega)).mono ?_; rintro e w3 ⟨rfl, ho3, ht3⟩; have HT3 := Lib.hid (HT2.out.trans ht3 (fun _ _ hg => hg)); have HS3 := Lib.hid (HS2.out.row ht3 (rs' := swapG l1 p m) (by rw [swapG_len]; exact ho3) (swapG_mem hpl hml HS2.out.ok)); clear ho3 ht3)
          | fail)
        refine ⟨⟨p, swapG l1 p m, by omega, rfl, (swapG_perm hpl hml).trans HP.out, ?_, HS3.out, HT3.out⟩, by simp [intOf]; omega⟩
        rw [swapG_kf hpl hml]
        exact HU.out.step hm0 hm HPP.out HLT.out
      · have hle : lessR s l1[m] l1[p] = false := by rw [hlk]; exact decide_eq_false hlt
        have HLE := Lib.hid hle
        have HLT := Lib.hid hlt
        clear hlk hle hlt
        go_wp2_with (first
          | (go_at_call 114; refine (rkLess B b s v l1 m p _ HS.out hml hpl (by omega)).mono ?_; rintro e w2 ⟨he, hb2⟩; rw [HLE.out] at he; subst he; have hs2 := hb2.size; have HS2 := Lib.hid (HS.out.below hb2); have HT2 := Lib.hid (HT.out.trans (Touch.of_below hb2) (fun x hx hg => absurd hg (by have := HT.out.size; omega))); clear hb2)
          | fail)
        refine bodyPost_end (v := .tuple #[]) (by simp [results, Try.results74, go_sem]) rfl ⟨rfl, l1, HP.out, ?_, HS2.out, HT2.out⟩
        exact HU.out.stop (by rw [← HPP.out]; have := HLT.out; omega)
theorem kfR_app {s : Int} {rs : List Rk} {r : Rk} {i : Nat} (h : i < rs.length) : kfR s (rs ++ [r]) i = kfR s rs i := by unfold kfR; rw [List.getElem?_append_left h]
theorem lenR {n : Nat} (h : n + 1 ≤ 1000) : wrap64 (((n + 1 : Nat) : Int) - 1) = (n : Int) := by unfold wrap64; omega
set_option maxHeartbeats 4000000 in
set_option maxRecDepth 10000 in
theorem rkHeapPush (B b : Nat) (s : Int) (v : Value) (rs : List Rk) (r : Rk) (w : World) (h : RkH w B b s v rs) (hr : RkOk r) (hh : HeapF (kfR s rs) rs.length) (hlen : rs.length < 1000) :
    Calls Try.prog 59 #[.iface 115 (.pointer (some ⟨b, 0, none⟩)), .iface 88 (.agg #[.int .i64 r.h, .int .i64 r.l])] w fun e w' => e = .returned (.tuple #[]) ∧ ∃ v' rs', rs'.Perm (rs ++ [r]) ∧ HeapF (kfR s rs') rs'.length ∧ RkH w' B b s v' rs' ∧ Touch (fun x => x = b ∨ v.ownBlock = some x) w w' ∧ (v'.ownBlock = v.ownBlock ∨ ∃ g, v'.ownBlock = some g ∧ w.heap.size ≤ g) := by
  have mp := mR_push
  have mn := mR_len
  have HS := Lib.hid h
  have HR := Lib.hid hr
  have HH := Lib.hid hh
  clear h hr hh
  have hn1 : wrap64 (((rs ++ [r]).length : Int) - 1) = (rs.length : Int) := by rw [List.length_append]; exact lenR hlen
  have hu : UpI (kfR s (rs ++ [r])) (rs ++ [r]).length rs.length := by
    rw [List.length_append, List.length_singleton]
    exact HeapF.push (HH.out.congr fun i hi => (kfR_app hi).symm)
  have HU := Lib.hid hu
  clear hu
  go_enter Try.func59, Try.ntmps59
  go_wp2_with (first
    | (go_at_call 115; refine (rkPush B b s v rs r _ HS.out HR.out (by omega)).mono ?_; rintro e w1 ⟨rfl, v1, hS1, hT1, hb1⟩; have HS1 := Lib.hid hS1; have HT1 := Lib.hid hT1; have HB1 := Lib.hid hb1; clear hS1 hT1 hb1)
    | (go_at_call 113; refine (rkLen B b s v1 (rs ++ [r]) _ HS1.out).mono ?_; rintro e wL ⟨rfl, rfl⟩)
    | (go_at_call 74; refine (rkUp B b s v1 (rs ++ [r]) rs.length _ HS1.out HU.out (by simp) (by simp; omega)).mono ?_; rintro e w2 ⟨rfl, l2, hp2, hh2, hS2, hT2⟩)
    | fail)
  refine bodyPost_end (v := .tuple #[]) (by simp [results, Try.results59, go_sem]) rfl ⟨rfl, v1, l2, hp2, by rw [hp2.length_eq]; exact hh2, hS2, HT1.out.trans hT2 (fun x hx hg => ?_), HB1.out⟩
  rcases HB1.out with e | ⟨g, e, hg2⟩
  · exact .inr (e.symm.trans hg)
  · rw [e] at hg
    injection hg with hg
    omega
end Go.Proofs.Ytepjehcmiofehaa
