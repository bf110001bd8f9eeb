/- plan: heaps of hosts; the hosts with the most and the least load. plan: the hosts with the most and the least load. -/
import Derived.Test.YtepjehcmiofehaaGreatPq27
import Derived.Test.YtepjehcmiofehaaGreatPq29
namespace Go.Proofs.YtepjehcmiofehaaGreat
open Go.RowKit
set_option linter.unusedVariables false
set_option linter.unusedSimpArgs false
theorem mR_push (a : Addr) (w : World) : (method 277 114 (.pointer (some a)) "Push").run Tryz.prog w = .ok (117, .pointer (some a)) w := by kernel_rfl
theorem mR_len (a : Addr) (w : World) : (method 277 114 (.pointer (some a)) "Len").run Tryz.prog w = .ok (115, .pointer (some a)) w := by kernel_rfl
theorem mR_less (a : Addr) (w : World) : (method 277 114 (.pointer (some a)) "Less").run Tryz.prog w = .ok (116, .pointer (some a)) w := by kernel_rfl
theorem mR_swap (a : Addr) (w : World) : (method 277 114 (.pointer (some a)) "Swap").run Tryz.prog w = .ok (118, .pointer (some a)) w := by kernel_rfl
theorem RkH.perm {w : World} {B b : Nat} {s : Int} {v : Value} {rs : List Rk} (h : RkH w B b s v rs) {rs' : List Rk} (hp : rs'.Perm rs) : ∀ r ∈ rs', RkOk r := fun r hr => h.ok r (hp.mem_iff.1 hr)
theorem swapG_mem {α : Type} {l : List α} {i j : Nat} (hi : i < l.length) (hj : j < l.length) {P : α → Prop} (h : ∀ r ∈ l, P r) : ∀ r ∈ swapG l i j, P r := fun r hr => h r ((swapG_perm hi hj).mem_iff.1 hr)
set_option maxHeartbeats 4000000 in
set_option maxRecDepth 10000 in
theorem rkUp (B b : Nat) (s : Int) (v : Value) (rs : List Rk) (j : Nat) (w : World) (h : RkH w B b s v rs) (hu : UpI (kfR s rs) rs.length j) (hj : j < rs.length) (hlen : rs.length ≤ 1000) :
    Calls Tryz.prog 76 #[.iface 114 (.pointer (some ⟨b, 0, none⟩)), .int .i64 j] w fun e w' => e = .returned (.tuple #[]) ∧ ∃ rs', rs'.Perm rs ∧ HeapF (kfR s rs') rs.length ∧ RkH w' B b s v rs' ∧ Touch (fun x => v.ownBlock = some x) w w' := by
  have ml := mR_less
  have ms := mR_swap
  go_enter Tryz.func76, Tryz.ntmps76
  go_wp2_with fail
  go_loopw [1, 4] (fun jv iv wr => ∃ (m : Nat) (l1 : List Rk), m < rs.length ∧ jv = .int .i64 m ∧ l1.Perm rs ∧ UpI (kfR s l1) rs.length m ∧ RkH wr B b s v l1 ∧ Touch (fun x => v.ownBlock = some x) w wr) (fun jv _ _ => (intOf jv).toNat)
  case atStart => exact ⟨j, rs, hj, rfl, List.Perm.refl _, hu, h, Touch.refl _ _⟩
  case round =>
    obtain ⟨m, l1, hm, rfl, hp, hU, hS, hT⟩ := hrel
    have hl1 : l1.length = rs.length := hp.length_eq
    have HS := Lib.hid hS
    have HT := Lib.hid hT
    have HU := Lib.hid hU
    have HP := Lib.hid hp
    clear hS hT hU hp h hu
    by_cases h0 : m = 0
    · subst h0
      go_wp2_with fail
      exact bodyPost_end (v := .tuple #[]) (by simp [results, Tryz.results76, go_sem]) rfl ⟨rfl, l1, HP.out, HU.out.zero, HS.out, HT.out⟩
    · have hm0 : 0 < m := by omega
      obtain ⟨p, hpp⟩ : ∃ p, p = (m - 1) / 2 := ⟨_, rfl⟩
      have hpe : ((m : Int) - 1) / 2 = (p : Int) := by omega
      have hpm : p < m := by omega
      have hne : ¬ (p : Int) = (m : Int) := by omega
      have HPP := Lib.hid hpp
      clear hpp
      have hml : m < l1.length := by omega
      have hpl : p < l1.length := by omega
      have hlk := lessR_key HS.out.sg (HS.out.ok _ (List.getElem_mem hml)) (HS.out.ok _ (List.getElem_mem hpl))
      rw [← kfR_lt hml, ← kfR_lt hpl] at hlk
      by_cases hlt : kfR s l1 m < kfR s l1 p
      · have hle : lessR s l1[m] l1[p] = true := by rw [hlk]; exact decide_eq_true hlt
        have HLE := Lib.hid hle
        have HLT := Lib.hid hlt
        clear hlk hle hlt
        go_wp2_with (first
          | (go_at_call 116; refine (rkLess B b s v l1 m p _ HS.out hml hpl (by omega)).mono ?_; rintro e w2 ⟨he, hb2⟩; rw [HLE.out] at he; subst he; have hs2 := hb2.size; have HS2 := Lib.hid (HS.out.below hb2); have HT2 := Lib.hid (HT.out.trans (Touch.of_below hb2) (fun x hx hg => absurd hg (by have := HT.out.size; omega))); clear hb2)
          | (go_at_call 118; refine (rkSwap B b s v l1 p m _ HS2.out hpl hml (by omega) (by omega)).mono ?_; rintro e w3 ⟨rfl, ho3, ht3⟩; have HT3 := Lib.hid (HT2.out.trans ht3 (fun _ _ hg => hg)); have HS3 := Lib.hid (HS2.out.row ht3 (rs' := swapG l1 p m) (by rw [swapG_len]; exact ho3) (swapG_mem hpl hml HS2.out.ok)); clear ho3 ht3)
          | fail)
        refine ⟨⟨p, swapG l1 p m, by omega, rfl, (swapG_perm hpl hml).trans HP.out, ?_, HS3.out, HT3.out⟩, by simp [intOf]; omega⟩
        rw [swapG_kf hpl hml]
        exact HU.out.step hm0 hm HPP.out HLT.out
      · have hle : lessR s l1[m] l1[p] = false := by rw [hlk]; exact decide_eq_false hlt
        have HLE := Lib.hid hle
        have HLT := Lib.hid hlt
        clear hlk hle hlt
        go_wp2_with (first
          | (go_at_call 116; refine (rkLess B b s v l1 m p _ HS.out hml hpl (by omega)).mono ?_; rintro e w2 ⟨he, hb2⟩; rw [HLE.out] at he; subst he; have hs2 := hb2.size; have HS2 := Lib.hid (HS.out.below hb2); have HT2 := Lib.hid (HT.out.trans (Touch.of_below hb2) (fun x hx hg => absurd hg (by have := HT.out.size; omega))); clear hb2)
          | fail)
        refine bodyPost_end (v := .tuple #[]) (by simp [results, Tryz.results76, go_sem]) rfl ⟨rfl, l1, HP.out, ?_, HS2.out, HT2.out⟩
        exact HU.out.stop (by rw [← HPP.out]; have := HLT.out; omega)
theorem kfR_app {s : Int} {rs : List Rk} {r : Rk} {i : Nat} (h : i < rs.length) : kfR s (rs ++ [r]) i = kfR s rs i := by unfold kfR; rw [List.getElem?_append_left h]
theorem lenR {n : Nat} (h : n + 1 ≤ 1000) : wrap64 (((n + 1 : Nat) : Int) - 1) = (n : Int) := by unfold wrap64; omega
set_option maxHeartbeats 4000000 in
set_option maxRecDepth 10000 in
theorem rkHeapPush (B b : Nat) (s : Int) (v : Value) (rs : List Rk) (r : Rk) (w : World) (h : RkH w B b s v rs) (hr : RkOk r) (hh : HeapF (kfR s rs) rs.length) (hlen : rs.length < 1000) :
    Calls Tryz.prog 58 #[.iface 114 (.pointer (some ⟨b, 0, none⟩)), .iface 84 (.agg #[.int .i64 r.h, .int .i64 r.l])] w fun e w' => e = .returned (.tuple #[]) ∧ ∃ v' rs', rs'.Perm (rs ++ [r]) ∧ HeapF (kfR s rs') rs'.length ∧ RkH w' B b s v' rs' ∧ Touch (fun x => x = b ∨ v.ownBlock = some x) w w' ∧ (v'.ownBlock = v.ownBlock ∨ ∃ g, v'.ownBlock = some g ∧ w.heap.size ≤ g) := by
  have mp := mR_push
  have mn := mR_len
  have HS := Lib.hid h
  have HR := Lib.hid hr
  have HH := Lib.hid hh
  clear h hr hh
  have hn1 : wrap64 (((rs ++ [r]).length : Int) - 1) = (rs.length : Int) := by rw [List.length_append]; exact lenR hlen
  have hu : UpI (kfR s (rs ++ [r])) (rs ++ [r]).length rs.length := by
    rw [List.length_append, List.length_singleton]
    exact HeapF.push (HH.out.congr fun i hi => (kfR_app hi).symm)
  have HU := Lib.hid hu
  clear hu
  go_enter Tryz.func58, Tryz.ntmps58
  go_wp2_with (first
    | (go_at_call 117; refine (rkPush B b s v rs r _ HS.out HR.out (by omega)).mono ?_; rintro e w1 ⟨rfl, v1, hS1, hT1, hb1⟩; have HS1 := Lib.hid hS1; have HT1 := Lib.hid hT1; have HB1 := Lib.hid hb1; clear hS1 hT1 hb1)
    | (go_at_call 115; refine (rkLen B b s v1 (rs ++ [r]) _ HS1.out).mono ?_; rintro e wL ⟨rfl, rfl⟩)
    | (go_at_call 76; refine (rkUp B b s v1 (rs ++ [r]) rs.length _ HS1.out HU.out (by simp) (by simp; omega)).mono ?_; rintro e w2 ⟨rfl, l2, hp2, hh2, hS2, hT2⟩)
    | fail)
  refine bodyPost_end (v := .tuple #[]) (by simp [results, Tryz.results58, go_sem]) rfl ⟨rfl, v1, l2, hp2, by rw [hp2.length_eq]; exact hh2, hS2, HT1.out.trans hT2 (fun x hx hg => ?_), HB1.out⟩
  rcases HB1.out with e | ⟨g, e, hg2⟩
  · exact .inr (e.symm.trans hg)
  · rw [e] at hg
    injection hg with hg
    omega
end Go.Proofs.YtepjehcmiofehaaGreat
namespace Go.Proofs.YtepjehcmiofehaaGreat
open Go.RowKit
set_option linter.unusedVariables false
set_option linter.unusedSimpArgs false
/-- a host's load behind the moves -/
def loadP (ps : List Pz) (h : Int) : Int := (ps.map fun p => if p.nd = h then p.hits else 0).sum
theorem loadP_snoc {ps : List Pz} {i : Nat} (hi : i < ps.length) (h : Int) : loadP (ps.take (i + 1)) h = loadP (ps.take i) h + if ps[i].nd = h then ps[i].hits else 0 := by
  unfold loadP
  rw [List.take_add_one, List.getElem?_eq_getElem hi, List.map_append, List.sum_append]
  simp
def HitsOk (ps : List Pz) : Prop := ∀ p ∈ ps, 0 ≤ p.hits ∧ p.hits ≤ 1099511627776
theorem loadP_bound : ∀ (ps : List Pz) (h : Int), HitsOk ps → 0 ≤ loadP ps h ∧ loadP ps h ≤ 1099511627776 * ps.length
  | [], h, _ => by simp [loadP]
  | p :: r, h, hb => by
    have ih := loadP_bound r h (fun q hq => hb q (List.mem_cons_of_mem _ hq))
    have hp := hb p List.mem_cons_self
    have e : loadP (p :: r) h = (if p.nd = h then p.hits else 0) + loadP r h := by simp [loadP]
    rw [e, List.length_cons]
    split <;> omega
theorem HitsOk.take {ps : List Pz} (h : HitsOk ps) (i : Nat) : HitsOk (ps.take i) := fun p hp => h p (List.mem_of_mem_take hp)
def rankOf (ps : List Pz) (h : Int) : Rk := ⟨h, loadP ps h⟩
def HostOk (h : Int) : Prop := 0 ≤ h ∧ h ≤ 1048576
theorem rankOf_ok {ps : List Pz} {h : Int} (hb : HitsOk ps) (hl : ps.length ≤ 16) (hh : HostOk h) : RkOk (rankOf ps h) := by
  have := loadP_bound ps h hb
  exact ⟨hh.1, hh.2, this.1, by show loadP ps h ≤ _; omega⟩
/-- on top of a heap of all hosts is the first by the key -/
theorem top_least {s : Int} {ps : List Pz} {hs : List Int} {rs : List Rk} (hp : rs.Perm (hs.map (rankOf ps))) (hh : HeapF (kfR s rs) rs.length) (h0 : 0 < rs.length) : ∃ h ∈ hs, rs[0] = rankOf ps h ∧ ∀ g ∈ hs, keyR s (rankOf ps h) ≤ keyR s (rankOf ps g) := by
  have h1 := hp.mem_iff.1 (List.getElem_mem h0)
  obtain ⟨h, hh1, e⟩ := List.mem_map.1 h1
  refine ⟨h, hh1, e.symm, fun g hg => ?_⟩
  have h2 := hp.mem_iff.2 (List.mem_map.2 ⟨g, hg, rfl⟩)
  obtain ⟨i, hi, e2⟩ := List.getElem_of_mem h2
  have := hh.least i hi
  rw [kfR_lt h0, kfR_lt hi, e2, ← e] at this
  exact this
set_option maxHeartbeats 8000000 in
set_option maxRecDepth 10000 in
theorem plExtremes (B b gz c : Nat) (Ah : Option Addr) (nh ch : Nat) (cv : Value) (ps : List Pz) (cs : List Ch) (hs : List Int) (w : World) (h : PlH w B b (.slice (some ⟨gz, 0, none⟩) ps.length c) (.slice Ah hs.length ch) cv ps cs) (hx : Cells w w.heap.size Ah hs.length ch 1 (intsV hs)) (h0 : 0 < hs.length) (hl6 : hs.length ≤ 100) (hl : ps.length ≤ 16) (hhit : HitsOk ps) (hho : ∀ g ∈ hs, HostOk g) :
    Calls Tryz.prog 34 #[.pointer (some ⟨b, 0, none⟩)] w fun e w' => ∃ g1 g2, g1 ∈ hs ∧ g2 ∈ hs ∧ (∀ g ∈ hs, keyR (-1) (rankOf ps g1) ≤ keyR (-1) (rankOf ps g)) ∧ (∀ g ∈ hs, keyR 1 (rankOf ps g2) ≤ keyR 1 (rankOf ps g)) ∧ e = .returned (.tuple #[.agg #[.int .i64 g1, .int .i64 (loadP ps g1)], .agg #[.int .i64 g2, .int .i64 (loadP ps g2)]]) ∧ Below w.heap.size w w' := by
  have HP := Lib.hid h
  have HX := Lib.hid hx
  have k1 := h.blk.cell 1
  have k0 := h.blk.cell 0
  simp only [List.getElem?_toArray, List.getElem?_cons_succ, List.getElem?_cons_zero] at k0 k1
  have hbl := h.blk.low
  have hgz := (h.row.lt gz rfl).2
  have HH := Lib.hid hhit
  have HO := Lib.hid hho
  clear h hx hhit hho
  go_enter Tryz.func34, Tryz.ntmps34
  go_wp2_with fail
  obtain ⟨n3, hn3⟩ : ∃ n, n = w.heap.size + 1 + 1 + 1 := ⟨_, rfl⟩
  obtain ⟨n2, hn2⟩ : ∃ n, n = w.heap.size + 1 + 1 := ⟨_, rfl⟩
  obtain ⟨n1, hn1⟩ : ∃ n, n = w.heap.size + 1 := ⟨_, rfl⟩
  obtain ⟨n0, hn0⟩ : ∃ n, n = w.heap.size := ⟨_, rfl⟩
  have hV : Below w.heap.size w ((((w.alloc (.cells #[.int .i64 0, .int .i64 0] 84)).alloc (.cells #[.int .i64 0, .int .i64 0] 84)).alloc (.cells #[.slice none 0 0, .int .i64 (-1)] 112)).alloc (.cells #[.slice none 0 0, .int .i64 1] 112)) := ((((Below.refl _ _).alloc (Nat.le_refl _) _).alloc (by simp) _).alloc (by simp; omega) _).alloc (by simp; omega) _
  have hW0 : Whl ((((w.alloc (.cells #[.int .i64 0, .int .i64 0] 84)).alloc (.cells #[.int .i64 0, .int .i64 0] 84)).alloc (.cells #[.slice none 0 0, .int .i64 (-1)] 112)).alloc (.cells #[.slice none 0 0, .int .i64 1] 112)) n0 84 #[.int .i64 0, .int .i64 0] := (((Whl.new hn0).alloc _).alloc _).alloc _
  have hW1 : Whl ((((w.alloc (.cells #[.int .i64 0, .int .i64 0] 84)).alloc (.cells #[.int .i64 0, .int .i64 0] 84)).alloc (.cells #[.slice none 0 0, .int .i64 (-1)] 112)).alloc (.cells #[.slice none 0 0, .int .i64 1] 112)) n1 84 #[.int .i64 0, .int .i64 0] := ((Whl.new (by simp; omega)).alloc _).alloc _
  have hW2 : Whl ((((w.alloc (.cells #[.int .i64 0, .int .i64 0] 84)).alloc (.cells #[.int .i64 0, .int .i64 0] 84)).alloc (.cells #[.slice none 0 0, .int .i64 (-1)] 112)).alloc (.cells #[.slice none 0 0, .int .i64 1] 112)) n2 112 #[.slice none 0 0, .int .i64 (-1)] := (Whl.new (by simp; omega)).alloc _
  have hW3 : Whl ((((w.alloc (.cells #[.int .i64 0, .int .i64 0] 84)).alloc (.cells #[.int .i64 0, .int .i64 0] 84)).alloc (.cells #[.slice none 0 0, .int .i64 (-1)] 112)).alloc (.cells #[.slice none 0 0, .int .i64 1] 112)) n3 112 #[.slice none 0 0, .int .i64 1] := Whl.new (by simp; omega)
  rw [← hn3, ← hn2, ← hn1, ← hn0]
  have hsz : ((((w.alloc (.cells #[.int .i64 0, .int .i64 0] 84)).alloc (.cells #[.int .i64 0, .int .i64 0] 84)).alloc (.cells #[.slice none 0 0, .int .i64 (-1)] 112)).alloc (.cells #[.slice none 0 0, .int .i64 1] 112)).heap.size = w.heap.size + 4 := by simp
  generalize ((((w.alloc (.cells #[.int .i64 0, .int .i64 0] 84)).alloc (.cells #[.int .i64 0, .int .i64 0] 84)).alloc (.cells #[.slice none 0 0, .int .i64 (-1)] 112)).alloc (.cells #[.slice none 0 0, .int .i64 1] 112)) = V0 at *
  have hsz : w.heap.size + 4 ≤ V0.heap.size := by omega
  have HV0 := Lib.hid hV
  have HW0 := Lib.hid hW0
  have HW1 := Lib.hid hW1
  have HW2 := Lib.hid hW2
  have HW3 := Lib.hid hW3
  clear hV hW0 hW1 hW2 hW3
  have hd : w.heap.size ≤ n0 ∧ n0 < n1 ∧ n1 < n2 ∧ n2 < n3 ∧ n3 < w.heap.size + 4 := by omega
  clear hn0 hn1 hn2 hn3
  go_loopw [18] (fun iv wr => ∃ (i : Nat) (vh vl : Value) (rh rl : List Rk), i ≤ hs.length ∧ iv = .int .i64 i ∧ rh.Perm ((hs.take i).map (rankOf ps)) ∧ HeapF (kfR (-1) rh) rh.length ∧ rl.Perm ((hs.take i).map (rankOf ps)) ∧ HeapF (kfR 1 rl) rl.length ∧ RkH wr w.heap.size n2 (-1) vh rh ∧ RkH wr w.heap.size n3 1 vl rl ∧ Whl wr n0 84 #[.int .i64 0, .int .i64 0] ∧ Whl wr n1 84 #[.int .i64 0, .int .i64 0] ∧ Below w.heap.size w wr ∧ w.heap.size + 4 ≤ wr.heap.size ∧ (∀ q, vh.ownBlock = some q → vl.ownBlock ≠ some q ∧ n3 < q) ∧ (∀ q, vl.ownBlock = some q → n3 < q)) (fun iv _ => hs.length - (intOf iv).toNat)
  case atStart => exact ⟨0, _, _, [], [], Nat.zero_le _, rfl, List.Perm.refl _, (fun i _ h => by simp at h), List.Perm.refl _, (fun i _ h => by simp at h), ⟨HW2.out, World.ownsRow_nil _ _ _ _, (fun e => by cases e), (fun r hr => by cases hr), .inr rfl, by omega⟩, ⟨HW3.out, World.ownsRow_nil _ _ _ _, (fun e => by cases e), (fun r hr => by cases hr), .inl rfl, by omega⟩, HW0.out, HW1.out, HV0.out, hsz, (fun q e => by cases e), (fun q e => by cases e)⟩
  case round =>
    obtain ⟨i, vh, vl, rh, rl, hil, rfl, hp1, hh1, hp2, hh2, hr1, hr2, hw0, hw1, hBw, hsw4, hsep, hsep2⟩ := hrel
    have HP1 := Lib.hid hp1
    have HH1 := Lib.hid hh1
    have HP2 := Lib.hid hp2
    have HH2 := Lib.hid hh2
    have HR1 := Lib.hid hr1
    have HR2 := Lib.hid hr2
    have HW0 := Lib.hid hw0
    have HW1 := Lib.hid hw1
    have HBW := Lib.hid hBw
    have HSEP := Lib.hid hsep
    have HSEP2 := Lib.hid hsep2
    have hsw := hBw.size
    have l1 := bkeep hBw k1 hbl
    have l0 := bkeep hBw k0 hbl
    clear hp1 hh1 hp2 hh2 hr1 hr2 hw0 hw1 hsep hsep2
    by_cases hlt : i < hs.length
    case neg =>
      obtain rfl : hs.length = i := by omega
      have p1 := HP1.out
      have p2 := HP2.out
      rw [List.take_length] at p1 p2
      have e1 : rh.length = hs.length := by rw [p1.length_eq, List.length_map]
      have e2 : rl.length = hs.length := by rw [p2.length_eq, List.length_map]
      obtain ⟨g1, hg1, er1, hm1⟩ := top_least p1 HH1.out (by omega)
      obtain ⟨g2, hg2, er2, hm2⟩ := top_least p2 HH2.out (by omega)
      obtain ⟨gh, ch1, hvh, _, hgh, _, _⟩ := own_form HR1.out.own (by omega)
      obtain ⟨gl, cl1, hvl, _, hgl, _, _⟩ := own_form HR2.out.own (by omega)
      subst hvh hvl
      obtain ⟨a0, a1⟩ := rowR_at HR1.out.own (show 0 < rh.length by omega)
      obtain ⟨b0, b1⟩ := rowR_at HR2.out.own (show 0 < rl.length by omega)
      rw [er1] at a0 a1
      rw [er2] at b0 b1
      change wr.cell? ⟨gh, 0 * 2, none⟩ = some (.int .i64 g1) at a0
      change wr.cell? ⟨gh, 0 * 2 + 1, none⟩ = some (.int .i64 (loadP ps g1)) at a1
      change wr.cell? ⟨gl, 0 * 2, none⟩ = some (.int .i64 g2) at b0
      change wr.cell? ⟨gl, 0 * 2 + 1, none⟩ = some (.int .i64 (loadP ps g2)) at b1
      obtain ⟨L1, hL1⟩ : ∃ l, l = loadP ps g1 := ⟨_, rfl⟩
      obtain ⟨L2, hL2⟩ : ∃ l, l = loadP ps g2 := ⟨_, rfl⟩
      rw [← hL1] at a1
      rw [← hL2] at b1
      simp only [Nat.zero_mul, Nat.zero_add] at a0 a1 b0 b1
      have c2 := HR1.out.cell.1
      have c3 := HR2.out.cell.1
      have x0 := HW0.out.cell 0
      have x1 := HW0.out.cell 1
      have y0 := HW1.out.cell 0
      have y1 := HW1.out.cell 1
      simp only [List.getElem?_toArray, List.getElem?_cons_succ, List.getElem?_cons_zero] at x0 x1 y0 y1
      have f0 := fun k => HW0.out.free k
      have f1 := fun k => HW1.out.free k
      have s1 := (HSEP.out gh rfl).2
      have s2 := HSEP2.out gl rfl
      have hL1' := Lib.hid hL1
      have hL2' := Lib.hid hL2
      have hM1 := Lib.hid hm1
      have hM2 := Lib.hid hm2
      have w0l := HW0.out.low
      have w1l := HW1.out.low
      have d1 : gh ≠ n0 ∧ gh ≠ n1 ∧ gl ≠ n0 ∧ gl ≠ n1 := by omega
      obtain ⟨d2, d3, d4, d5⟩ := d1
      have d6 : n0 ≠ n1 := by omega
      have d7 : n2 ≠ n0 := by omega
      have d8 : n2 ≠ n1 := by omega
      have d9 : n3 ≠ n0 := by omega
      have d10 : n3 ≠ n1 := by omega
      have lnh : (0 : Int) < (rh.length : Int) := by omega
      have lnl : (0 : Int) < (rl.length : Int) := by omega
      clear p1 p2 er1 er2 hm1 hm2 hL1 hL2 k0 k1 l0 l1
      go_upto_region 15 with fail
      go_region
      go_wp2_with fail
      refine bodyPost_ret (v := .tuple #[.agg #[.int .i64 g1, .int .i64 L1], .agg #[.int .i64 g2, .int .i64 L2]]) (by simp [results, Tryz.results34, go_sem, ↓IntWalk.iteOmega, *]) rfl ⟨g1, g2, hg1, hg2, hM1.out, hM2.out, by rw [hL1'.out, hL2'.out], ?_⟩
      exact Below.drew (Below.setCell (Below.setCell (Below.setCell (Below.setCell HBW.out (show w.heap.size ≤ n0 by omega) _) (show w.heap.size ≤ n0 by omega) _) (show w.heap.size ≤ n1 by omega) _) (show w.heap.size ≤ n1 by omega) _)
    have q3 : (i : Int) < (hs.length : Int) := by omega
    obtain ⟨ga, oa, hA, hga, c0⟩ := (cells_keep HX.out hBw hBw.size).2.2 i _ (intsV_at hlt)
    subst hA
    obtain ⟨g, hg⟩ : ∃ g, g = hs[i] := ⟨_, rfl⟩
    rw [← hg] at c0
    have HG := Lib.hid hg
    have hgo : HostOk g := by rw [hg]; exact HO.out _ (List.getElem_mem hlt)
    clear hg hBw
    obtain ⟨wo, rfl⟩ : ∃ x, x = wr := ⟨_, rfl⟩
    go_wp2_with fail
    have hV : Below wo.heap.size wo (wo.alloc (.cells #[.int .i64 g, .int .i64 0] 84)) := (Below.refl _ _).alloc (Nat.le_refl _) _
    have hN : Whl (wo.alloc (.cells #[.int .i64 g, .int .i64 0] 84)) wo.heap.size 84 #[.int .i64 g, .int .i64 0] := Whl.new rfl
    generalize (wo.alloc (.cells #[.int .i64 g, .int .i64 0] 84)) = V at *
    have HV := Lib.hid hV
    have HN := Lib.hid hN
    clear hV hN c0 l1
    go_loopw [29] (fun jv wr => ∃ j : Nat, j ≤ ps.length ∧ jv = .int .i64 j ∧ Below wo.heap.size wo wr ∧ Whl wr wo.heap.size 84 #[.int .i64 g, .int .i64 (loadP (ps.take j) g)]) (fun jv _ => ps.length - (intOf jv).toNat)
    case atStart => exact ⟨0, Nat.zero_le _, rfl, HV.out, HN.out⟩
    case round =>
      obtain ⟨j, hjl, rfl, hB2, hN2⟩ := hrel
      have HB2 := Lib.hid hB2
      have HN2 := Lib.hid hN2
      have hs2 := hB2.size
      have HPr := Lib.hid ((HP.out.below HBW.out).below hB2)
      have n0c := hN2.cell 0
      have n1c := hN2.cell 1
      have nf := fun k => hN2.free k
      have nl := hN2.low
      simp only [List.getElem?_toArray, List.getElem?_cons_succ, List.getElem?_cons_zero] at n0c n1c
      clear hB2 hN2
      by_cases hj : j < ps.length
      · have q4 : (j : Int) < (ps.length : Int) := by omega
        have hsn := loadP_snoc hj g
        have hb1 := loadP_bound (ps.take j) g (HH.out.take j)
        have hb2 := HH.out _ (List.getElem_mem hj)
        rw [List.length_take] at hb1
        obtain ⟨a0, a1, a2, a3, a4, a5, a6, a7, a8, a9, a10, a11, a12⟩ := rowP_at2 HPr.out.row hj
        obtain ⟨p, hp⟩ : ∃ p, p = ps[j] := ⟨_, rfl⟩
        rw [← hp] at a0 a1 a2 a3 a4 a5 a6 a7 a8 a9 a10 a11 a12 hsn hb2
        have hgzr := (HPr.out.row.lt gz rfl).2
        obtain ⟨L, hL⟩ : ∃ L, L = loadP (ps.take j) g := ⟨_, rfl⟩
        rw [← hL] at n1c hsn hb1
        have HSN := Lib.hid hsn
        have hwr : IntKind.i64.wrap (L + p.hits) = L + p.hits := by rw [IntKind.wrap_i64]; omega
        have HWR := Lib.hid hwr
        clear hsn hwr hp
        by_cases he : p.nd = g
        · have q5 : (p.nd == g) = true := by rw [beq_iff_eq]; exact he
          have HE := Lib.hid he
          clear he
          go_wp2_with fail
          refine ⟨⟨j + 1, hj, by go_num, ?_, ?_⟩, measZ hj⟩
          · exact Below.alloc (Below.setCell HB2.out (Nat.le_refl _) _) (by simpa using hs2) _
          · rw [HSN.out, if_pos HE.out]
            subst hL
            exact (Whl.set HN2.out 1 _).alloc _
        · have q5 : (p.nd == g) = false := by rw [beq_eq_false_iff_ne]; exact he
          have HE := Lib.hid he
          clear he
          go_wp2_with fail
          refine ⟨⟨j + 1, hj, by go_num, HB2.out.alloc hs2 _, ?_⟩, measZ hj⟩
          rw [HSN.out, if_neg HE.out, Int.add_zero]
          rw [← hL] at HN2
          exact HN2.out.alloc _
      · obtain rfl : ps.length = j := by omega
        rw [List.take_length] at n1c
        have HR1r := Lib.hid (HR1.out.below HB2.out)
        have HR2r := Lib.hid (HR2.out.below HB2.out)
        have e1 : rh.length = i := by rw [HP1.out.length_eq, List.length_map, List.length_take]; omega
        have e2 : rl.length = i := by rw [HP2.out.length_eq, List.length_map, List.length_take]; omega
        have hok := Lib.hid (rankOf_ok (h := g) HH.out hl hgo)
        go_wp2_with (first
          | (go_at_call 58; have hgg := HRA; clear hgg; go_loud (refine (rkHeapPush w.heap.size n3 1 vl rl ⟨g, loadP ps g⟩ _ HRL.out hok.out HH2.out (by omega)).mono ?_; rintro e w6 ⟨rfl, vl2, rl2, hpb, hhb, hrb, htb, hob⟩; have HPB := Lib.hid hpb; have HHB := Lib.hid hhb; have HRB := Lib.hid hrb; have HTB := Lib.hid htb; have HOB := Lib.hid hob; clear hpb hhb hrb htb hob))
          | (go_at_call 58; go_loud (refine (rkHeapPush w.heap.size n2 (-1) vh rh ⟨g, loadP ps g⟩ _ HR1r.out hok.out HH1.out (by omega)).mono ?_; rintro e w5 ⟨rfl, vh2, rh2, hpa, hha, hra, hta, hoa⟩; have HPA := Lib.hid hpa; have HHA := Lib.hid hha; have HRA := Lib.hid hra; have HTA := Lib.hid hta; have HOA := Lib.hid hoa; have hNx := (hta.block wo.heap.size nl (by rintro (e | e); omega; have := (HR1.out.own.lt _ e).2; omega)).trans HN2.out; have HRL := Lib.hid (HR2r.out.keep hta (by rintro q (rfl | hq) (e | e); omega; exact absurd (HSEP.out _ e).2 (by omega); exact absurd (HSEP2.out _ hq) (by omega); exact (HSEP.out _ e).1 hq)); have m0 := Whl.cell hNx 0; have m1 := Whl.cell hNx 1; simp only [List.getElem?_toArray, List.getElem?_cons_succ, List.getElem?_cons_zero, List.take_length] at m0 m1; clear hpa hha hra hta hoa hNx))
          | fail)
        have e5 : (hs.take (i + 1)).map (rankOf ps) = (hs.take i).map (rankOf ps) ++ [⟨g, loadP ps g⟩] := by
          rw [List.take_add_one, List.getElem?_eq_getElem hlt, List.map_append, ← HG.out]
          rfl
        have hsA := HTA.out.size
        have hsB := HTB.out.size
        have vh2q : ∀ q, vh2.ownBlock = some q → vh.ownBlock = some q ∨ wr.heap.size ≤ q := fun q hq => by
          rcases HOA.out with e | ⟨x, e, hx⟩
          · exact .inl (e.symm.trans hq)
          · rw [e] at hq; injection hq with hq; exact .inr (by omega)
        have vl2q : ∀ q, vl2.ownBlock = some q → vl.ownBlock = some q ∨ w5.heap.size ≤ q := fun q hq => by
          rcases HOB.out with e | ⟨x, e, hx⟩
          · exact .inl (e.symm.trans hq)
          · rw [e] at hq; injection hq with hq; exact .inr (by omega)
        have oldh : ∀ q, vh.ownBlock = some q → n3 < q ∧ q < wr.heap.size := fun q hq => ⟨(HSEP.out q hq).2, (HR1r.out.own.lt q hq).2⟩
        have oldl : ∀ q, vl.ownBlock = some q → n3 < q ∧ q < wr.heap.size := fun q hq => ⟨HSEP2.out q hq, (HR2r.out.own.lt q hq).2⟩
        have hb5 : Below w.heap.size w w5 := (HBW.out.trans (HB2.out.mono hsw)).trans (HTA.out.below (by omega) (by rintro q (rfl | hq); omega; have := oldh q hq; omega))
        refine ⟨⟨i + 1, vh2, vl2, rh2, rl2, hlt, by go_num, ?_, HHA.out, ?_, HHB.out, ?_, HRB.out, ?_, ?_, ?_, by omega, ?_, ?_⟩, measZ hlt⟩
        · rw [e5]; exact HPA.out.trans (HP1.out.append_right _)
        · rw [e5]; exact HPB.out.trans (HP2.out.append_right _)
        · refine HRA.out.keep HTB.out ?_
          rintro q (rfl | hq) (e | e)
          · omega
          · have := oldl _ e; omega
          · rcases vh2q q hq with h | h
            · have := oldh q h; omega
            · omega
          · rcases vh2q q hq with h | h
            · exact (HSEP.out q h).1 e
            · have := oldl q e; omega
        · exact (HTB.out.block n0 (by have := HW0.out.low; omega) (by rintro (e | e); omega; have := oldl _ e; omega)).trans ((HTA.out.block n0 (by have := HW0.out.low; omega) (by rintro (e | e); omega; have := oldh _ e; omega)).trans (HW0.out.below HB2.out HW0.out.low))
        · exact (HTB.out.block n1 (by have := HW1.out.low; omega) (by rintro (e | e); omega; have := oldl _ e; omega)).trans ((HTA.out.block n1 (by have := HW1.out.low; omega) (by rintro (e | e); omega; have := oldh _ e; omega)).trans (HW1.out.below HB2.out HW1.out.low))
        · exact hb5.trans (HTB.out.below (by omega) (by rintro q (rfl | hq); omega; have := oldl q hq; omega))
        · intro q hq
          rcases vh2q q hq with h | h
          · have h1 := oldh q h
            refine ⟨fun e => ?_, h1.1⟩
            rcases vl2q q e with h2 | h2
            · exact (HSEP.out q h).1 h2
            · omega
          · refine ⟨fun e => ?_, by omega⟩
            rcases vl2q q e with h2 | h2
            · have := oldl q h2; omega
            · have := (HRA.out.own.lt q hq).2; omega
        · intro q hq
          rcases vl2q q hq with h | h
          · exact (oldl q h).1
          · omega
end Go.Proofs.YtepjehcmiofehaaGreat
