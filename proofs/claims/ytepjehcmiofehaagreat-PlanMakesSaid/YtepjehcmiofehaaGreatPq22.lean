/- The document's directory: Hosts, of any row of numbers. The document's directory: New. The directory's laws: changes, played in both. The directory's laws: heavy; played, of no hosts; DirPlays. A slice of structs within a struct, opened. An argument that is a  -/
import Derived.ChangeSlices
import Derived.Test.YtepjehcmiofehaaGreatPq21
namespace Go.Proofs.YtepjehcmiofehaaGreat
open Go.RowKit
set_option linter.unusedVariables false
set_option linter.unusedSimpArgs false
set_option maxHeartbeats 8000000 in
set_option maxRecDepth 10000 in
theorem rdHostsC (A : Option Addr) (cc : Nat) (l : List Int) (w : World) (h : Cells w w.heap.size A l.length cc 1 (intsV l)) (hl : l.length ≤ 100000) :
    Calls Tryz.prog 20 #[.slice A l.length cc] w fun e w' => e = .returned (.bool (hostsB l)) ∧ Below w.heap.size w w' := by
  have HR := Lib.hid h
  clear h
  have hb : hostsB l = (decide (1 ≤ l.length) && decide (l.length ≤ 6) && okFrom 7 l) := rfl
  have HHB := Lib.hid hb
  clear hb
  go_enter Tryz.func20, Tryz.ntmps20
  go_wp2_with fail
  go_loopw [3] (fun iv wr => ∃ (i : Nat) (a : Int), i ≤ l.length ∧ iv = .int .i64 i ∧ okFrom 7 l = okFrom a (l.drop i) ∧ ((i = 0 ∧ a = 7) ∨ (∃ h : i - 1 < l.length, 1 ≤ i ∧ a = l[i - 1] ∧ 8 ≤ a)) ∧ Below w.heap.size w wr) (fun iv _ => l.length - (intOf iv).toNat)
  case atStart => exact ⟨0, 7, Nat.zero_le _, rfl, rfl, .inl ⟨rfl, rfl⟩, by ((repeat (first | (with_reducible exact Below.refl _ _) | (with_reducible assumption) | ((with_reducible refine b_set ?_ ?_); · (first | omega | (simp; done) | (simp; omega))) | ((with_reducible refine b_alloc ?_ ?_); · (first | omega | (simp; done) | (simp; omega))) | (with_reducible refine Below.drew ?_) | (with_reducible refine b_drewN ?_) | ((with_reducible refine b_call (by assumption) ?_ ?_); · (first | omega | (simp; done) | (simp; omega))))); done)⟩
  case round =>
    obtain ⟨i, a, hil, rfl, hok, hia, hBw⟩ := hrel
    have HBW := Lib.hid hBw
    have HOK := Lib.hid hok
    by_cases hlt : i < l.length
    · have q3 : (i : Int) < (l.length : Int) := by omega
      have hr := HR.out
      obtain ⟨gu, ou, e5, hgu, a0⟩ := hr.2.2 i _ (intsV_at hlt)
      subst e5
      have a0 := bkeep hBw a0 hgu
      obtain ⟨z, hz⟩ : ∃ z, z = l[i] := ⟨_, rfl⟩
      rw [← hz] at a0
      have hdr : l.drop i = z :: l.drop (i + 1) := by rw [hz]; exact List.drop_eq_getElem_cons hlt
      have HDR := Lib.hid hdr
      have HZ := Lib.hid hz
      rcases hia with ⟨h0, ha⟩ | ⟨h0, h1, ha, ha8⟩
      · clear hr hBw hz hok hdr
        subst h0
        subst ha
        rw [Nat.zero_add] at HDR
        have a0 : wr.cell? ⟨gu, ou, none⟩ = some (.int .i64 z) := by simpa using a0
        have kz : decide ((0 : Int) < ((0 : Nat) : Int)) = false := by simp
        by_cases k1 : z < 8
        · have k1b : decide (z < 8) = true := by simpa using k1
          go_wp2_with fail
          go_quiet (fail)
          go_wp2_with fail
          go_ret
          refine ⟨ret_bool ?_, b_drewN HBW.out⟩
          rw [HHB.out, HOK.out, HDR.out]
          show _ = (decide (1 ≤ l.length) && decide (l.length ≤ 6) && (decide (7 < z) && decide (z < 14) && okFrom z _))
          rw [decide_eq_false (show ¬ 7 < z by omega)]
          simp
        by_cases k2 : (14 : Int) ≤ z
        · have k1b : decide (z < 8) = false := by simpa using k1
          have k2b : decide ((14 : Int) ≤ z) = true := by simpa using k2
          go_wp2_with fail
          go_quiet (fail)
          go_wp2_with fail
          go_ret
          refine ⟨ret_bool ?_, b_drewN HBW.out⟩
          rw [HHB.out, HOK.out, HDR.out]
          show _ = (decide (1 ≤ l.length) && decide (l.length ≤ 6) && (decide (7 < z) && decide (z < 14) && okFrom z _))
          rw [decide_eq_false (show ¬ z < 14 by omega), Bool.and_false]
          simp
        have k1b : decide (z < 8) = false := by simpa using k1
        have k2b : decide ((14 : Int) ≤ z) = false := by simpa using k2
        go_wp2_with fail
        go_quiet (fail)
        go_wp2_with fail
        refine ⟨⟨0 + 1, z, hlt, by go_num, ?_, .inr ⟨by simpa using hlt, Nat.succ_pos _, by simp [HZ.out], by omega⟩, b_drewN HBW.out⟩, measZ hlt⟩
        rw [HOK.out, HDR.out]
        show (decide (7 < z) && decide (z < 14) && okFrom z (l.drop (0 + 1))) = _
        rw [decide_eq_true (show 7 < z by omega), decide_eq_true (show z < 14 by omega)]
        rfl
      · obtain ⟨j, rfl⟩ : ∃ j, i = j + 1 := ⟨i - 1, by omega⟩
        obtain ⟨gu2, ou2, e6, _, b0⟩ := hr.2.2 j _ (intsV_at (show j < l.length by omega))
        injection e6 with e6
        injection e6 with e6 e7
        subst e6 e7
        have b0 := bkeep hBw b0 hgu
        obtain ⟨y, hy⟩ : ∃ y, y = l[j] := ⟨_, rfl⟩
        rw [← hy] at b0
        have hay : a = y := by rw [ha, hy]; rfl
        clear hr hBw hz hok hdr ha hy
        subst hay
        have kz : decide ((0 : Int) < ((j + 1 : Nat) : Int)) = true := by simp <;> omega
        have kz2 : decide ((0 : Int) < (j : Int) + 1) = true := by simp <;> omega
        have kj : (j : Int) + 1 - 1 = (j : Int) := by omega
        by_cases k1 : z < 8
        · have k1b : decide (z < 8) = true := by simpa using k1
          go_wp2_with fail
          go_quiet (fail)
          go_wp2_with fail
          go_ret
          refine ⟨ret_bool ?_, b_drewN HBW.out⟩
          rw [HHB.out, HOK.out, HDR.out]
          show _ = (decide (1 ≤ l.length) && decide (l.length ≤ 6) && (decide (a < z) && decide (z < 14) && okFrom z _))
          rw [decide_eq_false (show ¬ a < z by omega)]
          simp
        by_cases k2 : (14 : Int) ≤ z
        · have k1b : decide (z < 8) = false := by simpa using k1
          have k2b : decide ((14 : Int) ≤ z) = true := by simpa using k2
          go_wp2_with fail
          go_quiet (fail)
          go_wp2_with fail
          go_ret
          refine ⟨ret_bool ?_, b_drewN HBW.out⟩
          rw [HHB.out, HOK.out, HDR.out]
          show _ = (decide (1 ≤ l.length) && decide (l.length ≤ 6) && (decide (a < z) && decide (z < 14) && okFrom z _))
          rw [decide_eq_false (show ¬ z < 14 by omega), Bool.and_false]
          simp
        by_cases k3 : z ≤ a
        · have k1b : decide (z < 8) = false := by simpa using k1
          have k2b : decide ((14 : Int) ≤ z) = false := by simpa using k2
          have k3b : decide (z ≤ a) = true := by simpa using k3
          go_wp2_with fail
          go_quiet (fail)
          go_wp2_with fail
          go_ret
          refine ⟨ret_bool ?_, b_drewN HBW.out⟩
          rw [HHB.out, HOK.out, HDR.out]
          show _ = (decide (1 ≤ l.length) && decide (l.length ≤ 6) && (decide (a < z) && decide (z < 14) && okFrom z _))
          rw [decide_eq_false (show ¬ a < z by omega)]
          simp
        have k1b : decide (z < 8) = false := by simpa using k1
        have k2b : decide ((14 : Int) ≤ z) = false := by simpa using k2
        have k3b : decide (z ≤ a) = false := by simpa using k3
        go_wp2_with fail
        go_quiet (fail)
        go_wp2_with fail
        refine ⟨⟨(j + 1) + 1, z, hlt, by go_num, ?_, .inr ⟨by simpa using hlt, Nat.succ_pos _, by simp [HZ.out], by omega⟩, b_drewN HBW.out⟩, measZ hlt⟩
        rw [HOK.out, HDR.out]
        show (decide (a < z) && decide (z < 14) && okFrom z (l.drop ((j + 1) + 1))) = _
        rw [decide_eq_true (show a < z by omega), decide_eq_true (show z < 14 by omega)]
        rfl
    · obtain rfl : l.length = i := by omega
      rw [List.drop_length] at hok
      have hok2 : hostsB l = (decide (1 ≤ l.length) && decide (l.length ≤ 6)) := by rw [HHB.out, hok]; show (_ && true) = _; rw [Bool.and_true]
      have HO2 := Lib.hid hok2
      clear hok hok2 hBw
      by_cases q1 : 1 ≤ l.length
      · have q1b : (1 : Int) ≤ (l.length : Int) := by omega
        by_cases q2 : l.length ≤ 6
        · have q2b : (l.length : Int) ≤ 6 := by omega
          go_wp2_with fail
          go_ret
          refine ⟨ret_bool ?_, HBW.out⟩
          rw [HO2.out, decide_eq_true q1, decide_eq_true q2]; rfl
        · have q2b : ¬ (l.length : Int) ≤ 6 := by omega
          go_wp2_with fail
          go_ret
          refine ⟨ret_bool ?_, HBW.out⟩
          rw [HO2.out, decide_eq_false q2, Bool.and_false]
      · have q1b : ¬ (1 : Int) ≤ (l.length : Int) := by omega
        go_wp2_with fail
        go_ret
        refine ⟨ret_bool ?_, HBW.out⟩
        rw [HO2.out, decide_eq_false q1]; rfl
end Go.Proofs.YtepjehcmiofehaaGreat
namespace Go.Proofs.YtepjehcmiofehaaGreat
open Go.RowKit
set_option linter.unusedVariables false
set_option linter.unusedSimpArgs false
end Go.Proofs.YtepjehcmiofehaaGreat
namespace Go.Proofs.YtepjehcmiofehaaGreat
open Go.RowKit
set_option linter.unusedVariables false
set_option linter.unusedSimpArgs false
end Go.Proofs.YtepjehcmiofehaaGreat
namespace Go.Proofs.YtepjehcmiofehaaGreat
open Go.RowKit
set_option linter.unusedVariables false
set_option linter.unusedSimpArgs false
theorem intsV_flat (l : List Int) : (l.flatMap fun r => [Value.int .i64 r]) = intsV l := by
  induction l with
  | nil => rfl
  | cons a r ih => rw [List.flatMap_cons, ih]; rfl
end Go.Proofs.YtepjehcmiofehaaGreat
namespace Go.Proofs.YtepjehcmiofehaaGreat
open Go.RowKit Go.ChangeShapes Go.WideShapes Go.ChangeAt Go.Deep
set_option linter.unusedVariables false
set_option linter.unusedSimpArgs false
theorem rows_of_trod {β : Type} {H : Type} {enc : TypeId × Value → H} {P : Program} {W : World} {t e : TypeId} {fuel : Nat} {cs : List Value} {y : DataW H × List MemPlace} (f : β → List Value) (Q : β → Prop) (size : Nat) (hpos : 0 < size) (hs : ∀ r, (f r).length = size) (r0 : β)
    (ht : P.underlying t = some (.slice e)) (ce : P.cellsOf e = size)
    (hread : ∀ fuel cs x, DataW.trod enc P W 0 (fun _ => true) true fuel e cs = some x → ∃ r : β, cs = f r ∧ Q r)
    (hf : DataW.trod enc P W 0 (fun _ => true) true fuel t cs = some y) :
    ∃ (A : Option Addr) (c : Nat) (xs : List β), cs = [.slice A xs.length c] ∧ xs.length ≤ c ∧ c ≤ maxLen ∧ (∀ r ∈ xs, Q r) ∧ Cells W W.heap.size A xs.length c size (xs.flatMap f) := by
  rcases open_slice ht hf with ⟨hcs, _⟩ | ⟨a, len, c, m, n, D, Pl, hcs, hb, hl, hm, hmm, _, hall⟩
  · subst hcs
    exact ⟨none, 0, [], rfl, Nat.le_refl _, by unfold maxLen; omega, by simp, by simp, fun _ => ⟨rfl, rfl⟩, fun j u hu => by simp at hu⟩
  · subst hcs
    have hlm : len ≤ m := by rw [hmm]; simp; exact hl
    have hc : ∀ i, i < len → ∃ r : β, Q r ∧ ∀ k, k < size → W.cell? (a.add (i * size + k)) = (f r)[k]? := by
      intro i hi
      obtain ⟨cs', h1, h2⟩ := hall i (by omega)
      rw [ce] at h1
      obtain ⟨_, hlen, hcell⟩ := World.cells?_some h1
      obtain ⟨r, rfl, hq⟩ := hread _ _ _ h2
      refine ⟨r, hq, fun k hk => ?_⟩
      have := hcell k (by omega)
      rw [add_add] at this
      exact this
    let g : Nat → β := fun i => if h : i < len then (hc i h).choose else r0
    have hg : ∀ i, i < len → Q (g i) ∧ ∀ k, k < size → W.cell? (a.add (i * size + k)) = (f (g i))[k]? := fun i hi => by
      simp only [g, hi, dite_true]
      exact (hc i hi).choose_spec
    obtain ⟨b, o, s⟩ := a
    refine ⟨some ⟨b, o, s⟩, c, (List.range len).map g, by simp, by simpa using hl, hm, ?_, ?_, (fun e => by cases e), ?_⟩
    · intro r hr
      obtain ⟨i, hi, rfl⟩ := List.mem_map.1 hr
      exact (hg i (List.mem_range.1 hi)).1
    · exact flat_lenR f size hs _
    · intro j u hu
      have hj : j = j / size * size + j % size := by rw [Nat.mul_comm]; exact (Nat.div_add_mod j size).symm
      have hk := Nat.mod_lt j hpos
      rw [hj, flat_get f size hs _ _ _ hk] at hu
      have hi : j / size < len := by
        by_cases hi : j / size < len
        · exact hi
        · rw [List.getElem?_eq_none (by simpa using hi)] at hu; cases hu
      rw [List.getElem?_map, List.getElem?_range hi] at hu
      simp only [Option.map_some, Option.bind_some] at hu
      have hcl := (hg _ hi).2 _ hk
      rw [hu, ← hj] at hcl
      have hsp : s = none := by
        have h0 := (hg 0 (Nat.lt_of_le_of_lt (Nat.zero_le _) hi)).2 0 hpos
        rw [List.getElem?_eq_getElem (by rw [hs]; exact hpos)] at h0
        rw [show 0 * size + 0 = 0 by omega] at h0
        unfold Addr.add at h0
        rw [if_pos rfl] at h0
        exact cell_plainR h0
      subst hsp
      rw [add_none] at hcl
      exact ⟨b, o, rfl, cell_ltR hcl, hcl⟩
end Go.Proofs.YtepjehcmiofehaaGreat
namespace Go.Proofs.YtepjehcmiofehaaGreat
open Go.RowKit Go.ChangeShapes Go.WideShapes Go.ChangeAt Go.Deep
set_option linter.unusedVariables false
set_option linter.unusedSimpArgs false
set_option maxRecDepth 100000 in
theorem open_map {H : Type} {enc : TypeId × Value → H} {W : World} {base : Nat} {v : Value} {d : DataW H} {p : List MemPlace}
    (hv : Value.okWide Tryz.prog W .any base 24 v) (h : DataW.Trod enc Tryz.prog W 0 (fun _ => true) true 24 v d p) :
    ∃ (m : Mp) (A : Option Addr) (c : Nat), v = .agg #[.int .i64 m.ver, .int .i64 m.nxt, .slice A m.zs.length c] ∧ RowZ W A c m.zs := by
  have hC : Tryz.prog.cellsOf 24 = 3 := by kernel_rfl
  have c1 : Tryz.prog.cellsOf 3 = 1 := by kernel_rfl
  have c2 : Tryz.prog.cellsOf 22 = 1 := by kernel_rfl
  obtain ⟨cs, rfl, hsz⟩ := okWide_struct Tryz.underlying24 hv
  obtain ⟨v0, v1, v2, rfl⟩ : ∃ v0 v1 v2, cs = #[v0, v1, v2] := by
    obtain ⟨l⟩ := cs
    match l, hsz.trans hC with
    | [v0, v1, v2], _ => exact ⟨v0, v1, v2, rfl⟩
  obtain ⟨fuel, hf⟩ := h
  obtain ⟨xs, n, _, _, hl, hlen, hf⟩ := DataW.trod_struct Tryz.underlying24 hf
  match xs, hlen with
  | [y0, y1, y2], _ =>
    have g0 := hf 0 _ rfl
    have g1 := hf 1 _ rfl
    have g2 := hf 2 _ rfl
    simp [c1, c2, Value.cells] at g0 g1 g2
    obtain ⟨a0, e0, _, _⟩ := DataW.trod_int Tryz.underlying3 g0
    obtain ⟨a1, e1, _, _⟩ := DataW.trod_int Tryz.underlying3 g1
    obtain ⟨A, c, zs, e2, h1, h2, _, h3⟩ := rows_of_trod znV znQ 9 (by omega) (fun _ => rfl) ⟨0, ⟨#[]⟩, ⟨#[]⟩, 0, 0, 0, 0, ⟨#[]⟩, 0⟩ Tryz.underlying22 (by kernel_rfl) read_zn g2
    simp only [List.cons.injEq, and_true] at e0 e1 e2
    subst e0 e1 e2
    exact ⟨⟨a0, a1, zs⟩, A, c, rfl, h3, h1, h2⟩
end Go.Proofs.YtepjehcmiofehaaGreat
namespace Go.Proofs.YtepjehcmiofehaaGreat
open Go.RowKit Go.ChangeShapes Go.WideShapes Go.ChangeAt Go.Deep
set_option linter.unusedVariables false
set_option linter.unusedSimpArgs false
theorem ob_lt {w : World} {a : Addr} {v : Value} (h : w.cell? a = some v) : a.block < w.heap.size := by
  unfold World.cell? at h
  cases hb : w.heap[a.block]? with
  | none => rw [hb] at h; cases h
  | some o => exact (Array.getElem?_eq_some_iff.1 hb).1
theorem ob_plain {w : World} {b o : Nat} {s : Option _} {v : Value} (h : w.cell? ⟨b, o, s⟩ = some v) : s = none := by
  have := World.cell?_spot h
  simpa using this
theorem ob_add0 (a : Addr) : a.add 0 = a := by unfold Addr.add; simp
set_option maxRecDepth 100000 in
theorem open_u8s {H : Type} {enc : TypeId × Value → H} {W : World} {base : Nat} {v : Value} {d : DataW H} {p : List MemPlace}
    (hv : Value.okWide Tryz.prog W .any base 70 v) (h : DataW.Trod enc Tryz.prog W 0 (fun _ => true) true 70 v d p) :
    ∃ (A : Option Addr) (c : Nat) (xs : List Nat), v = .slice A xs.length c ∧ xs.length ≤ c ∧ c ≤ maxLen ∧ (∀ x ∈ xs, x < 256) ∧ Cells W W.heap.size A xs.length c 1 (flatU xs) := by
  obtain ⟨A, len, c, rfl⟩ := okWide_slice Tryz.underlying70 hv
  obtain ⟨fuel, hf⟩ := h
  have hC : Tryz.prog.cellsOf 5 = 1 := by kernel_rfl
  rcases open_ints (k := .u8) Tryz.underlying70 Tryz.underlying5 hC hf with ⟨hcs, _⟩ | ⟨a, l, cap, zs, hcs, _, hl, hm, hz, _, hcell, hwf⟩
  · simp [Value.cells] at hcs
    obtain ⟨rfl, rfl, rfl⟩ := hcs
    exact ⟨none, 0, [], rfl, Nat.le_refl _, by unfold maxLen; omega, by simp, ⟨rfl, fun _ => ⟨rfl, rfl⟩, fun j u hu => by simp [flatU] at hu⟩⟩
  · simp [Value.cells] at hcs
    obtain ⟨rfl, rfl, rfl⟩ := hcs
    have hz2 : zs.length = c := by rw [hz]; simp
    have hr : ∀ z ∈ zs, 0 ≤ z ∧ z < 256 := by
      intro z hz'
      have := hwf z hz'
      simp only [Lit.wf, Bool.and_eq_true, decide_eq_true_eq] at this
      have e1 : IntKind.u8.min = 0 := by decide
      have e2 : IntKind.u8.max = 255 := by decide
      rw [e1, e2] at this
      omega
    have hlen : ((zs.take len).map Int.toNat).length = len := by simp; omega
    have hx : ((zs.take len).map Int.toNat).length = len := hlen
    obtain ⟨b, o, s⟩ := a
    refine ⟨some ⟨b, o, s⟩, c, (zs.take len).map Int.toNat, by rw [hlen], by omega, hm, ?_, by simp [flatU], (fun e => by cases e), ?_⟩
    · intro x hx
      simp only [List.mem_map] at hx
      obtain ⟨z, hz3, rfl⟩ := hx
      have := hr z (List.mem_of_mem_take hz3)
      omega
    · intro j u hu
      have hj : j < len := by
        have := (List.getElem?_eq_some_iff.1 hu).1
        simp [flatU] at this; omega
      have e1 := hcell j (by omega)
      have hsp : s = none := by
        have e0 := hcell 0 (by omega)
        rw [ob_add0] at e0
        exact ob_plain e0
      subst hsp
      rw [add_none] at e1
      refine ⟨b, o, rfl, ob_lt e1, ?_⟩
      rw [e1]
      have hjz : j < zs.length := by omega
      simp only [flatU, List.map_map, List.getElem?_map, List.getElem?_take, if_pos hj, List.getElem?_eq_getElem hjz, Option.map_some, Option.some.injEq] at hu
      rw [← hu]
      have := hr zs[j] (List.getElem_mem _)
      simp only [Function.comp, List.getD, List.getElem?_eq_getElem hjz, Option.getD_some]
      congr 2
      omega
set_option maxRecDepth 100000 in
theorem open_i64s {H : Type} {enc : TypeId × Value → H} {W : World} {base : Nat} {v : Value} {d : DataW H} {p : List MemPlace}
    (hv : Value.okWide Tryz.prog W .any base 25 v) (h : DataW.Trod enc Tryz.prog W 0 (fun _ => true) true 25 v d p) :
    ∃ (A : Option Addr) (c : Nat) (l : List Int), v = .slice A l.length c ∧ l.length ≤ c ∧ c ≤ maxLen ∧ Ints W W.heap.size A l := by
  obtain ⟨A, len, c, rfl⟩ := okWide_slice Tryz.underlying25 hv
  obtain ⟨fuel, hf⟩ := h
  have hC : Tryz.prog.cellsOf 3 = 1 := by kernel_rfl
  rcases open_ints (k := .i64) Tryz.underlying25 Tryz.underlying3 hC hf with ⟨hcs, _⟩ | ⟨a, l, cap, zs, hcs, _, hl, hm, hz, _, hcell, hwf⟩
  · simp [Value.cells] at hcs
    obtain ⟨rfl, rfl, rfl⟩ := hcs
    exact ⟨none, 0, [], rfl, Nat.le_refl _, by unfold maxLen; omega, fun k h => by cases h⟩
  · simp [Value.cells] at hcs
    obtain ⟨rfl, rfl, rfl⟩ := hcs
    have hz2 : zs.length = c := by rw [hz]; simp
    have hlen : (zs.take len).length = len := by simp; omega
    obtain ⟨b, o, s⟩ := a
    refine ⟨some ⟨b, o, s⟩, c, zs.take len, by rw [hlen], by omega, hm, ?_⟩
    intro j hj
    have hj' : j < len := by omega
    have e1 := hcell j (by omega)
    have hsp : s = none := by
      have e0 := hcell 0 (by omega)
      rw [ob_add0] at e0
      exact ob_plain e0
    subst hsp
    rw [add_none] at e1
    refine ⟨b, o, rfl, ob_lt e1, ?_⟩
    rw [e1]
    simp [List.getD, List.getElem?_eq_getElem (show j < zs.length by omega)]
end Go.Proofs.YtepjehcmiofehaaGreat
namespace Go.Proofs.YtepjehcmiofehaaGreat
open Go.RowKit Go.ChangeShapes Go.WideShapes Go.ChangeAt Go.Deep
set_option linter.unusedVariables false
set_option linter.unusedSimpArgs false
def chQ (a : Ch) : Prop := (Lit.int .i64 a.kd).wf = true ∧ (Lit.int .i64 a.zo).wf = true ∧ (Lit.int .i64 a.ep).wf = true ∧ (Lit.int .i64 a.mv).wf = true ∧ a.ky.size ≤ maxLen
set_option maxRecDepth 100000 in
theorem read_ch {H : Type} {enc : TypeId × Value → H} {W : World} : ∀ fuel cs x, DataW.trod enc Tryz.prog W 0 (fun _ => true) true fuel 58 cs = some x → ∃ r : Ch, cs = chV r ∧ chQ r := by
  intro fuel cs x h
  obtain ⟨xs, n, _, _, hl, hlen, hf⟩ := DataW.trod_struct Tryz.underlying58 h
  have hc : Tryz.prog.cellsOf 58 = 5 := by kernel_rfl
  have c1 : Tryz.prog.cellsOf 3 = 1 := by kernel_rfl
  have c2 : Tryz.prog.cellsOf 9 = 1 := by kernel_rfl
  rw [hc] at hl
  match cs, hl, xs, hlen with
  | [v0, v1, v2, v3, v4], _, [y0, y1, y2, y3, y4], _ =>
    have g0 := hf 0 _ rfl
    have g1 := hf 1 _ rfl
    have g2 := hf 2 _ rfl
    have g3 := hf 3 _ rfl
    have g4 := hf 4 _ rfl
    simp [c1, c2] at g0 g1 g2 g3 g4
    obtain ⟨k, e0, _, w0⟩ := DataW.trod_int Tryz.underlying3 g0
    obtain ⟨z, e1, _, w1⟩ := DataW.trod_int Tryz.underlying3 g1
    obtain ⟨p, e2, _, w2⟩ := DataW.trod_int Tryz.underlying3 g2
    obtain ⟨q, e3, _, w3⟩ := DataW.trod_int Tryz.underlying3 g3
    obtain ⟨s, e4, _, w4⟩ := DataW.trod_string Tryz.underlying9 g4
    simp only [List.cons.injEq, and_true] at e0 e1 e2 e3 e4
    subst e0 e1 e2 e3 e4
    exact ⟨⟨k, z, p, q, s⟩, rfl, ⟨by assumption, by assumption, by assumption, by assumption, by assumption⟩⟩
end Go.Proofs.YtepjehcmiofehaaGreat
