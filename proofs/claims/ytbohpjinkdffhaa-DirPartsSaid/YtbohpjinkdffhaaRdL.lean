/- The document's directory: done, where nothing is. The document's directory: change: abort. -/
import Derived.Test.YtbohpjinkdffhaaRdH
namespace Go.Proofs.Ytbohpjinkdffhaa
open Go.RowKit
set_option linter.unusedVariables false
set_option linter.unusedSimpArgs false

set_option maxHeartbeats 8000000 in
set_option maxRecDepth 10000 in
theorem rdDone0 (B d i : Nat) (hv zv : Value) (hosts : List Int) (m : Mp) (c : Ch) (hi : i < m.zs.length) (w : World) (h : RdH w B d hv zv hosts m) (hl : m.zs.length ≤ 1000) (hkd : c.kd = 4) (hp : m.zs[i].pd = 0) :
    Calls Try.prog 76 #[.pointer (some ⟨d, 0, none⟩), .int .i64 i] w fun e w' => RdQ B d hv zv hosts m c i hi w e w' := by
  have HD := Lib.hid h
  have l2 := h.blk.cell 2
  simp only [List.getElem?_toArray, List.getElem?_cons_succ, List.getElem?_cons_zero] at l2
  obtain ⟨gz, cc, hzv, _, hgz, hnc, hcm⟩ := own_form h.row (by omega)
  subst hzv
  have hdl := h.blk.low
  have q3 : (i : Int) < (m.zs.length : Int) := by omega
  obtain ⟨z, hz⟩ : ∃ z, z = m.zs[i] := ⟨_, rfl⟩
  obtain ⟨v0, v1, v2, v3, v4, v5, v6, v7, v8⟩ := rowZ_at h.row hi
  rw [← hz] at v0 v1 v2 v3 v4 v5 v6 v7 v8
  have HNO : Hid (∀ m1, ¬ Deed hosts m c i hi m1) := Lib.hid (fun m1 hd => by cases hd <;> first | omega | (rename_i p _ _ _ _; exact p hp))
  rw [← hz] at hp
  rw [hp] at v5
  clear h hkd hz hp
  go_enter Try.func76, Try.ntmps76
  go_wp2_with fail
  refine bodyPost_ret (v := .bool false) (by simp [results, Try.results76, go_sem]) rfl (.inr ⟨HNO.out, rfl, by ((repeat (first | (with_reducible exact Below.refl _ _) | (with_reducible assumption) | ((with_reducible refine b_set ?_ ?_); · (first | omega | (simp; done) | (simp; omega))) | ((with_reducible refine b_alloc ?_ ?_); · (first | omega | (simp; done) | (simp; omega))) | (with_reducible refine Below.drew ?_) | (with_reducible refine b_drewN ?_) | ((with_reducible refine b_call (by assumption) ?_ ?_); · (first | omega | (simp; done) | (simp; omega))))); done)⟩)
set_option maxHeartbeats 8000000 in
set_option maxRecDepth 10000 in
theorem rdDone2no (B d i : Nat) (hv zv : Value) (hosts : List Int) (m : Mp) (c : Ch) (hi : i < m.zs.length) (w : World) (h : RdH w B d hv zv hosts m) (hl : m.zs.length ≤ 1000) (hkd : c.kd = 4) (hp : m.zs[i].pd = 2) (hn : ∀ h2 : i + 1 < m.zs.length, m.zs[i + 1].id ≠ m.zs[i].nw) :
    Calls Try.prog 76 #[.pointer (some ⟨d, 0, none⟩), .int .i64 i] w fun e w' => RdQ B d hv zv hosts m c i hi w e w' := by
  have HD := Lib.hid h
  have l2 := h.blk.cell 2
  simp only [List.getElem?_toArray, List.getElem?_cons_succ, List.getElem?_cons_zero] at l2
  obtain ⟨gz, cc, hzv, _, hgz, hnc, hcm⟩ := own_form h.row (by omega)
  subst hzv
  have hdl := h.blk.low
  have q3 : (i : Int) < (m.zs.length : Int) := by omega
  obtain ⟨z, hz⟩ : ∃ z, z = m.zs[i] := ⟨_, rfl⟩
  obtain ⟨v0, v1, v2, v3, v4, v5, v6, v7, v8⟩ := rowZ_at h.row hi
  rw [← hz] at v0 v1 v2 v3 v4 v5 v6 v7 v8
  have HNO : Hid (∀ m1, ¬ Deed hosts m c i hi m1) := Lib.hid (fun m1 hd => by
    cases hd
    case mergeDone k p e h2 o q x => exact hn h2 o
    all_goals first | omega | (rename_i p2 _ _; exact p2 hp))
  have HAT : Hid (∀ k2 : Int, At m.zs z.nw m.zs.length k2 → (k2 != (i : Int) + 1) = true) := Lib.hid (by
    intro k2 hk
    simp only [bne_iff_ne, ne_eq]
    intro e
    rcases hk with ⟨h, _⟩ | ⟨j, h, hjl, hjd, _⟩
    · omega
    · have : j = i + 1 := by omega
      subst this
      exact hn hjl (by rw [hjd, hz]))
  have hcast : IntKind.i64.wrap ((i : Int) + 1) = (i : Int) + 1 := by rw [IntKind.wrap_i64]; omega
  have hc0 : 0 ≤ (i : Int) + 1 := by omega
  rw [← hz] at hp
  rw [hp] at v5
  clear h hkd hz hp hn
  go_enter Try.func76, Try.ntmps76
  go_wp2_with (first
    | (go_at_call 40; go_loud (refine (rdFind B _ m.zs z.nw _ (HD.out.row.alloc _) (by omega)).mono ?_; rintro e w1 ⟨k2, rfl, hk2, hb1⟩; have hk3 := HAT.out k2 hk2; have HB1 := Lib.hid (Below.trans (show Below w.heap.size w _ by ((repeat (first | (with_reducible exact Below.refl _ _) | (with_reducible assumption) | ((with_reducible refine b_set ?_ ?_); · (first | omega | (simp; done) | (simp; omega))) | ((with_reducible refine b_alloc ?_ ?_); · (first | omega | (simp; done) | (simp; omega))) | (with_reducible refine Below.drew ?_) | (with_reducible refine b_drewN ?_) | ((with_reducible refine b_call (by assumption) ?_ ?_); · (first | omega | (simp; done) | (simp; omega))))); done)) (hb1.mono (by simp))); clear hb1 hk2))
    | fail)
  refine bodyPost_ret (v := .bool false) (by simp [results, Try.results76, go_sem]) rfl (.inr ⟨HNO.out, rfl, HB1.out⟩)
end Go.Proofs.Ytbohpjinkdffhaa

namespace Go.Proofs.Ytbohpjinkdffhaa
open Go.RowKit
set_option linter.unusedVariables false
set_option linter.unusedSimpArgs false

theorem RdH.setcell {w : World} {B d g c n : Nat} {hv : Value} {hosts : List Int} {m : Mp} (h : RdH w B d hv (.slice (some ⟨g, 0, none⟩) n c) hosts m) {j : Nat} (hj : j < m.zs.length) {k : Nat} (hk : k < 9) {z : Zn} {v : Value} (hz : znV z = (znV m.zs[j]).set k v) :
    RdH (w.setCell ⟨g, j * 9 + k, none⟩ v) B d hv (.slice (some ⟨g, 0, none⟩) n c) hosts ⟨m.ver, m.nxt, m.zs.set j z⟩ := by
  obtain rfl := h.len rfl
  have ht : Touch (fun k => k = g) w (w.setCell ⟨g, j * 9 + k, none⟩ v) := (Touch.refl _ _).set (fun _ => rfl)
  refine ⟨(ht.block d h.blk.low (fun e => h.za g rfl e.symm)).trans h.blk, ht.own h.hrow (fun q hq e => h.hz q hq (by rw [e]; rfl)), ?_, h.ha, h.za, h.hz, h.low⟩
  show World.ownsRow _ B _ 9 _ (m.zs.set j z).length (flatZ (m.zs.set j z))
  rw [List.length_set, flatZ_setcell m.zs j hj k hk z v hz]
  exact (h.row.stored (j * 9 + k) v).1
set_option maxHeartbeats 8000000 in
set_option maxRecDepth 10000 in
theorem rdChange5 (B d i : Nat) (hv zv : Value) (hosts : List Int) (m : Mp) (c : Ch) (hi : i < m.zs.length) (w : World) (h : RdH w B d hv zv hosts m) (hB : B ≤ w.heap.size) (hl : m.zs.length ≤ 1000) (hkd : c.kd = 5) (h0 : 0 ≤ m.zs[i].ep) (htop : m.zs[i].ep < topN) :
    Calls Try.prog 43 #[.pointer (some ⟨d, 0, none⟩), .agg #[.int .i64 c.kd, .int .i64 c.zo, .int .i64 c.ep, .int .i64 c.mv, .string c.ky], .int .i64 i] w fun e w' => RdQ B d hv zv hosts m c i hi w e w' := by
  have HD := Lib.hid h
  have l2 := h.blk.cell 2
  simp only [List.getElem?_toArray, List.getElem?_cons_succ, List.getElem?_cons_zero] at l2
  obtain ⟨gz, cc, hzv, _, hgz, hnc, hcm⟩ := own_form h.row (by omega)
  subst hzv
  have hdl := h.blk.low
  have q3 : (i : Int) < (m.zs.length : Int) := by omega
  obtain ⟨z, hz⟩ : ∃ z, z = m.zs[i] := ⟨_, rfl⟩
  obtain ⟨v0, v1, v2, v3, v4, v5, v6, v7, v8⟩ := rowZ_at h.row hi
  rw [← hz] at v0 v1 v2 v3 v4 v5 v6 v7 v8
  have HZ := Lib.hid hz
  have HKD := Lib.hid hkd
  rw [hkd]
  by_cases hp : m.zs[i].pd = 3
  case neg =>
    have HNO : Hid (∀ m1, ¬ Deed hosts m c i hi m1) := Lib.hid (fun m1 hd => by cases hd <;> first | omega | contradiction)
    rw [← hz] at hp
    have hp2 : (z.pd != 3) = true := by simpa using hp
    clear h hkd hz
    go_enter Try.func43, Try.ntmps43
    go_wp2_with fail
    refine bodyPost_ret (v := .bool false) (by simp [results, Try.results43, go_sem]) rfl (.inr ⟨HNO.out, rfl, by ((repeat (first | (with_reducible exact Below.refl _ _) | (with_reducible assumption) | ((with_reducible refine b_set ?_ ?_); · (first | omega | (simp; done) | (simp; omega))) | ((with_reducible refine b_alloc ?_ ?_); · (first | omega | (simp; done) | (simp; omega))) | (with_reducible refine Below.drew ?_) | (with_reducible refine b_drewN ?_) | ((with_reducible refine b_call (by assumption) ?_ ?_); · (first | omega | (simp; done) | (simp; omega))))); done)⟩)
  by_cases hep : m.zs[i].ep = c.ep
  case neg =>
    have HNO : Hid (∀ m1, ¬ Deed hosts m c i hi m1) := Lib.hid (fun m1 hd => by cases hd <;> first | omega | contradiction)
    rw [← hz] at hp hep
    rw [hp] at v5
    have hp2 : (z.ep != c.ep) = true := by simpa using hep
    clear h hkd hz hp
    go_enter Try.func43, Try.ntmps43
    go_wp2_with fail
    refine bodyPost_ret (v := .bool false) (by simp [results, Try.results43, go_sem]) rfl (.inr ⟨HNO.out, rfl, by ((repeat (first | (with_reducible exact Below.refl _ _) | (with_reducible assumption) | ((with_reducible refine b_set ?_ ?_); · (first | omega | (simp; done) | (simp; omega))) | ((with_reducible refine b_alloc ?_ ?_); · (first | omega | (simp; done) | (simp; omega))) | (with_reducible refine Below.drew ?_) | (with_reducible refine b_drewN ?_) | ((with_reducible refine b_call (by assumption) ?_ ?_); · (first | omega | (simp; done) | (simp; omega))))); done)⟩)
  have HDEED : Hid (Deed hosts m c i hi ⟨m.ver, m.nxt, m.zs.set i (settled z (z.ep + 1))⟩) := Lib.hid (by
    rw [hz]
    exact Deed.abort hkd hp hep htop)
  rw [← hz] at hp hep h0 htop
  have htop : z.ep < 1099511627776 := htop
  have hwr : IntKind.i64.wrap (z.ep + 1) = z.ep + 1 := by rw [IntKind.wrap_i64]; omega
  have htop2 : ¬ (1099511627776 ≤ z.ep) := by omega
  rw [hp] at v5
  have hep2 : (z.ep != c.ep) = false := by simpa using hep
  have hec : c.ep = z.ep := hep.symm
  clear h hkd hz hp hep
  go_enter Try.func43, Try.ntmps43
  go_wp2_with (first
    | (go_at_call 77; go_loud (refine (rdFree ⟨z.id, z.fr, z.tt, z.ow, z.ep, 3, z.mv, z.ky, z.nw⟩ _).mono ?_; rintro e w3 ⟨rfl, hb3⟩; have hs3 := hb3.size; (try simp at hs3); have hbw : Below w.heap.size w w3 := Below.trans (show Below w.heap.size w _ by ((repeat (first | (with_reducible exact Below.refl _ _) | (with_reducible assumption) | ((with_reducible refine b_set ?_ ?_); · (first | omega | (simp; done) | (simp; omega))) | ((with_reducible refine b_alloc ?_ ?_); · (first | omega | (simp; done) | (simp; omega))) | (with_reducible refine Below.drew ?_) | (with_reducible refine b_drewN ?_) | ((with_reducible refine b_call (by assumption) ?_ ?_); · (first | omega | (simp; done) | (simp; omega))))); done)) (hb3.mono (by (try simp) <;> omega)); have g1 := (Whl.new (w := w.alloc (.cells #[.int .i64 5, .int .i64 c.zo, .int .i64 z.ep, .int .i64 c.mv, .string c.ky] 47)) (t := 39) (cs := #[.int .i64 z.id, .string z.fr, .string z.tt, .int .i64 z.ow, .int .i64 z.ep, .int .i64 3, .int .i64 z.mv, .string z.ky, .int .i64 z.nw]) (n := w.heap.size + 1) (by (try simp) <;> omega)).below hb3 (by (try simp) <;> omega); have z4 := g1.cell 4; simp only [List.getElem?_toArray, List.getElem?_cons_succ, List.getElem?_cons_zero] at z4; have hng : w.heap.size + 1 ≠ gz := (by omega); have hgn : gz ≠ w.heap.size + 1 := (by omega); have HD3 := Lib.hid (HD.out.below hbw); obtain ⟨y0, y1, y2, y3, y4, y5, y6, y7, y8⟩ := rowZ_at HD3.out.row hi; have yf := fun k => HD3.out.row.frozenAt k; have HBW := Lib.hid hbw; clear hb3 g1 hbw))
    | fail)
  have hS1 := HD3.out.putZ hi ⟨z.id, z.fr, z.tt, z.ow, z.ep, 0, 0, ⟨#[]⟩, 0⟩
  have hS2 := hS1.setcell (j := i) (by simpa using hi) (k := 4) (by decide) (z := settled z (z.ep + 1)) (v := .int .i64 (z.ep + 1)) (by simp [znV, settled])
  simp only [List.set_set] at hS2
  have hT1 := putZ_touch w3 gz i ⟨z.id, z.fr, z.tt, z.ow, z.ep, 0, 0, ⟨#[]⟩, 0⟩
  have hT2 : Touch (fun k => k = gz) w3 ((putZ w3 gz i ⟨z.id, z.fr, z.tt, z.ow, z.ep, 0, 0, ⟨#[]⟩, 0⟩).setCell ⟨gz, i * 9 + 4, none⟩ (.int .i64 (z.ep + 1))) := hT1.set (fun _ => rfl)
  refine bodyPost_ret (v := .bool true) (by simp [results, Try.results43, go_sem]) rfl (.inl ⟨_, .slice (some ⟨gz, 0, none⟩) m.zs.length cc, HDEED.out, rfl, hS2, ((Touch.of_below HBW.out).mono'' (fun k h1 h2 => by omega)).trans hT2 (fun n _ h => .inr (by rw [h]; rfl)), fun k hk => .inl hk⟩)
end Go.Proofs.Ytbohpjinkdffhaa
