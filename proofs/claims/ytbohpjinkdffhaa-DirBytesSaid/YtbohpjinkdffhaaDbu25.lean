/- The document's directory, of any maps: zone, May. -/
import Derived.Test.YtbohpjinkdffhaaProg
import Derived.WalkKit
import Derived.WalkSpells
import Derived.WalkLawsBesides
import Derived.Deep.QuietTactic
import Derived.BigQuiet
import Derived.RegionTactic
import Derived.BigRegion
import Derived.Outline
import Derived.LoopTactic
import Derived.Lib.Hide
import Derived.Deep.RegionHeld3
import GoSem.Op.String
import Derived.Lib.Strings
import Derived.Laws.AppendOwnNone
import Derived.Deep.AppendLies
import Derived.Maps.AppendAt
import Derived.Laws.Rows
import Derived.Deep.Cut
import Derived.StillTailTactics
import Derived.Laws.IdiomCopy
import Derived.Lib.AppendZerosOnto
import Derived.Lib.Overlaps
import Derived.Lib.ReflectliteSwap
import Derived.Deep.RegionLaw
import Derived.Deep.DeepCutAuto
import Derived.Laws.EntriesVeiled
import Derived.Lib.SliceRun
import Derived.Deep.Light
import Derived.Test.YtbohpjinkdffhaaDbu0
import Derived.Test.YtbohpjinkdffhaaDbu3
import Derived.Test.YtbohpjinkdffhaaDbu6
import Derived.Test.YtbohpjinkdffhaaDbu7
import Derived.Test.YtbohpjinkdffhaaDbu9
import Derived.Test.YtbohpjinkdffhaaDbu10
import Derived.Test.YtbohpjinkdffhaaDbu11
import Derived.Test.YtbohpjinkdffhaaDbu12
import Derived.Test.YtbohpjinkdffhaaDbu13
import Derived.Test.YtbohpjinkdffhaaDbu14
import Derived.Test.YtbohpjinkdffhaaDbu15
import Derived.Test.YtbohpjinkdffhaaDbu16
import Derived.Test.YtbohpjinkdffhaaDbu17
import Derived.Test.YtbohpjinkdffhaaDbu18
import Derived.Test.YtbohpjinkdffhaaDbu19
import Derived.Test.YtbohpjinkdffhaaDbu20
import Derived.Test.YtbohpjinkdffhaaDbu21
import Derived.Test.YtbohpjinkdffhaaDbu22
import Derived.Test.YtbohpjinkdffhaaDbu24
namespace Go.Proofs.Ytbohpjinkdffhaa
open Go.RowKit
set_option linter.unusedVariables false
set_option linter.unusedSimpArgs false
set_option maxHeartbeats 8000000 in
set_option maxRecDepth 10000 in
theorem rdZoneX (B i : Nat) (zv : Value) (m : Mp) (w : World) (h : w.ownsRow B 39 9 zv m.zs.length (flatZ m.zs)) (hl : m.zs.length ≤ 1000) (hi : i < m.zs.length) {b : Bool} (hb : b = true ↔ ZP m i hi) :
    Calls Try.prog 59 #[.agg #[.int .i64 m.ver, .int .i64 m.nxt, zv], .int .i64 i] w fun e w' => e = .returned (.bool b) ∧ Below w.heap.size w w' := by
  have HR := Lib.hid h
  have HNB : Hid (¬ ZP m i hi → b = false) := Lib.hid (no_of hb)
  have HYB : Hid (ZP m i hi → b = true) := Lib.hid hb.2
  have HBB := Lib.hid hb
  obtain ⟨gz, cc, hzv, _, hgz, hnc, hcm⟩ := own_form h (by omega)
  subst hzv
  have q3 : (i : Int) < (m.zs.length : Int) := by omega
  obtain ⟨z, hz⟩ : ∃ z, z = m.zs[i] := ⟨_, rfl⟩
  obtain ⟨v0, v1, v2, v3, v4, v5, v6, v7, v8⟩ := rowZ_at h hi
  rw [← hz] at v0 v1 v2 v3 v4 v5 v6 v7 v8
  have HZ := Lib.hid hz
  have hii : ((i : Int) != (i : Int)) = false := by simp
  clear h hz hb
  by_cases c1 : z.id < 1
  case pos =>
    have C1 := Lib.hid c1
    go_enter Try.func59, Try.ntmps59
    go_wp2_with (first
      | fail)
    go_ret
    exact ⟨ret_bool (HNB.out (fun h => by (have h1 := h.lo; rw [← HZ.out] at h1; have := C1.out; omega))).symm, by ((repeat (first | (with_reducible exact Below.refl _ _) | (with_reducible assumption) | ((with_reducible refine b_set ?_ ?_); · (first | omega | (simp; done) | (simp; omega))) | ((with_reducible refine b_alloc ?_ ?_); · (first | omega | (simp; done) | (simp; omega))) | (with_reducible refine Below.drew ?_) | (with_reducible refine b_drewN ?_) | ((with_reducible refine b_call (by assumption) ?_ ?_); · (first | omega | (simp; done) | (simp; omega))))); done)⟩
  by_cases c2 : m.nxt ≤ z.id
  case pos =>
    have C2 := Lib.hid c2
    go_enter Try.func59, Try.ntmps59
    go_wp2_with (first
      | fail)
    go_ret
    exact ⟨ret_bool (HNB.out (fun h => by (have h1 := h.hi; rw [← HZ.out] at h1; have := C2.out; omega))).symm, by ((repeat (first | (with_reducible exact Below.refl _ _) | (with_reducible assumption) | ((with_reducible refine b_set ?_ ?_); · (first | omega | (simp; done) | (simp; omega))) | ((with_reducible refine b_alloc ?_ ?_); · (first | omega | (simp; done) | (simp; omega))) | (with_reducible refine Below.drew ?_) | (with_reducible refine b_drewN ?_) | ((with_reducible refine b_call (by assumption) ?_ ?_); · (first | omega | (simp; done) | (simp; omega))))); done)⟩
  have C1 := Lib.hid c1
  have C2 := Lib.hid c2
  by_cases c3 : ∀ j (hj : j < m.zs.length), j < i → m.zs[j].id ≠ z.id
  case neg =>
    have C3 := Lib.hid c3
    have hat : ∀ k2 : Int, At m.zs z.id m.zs.length k2 → (k2 != (i : Int)) = true := fun k2 h2 => by
      simp only [bne_iff_ne, ne_eq]
      rintro rfl
      rcases h2 with ⟨h, _⟩ | ⟨j, h, hj, hjd, hjf⟩
      · omega
      · have : j = i := by omega
        subst this
        exact C3.out hjf
    have HAT := Lib.hid hat
    clear c3 hat
    go_enter Try.func59, Try.ntmps59
    go_wp2_with (first
      | (go_at_call 40; refine (rdFind B _ m.zs z.id _ (row_belowZ HR.out (by ((repeat (first | (with_reducible exact Below.refl _ _) | (with_reducible assumption) | ((with_reducible refine b_set ?_ ?_); · (first | omega | (simp; done) | (simp; omega))) | ((with_reducible refine b_alloc ?_ ?_); · (first | omega | (simp; done) | (simp; omega))) | (with_reducible refine Below.drew ?_) | (with_reducible refine b_drewN ?_) | ((with_reducible refine b_call (by assumption) ?_ ?_); · (first | omega | (simp; done) | (simp; omega))))); done))) (by omega)).mono ?_; rintro e w4 ⟨k2, rfl, hk2, hb4⟩; have hkn := HAT.out k2 hk2; clear hk2; have HW4 := Lib.hid (Below.trans (show Below w.heap.size w _ by ((repeat (first | (with_reducible exact Below.refl _ _) | (with_reducible assumption) | ((with_reducible refine b_set ?_ ?_); · (first | omega | (simp; done) | (simp; omega))) | ((with_reducible refine b_alloc ?_ ?_); · (first | omega | (simp; done) | (simp; omega))) | (with_reducible refine Below.drew ?_) | (with_reducible refine b_drewN ?_) | ((with_reducible refine b_call (by assumption) ?_ ?_); · (first | omega | (simp; done) | (simp; omega))))); done)) (hb4.mono (by (first | omega | (simp; done) | (simp; omega))))); obtain ⟨hc4, hf4⟩ := bcell hb4; have hs4 := hb4.size; (try simp at hs4); clear hb4)
      | fail)
    go_ret
    exact ⟨ret_bool (HNB.out (fun h => C3.out (fun j hj hji => by (have := h.fst j hj hji; rw [← HZ.out] at this; exact this)))).symm, HW4.out⟩
  have C3 := Lib.hid c3
  have hat : ∀ k2 : Int, At m.zs z.id m.zs.length k2 → k2 = (i : Int) := by
    intro k2 h2
    rcases h2 with ⟨_, hno⟩ | ⟨j, rfl, hj, hjd, hjf⟩
    · exact absurd (by rw [HZ.out]) (hno i hi hi)
    · rcases Nat.lt_trichotomy j i with h | h | h
      · exact absurd hjd (C3.out j hj h)
      · rw [h]
      · exact absurd (by rw [HZ.out]) (hjf i hi h)
  have HAT := Lib.hid hat
  clear c3 hat
  by_cases d0 : z.ow < 1
  case pos =>
    have D0 := Lib.hid d0
    go_enter Try.func59, Try.ntmps59
    go_wp2_with (first
      | (go_at_call 40; refine (rdFind B _ m.zs z.id _ (row_belowZ HR.out (by ((repeat (first | (with_reducible exact Below.refl _ _) | (with_reducible assumption) | ((with_reducible refine b_set ?_ ?_); · (first | omega | (simp; done) | (simp; omega))) | ((with_reducible refine b_alloc ?_ ?_); · (first | omega | (simp; done) | (simp; omega))) | (with_reducible refine Below.drew ?_) | (with_reducible refine b_drewN ?_) | ((with_reducible refine b_call (by assumption) ?_ ?_); · (first | omega | (simp; done) | (simp; omega))))); done))) (by omega)).mono ?_; rintro e w4 ⟨k2, rfl, hk2, hb4⟩; obtain rfl := HAT.out k2 hk2; clear hk2; have HW4 := Lib.hid (Below.trans (show Below w.heap.size w _ by ((repeat (first | (with_reducible exact Below.refl _ _) | (with_reducible assumption) | ((with_reducible refine b_set ?_ ?_); · (first | omega | (simp; done) | (simp; omega))) | ((with_reducible refine b_alloc ?_ ?_); · (first | omega | (simp; done) | (simp; omega))) | (with_reducible refine Below.drew ?_) | (with_reducible refine b_drewN ?_) | ((with_reducible refine b_call (by assumption) ?_ ?_); · (first | omega | (simp; done) | (simp; omega))))); done)) (hb4.mono (by (first | omega | (simp; done) | (simp; omega))))); obtain ⟨hc4, hf4⟩ := bcell hb4; have hs4 := hb4.size; (try simp at hs4); clear hb4)
      | fail)
    go_ret
    exact ⟨ret_bool (HNB.out (fun h => by (have h1 := h.ow1; rw [← HZ.out] at h1; have := D0.out; omega))).symm, HW4.out⟩
  have D0 := Lib.hid d0
  by_cases d1 : 1048576 < z.ow
  case pos =>
    have D1 := Lib.hid d1
    go_enter Try.func59, Try.ntmps59
    go_wp2_with (first
      | (go_at_call 40; refine (rdFind B _ m.zs z.id _ (row_belowZ HR.out (by ((repeat (first | (with_reducible exact Below.refl _ _) | (with_reducible assumption) | ((with_reducible refine b_set ?_ ?_); · (first | omega | (simp; done) | (simp; omega))) | ((with_reducible refine b_alloc ?_ ?_); · (first | omega | (simp; done) | (simp; omega))) | (with_reducible refine Below.drew ?_) | (with_reducible refine b_drewN ?_) | ((with_reducible refine b_call (by assumption) ?_ ?_); · (first | omega | (simp; done) | (simp; omega))))); done))) (by omega)).mono ?_; rintro e w4 ⟨k2, rfl, hk2, hb4⟩; obtain rfl := HAT.out k2 hk2; clear hk2; have HW4 := Lib.hid (Below.trans (show Below w.heap.size w _ by ((repeat (first | (with_reducible exact Below.refl _ _) | (with_reducible assumption) | ((with_reducible refine b_set ?_ ?_); · (first | omega | (simp; done) | (simp; omega))) | ((with_reducible refine b_alloc ?_ ?_); · (first | omega | (simp; done) | (simp; omega))) | (with_reducible refine Below.drew ?_) | (with_reducible refine b_drewN ?_) | ((with_reducible refine b_call (by assumption) ?_ ?_); · (first | omega | (simp; done) | (simp; omega))))); done)) (hb4.mono (by (first | omega | (simp; done) | (simp; omega))))); obtain ⟨hc4, hf4⟩ := bcell hb4; have hs4 := hb4.size; (try simp at hs4); clear hb4)
      | fail)
    go_ret
    exact ⟨ret_bool (HNB.out (fun h => by (have h1 := h.ow2; rw [← HZ.out] at h1; have := D1.out; omega))).symm, HW4.out⟩
  have D1 := Lib.hid d1
  by_cases d2 : z.ep < 1
  case pos =>
    have D2 := Lib.hid d2
    go_enter Try.func59, Try.ntmps59
    go_wp2_with (first
      | (go_at_call 40; refine (rdFind B _ m.zs z.id _ (row_belowZ HR.out (by ((repeat (first | (with_reducible exact Below.refl _ _) | (with_reducible assumption) | ((with_reducible refine b_set ?_ ?_); · (first | omega | (simp; done) | (simp; omega))) | ((with_reducible refine b_alloc ?_ ?_); · (first | omega | (simp; done) | (simp; omega))) | (with_reducible refine Below.drew ?_) | (with_reducible refine b_drewN ?_) | ((with_reducible refine b_call (by assumption) ?_ ?_); · (first | omega | (simp; done) | (simp; omega))))); done))) (by omega)).mono ?_; rintro e w4 ⟨k2, rfl, hk2, hb4⟩; obtain rfl := HAT.out k2 hk2; clear hk2; have HW4 := Lib.hid (Below.trans (show Below w.heap.size w _ by ((repeat (first | (with_reducible exact Below.refl _ _) | (with_reducible assumption) | ((with_reducible refine b_set ?_ ?_); · (first | omega | (simp; done) | (simp; omega))) | ((with_reducible refine b_alloc ?_ ?_); · (first | omega | (simp; done) | (simp; omega))) | (with_reducible refine Below.drew ?_) | (with_reducible refine b_drewN ?_) | ((with_reducible refine b_call (by assumption) ?_ ?_); · (first | omega | (simp; done) | (simp; omega))))); done)) (hb4.mono (by (first | omega | (simp; done) | (simp; omega))))); obtain ⟨hc4, hf4⟩ := bcell hb4; have hs4 := hb4.size; (try simp at hs4); clear hb4)
      | fail)
    go_ret
    exact ⟨ret_bool (HNB.out (fun h => by (have h1 := h.ep1; rw [← HZ.out] at h1; have := D2.out; omega))).symm, HW4.out⟩
  have D2 := Lib.hid d2
  by_cases d3 : 1099511627776 < z.ep
  case pos =>
    have D3 := Lib.hid d3
    go_enter Try.func59, Try.ntmps59
    go_wp2_with (first
      | (go_at_call 40; refine (rdFind B _ m.zs z.id _ (row_belowZ HR.out (by ((repeat (first | (with_reducible exact Below.refl _ _) | (with_reducible assumption) | ((with_reducible refine b_set ?_ ?_); · (first | omega | (simp; done) | (simp; omega))) | ((with_reducible refine b_alloc ?_ ?_); · (first | omega | (simp; done) | (simp; omega))) | (with_reducible refine Below.drew ?_) | (with_reducible refine b_drewN ?_) | ((with_reducible refine b_call (by assumption) ?_ ?_); · (first | omega | (simp; done) | (simp; omega))))); done))) (by omega)).mono ?_; rintro e w4 ⟨k2, rfl, hk2, hb4⟩; obtain rfl := HAT.out k2 hk2; clear hk2; have HW4 := Lib.hid (Below.trans (show Below w.heap.size w _ by ((repeat (first | (with_reducible exact Below.refl _ _) | (with_reducible assumption) | ((with_reducible refine b_set ?_ ?_); · (first | omega | (simp; done) | (simp; omega))) | ((with_reducible refine b_alloc ?_ ?_); · (first | omega | (simp; done) | (simp; omega))) | (with_reducible refine Below.drew ?_) | (with_reducible refine b_drewN ?_) | ((with_reducible refine b_call (by assumption) ?_ ?_); · (first | omega | (simp; done) | (simp; omega))))); done)) (hb4.mono (by (first | omega | (simp; done) | (simp; omega))))); obtain ⟨hc4, hf4⟩ := bcell hb4; have hs4 := hb4.size; (try simp at hs4); clear hb4)
      | fail)
    go_ret
    exact ⟨ret_bool (HNB.out (fun h => by (have h1 := h.ep2; rw [← HZ.out] at h1; have := D3.out; omega))).symm, HW4.out⟩
  have D3 := Lib.hid d3
  by_cases p0 : z.pd = 0
  case pos =>
    have HP := Lib.hid p0
    rw [p0] at v5
    clear p0
    by_cases s0 : z.mv = 0
    case neg =>
      have S0 := Lib.hid s0
      have f := (show (z.mv == 0) = false by simpa using s0)
      clear s0
      go_enter Try.func59, Try.ntmps59
      go_wp2_with (first
        | (go_at_call 40; refine (rdFind B _ m.zs z.id _ (row_belowZ HR.out (by ((repeat (first | (with_reducible exact Below.refl _ _) | (with_reducible assumption) | ((with_reducible refine b_set ?_ ?_); · (first | omega | (simp; done) | (simp; omega))) | ((with_reducible refine b_alloc ?_ ?_); · (first | omega | (simp; done) | (simp; omega))) | (with_reducible refine Below.drew ?_) | (with_reducible refine b_drewN ?_) | ((with_reducible refine b_call (by assumption) ?_ ?_); · (first | omega | (simp; done) | (simp; omega))))); done))) (by omega)).mono ?_; rintro e w4 ⟨k2, rfl, hk2, hb4⟩; obtain rfl := HAT.out k2 hk2; clear hk2; have HW4 := Lib.hid (Below.trans (show Below w.heap.size w _ by ((repeat (first | (with_reducible exact Below.refl _ _) | (with_reducible assumption) | ((with_reducible refine b_set ?_ ?_); · (first | omega | (simp; done) | (simp; omega))) | ((with_reducible refine b_alloc ?_ ?_); · (first | omega | (simp; done) | (simp; omega))) | (with_reducible refine Below.drew ?_) | (with_reducible refine b_drewN ?_) | ((with_reducible refine b_call (by assumption) ?_ ?_); · (first | omega | (simp; done) | (simp; omega))))); done)) (hb4.mono (by (first | omega | (simp; done) | (simp; omega))))); obtain ⟨hc4, hf4⟩ := bcell hb4; have hs4 := hb4.size; (try simp at hs4); clear hb4)
        | fail)
      go_ret
      exact ⟨ret_bool (HNB.out (fun h => by (have hst := h.st; rw [← HZ.out] at hst; have p := HP.out; rcases hst with ⟨e, hs⟩ | ⟨e, hs⟩ | ⟨e, hs⟩ | ⟨e, hs⟩ <;> first | omega | (exact S0.out hs.1)))).symm, HW4.out⟩
    have S0 := Lib.hid s0
    rw [s0] at v6
    clear s0
    by_cases s1 : z.ky.size = 0
    case neg =>
      have S1 := Lib.hid s1
      obtain ⟨n1, n2, n3, n4⟩ := nil_beq s1
      clear s1
      go_enter Try.func59, Try.ntmps59
      go_wp2_with (first
        | (go_at_call 40; refine (rdFind B _ m.zs z.id _ (row_belowZ HR.out (by ((repeat (first | (with_reducible exact Below.refl _ _) | (with_reducible assumption) | ((with_reducible refine b_set ?_ ?_); · (first | omega | (simp; done) | (simp; omega))) | ((with_reducible refine b_alloc ?_ ?_); · (first | omega | (simp; done) | (simp; omega))) | (with_reducible refine Below.drew ?_) | (with_reducible refine b_drewN ?_) | ((with_reducible refine b_call (by assumption) ?_ ?_); · (first | omega | (simp; done) | (simp; omega))))); done))) (by omega)).mono ?_; rintro e w4 ⟨k2, rfl, hk2, hb4⟩; obtain rfl := HAT.out k2 hk2; clear hk2; have HW4 := Lib.hid (Below.trans (show Below w.heap.size w _ by ((repeat (first | (with_reducible exact Below.refl _ _) | (with_reducible assumption) | ((with_reducible refine b_set ?_ ?_); · (first | omega | (simp; done) | (simp; omega))) | ((with_reducible refine b_alloc ?_ ?_); · (first | omega | (simp; done) | (simp; omega))) | (with_reducible refine Below.drew ?_) | (with_reducible refine b_drewN ?_) | ((with_reducible refine b_call (by assumption) ?_ ?_); · (first | omega | (simp; done) | (simp; omega))))); done)) (hb4.mono (by (first | omega | (simp; done) | (simp; omega))))); obtain ⟨hc4, hf4⟩ := bcell hb4; have hs4 := hb4.size; (try simp at hs4); clear hb4)
        | fail)
      go_ret
      exact ⟨ret_bool (HNB.out (fun h => by (have hst := h.st; rw [← HZ.out] at hst; have p := HP.out; rcases hst with ⟨e, hs⟩ | ⟨e, hs⟩ | ⟨e, hs⟩ | ⟨e, hs⟩ <;> first | omega | (exact S1.out hs.2.1)))).symm, HW4.out⟩
    have S1 := Lib.hid s1
    rw [nil_size.1 s1] at v7
    clear s1
    by_cases s2 : z.nw = 0
    case neg =>
      have S2 := Lib.hid s2
      have f := (show (z.nw == 0) = false by simpa using s2)
      clear s2
      go_enter Try.func59, Try.ntmps59
      go_wp2_with (first
        | (go_at_call 40; refine (rdFind B _ m.zs z.id _ (row_belowZ HR.out (by ((repeat (first | (with_reducible exact Below.refl _ _) | (with_reducible assumption) | ((with_reducible refine b_set ?_ ?_); · (first | omega | (simp; done) | (simp; omega))) | ((with_reducible refine b_alloc ?_ ?_); · (first | omega | (simp; done) | (simp; omega))) | (with_reducible refine Below.drew ?_) | (with_reducible refine b_drewN ?_) | ((with_reducible refine b_call (by assumption) ?_ ?_); · (first | omega | (simp; done) | (simp; omega))))); done))) (by omega)).mono ?_; rintro e w4 ⟨k2, rfl, hk2, hb4⟩; obtain rfl := HAT.out k2 hk2; clear hk2; have HW4 := Lib.hid (Below.trans (show Below w.heap.size w _ by ((repeat (first | (with_reducible exact Below.refl _ _) | (with_reducible assumption) | ((with_reducible refine b_set ?_ ?_); · (first | omega | (simp; done) | (simp; omega))) | ((with_reducible refine b_alloc ?_ ?_); · (first | omega | (simp; done) | (simp; omega))) | (with_reducible refine Below.drew ?_) | (with_reducible refine b_drewN ?_) | ((with_reducible refine b_call (by assumption) ?_ ?_); · (first | omega | (simp; done) | (simp; omega))))); done)) (hb4.mono (by (first | omega | (simp; done) | (simp; omega))))); obtain ⟨hc4, hf4⟩ := bcell hb4; have hs4 := hb4.size; (try simp at hs4); clear hb4)
        | fail)
      go_ret
      exact ⟨ret_bool (HNB.out (fun h => by (have hst := h.st; rw [← HZ.out] at hst; have p := HP.out; rcases hst with ⟨e, hs⟩ | ⟨e, hs⟩ | ⟨e, hs⟩ | ⟨e, hs⟩ <;> first | omega | (exact S2.out hs.2.2)))).symm, HW4.out⟩
    have S2 := Lib.hid s2
    rw [s2] at v8
    clear s2
    go_enter Try.func59, Try.ntmps59
    go_wp2_with (first
      | (go_at_call 40; refine (rdFind B _ m.zs z.id _ (row_belowZ HR.out (by ((repeat (first | (with_reducible exact Below.refl _ _) | (with_reducible assumption) | ((with_reducible refine b_set ?_ ?_); · (first | omega | (simp; done) | (simp; omega))) | ((with_reducible refine b_alloc ?_ ?_); · (first | omega | (simp; done) | (simp; omega))) | (with_reducible refine Below.drew ?_) | (with_reducible refine b_drewN ?_) | ((with_reducible refine b_call (by assumption) ?_ ?_); · (first | omega | (simp; done) | (simp; omega))))); done))) (by omega)).mono ?_; rintro e w4 ⟨k2, rfl, hk2, hb4⟩; obtain rfl := HAT.out k2 hk2; clear hk2; have HW4 := Lib.hid (Below.trans (show Below w.heap.size w _ by ((repeat (first | (with_reducible exact Below.refl _ _) | (with_reducible assumption) | ((with_reducible refine b_set ?_ ?_); · (first | omega | (simp; done) | (simp; omega))) | ((with_reducible refine b_alloc ?_ ?_); · (first | omega | (simp; done) | (simp; omega))) | (with_reducible refine Below.drew ?_) | (with_reducible refine b_drewN ?_) | ((with_reducible refine b_call (by assumption) ?_ ?_); · (first | omega | (simp; done) | (simp; omega))))); done)) (hb4.mono (by (first | omega | (simp; done) | (simp; omega))))); obtain ⟨hc4, hf4⟩ := bcell hb4; have hs4 := hb4.size; (try simp at hs4); clear hb4)
      | fail)
    go_ret
    exact ⟨ret_bool (HYB.out (⟨by rw [← HZ.out]; (have := C1.out; omega), by rw [← HZ.out]; (have := C2.out; omega), fun j hj hji => by rw [← HZ.out]; exact C3.out j hj hji, by rw [← HZ.out]; (have := D0.out; omega), by rw [← HZ.out]; (have := D1.out; omega), by rw [← HZ.out]; (have := D2.out; omega), by rw [← HZ.out]; (have := D3.out; omega), .inl (by rw [← HZ.out]; exact ⟨HP.out, S0.out, S1.out, S2.out⟩)⟩)).symm, HW4.out⟩
  have g0 : (z.pd == 0) = false := by simpa using p0
  by_cases p3 : z.pd = 3
  case pos =>
    have HP := Lib.hid p3
    rw [p3] at v5
    clear p0 p3 g0
    by_cases s0 : z.mv < 1
    case pos =>
      have S0 := Lib.hid s0
      have f := S0.out
      clear s0
      go_enter Try.func59, Try.ntmps59
      go_wp2_with (first
        | (go_at_call 40; refine (rdFind B _ m.zs z.id _ (row_belowZ HR.out (by ((repeat (first | (with_reducible exact Below.refl _ _) | (with_reducible assumption) | ((with_reducible refine b_set ?_ ?_); · (first | omega | (simp; done) | (simp; omega))) | ((with_reducible refine b_alloc ?_ ?_); · (first | omega | (simp; done) | (simp; omega))) | (with_reducible refine Below.drew ?_) | (with_reducible refine b_drewN ?_) | ((with_reducible refine b_call (by assumption) ?_ ?_); · (first | omega | (simp; done) | (simp; omega))))); done))) (by omega)).mono ?_; rintro e w4 ⟨k2, rfl, hk2, hb4⟩; obtain rfl := HAT.out k2 hk2; clear hk2; have HW4 := Lib.hid (Below.trans (show Below w.heap.size w _ by ((repeat (first | (with_reducible exact Below.refl _ _) | (with_reducible assumption) | ((with_reducible refine b_set ?_ ?_); · (first | omega | (simp; done) | (simp; omega))) | ((with_reducible refine b_alloc ?_ ?_); · (first | omega | (simp; done) | (simp; omega))) | (with_reducible refine Below.drew ?_) | (with_reducible refine b_drewN ?_) | ((with_reducible refine b_call (by assumption) ?_ ?_); · (first | omega | (simp; done) | (simp; omega))))); done)) (hb4.mono (by (first | omega | (simp; done) | (simp; omega))))); obtain ⟨hc4, hf4⟩ := bcell hb4; have hs4 := hb4.size; (try simp at hs4); clear hb4)
        | fail)
      go_ret
      exact ⟨ret_bool (HNB.out (fun h => by (have hst := h.st; rw [← HZ.out] at hst; have p := HP.out; rcases hst with ⟨e, hs⟩ | ⟨e, hs⟩ | ⟨e, hs⟩ | ⟨e, hs⟩ <;> first | omega | (have := S0.out; have := hs.1; omega)))).symm, HW4.out⟩
    have S0 := Lib.hid s0
    have f0 := S0.out
    clear s0
    by_cases s1 : 1048576 < z.mv
    case pos =>
      have S1 := Lib.hid s1
      have f := S1.out
      clear s1
      go_enter Try.func59, Try.ntmps59
      go_wp2_with (first
        | (go_at_call 40; refine (rdFind B _ m.zs z.id _ (row_belowZ HR.out (by ((repeat (first | (with_reducible exact Below.refl _ _) | (with_reducible assumption) | ((with_reducible refine b_set ?_ ?_); · (first | omega | (simp; done) | (simp; omega))) | ((with_reducible refine b_alloc ?_ ?_); · (first | omega | (simp; done) | (simp; omega))) | (with_reducible refine Below.drew ?_) | (with_reducible refine b_drewN ?_) | ((with_reducible refine b_call (by assumption) ?_ ?_); · (first | omega | (simp; done) | (simp; omega))))); done))) (by omega)).mono ?_; rintro e w4 ⟨k2, rfl, hk2, hb4⟩; obtain rfl := HAT.out k2 hk2; clear hk2; have HW4 := Lib.hid (Below.trans (show Below w.heap.size w _ by ((repeat (first | (with_reducible exact Below.refl _ _) | (with_reducible assumption) | ((with_reducible refine b_set ?_ ?_); · (first | omega | (simp; done) | (simp; omega))) | ((with_reducible refine b_alloc ?_ ?_); · (first | omega | (simp; done) | (simp; omega))) | (with_reducible refine Below.drew ?_) | (with_reducible refine b_drewN ?_) | ((with_reducible refine b_call (by assumption) ?_ ?_); · (first | omega | (simp; done) | (simp; omega))))); done)) (hb4.mono (by (first | omega | (simp; done) | (simp; omega))))); obtain ⟨hc4, hf4⟩ := bcell hb4; have hs4 := hb4.size; (try simp at hs4); clear hb4)
        | fail)
      go_ret
      exact ⟨ret_bool (HNB.out (fun h => by (have hst := h.st; rw [← HZ.out] at hst; have p := HP.out; rcases hst with ⟨e, hs⟩ | ⟨e, hs⟩ | ⟨e, hs⟩ | ⟨e, hs⟩ <;> first | omega | (have := S1.out; have := hs.2.1; omega)))).symm, HW4.out⟩
    have S1 := Lib.hid s1
    have f1 := S1.out
    clear s1
    by_cases s2 : z.mv = z.ow
    case pos =>
      have S2 := Lib.hid s2
      have f := (show (z.mv != z.ow) = false by simpa using s2)
      clear s2
      go_enter Try.func59, Try.ntmps59
      go_wp2_with (first
        | (go_at_call 40; refine (rdFind B _ m.zs z.id _ (row_belowZ HR.out (by ((repeat (first | (with_reducible exact Below.refl _ _) | (with_reducible assumption) | ((with_reducible refine b_set ?_ ?_); · (first | omega | (simp; done) | (simp; omega))) | ((with_reducible refine b_alloc ?_ ?_); · (first | omega | (simp; done) | (simp; omega))) | (with_reducible refine Below.drew ?_) | (with_reducible refine b_drewN ?_) | ((with_reducible refine b_call (by assumption) ?_ ?_); · (first | omega | (simp; done) | (simp; omega))))); done))) (by omega)).mono ?_; rintro e w4 ⟨k2, rfl, hk2, hb4⟩; obtain rfl := HAT.out k2 hk2; clear hk2; have HW4 := Lib.hid (Below.trans (show Below w.heap.size w _ by ((repeat (first | (with_reducible exact Below.refl _ _) | (with_reducible assumption) | ((with_reducible refine b_set ?_ ?_); · (first | omega | (simp; done) | (simp; omega))) | ((with_reducible refine b_alloc ?_ ?_); · (first | omega | (simp; done) | (simp; omega))) | (with_reducible refine Below.drew ?_) | (with_reducible refine b_drewN ?_) | ((with_reducible refine b_call (by assumption) ?_ ?_); · (first | omega | (simp; done) | (simp; omega))))); done)) (hb4.mono (by (first | omega | (simp; done) | (simp; omega))))); obtain ⟨hc4, hf4⟩ := bcell hb4; have hs4 := hb4.size; (try simp at hs4); clear hb4)
        | fail)
      go_ret
      exact ⟨ret_bool (HNB.out (fun h => by (have hst := h.st; rw [← HZ.out] at hst; have p := HP.out; rcases hst with ⟨e, hs⟩ | ⟨e, hs⟩ | ⟨e, hs⟩ | ⟨e, hs⟩ <;> first | omega | (exact hs.2.2.1 S2.out)))).symm, HW4.out⟩
    have S2 := Lib.hid s2
    have f2 := (show (z.mv != z.ow) = true by simpa using s2)
    clear s2
    by_cases s3 : z.ky.size = 0
    case neg =>
      have S3 := Lib.hid s3
      obtain ⟨n1, n2, n3, n4⟩ := nil_beq s3
      clear s3
      go_enter Try.func59, Try.ntmps59
      go_wp2_with (first
        | (go_at_call 40; refine (rdFind B _ m.zs z.id _ (row_belowZ HR.out (by ((repeat (first | (with_reducible exact Below.refl _ _) | (with_reducible assumption) | ((with_reducible refine b_set ?_ ?_); · (first | omega | (simp; done) | (simp; omega))) | ((with_reducible refine b_alloc ?_ ?_); · (first | omega | (simp; done) | (simp; omega))) | (with_reducible refine Below.drew ?_) | (with_reducible refine b_drewN ?_) | ((with_reducible refine b_call (by assumption) ?_ ?_); · (first | omega | (simp; done) | (simp; omega))))); done))) (by omega)).mono ?_; rintro e w4 ⟨k2, rfl, hk2, hb4⟩; obtain rfl := HAT.out k2 hk2; clear hk2; have HW4 := Lib.hid (Below.trans (show Below w.heap.size w _ by ((repeat (first | (with_reducible exact Below.refl _ _) | (with_reducible assumption) | ((with_reducible refine b_set ?_ ?_); · (first | omega | (simp; done) | (simp; omega))) | ((with_reducible refine b_alloc ?_ ?_); · (first | omega | (simp; done) | (simp; omega))) | (with_reducible refine Below.drew ?_) | (with_reducible refine b_drewN ?_) | ((with_reducible refine b_call (by assumption) ?_ ?_); · (first | omega | (simp; done) | (simp; omega))))); done)) (hb4.mono (by (first | omega | (simp; done) | (simp; omega))))); obtain ⟨hc4, hf4⟩ := bcell hb4; have hs4 := hb4.size; (try simp at hs4); clear hb4)
        | fail)
      go_ret
      exact ⟨ret_bool (HNB.out (fun h => by (have hst := h.st; rw [← HZ.out] at hst; have p := HP.out; rcases hst with ⟨e, hs⟩ | ⟨e, hs⟩ | ⟨e, hs⟩ | ⟨e, hs⟩ <;> first | omega | (exact S3.out hs.2.2.2.1)))).symm, HW4.out⟩
    have S3 := Lib.hid s3
    rw [nil_size.1 s3] at v7
    clear s3
    by_cases s4 : z.nw = 0
    case neg =>
      have S4 := Lib.hid s4
      have f := (show (z.nw == 0) = false by simpa using s4)
      clear s4
      go_enter Try.func59, Try.ntmps59
      go_wp2_with (first
        | (go_at_call 40; refine (rdFind B _ m.zs z.id _ (row_belowZ HR.out (by ((repeat (first | (with_reducible exact Below.refl _ _) | (with_reducible assumption) | ((with_reducible refine b_set ?_ ?_); · (first | omega | (simp; done) | (simp; omega))) | ((with_reducible refine b_alloc ?_ ?_); · (first | omega | (simp; done) | (simp; omega))) | (with_reducible refine Below.drew ?_) | (with_reducible refine b_drewN ?_) | ((with_reducible refine b_call (by assumption) ?_ ?_); · (first | omega | (simp; done) | (simp; omega))))); done))) (by omega)).mono ?_; rintro e w4 ⟨k2, rfl, hk2, hb4⟩; obtain rfl := HAT.out k2 hk2; clear hk2; have HW4 := Lib.hid (Below.trans (show Below w.heap.size w _ by ((repeat (first | (with_reducible exact Below.refl _ _) | (with_reducible assumption) | ((with_reducible refine b_set ?_ ?_); · (first | omega | (simp; done) | (simp; omega))) | ((with_reducible refine b_alloc ?_ ?_); · (first | omega | (simp; done) | (simp; omega))) | (with_reducible refine Below.drew ?_) | (with_reducible refine b_drewN ?_) | ((with_reducible refine b_call (by assumption) ?_ ?_); · (first | omega | (simp; done) | (simp; omega))))); done)) (hb4.mono (by (first | omega | (simp; done) | (simp; omega))))); obtain ⟨hc4, hf4⟩ := bcell hb4; have hs4 := hb4.size; (try simp at hs4); clear hb4)
        | fail)
      go_ret
      exact ⟨ret_bool (HNB.out (fun h => by (have hst := h.st; rw [← HZ.out] at hst; have p := HP.out; rcases hst with ⟨e, hs⟩ | ⟨e, hs⟩ | ⟨e, hs⟩ | ⟨e, hs⟩ <;> first | omega | (exact S4.out hs.2.2.2.2)))).symm, HW4.out⟩
    have S4 := Lib.hid s4
    rw [s4] at v8
    clear s4
    go_enter Try.func59, Try.ntmps59
    go_wp2_with (first
      | (go_at_call 40; refine (rdFind B _ m.zs z.id _ (row_belowZ HR.out (by ((repeat (first | (with_reducible exact Below.refl _ _) | (with_reducible assumption) | ((with_reducible refine b_set ?_ ?_); · (first | omega | (simp; done) | (simp; omega))) | ((with_reducible refine b_alloc ?_ ?_); · (first | omega | (simp; done) | (simp; omega))) | (with_reducible refine Below.drew ?_) | (with_reducible refine b_drewN ?_) | ((with_reducible refine b_call (by assumption) ?_ ?_); · (first | omega | (simp; done) | (simp; omega))))); done))) (by omega)).mono ?_; rintro e w4 ⟨k2, rfl, hk2, hb4⟩; obtain rfl := HAT.out k2 hk2; clear hk2; have HW4 := Lib.hid (Below.trans (show Below w.heap.size w _ by ((repeat (first | (with_reducible exact Below.refl _ _) | (with_reducible assumption) | ((with_reducible refine b_set ?_ ?_); · (first | omega | (simp; done) | (simp; omega))) | ((with_reducible refine b_alloc ?_ ?_); · (first | omega | (simp; done) | (simp; omega))) | (with_reducible refine Below.drew ?_) | (with_reducible refine b_drewN ?_) | ((with_reducible refine b_call (by assumption) ?_ ?_); · (first | omega | (simp; done) | (simp; omega))))); done)) (hb4.mono (by (first | omega | (simp; done) | (simp; omega))))); obtain ⟨hc4, hf4⟩ := bcell hb4; have hs4 := hb4.size; (try simp at hs4); clear hb4)
      | fail)
    go_ret
    exact ⟨ret_bool (HYB.out (⟨by rw [← HZ.out]; (have := C1.out; omega), by rw [← HZ.out]; (have := C2.out; omega), fun j hj hji => by rw [← HZ.out]; exact C3.out j hj hji, by rw [← HZ.out]; (have := D0.out; omega), by rw [← HZ.out]; (have := D1.out; omega), by rw [← HZ.out]; (have := D2.out; omega), by rw [← HZ.out]; (have := D3.out; omega), .inr (.inl (by rw [← HZ.out]; exact ⟨HP.out, by (have := S0.out; omega), by (have := S1.out; omega), S2.out, S3.out, S4.out⟩))⟩)).symm, HW4.out⟩
  have g3 : (z.pd == 3) = false := by simpa using p3
  by_cases p1 : z.pd = 1
  case pos =>
    have HP := Lib.hid p1
    rw [p1] at v5
    clear p0 p3 p1 g0 g3
    have hbs : b = true ↔ SpP m i hi := ⟨fun hb => by (have hst := (HBB.out.1 hb).st; rw [← HZ.out] at hst; have p := HP.out; rcases hst with ⟨e, hs⟩ | ⟨e, hs⟩ | ⟨e, hs⟩ | ⟨e, hs⟩ <;> first | omega | exact hs), fun hs => HBB.out.2 ⟨by rw [← HZ.out]; (have := C1.out; omega), by rw [← HZ.out]; (have := C2.out; omega), fun j hj hji => by rw [← HZ.out]; exact C3.out j hj hji, by rw [← HZ.out]; (have := D0.out; omega), by rw [← HZ.out]; (have := D1.out; omega), by rw [← HZ.out]; (have := D2.out; omega), by rw [← HZ.out]; (have := D3.out; omega), .inr (.inr (.inl (by rw [← HZ.out]; exact ⟨HP.out, hs⟩)))⟩⟩
    have HSP : Hid (∀ W, Below w.heap.size w W → Calls Try.prog 87 #[.agg #[.int .i64 m.ver, .int .i64 m.nxt, .slice (some ⟨gz, 0, none⟩) m.zs.length cc], .int .i64 i] W fun e w' => e = .returned (.bool b) ∧ Below W.heap.size W w') := Lib.hid (fun W hW => rdSplitsX B i _ m W (row_belowZ HR.out hW) hl hi hbs)
    clear hbs
    go_enter Try.func59, Try.ntmps59
    go_wp2_with (first
      | (go_at_call 87; refine (HSP.out _ HW4.out).mono ?_; rintro e w5 ⟨rfl, hb5⟩; have HB5 := Lib.hid hb5; clear hb5)
      | (go_at_call 40; refine (rdFind B _ m.zs z.id _ (row_belowZ HR.out (by ((repeat (first | (with_reducible exact Below.refl _ _) | (with_reducible assumption) | ((with_reducible refine b_set ?_ ?_); · (first | omega | (simp; done) | (simp; omega))) | ((with_reducible refine b_alloc ?_ ?_); · (first | omega | (simp; done) | (simp; omega))) | (with_reducible refine Below.drew ?_) | (with_reducible refine b_drewN ?_) | ((with_reducible refine b_call (by assumption) ?_ ?_); · (first | omega | (simp; done) | (simp; omega))))); done))) (by omega)).mono ?_; rintro e w4 ⟨k2, rfl, hk2, hb4⟩; obtain rfl := HAT.out k2 hk2; clear hk2; have HW4 := Lib.hid (Below.trans (show Below w.heap.size w _ by ((repeat (first | (with_reducible exact Below.refl _ _) | (with_reducible assumption) | ((with_reducible refine b_set ?_ ?_); · (first | omega | (simp; done) | (simp; omega))) | ((with_reducible refine b_alloc ?_ ?_); · (first | omega | (simp; done) | (simp; omega))) | (with_reducible refine Below.drew ?_) | (with_reducible refine b_drewN ?_) | ((with_reducible refine b_call (by assumption) ?_ ?_); · (first | omega | (simp; done) | (simp; omega))))); done)) (hb4.mono (by (first | omega | (simp; done) | (simp; omega))))); obtain ⟨hc4, hf4⟩ := bcell hb4; have hs4 := hb4.size; (try simp at hs4); clear hb4)
      | fail)
    go_ret
    exact ⟨rfl, HW4.out.trans (HB5.out.mono HW4.out.size)⟩
  have g1 : (z.pd == 1) = false := by simpa using p1
  by_cases p2 : z.pd = 2
  case pos =>
    have HP := Lib.hid p2
    rw [p2] at v5
    clear p0 p3 p1 p2 g0 g3 g1
    have hbs : b = true ↔ MgP m.zs i hi := ⟨fun hb => by (have hst := (HBB.out.1 hb).st; rw [← HZ.out] at hst; have p := HP.out; rcases hst with ⟨e, hs⟩ | ⟨e, hs⟩ | ⟨e, hs⟩ | ⟨e, hs⟩ <;> first | omega | exact hs), fun hs => HBB.out.2 ⟨by rw [← HZ.out]; (have := C1.out; omega), by rw [← HZ.out]; (have := C2.out; omega), fun j hj hji => by rw [← HZ.out]; exact C3.out j hj hji, by rw [← HZ.out]; (have := D0.out; omega), by rw [← HZ.out]; (have := D1.out; omega), by rw [← HZ.out]; (have := D2.out; omega), by rw [← HZ.out]; (have := D3.out; omega), .inr (.inr (.inr (by rw [← HZ.out]; exact ⟨HP.out, hs⟩)))⟩⟩
    have HSP : Hid (∀ W, Below w.heap.size w W → Calls Try.prog 88 #[.slice (some ⟨gz, 0, none⟩) m.zs.length cc, .int .i64 i] W fun e w' => e = .returned (.bool b) ∧ Below W.heap.size W w') := Lib.hid (fun W hW => rdMergesX B i _ m.zs W (row_belowZ HR.out hW) hl hi hbs)
    clear hbs
    go_enter Try.func59, Try.ntmps59
    go_wp2_with (first
      | (go_at_call 88; refine (HSP.out _ HW4.out).mono ?_; rintro e w5 ⟨rfl, hb5⟩; have HB5 := Lib.hid hb5; clear hb5)
      | (go_at_call 40; refine (rdFind B _ m.zs z.id _ (row_belowZ HR.out (by ((repeat (first | (with_reducible exact Below.refl _ _) | (with_reducible assumption) | ((with_reducible refine b_set ?_ ?_); · (first | omega | (simp; done) | (simp; omega))) | ((with_reducible refine b_alloc ?_ ?_); · (first | omega | (simp; done) | (simp; omega))) | (with_reducible refine Below.drew ?_) | (with_reducible refine b_drewN ?_) | ((with_reducible refine b_call (by assumption) ?_ ?_); · (first | omega | (simp; done) | (simp; omega))))); done))) (by omega)).mono ?_; rintro e w4 ⟨k2, rfl, hk2, hb4⟩; obtain rfl := HAT.out k2 hk2; clear hk2; have HW4 := Lib.hid (Below.trans (show Below w.heap.size w _ by ((repeat (first | (with_reducible exact Below.refl _ _) | (with_reducible assumption) | ((with_reducible refine b_set ?_ ?_); · (first | omega | (simp; done) | (simp; omega))) | ((with_reducible refine b_alloc ?_ ?_); · (first | omega | (simp; done) | (simp; omega))) | (with_reducible refine Below.drew ?_) | (with_reducible refine b_drewN ?_) | ((with_reducible refine b_call (by assumption) ?_ ?_); · (first | omega | (simp; done) | (simp; omega))))); done)) (hb4.mono (by (first | omega | (simp; done) | (simp; omega))))); obtain ⟨hc4, hf4⟩ := bcell hb4; have hs4 := hb4.size; (try simp at hs4); clear hb4)
      | fail)
    go_ret
    exact ⟨rfl, HW4.out.trans (HB5.out.mono HW4.out.size)⟩
  have g2 : (z.pd == 2) = false := by simpa using p2
  have HNP : Hid (z.pd ≠ 0 ∧ z.pd ≠ 3 ∧ z.pd ≠ 1 ∧ z.pd ≠ 2) := Lib.hid ⟨p0, p3, p1, p2⟩
  clear p0 p1 p2 p3
  go_enter Try.func59, Try.ntmps59
  go_wp2_with (first
    | (go_at_call 40; refine (rdFind B _ m.zs z.id _ (row_belowZ HR.out (by ((repeat (first | (with_reducible exact Below.refl _ _) | (with_reducible assumption) | ((with_reducible refine b_set ?_ ?_); · (first | omega | (simp; done) | (simp; omega))) | ((with_reducible refine b_alloc ?_ ?_); · (first | omega | (simp; done) | (simp; omega))) | (with_reducible refine Below.drew ?_) | (with_reducible refine b_drewN ?_) | ((with_reducible refine b_call (by assumption) ?_ ?_); · (first | omega | (simp; done) | (simp; omega))))); done))) (by omega)).mono ?_; rintro e w4 ⟨k2, rfl, hk2, hb4⟩; obtain rfl := HAT.out k2 hk2; clear hk2; have HW4 := Lib.hid (Below.trans (show Below w.heap.size w _ by ((repeat (first | (with_reducible exact Below.refl _ _) | (with_reducible assumption) | ((with_reducible refine b_set ?_ ?_); · (first | omega | (simp; done) | (simp; omega))) | ((with_reducible refine b_alloc ?_ ?_); · (first | omega | (simp; done) | (simp; omega))) | (with_reducible refine Below.drew ?_) | (with_reducible refine b_drewN ?_) | ((with_reducible refine b_call (by assumption) ?_ ?_); · (first | omega | (simp; done) | (simp; omega))))); done)) (hb4.mono (by (first | omega | (simp; done) | (simp; omega))))); obtain ⟨hc4, hf4⟩ := bcell hb4; have hs4 := hb4.size; (try simp at hs4); clear hb4)
    | fail)
  go_ret
  exact ⟨ret_bool (HNB.out (fun h => by (have hst := h.st; rw [← HZ.out] at hst; have p := HNP.out; rcases hst with ⟨e, hs⟩ | ⟨e, hs⟩ | ⟨e, hs⟩ | ⟨e, hs⟩ <;> omega))).symm, HW4.out⟩
end Go.Proofs.Ytbohpjinkdffhaa
