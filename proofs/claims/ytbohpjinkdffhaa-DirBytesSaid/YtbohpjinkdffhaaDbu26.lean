/- The document's directory, of any maps: May. What the code's span.All returns, for any list of spans. -/
import Derived.Test.YtbohpjinkdffhaaProg
import Derived.WalkKit
import Derived.WalkSpells
import Derived.WalkLawsBesides
import Derived.Deep.QuietTactic
import Derived.BigQuiet
import Derived.RegionTactic
import Derived.BigRegion
import Derived.Outline
import Derived.LoopTactic
import Derived.Lib.Hide
import Derived.Deep.RegionHeld3
import GoSem.Op.String
import Derived.Lib.Strings
import Derived.Laws.AppendOwnNone
import Derived.Deep.AppendLies
import Derived.Maps.AppendAt
import Derived.Laws.Rows
import Derived.Deep.Cut
import Derived.StillTailTactics
import Derived.Laws.IdiomCopy
import Derived.Lib.AppendZerosOnto
import Derived.Lib.Overlaps
import Derived.Lib.ReflectliteSwap
import Derived.Deep.RegionLaw
import Derived.Deep.DeepCutAuto
import Derived.Laws.EntriesVeiled
import Derived.Lib.SliceRun
import Derived.Deep.Light
import Derived.Test.YtbohpjinkdffhaaDbu0
import Derived.Test.YtbohpjinkdffhaaDbu3
import Derived.Test.YtbohpjinkdffhaaDbu6
import Derived.Test.YtbohpjinkdffhaaDbu7
import Derived.Test.YtbohpjinkdffhaaDbu9
import Derived.Test.YtbohpjinkdffhaaDbu10
import Derived.Test.YtbohpjinkdffhaaDbu11
import Derived.Test.YtbohpjinkdffhaaDbu12
import Derived.Test.YtbohpjinkdffhaaDbu13
import Derived.Test.YtbohpjinkdffhaaDbu14
import Derived.Test.YtbohpjinkdffhaaDbu15
import Derived.Test.YtbohpjinkdffhaaDbu16
import Derived.Test.YtbohpjinkdffhaaDbu17
import Derived.Test.YtbohpjinkdffhaaDbu18
import Derived.Test.YtbohpjinkdffhaaDbu19
import Derived.Test.YtbohpjinkdffhaaDbu20
import Derived.Test.YtbohpjinkdffhaaDbu21
import Derived.Test.YtbohpjinkdffhaaDbu22
import Derived.Test.YtbohpjinkdffhaaDbu24
import Derived.Test.YtbohpjinkdffhaaDbu25
namespace Go.Proofs.Ytbohpjinkdffhaa
open Go.RowKit
set_option linter.unusedVariables false
set_option linter.unusedSimpArgs false
theorem may_doc {m : Mp} : MayP m ↔ (1 ≤ m.ver ∧ m.ver ≤ 1099511627776 ∧ 1 ≤ m.nxt ∧ m.nxt ≤ 1099511627776 ∧ m.zs.length ≤ 16 ∧ (∀ i (h : i < m.zs.length), ZP m i h) ∧ allB (spansZ m.zs) = true) :=
  ⟨fun h => ⟨h.v1, h.v2, h.n1, h.n2, h.len, all_zp h.nodup h.rng h.core, h.spn⟩, fun ⟨h1, h2, h3, h4, h5, h6, h7⟩ => by
    obtain ⟨g1, g2, g3⟩ := zp_all h6
    exact ⟨h1, h2, h3, h4, h5, g1, g2, g3, h7⟩⟩
set_option maxHeartbeats 8000000 in
set_option maxRecDepth 10000 in
theorem rdMayX (B : Nat) (zv : Value) (m : Mp) (w : World) (h : w.ownsRow B 39 9 zv m.zs.length (flatZ m.zs)) (hl : m.zs.length ≤ 1000) {b : Bool} (hb : b = true ↔ MayP m) :
    Calls Try.prog 28 #[.agg #[.int .i64 m.ver, .int .i64 m.nxt, zv]] w fun e w' => e = .returned (.bool b) ∧ Below w.heap.size w w' := by
  have HR := Lib.hid h
  have HNB : Hid (¬ MayP m → b = false) := Lib.hid (no_of hb)
  have HYB : Hid (MayP m → b = true) := Lib.hid hb.2
  obtain ⟨i0, hi0, hz0, hz1, hz2⟩ := info_parts Try.infoSpan2
  obtain ⟨A, cc, hzv, _, hnc, hcm⟩ := own_slice h
  subst hzv
  clear h hb
  by_cases c_v1 : m.ver < 1
  case pos =>
    have C := Lib.hid c_v1
    go_enter Try.func28, Try.ntmps28
    go_wp2_with fail
    go_ret
    exact ⟨ret_bool (HNB.out (fun h => by (have h1 := h.v1; have := C.out; omega))).symm, by ((repeat (first | (with_reducible exact Below.refl _ _) | (with_reducible assumption) | ((with_reducible refine b_set ?_ ?_); · (first | omega | (simp; done) | (simp; omega))) | ((with_reducible refine b_alloc ?_ ?_); · (first | omega | (simp; done) | (simp; omega))) | (with_reducible refine Below.drew ?_) | (with_reducible refine b_drewN ?_) | ((with_reducible refine b_call (by assumption) ?_ ?_); · (first | omega | (simp; done) | (simp; omega))))); done)⟩
  by_cases c_v2 : (1099511627776 : Int) < m.ver
  case pos =>
    have C := Lib.hid c_v2
    go_enter Try.func28, Try.ntmps28
    go_wp2_with fail
    go_ret
    exact ⟨ret_bool (HNB.out (fun h => by (have h1 := h.v2; have := C.out; omega))).symm, by ((repeat (first | (with_reducible exact Below.refl _ _) | (with_reducible assumption) | ((with_reducible refine b_set ?_ ?_); · (first | omega | (simp; done) | (simp; omega))) | ((with_reducible refine b_alloc ?_ ?_); · (first | omega | (simp; done) | (simp; omega))) | (with_reducible refine Below.drew ?_) | (with_reducible refine b_drewN ?_) | ((with_reducible refine b_call (by assumption) ?_ ?_); · (first | omega | (simp; done) | (simp; omega))))); done)⟩
  by_cases c_n1 : m.nxt < 1
  case pos =>
    have C := Lib.hid c_n1
    go_enter Try.func28, Try.ntmps28
    go_wp2_with fail
    go_ret
    exact ⟨ret_bool (HNB.out (fun h => by (have h1 := h.n1; have := C.out; omega))).symm, by ((repeat (first | (with_reducible exact Below.refl _ _) | (with_reducible assumption) | ((with_reducible refine b_set ?_ ?_); · (first | omega | (simp; done) | (simp; omega))) | ((with_reducible refine b_alloc ?_ ?_); · (first | omega | (simp; done) | (simp; omega))) | (with_reducible refine Below.drew ?_) | (with_reducible refine b_drewN ?_) | ((with_reducible refine b_call (by assumption) ?_ ?_); · (first | omega | (simp; done) | (simp; omega))))); done)⟩
  by_cases c_n2 : (1099511627776 : Int) < m.nxt
  case pos =>
    have C := Lib.hid c_n2
    go_enter Try.func28, Try.ntmps28
    go_wp2_with fail
    go_ret
    exact ⟨ret_bool (HNB.out (fun h => by (have h1 := h.n2; have := C.out; omega))).symm, by ((repeat (first | (with_reducible exact Below.refl _ _) | (with_reducible assumption) | ((with_reducible refine b_set ?_ ?_); · (first | omega | (simp; done) | (simp; omega))) | ((with_reducible refine b_alloc ?_ ?_); · (first | omega | (simp; done) | (simp; omega))) | (with_reducible refine Below.drew ?_) | (with_reducible refine b_drewN ?_) | ((with_reducible refine b_call (by assumption) ?_ ?_); · (first | omega | (simp; done) | (simp; omega))))); done)⟩
  by_cases c_len : (16 : Int) < (m.zs.length : Int)
  case pos =>
    have C := Lib.hid c_len
    go_enter Try.func28, Try.ntmps28
    go_wp2_with fail
    go_ret
    exact ⟨ret_bool (HNB.out (fun h => by (have h1 := h.len; have := C.out; omega))).symm, by ((repeat (first | (with_reducible exact Below.refl _ _) | (with_reducible assumption) | ((with_reducible refine b_set ?_ ?_); · (first | omega | (simp; done) | (simp; omega))) | ((with_reducible refine b_alloc ?_ ?_); · (first | omega | (simp; done) | (simp; omega))) | (with_reducible refine Below.drew ?_) | (with_reducible refine b_drewN ?_) | ((with_reducible refine b_call (by assumption) ?_ ?_); · (first | omega | (simp; done) | (simp; omega))))); done)⟩
  go_enter Try.func28, Try.ntmps28
  go_wp2_with fail
  have HP : Hid (Whl (w.alloc (.cells #[.int .i64 m.ver, .int .i64 m.nxt, .slice A m.zs.length cc] 33)) w.heap.size 33 #[.int .i64 m.ver, .int .i64 m.nxt, .slice A m.zs.length cc]) := Lib.hid (Whl.new rfl)
  go_loopw [3, 4] (fun sv kv wk => ∃ k : Nat, k ≤ m.zs.length ∧ kv = .int .i64 k ∧ (∀ j (hj : j < m.zs.length), j < k → ZP m j hj) ∧ wk.ownsRow (w.heap.size + 1) 37 2 sv k (flatS (spansZ (m.zs.take k))) ∧ Below (w.heap.size + 1) (w.alloc (.cells #[.int .i64 m.ver, .int .i64 m.nxt, .slice A m.zs.length cc] 33)) wk) (fun _ kv _ => m.zs.length - (intOf kv).toNat)
  case atStart => exact ⟨0, Nat.zero_le _, rfl, fun j hj h => absurd h (Nat.not_lt_zero _), World.ownsRow_nil _ _ _ _, Below.refl _ _⟩
  case round =>
    obtain ⟨k, hkl, rfl, hzp, hown, hBk⟩ := hrel
    have HBK := Lib.hid hBk
    have HZP := Lib.hid hzp
    have hP := HP.out.below hBk (by omega)
    have x0 := hP.cell 0
    have x1 := hP.cell 1
    have x2 := hP.cell 2
    simp only [List.getElem?_toArray, List.getElem?_cons_succ, List.getElem?_cons_zero] at x0 x1 x2
    have hsz : w.heap.size + 1 ≤ wr.heap.size := by have := hBk.size; simp at this; omega
    have hBw : Below w.heap.size w wr := ((Below.refl _ _).alloc (Nat.le_refl _) _).trans (hBk.mono (Nat.le_succ _))
    have hr := row_belowZ HR.out hBw
    have HBW := Lib.hid hBw
    have HRW := Lib.hid hr
    by_cases hkt : k < m.zs.length
    · have q5 : (k : Int) < (m.zs.length : Int) := by omega
      obtain ⟨gz, c9, e9, _, hgz, _, _⟩ := own_form hr (by omega)
      injection e9 with e9 _ e10
      subst e9 e10
      have hgr := hgz
      obtain ⟨z, hz⟩ : ∃ z, z = m.zs[k] := ⟨_, rfl⟩
      obtain ⟨_, u1, u2, _, _, _, _, _, _⟩ := rowZ_at hr hkt
      rw [← hz] at u1 u2
      have htk := spans_take1 hkt
      rw [← hz] at htk
      have HTK := Lib.hid htk
      have HOWN := Lib.hid hown
      clear hP hBk hBw hr htk hown hz hzp
      by_cases hzk : ZP m k hkt
      · have HZK := Lib.hid hzk
        clear hzk
        go_wp2_with (first
          | (go_at_call 59; go_loud (refine (rdZoneX B k _ m _ HRW.out hl hkt (b := true) ⟨fun _ => HZK.out, fun _ => rfl⟩).mono ?_; rintro e w5 ⟨rfl, hb5⟩; have hs5 := hb5.size; have HT : Hid ((w5.alloc (.cells #[.string z.fr, .string z.tt] 37)).ownsRow (w.heap.size + 1) 37 2 _ k (flatS (spansZ (m.zs.take k)))) := Lib.hid (row_belowZ HOWN.out (hb5.alloc hs5 _)); have HC : Hid (Cells (w5.alloc (.cells #[.string z.fr, .string z.tt] 37)) (w5.heap.size + 1) (some ⟨w5.heap.size, 0, none⟩) 1 1 2 [.string z.fr, .string z.tt]) := Lib.hid ⟨rfl, (fun e => by cases e), fun k u hu => ⟨_, _, rfl, by omega, by rw [Nat.zero_add, (Whl.new rfl).cell]; simpa using hu⟩⟩; have u1 := bkeep hb5 u1 hgr; have u2 := bkeep hb5 u2 hgr; have x2 := bkeep hb5 x2 (by omega); have HB5 := Lib.hid hb5; clear hb5))
          | (at_builtin; go_loud (refine wpList_append_row rfl (.tmp 40) (.tmp 47) 100 rfl (w.heap.size + 1) 37 i0 (.agg #[.string ⟨#[]⟩, .string ⟨#[]⟩]) 2 32 Try.underlying100 hi0 hz0 hz1 hz2 rfl (by decide) _ k (flatS (spansZ (m.zs.take k))) rfl HT.out (w5.heap.size + 1) (some ⟨w5.heap.size, 0, none⟩) 1 1 [.string z.fr, .string z.tt] rfl HC.out (by intro u hu; simp at hu; rcases hu with rfl | rfl <;> rfl) (by unfold maxLen; omega) (by omega) (by simp; omega) ?_); intro v6 w6 hown6 hb6; have HO6 := Lib.hid hown6; have HB6 := Lib.hid hb6; clear hown6 hb6)
          | fail)
        have h6 := HO6.out
        refine ⟨⟨k + 1, hkt, by go_num, fun j hj hjk => ?_, ?_, ?_⟩, measZ hkt⟩
        · by_cases e : j = k
          · subst e; exact HZK.out
          · exact HZP.out j hj (by omega)
        · rw [HTK.out]; exact h6
        · exact (HBK.out.trans ((HB5.out.alloc hs5 _).mono hsz)).trans HB6.out
      · have HZK := Lib.hid hzk
        clear hzk
        go_wp2_with (first
          | (go_at_call 59; go_loud (refine (rdZoneX B k _ m _ HRW.out hl hkt (b := false) ⟨fun h => (by cases h), fun h => absurd h HZK.out⟩).mono ?_; rintro e w5 ⟨rfl, hb5⟩; have HB5 := Lib.hid hb5; clear hb5))
          | fail)
        go_ret
        exact ⟨ret_bool (HNB.out (fun h => HZK.out ((may_doc.1 h).2.2.2.2.2.1 k hkt))).symm, HBW.out.trans (HB5.out.mono HBW.out.size)⟩
    · obtain rfl : m.zs.length = k := by omega
      rw [List.take_length] at hown
      obtain ⟨Aa, ca, e1, _, _, _⟩ := own_slice hown
      subst e1
      have hsp : Spans wr wr.heap.size Aa (spansZ m.zs) := by
        by_cases h0 : m.zs.length = 0
        · intro k hk
          have : (spansZ m.zs).length = m.zs.length := by simp [spansZ]
          omega
        · obtain ⟨ga, c9, e9, _, hga, _, _⟩ := own_form hown (by omega)
          injection e9 with e9 _ e10
          subst e9 e10
          exact spans_of_row (by simpa [spansZ] using hown) hga
      have hAL : Calls Try.prog 60 #[.slice Aa m.zs.length ca] wr fun e w' => e = .returned (.bool (allB (spansZ m.zs))) ∧ Below wr.heap.size wr w' := by
        have := refAll Aa ca (spansZ m.zs) wr (by simp [spansZ]; omega) hsp
        simpa [spansZ] using this
      have HAL := Lib.hid hAL
      clear hAL hown hP hBk hBw hr hsp hzp
      go_wp2_with (first
        | (go_at_call 60; refine HAL.out.mono ?_; rintro e w5 ⟨rfl, hb5⟩; have HB5 := Lib.hid hb5; clear hb5)
        | fail)
      go_ret
      refine ⟨ret_bool ?_, HBW.out.trans (HB5.out.mono HBW.out.size)⟩
      cases ha : allB (spansZ m.zs) with
      | true => exact (HYB.out (may_doc.2 ⟨by omega, by omega, by omega, by omega, by omega, fun i hi => HZP.out i hi hi, ha⟩)).symm
      | false => exact (HNB.out (fun h => by have := h.spn; rw [ha] at this; cases this)).symm
end Go.Proofs.Ytbohpjinkdffhaa
namespace Go.Proofs.Ytbohpjinkdffhaa
open Go.RowKit
set_option linter.unusedVariables false
set_option linter.unusedSimpArgs false
/-- where spans that are joined, one behind the other, end -/
def chainB (f t : ByteArray) : List (ByteArray × ByteArray) → Option ByteArray
  | [] => some t
  | (g, u) :: r => if joinB f t g u then chainB f u r else none
def endB (f t : ByteArray) (xs : List (ByteArray × ByteArray)) : Bool := match chainB f t xs with
  | none => false
  | some u => isB f u && u.toList.isEmpty
def allC : List (ByteArray × ByteArray) → Bool
  | [] => false
  | (f, t) :: r => f.toList.isEmpty && endB f t r
theorem chainB_app (f t : ByteArray) (xs ys : List (ByteArray × ByteArray)) : chainB f t (xs ++ ys) = (chainB f t xs).bind fun u => chainB f u ys := by
  induction xs generalizing t with
  | nil => rfl
  | cons p r ih =>
    obtain ⟨g, u⟩ := p
    simp only [List.cons_append, chainB]
    cases joinB f t g u
    · rfl
    · simpa using ih u
theorem chainB_snoc {f t u : ByteArray} {xs : List (ByteArray × ByteArray)} {k : Nat} (h : k < xs.length) (h1 : chainB f t (xs.take k) = some u) (h2 : joinB f u xs[k].1 xs[k].2 = true) : chainB f t (xs.take (k + 1)) = some xs[k].2 := by
  rw [List.take_succ_eq_append_getElem h, chainB_app, h1]
  simp [chainB, h2]
theorem endB_stop {f t u : ByteArray} {xs : List (ByteArray × ByteArray)} {k : Nat} (h : k < xs.length) (h1 : chainB f t (xs.take k) = some u) (h2 : joinB f u xs[k].1 xs[k].2 = false) : endB f t xs = false := by
  have e : chainB f t xs = none := by
    conv => lhs; rw [← List.take_append_drop k xs]
    rw [chainB_app, h1, List.drop_eq_getElem_cons h]
    show chainB f u ((xs[k].1, xs[k].2) :: _) = none
    rw [chainB, h2]; rfl
  unfold endB; rw [e]
theorem endB_end {f t u : ByteArray} {xs : List (ByteArray × ByteArray)} (h1 : chainB f t xs = some u) : endB f t xs = (isB f u && u.toList.isEmpty) := by
  unfold endB; rw [h1]
set_option maxHeartbeats 1000000 in
theorem spanAll1 (A : Option Addr) (c : Nat) (f t : ByteArray) (r : List (ByteArray × ByteArray)) (w : World) (hl : r.length ≤ 1000000) (hcap : r.length + 1 ≤ c) (hx : Spans w w.heap.size A ((f, t) :: r)) :
    Calls Try.prog 83 #[.slice A (r.length + 1) c] w fun e w' => e = .returned (.bool (allC ((f, t) :: r))) ∧ Below w.heap.size w w' := by
  obtain ⟨b, o, rfl, hb, g1, g2⟩ := hx 0 (by simp)
  simp only [Nat.zero_mul, Nat.add_zero, List.getElem_cons_zero] at g1 g2
  have HR : Hid (∀ k (h : k < r.length), w.cell? ⟨b, o + 2 + k * 2, none⟩ = some (.string r[k].1) ∧ w.cell? ⟨b, o + 2 + k * 2 + 1, none⟩ = some (.string r[k].2)) := by
    intro k hk
    obtain ⟨b', o', e, _, g3, g4⟩ := hx (k + 1) (by simp; omega)
    simp only [Option.some.injEq, Addr.mk.injEq] at e
    obtain ⟨rfl, rfl, _⟩ := e
    rw [show o + 2 + k * 2 = o + (k + 1) * 2 from by omega]
    exact ⟨by simpa using g3, by simpa using g4⟩
  clear hx
  cases hf : f.toList.isEmpty
  · go_enter Try.func83, Try.ntmps83
    go_wp2_with fail
    go_ret
    exact ⟨ret_bool (by simp [allC, hf]), Below.refl _ _⟩
  · have hcc : c = 1 ∨ ¬ c = 1 := by omega
    have hn : ((r.length : Int) + 1 == 0) = false := by rw [beq_eq_false_iff_ne]; omega
    rcases hcc with hc1 | hc1
    · obtain rfl : r = [] := by cases r with | nil => rfl | cons x y => simp at hcap; omega
      subst hc1
      go_enter Try.func83, Try.ntmps83
      go_wp2_with fail
      refine wp_loop_rounds 1 ?_; rw [rounds_succ]
      go_wp2_with fail
      refine (spanIs _ _ _).mono ?_
      rintro e w2 ⟨rfl, hb2⟩
      obtain ⟨hc2, hf2⟩ := bcell hb2
      cases hi : isB f t
      all_goals go_wp2_with fail
      all_goals go_ret
      all_goals clear hc2 hf2
      all_goals refine ⟨ret_bool (by simp [allC, hf, endB, chainB, hi]), by ((repeat (first | (with_reducible exact Below.refl _ _) | (with_reducible assumption) | ((with_reducible refine b_set ?_ ?_); · (first | omega | (simp; done) | (simp; omega))) | ((with_reducible refine b_alloc ?_ ?_); · (first | omega | (simp; done) | (simp; omega))) | (with_reducible refine Below.drew ?_) | (with_reducible refine b_drewN ?_) | ((with_reducible refine b_call (by assumption) ?_ ?_); · (first | omega | (simp; done) | (simp; omega))))); done)⟩
    · go_enter Try.func83, Try.ntmps83
      go_wp2_with fail
      go_loopw [24] (fun i wr => ∃ (k : Nat) (u : ByteArray), k ≤ r.length ∧ i = .int .i64 k ∧ Below w.heap.size w wr ∧ w.heap.size < wr.heap.size ∧ wr.cell? ⟨w.heap.size, 0, none⟩ = some (.string f) ∧ wr.cell? ⟨w.heap.size, 1, none⟩ = some (.string u) ∧
          (∀ j, wr.frozen? ⟨w.heap.size, j, none⟩ = false) ∧ chainB f t (r.take k) = some u) (fun i _ => r.length - (intOf i).toNat)
      case atStart => exact ⟨0, t, by omega, rfl, by ((repeat (first | (with_reducible exact Below.refl _ _) | (with_reducible assumption) | ((with_reducible refine b_set ?_ ?_); · (first | omega | (simp; done) | (simp; omega))) | ((with_reducible refine b_alloc ?_ ?_); · (first | omega | (simp; done) | (simp; omega))) | (with_reducible refine Below.drew ?_) | (with_reducible refine b_drewN ?_) | ((with_reducible refine b_call (by assumption) ?_ ?_); · (first | omega | (simp; done) | (simp; omega))))); done), by simp, by simp, by simp, by intro j; simp, rfl⟩
      case round =>
        obtain ⟨k, u, hk, rfl, hB, hz, h0, h1, h2, hch⟩ := hrel
        have HC := Lib.hid hch
        clear hch
        by_cases hlt : k < r.length
        · obtain ⟨g3, g4⟩ := HR.out k hlt
          replace g3 := bkeep hB g3 hb
          replace g4 := bkeep hB g4 hb
          have hbz : b < wr.heap.size := by omega
          cases hj : joinB f u r[k].1 r[k].2
          · go_wp2_with fail
            refine (spanJoin0 _ _ _ _ _ hj).mono ?_
            rintro e w2 ⟨rfl, hb2⟩
            obtain ⟨hc2, hf2⟩ := bcell hb2
            have hs2 := hb2.size; (try simp at hs2)
            go_wp2_with fail
            go_ret
            clear hc2 hf2
            exact ⟨ret_bool (by simp [allC, hf, endB_stop hlt HC.out hj]), by ((repeat (first | (with_reducible exact Below.refl _ _) | (with_reducible assumption) | ((with_reducible refine b_set ?_ ?_); · (first | omega | (simp; done) | (simp; omega))) | ((with_reducible refine b_alloc ?_ ?_); · (first | omega | (simp; done) | (simp; omega))) | (with_reducible refine Below.drew ?_) | (with_reducible refine b_drewN ?_) | ((with_reducible refine b_call (by assumption) ?_ ?_); · (first | omega | (simp; done) | (simp; omega))))); done)⟩
          · go_wp2_with fail
            refine (spanJoin1 _ _ _ _ _ hj).mono ?_
            rintro e w2 ⟨rfl, hb2⟩
            obtain ⟨hc2, hf2⟩ := bcell hb2
            have hs2 := hb2.size; (try simp at hs2)
            go_wp2_with fail
            go_roundw
            case rel =>
              refine ⟨k + 1, r[k].2, by omega, by go_num, ?_, ?_, ?_, ?_, ?_, chainB_snoc hlt HC.out hj⟩
              · clear hc2 hf2; go_light; ((repeat (first | (with_reducible exact Below.refl _ _) | (with_reducible assumption) | ((with_reducible refine b_set ?_ ?_); · (first | omega | (simp; done) | (simp; omega))) | ((with_reducible refine b_alloc ?_ ?_); · (first | omega | (simp; done) | (simp; omega))) | (with_reducible refine Below.drew ?_) | (with_reducible refine b_drewN ?_) | ((with_reducible refine b_call (by assumption) ?_ ?_); · (first | omega | (simp; done) | (simp; omega))))); done)
              · simp; omega
              · clear hc2 hf2; go_light; ((repeat (first | (with_reducible assumption) | ((with_reducible refine c_set_same ?_); ((repeat (first | (with_reducible exact h_of (by assumption)) | (with_reducible assumption) | (with_reducible refine h_set ?_) | ((with_reducible refine h_alloc ?_ ?_); · (first | omega | (simp; done) | (simp; omega))) | ((with_reducible refine h_new ?_ ?_) <;> (first | omega | (simp; done) | (simp; omega))) | (with_reducible refine h_drew ?_) | (with_reducible refine h_drewN ?_) | ((with_reducible refine h_keep (by assumption) ?_ ?_); · (first | omega | (simp; done) | (simp; omega))))); done)) | ((with_reducible refine c_set_other ?_ ?_); · (first | omega | (simp; done) | (simp; omega))) | ((with_reducible refine c_alloc ?_ ?_); · (first | omega | (simp; done) | (simp; omega))) | ((with_reducible refine c_new ?_ ?_) <;> (first | omega | (simp; done) | (simp; omega))) | (with_reducible refine c_drew ?_) | (with_reducible refine c_drewN ?_) | ((with_reducible refine c_keep (by assumption) ?_ ?_); · (first | omega | (simp; done) | (simp; omega))))); done)
              · clear hc2 hf2; go_light; ((repeat (first | (with_reducible assumption) | ((with_reducible refine c_set_same ?_); ((repeat (first | (with_reducible exact h_of (by assumption)) | (with_reducible assumption) | (with_reducible refine h_set ?_) | ((with_reducible refine h_alloc ?_ ?_); · (first | omega | (simp; done) | (simp; omega))) | ((with_reducible refine h_new ?_ ?_) <;> (first | omega | (simp; done) | (simp; omega))) | (with_reducible refine h_drew ?_) | (with_reducible refine h_drewN ?_) | ((with_reducible refine h_keep (by assumption) ?_ ?_); · (first | omega | (simp; done) | (simp; omega))))); done)) | ((with_reducible refine c_set_other ?_ ?_); · (first | omega | (simp; done) | (simp; omega))) | ((with_reducible refine c_alloc ?_ ?_); · (first | omega | (simp; done) | (simp; omega))) | ((with_reducible refine c_new ?_ ?_) <;> (first | omega | (simp; done) | (simp; omega))) | (with_reducible refine c_drew ?_) | (with_reducible refine c_drewN ?_) | ((with_reducible refine c_keep (by assumption) ?_ ?_); · (first | omega | (simp; done) | (simp; omega))))); done)
              · clear hc2 hf2; go_light; intro j; have h2j := h2 j; ((repeat (first | (with_reducible assumption) | (with_reducible refine f_set ?_) | ((with_reducible refine f_alloc ?_ ?_); · (first | omega | (simp; done) | (simp; omega))) | ((with_reducible refine f_new ?_); (first | omega | (simp; done) | (simp; omega)); done) | (with_reducible refine f_drew ?_) | (with_reducible refine f_drewN ?_) | ((with_reducible refine f_keep (by assumption) ?_ ?_); · (first | omega | (simp; done) | (simp; omega))))); done)
            case measure => simp [intOf]; omega
        · have hk : k = r.length := by omega
          subst hk
          have hch := HC.out
          rw [List.take_length] at hch
          have HE := Lib.hid (endB_end hch)
          clear hch HC
          go_wp2_with fail
          refine (spanIs _ _ _).mono ?_
          rintro e w2 ⟨rfl, hb2⟩
          obtain ⟨hc2, hf2⟩ := bcell hb2
          cases hi : isB f u
          all_goals go_wp2_with fail
          all_goals go_ret
          all_goals clear hc2 hf2
          all_goals refine ⟨ret_bool (by simp [allC, hf, HE.out, hi]), by ((repeat (first | (with_reducible exact Below.refl _ _) | (with_reducible assumption) | ((with_reducible refine b_set ?_ ?_); · (first | omega | (simp; done) | (simp; omega))) | ((with_reducible refine b_alloc ?_ ?_); · (first | omega | (simp; done) | (simp; omega))) | (with_reducible refine Below.drew ?_) | (with_reducible refine b_drewN ?_) | ((with_reducible refine b_call (by assumption) ?_ ?_); · (first | omega | (simp; done) | (simp; omega))))); done)⟩
theorem nil_toListC : (ByteArray.toList ⟨#[]⟩) = [] := by rw [Lib.toList_data]
theorem endB_go {f : ByteArray} (hf : f.toList.isEmpty = true) (hfs : f.size ≤ 16) : ∀ (r : List (ByteArray × ByteArray)) (t : ByteArray), isB f t = true → endB f t r = goB false t r := by
  intro r
  induction r with
  | nil => intro t ht; simp [endB, chainB, goB, ht]
  | cons p r ih =>
    obtain ⟨g, u⟩ := p
    intro t ht
    unfold goB
    cases hj : joinB f t g u
    · rw [if_neg ?_]
      · simp [endB, chainB, hj]
      · unfold joinB at hj
        rw [ht] at hj
        intro h
        simp only [Bool.and_eq_true, Bool.false_or, Bool.not_eq_true', beq_iff_eq] at h
        obtain ⟨⟨h1, h2⟩, h3⟩ := h
        rw [h1, h3, h2] at hj
        simp at hj
    · have hj' := hj
      unfold joinB at hj'
      simp only [Bool.and_eq_true, Bool.not_eq_true', beq_iff_eq] at hj'
      obtain ⟨⟨⟨_, h1⟩, h2⟩, h3⟩ := hj'
      rw [if_pos (by rw [h1, h2, h3]; simp)]
      have hfu : isB f u = true := by
        refine isB_iff.2 ⟨hfs, (isB_iff.1 h1).2.1, ?_⟩
        cases hu : u.toList.isEmpty
        · rw [empty_of hf]; exact .inr (nil_less (by intro e; rw [e] at hu; simp at hu))
        · exact .inl rfl
      rw [← ih u hfu]
      simp [endB, chainB, hj]
theorem allC_go (xs : List (ByteArray × ByteArray)) : allC xs = goB true ⟨#[]⟩ xs := by
  cases xs with
  | nil => rfl
  | cons p r =>
    obtain ⟨f, t⟩ := p
    rw [show allC ((f, t) :: r) = (f.toList.isEmpty && endB f t r) from rfl, goB, nil_toListC]
    cases hf : f.toList.isEmpty
    · rw [if_neg ?_]
      · rfl
      · intro h
        simp only [Bool.and_eq_true, beq_iff_eq] at h
        rw [h.1.2] at hf; simp at hf
    · rw [empty_of hf]
      cases hi : isB f t
      · rw [if_neg (by simp)]
        simp only [Bool.true_and]
        cases r with
        | nil => simp [endB, chainB, hi]
        | cons q r => obtain ⟨g, u⟩ := q; simp [endB, chainB, joinB, hi]
      · rw [if_pos (by simp)]
        simp only [Bool.true_and]
        exact endB_go hf (isB_iff.1 hi).1 r t hi
theorem spanAllX (A : Option Addr) (c : Nat) (xs : List (ByteArray × ByteArray)) (w : World) (hl : xs.length ≤ 1000000) (hcap : xs.length ≤ c) (hx : Spans w w.heap.size A xs) :
    Calls Try.prog 83 #[.slice A xs.length c] w fun e w' => e = .returned (.bool (allB xs)) ∧ Below w.heap.size w w' := by
  have e : allB xs = allC xs := (allC_go xs).symm
  rw [e]
  cases xs with
  | nil =>
    go_enter Try.func83, Try.ntmps83
    go_wp2_with fail
    go_ret
    exact ⟨ret_bool rfl, by ((repeat (first | (with_reducible exact Below.refl _ _) | (with_reducible assumption) | ((with_reducible refine b_set ?_ ?_); · (first | omega | (simp; done) | (simp; omega))) | ((with_reducible refine b_alloc ?_ ?_); · (first | omega | (simp; done) | (simp; omega))) | (with_reducible refine Below.drew ?_) | (with_reducible refine b_drewN ?_) | ((with_reducible refine b_call (by assumption) ?_ ?_); · (first | omega | (simp; done) | (simp; omega))))); done)⟩
  | cons p r =>
    obtain ⟨f, t⟩ := p
    exact spanAll1 A c f t r w (by simp at hl; omega) (by simpa using hcap) hx
end Go.Proofs.Ytbohpjinkdffhaa
