/- The document's directory: May. -/
import Derived.Test.YtbohpjinkdffhaaRdD
namespace Go.Proofs.Ytbohpjinkdffhaa
open Go.RowKit
set_option linter.unusedVariables false
set_option linter.unusedSimpArgs false

def flatS : List (ByteArray × ByteArray) → List Value
  | [] => []
  | p :: r => .string p.1 :: .string p.2 :: flatS r
theorem flatS_length (xs : List (ByteArray × ByteArray)) : (flatS xs).length = xs.length * 2 := by
  induction xs with
  | nil => rfl
  | cons p r ih => simp only [flatS, List.length_cons, ih]; omega
theorem flatS_app (xs ys : List (ByteArray × ByteArray)) : flatS (xs ++ ys) = flatS xs ++ flatS ys := by
  induction xs with
  | nil => rfl
  | cons p r ih => simp only [List.cons_append, flatS, ih]
theorem flatS_get : ∀ (xs : List (ByteArray × ByteArray)) (k : Nat) (h : k < xs.length), (flatS xs)[k * 2]? = some (.string xs[k].1) ∧ (flatS xs)[k * 2 + 1]? = some (.string xs[k].2)
  | p :: r, 0, _ => ⟨rfl, rfl⟩
  | p :: r, k + 1, h => by
    have := flatS_get r k (by simpa using h)
    simp only [flatS, List.getElem_cons_succ]
    rw [show (k + 1) * 2 = k * 2 + 1 + 1 from by omega, show k * 2 + 1 + 1 + 1 = (k * 2 + 1) + 1 + 1 from by omega]
    simpa using this
theorem flatS_one (xs : List (ByteArray × ByteArray)) : ∀ u ∈ flatS xs, u.oneCell' = true := by
  induction xs with
  | nil => simp [flatS]
  | cons p r ih => intro u hu; simp only [flatS, List.mem_cons] at hu; rcases hu with rfl | rfl | hu
                   · rfl
                   · rfl
                   · exact ih u hu
theorem Try.infoSpan2 : (Try.prog.info? 37).map (fun i => (i.zero, i.size, i.bytes)) = some (some (.agg #[.string ⟨#[]⟩, .string ⟨#[]⟩]), 2, 32) := by kernel_rfl
theorem spans_of_row {w : World} {B g c : Nat} {xs : List (ByteArray × ByteArray)} (h : w.ownsRow B 37 2 (.slice (some ⟨g, 0, none⟩) xs.length c) xs.length (flatS xs)) (hg : g < w.heap.size) : Spans w w.heap.size (some ⟨g, 0, none⟩) xs := by
  intro k hk
  obtain ⟨y0, y1⟩ := flatS_get xs k hk
  refine ⟨g, 0, rfl, hg, ?_, ?_⟩
  · rw [Nat.zero_add]; exact (h.cellAt (k * 2) (by omega)).trans y0
  · rw [Nat.zero_add]; exact (h.cellAt (k * 2 + 1) (by omega)).trans y1
theorem spans_take1 {l : List Zn} {k : Nat} (h : k < l.length) : flatS (spansZ (l.take (k + 1))) = flatS (spansZ (l.take k)) ++ [.string l[k].fr, .string l[k].tt] := by
  rw [List.take_add_one, List.getElem?_eq_getElem h, spans_app, flatS_app]
  rfl
theorem Applies.ver1 {hosts : List Int} {m m' : Mp} {c : Ch} (h : Applies hosts m c m') (hv : 1 ≤ m.ver) : 1 ≤ m'.ver := by
  obtain ⟨i, hl, _, _, m1, hd, rfl⟩ := h.deed
  have := hd.ver
  show 1 ≤ m1.ver + 1
  omega
set_option maxHeartbeats 8000000 in
set_option maxRecDepth 10000 in
theorem rdMay (B : Nat) (zv : Value) (m : Mp) (w : World) (h : w.ownsRow B 39 9 zv m.zs.length (flatZ m.zs)) (hm : MayI m) (hv : 1 ≤ m.ver) (hs : Small m 1000000) :
    Calls Try.prog 28 #[.agg #[.int .i64 m.ver, .int .i64 m.nxt, zv]] w fun e w' => e = .returned (.bool true) ∧ Below w.heap.size w w' := by
  have HR := Lib.hid h
  have hl : m.zs.length ≤ 16 := by have := hm.okn.sum; omega
  have h1 := hm.okn.one
  obtain ⟨i0, hi0, hz0, hz1, hz2⟩ := info_parts Try.infoSpan2
  obtain ⟨gz, cc, hzv, _, hgz, hnc, hcm⟩ := own_form h (by omega)
  subst hzv
  have n1 : ¬ (m.ver < 1) := by omega
  have n2 : ¬ ((1099511627776 : Int) < m.ver) := by have := hs.ver; omega
  have n3 : ¬ (m.nxt < 1) := by have := hm.nxt; omega
  have n4 : ¬ ((1099511627776 : Int) < m.nxt) := by have := hs.nxt; omega
  have n5 : ¬ ((16 : Int) < (m.zs.length : Int)) := by omega
  have HM := Lib.hid hm
  have HS := Lib.hid hs
  clear h hm hs hv
  go_enter Try.func28, Try.ntmps28
  go_wp2_with fail
  have HP : Hid (Whl (w.alloc (.cells #[.int .i64 m.ver, .int .i64 m.nxt, .slice (some ⟨gz, 0, none⟩) m.zs.length cc] 33)) w.heap.size 33 #[.int .i64 m.ver, .int .i64 m.nxt, .slice (some ⟨gz, 0, none⟩) m.zs.length cc]) := Lib.hid (Whl.new rfl)
  go_loopw [3, 4] (fun sv kv wk => ∃ k : Nat, k ≤ m.zs.length ∧ kv = .int .i64 k ∧ wk.ownsRow (w.heap.size + 1) 37 2 sv k (flatS (spansZ (m.zs.take k))) ∧ Below (w.heap.size + 1) (w.alloc (.cells #[.int .i64 m.ver, .int .i64 m.nxt, .slice (some ⟨gz, 0, none⟩) m.zs.length cc] 33)) wk) (fun _ kv _ => m.zs.length - (intOf kv).toNat)
  case atStart => exact ⟨0, Nat.zero_le _, rfl, World.ownsRow_nil _ _ _ _, Below.refl _ _⟩
  case round =>
    obtain ⟨k, hkl, rfl, hown, hBk⟩ := hrel
    have HBK := Lib.hid hBk
    have hP := HP.out.below hBk (by omega)
    have x0 := hP.cell 0
    have x1 := hP.cell 1
    have x2 := hP.cell 2
    simp only [List.getElem?_toArray, List.getElem?_cons_succ, List.getElem?_cons_zero] at x0 x1 x2
    have hsz : w.heap.size + 1 ≤ wr.heap.size := by have := hBk.size; simp at this; omega
    have hBw : Below w.heap.size w wr := ((Below.refl _ _).alloc (Nat.le_refl _) _).trans (hBk.mono (Nat.le_succ _))
    have hr := row_belowZ HR.out hBw
    have HBW := Lib.hid hBw
    have HRW := Lib.hid hr
    have hgr : gz < wr.heap.size := by omega
    by_cases hkt : k < m.zs.length
    · have q5 : (k : Int) < (m.zs.length : Int) := by omega
      obtain ⟨z, hz⟩ : ∃ z, z = m.zs[k] := ⟨_, rfl⟩
      obtain ⟨_, u1, u2, _, _, _, _, _, _⟩ := rowZ_at hr hkt
      rw [← hz] at u1 u2
      have htk := spans_take1 hkt
      rw [← hz] at htk
      have HTK := Lib.hid htk
      have HOWN := Lib.hid hown
      clear hP hBk hBw hr htk hown hz
      go_wp2_with (first
        | (go_at_call 59; go_loud (refine (rdZone B k _ m _ HRW.out hkt HM.out HS.out).mono ?_; rintro e w5 ⟨rfl, hb5⟩; have hs5 := hb5.size; have HT : Hid ((w5.alloc (.cells #[.string z.fr, .string z.tt] 37)).ownsRow (w.heap.size + 1) 37 2 _ k (flatS (spansZ (m.zs.take k)))) := Lib.hid (row_belowZ HOWN.out (hb5.alloc hs5 _)); have HC : Hid (Cells (w5.alloc (.cells #[.string z.fr, .string z.tt] 37)) (w5.heap.size + 1) (some ⟨w5.heap.size, 0, none⟩) 1 1 2 [.string z.fr, .string z.tt]) := Lib.hid ⟨rfl, (fun e => by cases e), fun k u hu => ⟨_, _, rfl, by omega, by rw [Nat.zero_add, (Whl.new rfl).cell]; simpa using hu⟩⟩; have u1 := bkeep hb5 u1 hgr; have u2 := bkeep hb5 u2 hgr; have x2 := bkeep hb5 x2 (by omega); have HB5 := Lib.hid hb5; clear hb5))
        | (at_builtin; go_loud (refine wpList_append_row rfl (.tmp 40) (.tmp 47) 100 rfl (w.heap.size + 1) 37 i0 (.agg #[.string ⟨#[]⟩, .string ⟨#[]⟩]) 2 32 Try.underlying100 hi0 hz0 hz1 hz2 rfl (by decide) _ k (flatS (spansZ (m.zs.take k))) rfl HT.out (w5.heap.size + 1) (some ⟨w5.heap.size, 0, none⟩) 1 1 [.string z.fr, .string z.tt] rfl HC.out (by intro u hu; simp at hu; rcases hu with rfl | rfl <;> rfl) (by unfold maxLen; omega) (by omega) (by simp; omega) ?_); intro v6 w6 hown6 hb6; have HO6 := Lib.hid hown6; have HB6 := Lib.hid hb6; clear hown6 hb6)
        | fail)
      have h6 := HO6.out
      refine ⟨⟨k + 1, hkt, by go_num, ?_, ?_⟩, measZ hkt⟩
      · rw [HTK.out]; exact h6
      · exact (HBK.out.trans ((HB5.out.alloc hs5 _).mono hsz)).trans HB6.out
    · obtain rfl : m.zs.length = k := by omega
      rw [List.take_length] at hown
      obtain ⟨ga, ca, e1, _, hga, _, _⟩ := own_form hown (by omega)
      subst e1
      have hAL : Calls Try.prog 60 #[.slice (some ⟨ga, 0, none⟩) m.zs.length ca] wr fun e w' => e = .returned (.bool true) ∧ Below wr.heap.size wr w' := by
        have := refAll (some ⟨ga, 0, none⟩) ca (spansZ m.zs) wr (by simp [spansZ]; omega) (spans_of_row (by simpa [spansZ] using hown) hga)
        rw [show allB (spansZ m.zs) = true from HM.out.spn] at this
        simpa [spansZ] using this
      have HAL := Lib.hid hAL
      clear hAL hown hP hBk hBw hr
      go_wp2_with (first
        | (go_at_call 60; refine HAL.out.mono ?_; rintro e w5 ⟨rfl, hb5⟩; have HB5 := Lib.hid hb5; clear hb5)
        | fail)
      go_ret
      exact ⟨rfl, HBW.out.trans (HB5.out.mono HBW.out.size)⟩
end Go.Proofs.Ytbohpjinkdffhaa
