/- piece: the three bytes that are known. -/
import Derived.Test.YtliljfncbljfpaaPieceC
import Derived.Test.YtliljfncbljfpaaPieceT
import Derived.Lib.SlBytesConst
namespace Go.Proofs.Ytliljfncbljfpaa
open Go.RowKit
set_option linter.unusedVariables false
set_option linter.unusedSimpArgs false

theorem Po.touch {w w' : World} {D : Nat → Prop} {b L : Nat} {row : List Nat} {come : Nat} (h : Po w b L row come) (ht : Touch D w w') (hb : ¬ D b) (hr : ∀ g, L ≤ g → g < b → ¬ D g) : Po w' b L row come := by
  obtain ⟨v, hv, ho, hne⟩ := h.row
  exact ⟨⟨v, ht.cell hv hb, ht.own ho (fun g hg => hr g (ho.lt g hg).1 (hne g hg)), hne⟩, ht.cell h.come hb, fun j => ht.frozen h.low (h.free j) hb, Nat.lt_of_lt_of_le h.low ht.size, h.high⟩
theorem Touch.of_set (w : World) (a : Addr) (v : Value) : Touch (fun k => k = a.block) w (w.setCell a v) := (Touch.refl _ w).set (fun _ => rfl)
theorem Po.below {w w' : World} {B b L : Nat} {row : List Nat} {come : Nat} (h : Po w b L row come) (hb : Below B w w') (hB : b < B) : Po w' b L row come := h.touch (Touch.of_below hb) (by omega) (fun g _ hg => by omega)
theorem Touch.of_drew (D : Nat → Prop) (w : World) : Touch D w w.drew := ⟨rfl, rfl, rfl, Nat.le_refl _, fun _ _ _ => rfl⟩

set_option maxHeartbeats 1000000 in
set_option maxRecDepth 10000 in
theorem knownPiece (w : World) : Calls Try.prog 36 #[] w fun e w' => e = .returned (.bool true) ∧ Below w.heap.size w w' := by
  have HL : Hid (Cells (w.alloc (.cells #[.int .u8 97, .int .u8 98, .int .u8 99] 5 (3, 4))) (w.alloc (.cells #[.int .u8 97, .int .u8 98, .int .u8 99] 5 (3, 4))).heap.size (some ⟨w.heap.size, 0, none⟩) 3 3 1 (flatU [97, 98, 99])) :=
    Lib.hid ⟨rfl, (fun e => by cases e), fun j u hu => ⟨w.heap.size, 0, rfl, by simp, by rw [Nat.zero_add]; rw [World.cell?_alloc_mark]; simpa [flatU] using hu⟩⟩
  have kc := Lib.run_convert_bytes_const (P := Try.prog) w 27 5 #[.int .u8 97, .int .u8 98, .int .u8 99] 3 3 Try.underlying27 Try.underlying5
  go_enter Try.func36, Try.ntmps36
  go_wp2_with fail
  refine (poNew ⟨w.heap.size, 0, none⟩ 3 [97, 98, 99] _ (by decide) HL.out).mono ?_
  rintro e w1 ⟨b, rfl, hbs, hpo, hb1⟩
  have hs1 := hb1.size
  simp at hs1 hbs
  have HP := Lib.hid hpo
  clear hpo
  go_wp2_with fail
  refine (piBegin 3 _ (by decide) (by decide)).mono ?_
  rintro e w2 ⟨i, rfl, his, hpi, hrb, hb2⟩
  have hs2 := hb2.size
  have HP2 := Lib.hid (HP.out.below hb2 HP.out.low)
  have hlowi := hpi.low
  have hi1 := HP.out.low
  have HI := Lib.hid hpi
  have HR := Lib.hid hrb
  clear hpi hrb
  go_wp2_with fail
  refine (poNext b _ _ _ _ HP2.out (by decide) (by decide)).mono ?_
  rintro e w3 ⟨v3, rfl, hown3, hb3⟩
  have hs3 := hb3.size
  have HP3 := Lib.hid (HP2.out.below hb3 HP2.out.low)
  have HI3 := Lib.hid (HI.out.touch (Touch.of_below hb3) (by omega) (fun g hg => by rw [HR.out] at hg; cases hg))
  have HR3 : Hid (rowBlk w3 i = none) := Lib.hid ((rowBlk_touch (Touch.of_below hb3) hlowi (by omega)).trans HR.out)
  have HO3 : Hid (w3.ownsRow w2.heap.size 5 1 v3 3 (flatU [97, 98, 99])) := Lib.hid hown3
  clear hown3
  obtain ⟨A3, c3, rfl, hc3, hm3, hx3⟩ := row_cells HO3.out
  have HX3 := Lib.hid hx3
  clear hx3
  go_wp2_with fail
  refine (piTake i _ [] [97, 98, 99] 3 _ A3 c3 _ HI3.out (by decide) (by decide) (by decide) (by decide) HX3.out (by decide)).mono ?_
  rintro e w4 ⟨rfl, hpi4, ht4, hrb4⟩
  have hs4 := ht4.size
  have HP4 := Lib.hid (HP3.out.touch ht4 (by rintro (h | h); · omega
                                             · rw [HR3.out] at h; cases h) (fun g _ hg => by
      rintro (h | h)
      · omega
      · rw [HR3.out] at h; cases h))
  have HI4 := Lib.hid hpi4
  have HT4 := Lib.hid ht4
  have HR4 := Lib.hid hrb4
  clear hpi4 ht4 hrb4
  go_wp2_with fail
  refine (poAck b _ [97, 98, 99] 0 3 _ HP4.out (by decide) (by decide) (by decide)).mono ?_
  rintro e w5 ⟨rfl, hpo5, hw5⟩
  have HT5 : Hid (Touch (fun k => k = b) w4 w5) := Lib.hid (by rw [hw5]; exact (Touch.of_drew _ w4).set (fun _ => rfl))
  clear hw5
  have hs5 := HT5.out.size
  have HP5 := Lib.hid hpo5
  have HI5 := Lib.hid (HI4.out.touch HT5.out (by omega) (by
      intro g h7 hgb
      rcases HR4.out with e | e
      · rw [HR3.out] at e; rw [e] at h7; cases h7
      · rw [e] at h7; injection h7; omega))
  clear hpo5
  go_wp2_with fail
  refine (poWhole b _ _ _ _ HP5.out).mono ?_
  rintro e w6 ⟨rfl, n6, hw6⟩
  have HW6 := Lib.hid hw6
  have HI6 : Hid (Pi w6 i w1.heap.size [97, 98, 99] 3) := Lib.hid (by rw [hw6]; exact HI5.out.drewN n6)
  clear hw6
  go_wp2_with fail
  refine (piWhole i _ _ _ _ HI6.out).mono ?_
  rintro e w7 ⟨rfl, n7, hw7⟩
  have HW7 := Lib.hid hw7
  clear hw7
  go_wp2_with fail
  go_ret
  refine ⟨rfl, ?_⟩
  rw [HW7.out, HW6.out]
  refine b_drewN (b_drewN ?_)
  refine Below.trans (b := w4) ?_ (HT5.out.below (by omega) (by rintro k rfl; omega))
  refine Below.trans (b := w3) ?_ (HT4.out.below (by omega) (by
    rintro k (rfl | h)
    · omega
    · rw [HR3.out] at h; cases h))
  have hb0 : Below w.heap.size w (w.alloc (.cells #[.int .u8 97, .int .u8 98, .int .u8 99] 5 (3, 4))) := (Below.refl _ _).alloc (Nat.le_refl _) _
  exact ((hb0.trans (hb1.mono (by simp))).trans (hb2.mono (by omega))).trans (hb3.mono (by omega))

end Go.Proofs.Ytliljfncbljfpaa
