/- The directory: known. -/
import Derived.Test.YtbohpjinkdffhaaDrT
namespace Go.Proofs.Ytbohpjinkdffhaa
open Go.RowKit
set_option linter.unusedVariables false
set_option linter.unusedSimpArgs false

def kc1 : Ch := ⟨1, 1, 0, 0, ⟨#[109]⟩⟩
def kc2 : Ch := ⟨4, 1, 1, 0, ⟨#[]⟩⟩
def km1 : Mp := ⟨2, 3, [⟨1, ⟨#[]⟩, ⟨#[]⟩, 8, 1, 1, 0, ⟨#[109]⟩, 2⟩]⟩
def km2 : Mp := ⟨3, 3, [⟨1, ⟨#[]⟩, ⟨#[109]⟩, 8, 2, 0, 0, ⟨#[]⟩, 0⟩, ⟨2, ⟨#[109]⟩, ⟨#[]⟩, 8, 2, 0, 0, ⟨#[]⟩, 0⟩]⟩
theorem kc1_ok : Applies [8] (mp1 [8]) kc1 km1 := by
  refine ⟨(OkCh_iff kc1).2 (by decide), by decide, 0, by decide, rfl, fun j hj h => by omega, ⟨1, 3, [⟨1, ⟨#[]⟩, ⟨#[]⟩, 8, 1, 1, 0, ⟨#[109]⟩, 2⟩]⟩, ?_, rfl⟩
  exact Deed.split rfl rfl (by decide +kernel) (by decide) (by decide)
theorem kc2_ok : Applies [8] km1 kc2 km2 := by
  refine ⟨(OkCh_iff kc2).2 (by decide), by decide, 0, by decide, rfl, fun j hj h => by omega, ⟨2, 3, km2.zs⟩, ?_, rfl⟩
  exact Deed.splitDone rfl rfl rfl (by decide +kernel) (by decide)
theorem ApQ.yes {B d : Nat} {hv zv : Value} {hosts : List Int} {m m1 : Mp} {c : Ch} {w : World} {e : Ending} {w' : World} (h : ApQ B d hv zv hosts m c w e w') (ha : Applies hosts m c m1) : ∃ zv', e = .returned (.bool true) ∧ DrH w' B d hv zv' hosts m1 ∧ Touch (Fz d zv) w w' ∧ (∀ k, zv'.ownBlock = some k → zv.ownBlock = some k ∨ w.heap.size ≤ k) := by
  rcases h with ⟨m2, zv', h1, h2, h3, h4, h5⟩ | ⟨h1, _⟩
  · obtain rfl := h1.det ha
    exact ⟨zv', h2, h3, h4, h5⟩
  · exact absurd ha (h1 _)
theorem host8 {w : World} : (w.alloc (.cells #[.int .i64 8] 3)).ownsRow w.heap.size 3 1 (.slice (some ⟨w.heap.size, 0, none⟩) 1 1) ([8] : List Int).length (intsV [8]) := World.ownsRow_lit w #[.int .i64 8] 1 (Nat.le_refl _) (by unfold maxLen; omega) rfl
theorem mp1_okm (l : List Int) : OkM (mp1 l) := (OkN.begin l).okm
theorem km1_okm : OkM km1 := (kc1_ok.okn (OkN.begin [8])).okm
set_option maxHeartbeats 8000000 in
set_option maxRecDepth 10000 in
theorem drKnown (w : World) : Calls Try.prog 11 #[] w fun e w' => e = .returned (.bool true) ∧ Below w.heap.size w w' := by
  go_enter Try.func11, Try.ntmps11
  go_wp2_with (first
    | (go_at_call 12; refine (drMap _ d hv z2 [8] km2 _ HD3.out (by decide)).mono ?_; rintro e w4 ⟨v4, rfl, ho4, hb4⟩; obtain ⟨g4, c4, e4, hg4, hgl4, _, _⟩ := own_form ho4 (by decide); subst e4; have y13 : w4.cell? ⟨g4, 13, none⟩ = some (.int .i64 2) := ho4.cellAt 13 (by decide); have y10 : w4.cell? ⟨g4, 10, none⟩ = some (.string ⟨#[109]⟩) := ho4.cellAt 10 (by decide); have HB4 := Lib.hid hb4; have hs4 := hb4.size; clear ho4 hb4)
    | (go_at_call 16; have hgg := HD2; clear hgg; refine (drApply _ d hv z1 [8] km1 kc2 _ HD2.out (Nat.le_trans HBL.out.size HT2.out.size) km1_okm (by decide)).mono ?_; rintro e w3 hq; obtain ⟨z2, rfl, hd3, ht3, ho3⟩ := hq.yes kc2_ok; have HD3 := Lib.hid hd3; have HT3 := Lib.hid ht3; have HO3 := Lib.hid ho3; clear hq hd3 ht3 ho3)
    | (go_at_call 16; refine (drApply _ d hv zv [8] (mp1 [8]) kc1 _ HD1.out HBL.out.size (mp1_okm _) (by decide)).mono ?_; rintro e w2 hq; obtain ⟨z1, rfl, hd2, ht2, ho2⟩ := hq.yes kc1_ok; have HD2 := Lib.hid hd2; have HT2 := Lib.hid ht2; have HO2 := Lib.hid ho2; clear hq hd2 ht2 ho2)
    | (go_at_call 29; refine (drNew1 w.heap.size _ [8] _ host8 (by decide)).mono ?_; rintro e w1 ⟨d, hv, zv, rfl, hd1, hb1⟩; have HD1 := Lib.hid hd1; have HBL := Lib.hid hb1; have hs1 := hb1.size; clear hd1 hb1)
    | fail)
  go_ret
  have hB1 : Below w.heap.size w w1 := ((Below.refl _ _).alloc (Nat.le_refl _) _).trans (HBL.out.mono (by simp))
  have hz : ∀ k, Fz d zv k → w.heap.size ≤ k := fun k hk => by
    rcases hk with h | h
    · have := HD1.out.low; simp at this; omega
    · have := (HD1.out.row.lt k h).1; simp at this; omega
  have hB2 : Below w.heap.size w w2 := hB1.trans (HT2.out.below hB1.size hz)
  have hz2 : ∀ k, Fz d z1 k → w.heap.size ≤ k := fun k hk => by
    rcases hk with h | h
    · exact hz k (.inl h)
    · rcases HO2.out k h with h | h
      · exact hz k (.inr h)
      · have := hB1.size; omega
  have hB3 : Below w.heap.size w w3 := hB2.trans (HT3.out.below hB2.size hz2)
  exact ⟨rfl, (hB3.trans (HB4.out.mono hB3.size)).alloc (by have := HB4.out.size; have := hB3.size; omega) _⟩
end Go.Proofs.Ytbohpjinkdffhaa
