/- An argument that is a slice of structs of whatever cells, opened: its elements' cells, one behind the other. maps over cells; an argument that is a map, opened. The directory: known. -/
import Derived.ProofKit
import Derived.OpenShut
import Derived.ShutString
import Derived.Deep.SlicePairs
import Derived.Test.YtbohpjinkdffhaaDbu40
namespace Go.Proofs.Ytbohpjinkdffhaa
open Go.RowKit Go.ChangeShapes Go.WideShapes Go.ChangeAt Go.Deep
set_option linter.unusedVariables false
set_option linter.unusedSimpArgs false
theorem cell_ltR {w : World} {a : Addr} {v : Value} (h : w.cell? a = some v) : a.block < w.heap.size := by
  unfold World.cell? at h
  cases hb : w.heap[a.block]? with
  | none => rw [hb] at h; cases h
  | some o => exact (Array.getElem?_eq_some_iff.1 hb).1
theorem cell_plainR {w : World} {b o : Nat} {s : Option _} {v : Value} (h : w.cell? ⟨b, o, s⟩ = some v) : s = none := by
  have := World.cell?_spot h
  simpa using this
theorem flat_get {β : Type} (f : β → List Value) (size : Nat) (hs : ∀ r, (f r).length = size) : ∀ (xs : List β) (i k : Nat), k < size → (xs.flatMap f)[i * size + k]? = (xs[i]?).bind (fun r => (f r)[k]?)
  | [], i, k, h => by simp
  | x :: r, 0, k, h => by
    simp only [List.flatMap_cons, Nat.zero_mul, Nat.zero_add, List.getElem?_cons_zero, Option.bind_some]
    rw [List.getElem?_append_left (by rw [hs]; exact h)]
  | x :: r, i + 1, k, h => by
    simp only [List.flatMap_cons, List.getElem?_cons_succ]
    rw [List.getElem?_append_right (by rw [hs, Nat.add_mul]; omega), hs, show (i + 1) * size + k - size = i * size + k by rw [Nat.add_mul]; omega]
    exact flat_get f size hs r i k h
theorem flat_lenR {β : Type} (f : β → List Value) (size : Nat) (hs : ∀ r, (f r).length = size) : ∀ (xs : List β), (xs.flatMap f).length = xs.length * size
  | [] => by simp
  | x :: r => by simp only [List.flatMap_cons, List.length_append, hs, flat_lenR f size hs r, List.length_cons, Nat.add_mul]; omega
end Go.Proofs.Ytbohpjinkdffhaa
namespace Go.Proofs.Ytbohpjinkdffhaa
open Go.RowKit
set_option linter.unusedVariables false
set_option linter.unusedSimpArgs false
theorem RowZ.of {w : World} {B n : Nat} {v : Value} {l : List Zn} (h : w.ownsRow B 39 9 v l.length (flatZ l)) : ∃ A c, v = .slice A l.length c ∧ RowZ w A c l := by
  obtain ⟨A, c, e, h1, h2, h3⟩ := row_cells h
  exact ⟨A, c, e, h3, h1, h2⟩
set_option maxHeartbeats 4000000 in
set_option maxRecDepth 10000 in
theorem drMapsC (ver nxt : Int) (l : List Zn) (A1 A2 : Option Addr) (c1 c2 : Nat) (w : World) (h1 : RowZ w A1 c1 l) (h2 : RowZ w A2 c2 l) (hl : l.length ≤ 100000) :
    Calls Try.prog 27 #[.agg #[.int .i64 ver, .int .i64 nxt, .slice A1 l.length c1], .agg #[.int .i64 ver, .int .i64 nxt, .slice A2 l.length c2]] w fun e w' => e = .returned (.bool true) ∧ Below w.heap.size w w' := by
  have H1 := Lib.hid h1
  have H2 := Lib.hid h2
  clear h1 h2
  go_enter Try.func27, Try.ntmps27
  go_wp2_with fail
  have hP : Whl ((w.alloc (.cells #[.int .i64 ver, .int .i64 nxt, .slice A1 l.length c1] 33)).alloc (.cells #[.int .i64 ver, .int .i64 nxt, .slice A2 l.length c2] 33)) w.heap.size 33 #[.int .i64 ver, .int .i64 nxt, .slice A1 l.length c1] := (Whl.new rfl).alloc _
  have hQ : Whl ((w.alloc (.cells #[.int .i64 ver, .int .i64 nxt, .slice A1 l.length c1] 33)).alloc (.cells #[.int .i64 ver, .int .i64 nxt, .slice A2 l.length c2] 33)) (w.heap.size + 1) 33 #[.int .i64 ver, .int .i64 nxt, .slice A2 l.length c2] := Whl.new (by simp)
  have hBV : Below w.heap.size w ((w.alloc (.cells #[.int .i64 ver, .int .i64 nxt, .slice A1 l.length c1] 33)).alloc (.cells #[.int .i64 ver, .int .i64 nxt, .slice A2 l.length c2] 33)) := ((Below.refl _ _).alloc (Nat.le_refl _) _).alloc (by simp) _
  have HP := Lib.hid hP
  have HQ := Lib.hid hQ
  have HBV := Lib.hid hBV
  clear hP hQ hBV
  generalize ((w.alloc (.cells #[.int .i64 ver, .int .i64 nxt, .slice A1 l.length c1] 33)).alloc (.cells #[.int .i64 ver, .int .i64 nxt, .slice A2 l.length c2] 33)) = V at *
  go_loopw [5] (fun iv wr => ∃ i : Nat, i ≤ l.length ∧ iv = .int .i64 i ∧ Below V.heap.size V wr) (fun iv _ => l.length - (intOf iv).toNat)
  case atStart => exact ⟨0, Nat.zero_le _, rfl, Below.refl _ _⟩
  case round =>
    obtain ⟨i, hil, rfl, hBw⟩ := hrel
    have HBW := Lib.hid hBw
    have HWW := Lib.hid (HBV.out.trans (hBw.mono HBV.out.size))
    have k1 := bkeep hBw (HP.out.cell 2) HP.out.low
    have k2 := bkeep hBw (HQ.out.cell 2) HQ.out.low
    have k1 : wr.cell? ⟨w.heap.size, 2, none⟩ = some (.slice A1 l.length c1) := k1
    have k2 : wr.cell? ⟨w.heap.size + 1, 2, none⟩ = some (.slice A2 l.length c2) := k2
    clear hBw
    by_cases hlt : i < l.length
    · have q3 : (i : Int) < (l.length : Int) := by omega
      have hr1 := H1.out.below HWW.out
      have hr2 := H2.out.below HWW.out
      obtain ⟨g1, p1, hA1, hg1, -⟩ := zn_at hr1.cells hlt
      subst hA1
      obtain ⟨g2, p2, hA2, hg2, -⟩ := zn_at hr2.cells hlt
      subst hA2
      obtain ⟨z, hz⟩ : ∃ z, z = l[i] := ⟨_, rfl⟩
      obtain ⟨a0, a1, a2, a3, a4, a5, a6, a7, a8⟩ := rowC_at hr1 hlt
      obtain ⟨b0, b1, b2, b3, b4, b5, b6, b7, b8⟩ := rowC_at hr2 hlt
      rw [← hz] at a0 a1 a2 a3 a4 a5 a6 a7 a8 b0 b1 b2 b3 b4 b5 b6 b7 b8
      have hne := znNeq z
      clear hr1 hr2 hz
      go_wp2_with fail
      go_quiet (fail)
      go_wp2_with fail
      exact ⟨⟨i + 1, hlt, by go_num, b_drewN HBW.out⟩, measZ hlt⟩
    · obtain rfl : l.length = i := by omega
      go_wp2_with fail
      go_ret
      exact ⟨rfl, HWW.out⟩
end Go.Proofs.Ytbohpjinkdffhaa
namespace Go.Proofs.Ytbohpjinkdffhaa
open Go.RowKit Go.ChangeShapes Go.WideShapes Go.ChangeAt Go.Deep
set_option linter.unusedVariables false
set_option linter.unusedSimpArgs false
def znQ (a : Zn) : Prop := a.fr.size ≤ maxLen ∧ a.tt.size ≤ maxLen ∧ a.ky.size ≤ maxLen
set_option maxRecDepth 100000 in
theorem read_zn {H : Type} {enc : TypeId × Value → H} {W : World} : ∀ fuel cs x, DataW.trod enc Try.prog W 0 (fun _ => true) true fuel 39 cs = some x → ∃ r : Zn, cs = znV r ∧ znQ r := by
  intro fuel cs x h
  obtain ⟨xs, n, _, _, hl, hlen, hf⟩ := DataW.trod_struct Try.underlying39 h
  have hc : Try.prog.cellsOf 39 = 9 := by kernel_rfl
  have c1 : Try.prog.cellsOf 3 = 1 := by kernel_rfl
  have c2 : Try.prog.cellsOf 9 = 1 := by kernel_rfl
  have c3 : Try.prog.cellsOf 37 = 2 := by kernel_rfl
  rw [hc] at hl
  match cs, hl, xs, hlen with
  | [v0, v1, v2, v3, v4, v5, v6, v7, v8], _, [y0, y1, y2, y3, y4, y5, y6, y7], _ =>
    have g0 := hf 0 _ rfl
    have g1 := hf 1 _ rfl
    have g2 := hf 2 _ rfl
    have g3 := hf 3 _ rfl
    have g4 := hf 4 _ rfl
    have g5 := hf 5 _ rfl
    have g6 := hf 6 _ rfl
    have g7 := hf 7 _ rfl
    simp [c1, c2, c3] at g0 g1 g2 g3 g4 g5 g6 g7
    obtain ⟨a0, e0, _, _⟩ := DataW.trod_int Try.underlying3 g0
    obtain ⟨ys, n1, _, _, hl1, hlen1, hf1⟩ := DataW.trod_struct Try.underlying37 g1
    match ys, hlen1 with
    | [z0, z1], _ =>
      have k0 := hf1 0 _ rfl
      have k1 := hf1 1 _ rfl
      simp [c1, c2, c3] at k0 k1
      obtain ⟨a1, e1, _, w1⟩ := DataW.trod_string Try.underlying9 k0
      obtain ⟨a2, e2, _, w2⟩ := DataW.trod_string Try.underlying9 k1
      obtain ⟨a3, e3, _, _⟩ := DataW.trod_int Try.underlying3 g2
      obtain ⟨a4, e4, _, _⟩ := DataW.trod_int Try.underlying3 g3
      obtain ⟨a5, e5, _, _⟩ := DataW.trod_int Try.underlying3 g4
      obtain ⟨a6, e6, _, _⟩ := DataW.trod_int Try.underlying3 g5
      obtain ⟨a7, e7, _, w7⟩ := DataW.trod_string Try.underlying9 g6
      obtain ⟨a8, e8, _, _⟩ := DataW.trod_int Try.underlying3 g7
      simp only [List.cons.injEq, and_true] at e0 e1 e2 e3 e4 e5 e6 e7 e8
      subst e0 e1 e2 e3 e4 e5 e6 e7 e8
      exact ⟨⟨a0, a1, a2, a3, a4, a5, a6, a7, a8⟩, rfl, w1, w2, w7⟩
end Go.Proofs.Ytbohpjinkdffhaa
namespace Go.Proofs.Ytbohpjinkdffhaa
open Go.RowKit
set_option linter.unusedVariables false
set_option linter.unusedSimpArgs false
def kc1 : Ch := ⟨1, 1, 0, 0, ⟨#[109]⟩⟩
def kc2 : Ch := ⟨4, 1, 1, 0, ⟨#[]⟩⟩
def km1 : Mp := ⟨2, 3, [⟨1, ⟨#[]⟩, ⟨#[]⟩, 8, 1, 1, 0, ⟨#[109]⟩, 2⟩]⟩
def km2 : Mp := ⟨3, 3, [⟨1, ⟨#[]⟩, ⟨#[109]⟩, 8, 2, 0, 0, ⟨#[]⟩, 0⟩, ⟨2, ⟨#[109]⟩, ⟨#[]⟩, 8, 2, 0, 0, ⟨#[]⟩, 0⟩]⟩
theorem kc1_ok : Applies [8] (mp1 [8]) kc1 km1 := by
  refine ⟨(OkCh_iff kc1).2 (by decide), by decide, 0, by decide, rfl, fun j hj h => by omega, ⟨1, 3, [⟨1, ⟨#[]⟩, ⟨#[]⟩, 8, 1, 1, 0, ⟨#[109]⟩, 2⟩]⟩, ?_, rfl⟩
  exact Deed.split rfl rfl (by decide +kernel) (by decide) (by decide)
theorem kc2_ok : Applies [8] km1 kc2 km2 := by
  refine ⟨(OkCh_iff kc2).2 (by decide), by decide, 0, by decide, rfl, fun j hj h => by omega, ⟨2, 3, km2.zs⟩, ?_, rfl⟩
  exact Deed.splitDone rfl rfl rfl (by decide +kernel) (by decide)
theorem ApQ.yes {B d : Nat} {hv zv : Value} {hosts : List Int} {m m1 : Mp} {c : Ch} {w : World} {e : Ending} {w' : World} (h : ApQ B d hv zv hosts m c w e w') (ha : Applies hosts m c m1) : ∃ zv', e = .returned (.bool true) ∧ DrH w' B d hv zv' hosts m1 ∧ Touch (Fz d zv) w w' ∧ (∀ k, zv'.ownBlock = some k → zv.ownBlock = some k ∨ w.heap.size ≤ k) := by
  rcases h with ⟨m2, zv', h1, h2, h3, h4, h5⟩ | ⟨h1, _⟩
  · obtain rfl := h1.det ha
    exact ⟨zv', h2, h3, h4, h5⟩
  · exact absurd ha (h1 _)
theorem host8 {w : World} : (w.alloc (.cells #[.int .i64 8] 3)).ownsRow w.heap.size 3 1 (.slice (some ⟨w.heap.size, 0, none⟩) 1 1) ([8] : List Int).length (intsV [8]) := World.ownsRow_lit w #[.int .i64 8] 1 (Nat.le_refl _) (by unfold maxLen; omega) rfl
theorem mp1_okm (l : List Int) : OkM (mp1 l) := (OkN.begin l).okm
theorem km1_okm : OkM km1 := (kc1_ok.okn (OkN.begin [8])).okm
set_option maxHeartbeats 8000000 in
set_option maxRecDepth 10000 in
theorem drKnown (w : World) : Calls Try.prog 11 #[] w fun e w' => e = .returned (.bool true) ∧ Below w.heap.size w w' := by
  go_enter Try.func11, Try.ntmps11
  go_wp2_with (first
    | (go_at_call 12; refine (drMap _ d hv z2 [8] km2 _ HD3.out (by decide)).mono ?_; rintro e w4 ⟨v4, rfl, ho4, hb4⟩; obtain ⟨g4, c4, e4, hg4, hgl4, _, _⟩ := own_form ho4 (by decide); subst e4; have y13 : w4.cell? ⟨g4, 13, none⟩ = some (.int .i64 2) := ho4.cellAt 13 (by decide); have y10 : w4.cell? ⟨g4, 10, none⟩ = some (.string ⟨#[109]⟩) := ho4.cellAt 10 (by decide); have HB4 := Lib.hid hb4; have hs4 := hb4.size; clear ho4 hb4)
    | (go_at_call 16; have hgg := HD2; clear hgg; refine (drApply _ d hv z1 [8] km1 kc2 _ HD2.out (Nat.le_trans HBL.out.size HT2.out.size) km1_okm (by decide)).mono ?_; rintro e w3 hq; obtain ⟨z2, rfl, hd3, ht3, ho3⟩ := hq.yes kc2_ok; have HD3 := Lib.hid hd3; have HT3 := Lib.hid ht3; have HO3 := Lib.hid ho3; clear hq hd3 ht3 ho3)
    | (go_at_call 16; refine (drApply _ d hv zv [8] (mp1 [8]) kc1 _ HD1.out HBL.out.size (mp1_okm _) (by decide)).mono ?_; rintro e w2 hq; obtain ⟨z1, rfl, hd2, ht2, ho2⟩ := hq.yes kc1_ok; have HD2 := Lib.hid hd2; have HT2 := Lib.hid ht2; have HO2 := Lib.hid ho2; clear hq hd2 ht2 ho2)
    | (go_at_call 29; refine (drNew1 w.heap.size _ [8] _ host8 (by decide)).mono ?_; rintro e w1 ⟨d, hv, zv, rfl, hd1, hb1⟩; have HD1 := Lib.hid hd1; have HBL := Lib.hid hb1; have hs1 := hb1.size; clear hd1 hb1)
    | fail)
  go_ret
  have hB1 : Below w.heap.size w w1 := ((Below.refl _ _).alloc (Nat.le_refl _) _).trans (HBL.out.mono (by simp))
  have hz : ∀ k, Fz d zv k → w.heap.size ≤ k := fun k hk => by
    rcases hk with h | h
    · have := HD1.out.low; simp at this; omega
    · have := (HD1.out.row.lt k h).1; simp at this; omega
  have hB2 : Below w.heap.size w w2 := hB1.trans (HT2.out.below hB1.size hz)
  have hz2 : ∀ k, Fz d z1 k → w.heap.size ≤ k := fun k hk => by
    rcases hk with h | h
    · exact hz k (.inl h)
    · rcases HO2.out k h with h | h
      · exact hz k (.inr h)
      · have := hB1.size; omega
  have hB3 : Below w.heap.size w w3 := hB2.trans (HT3.out.below hB2.size hz2)
  exact ⟨rfl, (hB3.trans (HB4.out.mono hB3.size)).alloc (by have := HB4.out.size; have := hB3.size; omega) _⟩
end Go.Proofs.Ytbohpjinkdffhaa
