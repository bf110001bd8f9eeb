/- An argument that is a slice of acts on a vault, opened. vault's law: heavy. -/
import Derived.Test.YtdlbiobjnohfbaaProg
import Derived.WalkKit
import Derived.WalkSpells
import Derived.WalkLawsBesides
import Derived.Deep.QuietTactic
import Derived.BigQuiet
import Derived.RegionTactic
import Derived.BigRegion
import Derived.Outline
import Derived.LoopTactic
import Derived.Lib.Hide
import Derived.Deep.RegionHeld3
import Derived.Laws.AppendOwnNone
import Derived.Deep.AppendLies
import Derived.ProofKit
import Derived.OpenShut
import Derived.ShutString
import Derived.Deep.SlicePairs
import Derived.Maps.AppendAt
import Derived.Laws.Rows
import Derived.Laws.OwnMore
import Derived.Deep.RegionLaw
import Derived.Deep.Onto
import Derived.Maps.Own
import Derived.Maps.RangeRun
import Derived.Carry
import Derived.Maps.Range
import Derived.Deep.DeepMust
import Derived.Laws.IdiomArrays
import Derived.Test.YtdlbiobjnohfbaaVi0
import Derived.Test.YtdlbiobjnohfbaaVi1
import Derived.Test.YtdlbiobjnohfbaaVi2
import Derived.Test.YtdlbiobjnohfbaaVi3
import Derived.Test.YtdlbiobjnohfbaaVi4
import Derived.Test.YtdlbiobjnohfbaaVi5
import Derived.Test.YtdlbiobjnohfbaaVi6
import Derived.Test.YtdlbiobjnohfbaaVi7
import Derived.Test.YtdlbiobjnohfbaaVi8
import Derived.Test.YtdlbiobjnohfbaaVi9
import Derived.Test.YtdlbiobjnohfbaaVi10
import Derived.Test.YtdlbiobjnohfbaaVi11
import Derived.Test.YtdlbiobjnohfbaaVi12
import Derived.Test.YtdlbiobjnohfbaaVi13
import Derived.Test.YtdlbiobjnohfbaaVi14
import Derived.Test.YtdlbiobjnohfbaaVi15
import Derived.Test.YtdlbiobjnohfbaaVi16
import Derived.Test.YtdlbiobjnohfbaaVi17
import Derived.Test.YtdlbiobjnohfbaaVi18
import Derived.Test.YtdlbiobjnohfbaaVi19
import Derived.Test.YtdlbiobjnohfbaaVi47
namespace Go.Proofs.Ytdlbiobjnohfbaa
open Go.RowKit Go.ChangeShapes Go.WideShapes Go.ChangeAt Go.Deep
set_option linter.unusedVariables false
set_option linter.unusedSimpArgs false
/-- Kind, N, Who, I, O -/
structure Va where
  kind : Int
  n : Int
  who : ByteArray
  i : It4
  o : Od
def vaV (a : Va) : List Value := [.int .i64 a.kind, .int .i64 a.n, .string a.who, .int .i64 a.i.1, .int .i64 a.i.2.1, .int .i64 a.i.2.2.1, .int .i64 a.i.2.2.2, .int .i64 a.o.id, .string a.o.who, .bool a.o.buy, .int .i64 a.o.item, .int .i64 a.o.ct, .int .i64 a.o.pr]
def vaQ (a : Va) : Prop := (Lit.int .i64 a.i.1).wf = true ∧ (Lit.int .i64 a.i.2.1).wf = true ∧ (Lit.int .i64 a.i.2.2.1).wf = true ∧ (Lit.int .i64 a.i.2.2.2).wf = true
set_option maxRecDepth 100000 in
theorem read_va {H : Type} {enc : TypeId × Value → H} {W : World} : ∀ fuel cs x, DataW.trod enc Try.prog W 0 (fun _ => true) true fuel 31 cs = some x → ∃ r : Va, cs = vaV r ∧ vaQ r := by
  intro fuel cs x h
  obtain ⟨xs, n, _, _, hl, hlen, hf⟩ := DataW.trod_struct Try.underlying31 h
  have hc : Try.prog.cellsOf 31 = 13 := by kernel_rfl
  have c1 : Try.prog.cellsOf 3 = 1 := by kernel_rfl
  have c2 : Try.prog.cellsOf 9 = 1 := by kernel_rfl
  have c3 : Try.prog.cellsOf 4 = 1 := by kernel_rfl
  have c4 : Try.prog.cellsOf 29 = 6 := by kernel_rfl
  have c5 : Try.prog.cellsOf 27 = 4 := by kernel_rfl
  rw [hc] at hl
  match cs, hl, xs, hlen with
  | [v0, v1, v2, v3, v4, v5, v6, v7, v8, v9, v10, v11, v12], _, [y0, y1, y2, y3, y4], _ =>
    have g0 := hf 0 _ rfl
    have g1 := hf 1 _ rfl
    have g2 := hf 2 _ rfl
    have g3 := hf 3 _ rfl
    have g4 := hf 4 _ rfl
    simp [c1, c2, c4, c5] at g0 g1 g2 g3 g4
    obtain ⟨k, e0, _, w0⟩ := DataW.trod_int Try.underlying3 g0
    obtain ⟨z, e1, _, w1⟩ := DataW.trod_int Try.underlying3 g1
    obtain ⟨s0, e2, _, w2⟩ := DataW.trod_string Try.underlying9 g2
    obtain ⟨b0, b1, b2, b3, n3, _, k0, k1, k2, k3⟩ := trod_array4 Try.underlying27 c1 g3
    obtain ⟨j0, d0, _, x0⟩ := DataW.trod_int Try.underlying3 k0
    obtain ⟨j1, d1, _, x1⟩ := DataW.trod_int Try.underlying3 k1
    obtain ⟨j2, d2, _, x2⟩ := DataW.trod_int Try.underlying3 k2
    obtain ⟨j3, d3, _, x3⟩ := DataW.trod_int Try.underlying3 k3
    obtain ⟨xs2, n2, _, _, hl2, hlen2, hf2⟩ := DataW.trod_struct Try.underlying29 g4
    match xs2, hlen2 with
    | [z0, z1, z2, z3, z4, z5], _ =>
      have p0 := hf2 0 _ rfl
      have p1 := hf2 1 _ rfl
      have p2 := hf2 2 _ rfl
      have p3 := hf2 3 _ rfl
      have p4 := hf2 4 _ rfl
      have p5 := hf2 5 _ rfl
      simp [c1, c2, c3] at p0 p1 p2 p3 p4 p5
      obtain ⟨i, f0, _, _⟩ := DataW.trod_int Try.underlying3 p0
      obtain ⟨s, f1, _, hs⟩ := DataW.trod_string Try.underlying9 p1
      obtain ⟨u, f2, _⟩ := DataW.trod_bool Try.underlying4 p2
      obtain ⟨t, f3, _, _⟩ := DataW.trod_int Try.underlying3 p3
      obtain ⟨c, f4, _, _⟩ := DataW.trod_int Try.underlying3 p4
      obtain ⟨q, f5, _, _⟩ := DataW.trod_int Try.underlying3 p5
      simp only [List.cons.injEq, and_true] at e0 e1 e2 d0 d1 d2 d3 f0 f1 f2 f3 f4 f5
      subst e0 e1 e2 d0 d1 d2 d3 f0 f1 f2 f3 f4 f5
      exact ⟨⟨k, z, s0, (j0, j1, j2, j3), ⟨i, s, u, t, c, q⟩⟩, rfl, x0, x1, x2, x3⟩
set_option maxRecDepth 100000 in
theorem open_vacts {H : Type} {enc : TypeId × Value → H} {W : World} {base : Nat} {v : Value} {d : DataW H} {p : List MemPlace}
    (hv : Value.okWide Try.prog W .any base 22 v) (h : DataW.Trod enc Try.prog W 0 (fun _ => true) true 22 v d p) :
    ∃ (A : Option Addr) (c : Nat) (xs : List Va), v = .slice A xs.length c ∧ xs.length ≤ c ∧ c ≤ maxLen ∧ (∀ r ∈ xs, vaQ r) ∧ Cells W W.heap.size A xs.length c 13 (xs.flatMap vaV) :=
  open_rows vaV vaQ 13 (by omega) (fun _ => rfl) ⟨0, 0, ⟨#[]⟩, (0, 0, 0, 0), ⟨0, ⟨#[]⟩, false, 0, 0, 0⟩⟩ Try.underlying22 (by kernel_rfl) read_va hv h
theorem va_cell {w : World} {B c : Nat} {A : Option Addr} {xs : List Va} (h : Cells w B A xs.length c 13 (xs.flatMap vaV)) {i : Nat} (hi : i < xs.length) :
    ∃ b o, A = some ⟨b, o, none⟩ ∧ b < B ∧ ∀ k u, k < 13 → (vaV xs[i])[k]? = some u → w.cell? ⟨b, o + i * 13 + k, none⟩ = some u := by
  have g := fun k hk => flat_get vaV 13 (fun _ => rfl) xs i k hk
  have e : xs[i]? = some xs[i] := List.getElem?_eq_getElem hi
  have key : ∀ k u, k < 13 → (vaV xs[i])[k]? = some u → ∃ b o, A = some ⟨b, o, none⟩ ∧ b < B ∧ w.cell? ⟨b, o + (i * 13 + k), none⟩ = some u := fun k u hk hu => h.2.2 (i * 13 + k) u (by rw [g k hk, e]; exact hu)
  obtain ⟨b, o, e0, hb, k0⟩ := key 0 _ (by decide) rfl
  refine ⟨b, o, e0, hb, fun k u hk hu => ?_⟩
  obtain ⟨b1, o1, e1, _, h1⟩ := key k u hk hu
  rw [e0] at e1
  injection e1 with e1
  injection e1 with e3 e4
  subst e3 e4
  rw [Nat.add_assoc]; exact h1
end Go.Proofs.Ytdlbiobjnohfbaa
namespace Go.Proofs.Ytdlbiobjnohfbaa
open Go.RowKit
set_option linter.unusedVariables false
set_option linter.unusedSimpArgs false
set_option maxHeartbeats 4000000 in
set_option maxRecDepth 10000 in
theorem vtHeavy (A : Option Addr) (c : Nat) (xs : List Va) (w : World) (hx : Cells w w.heap.size A xs.length c 13 (xs.flatMap vaV)) :
    Calls Try.prog 6 #[.slice A xs.length c] w fun e w' => ∃ b, e = .returned (.bool b) ∧ Below w.heap.size w w' := by
  have HX := Lib.hid hx
  clear hx
  go_enter Try.func6, Try.ntmps6
  go_wp2_with fail
  go_loopw [3] (fun iv wr => ∃ i : Nat, i ≤ min xs.length 100 ∧ iv = .int .i64 i ∧ Below w.heap.size w wr) (fun iv _ => min xs.length 100 - (intOf iv).toNat)
  case atStart => exact ⟨0, Nat.zero_le _, rfl, by ((repeat (first | (with_reducible exact Below.refl _ _) | (with_reducible assumption) | ((with_reducible refine b_set ?_ ?_); · (first | omega | (simp; done) | (simp; omega))) | ((with_reducible refine b_alloc ?_ ?_); · (first | omega | (simp; done) | (simp; omega))) | (with_reducible refine Below.drew ?_) | (with_reducible refine b_drewN ?_) | ((with_reducible refine b_call (by assumption) ?_ ?_); · (first | omega | (simp; done) | (simp; omega))))); done)⟩
  case round =>
    obtain ⟨i, hil, rfl, hBw⟩ := hrel
    have HBW := Lib.hid hBw
    by_cases hlt : i < min xs.length 100
    · have q3 : (i : Int) < (xs.length : Int) := by omega
      have q4 : (i : Int) < 100 := by omega
      obtain ⟨qb, qo, rfl, hqb, hcell⟩ := va_cell HX.out (show i < xs.length by omega)
      have c2 := bkeep hBw (hcell 2 _ (by decide) rfl) hqb
      have c8 := bkeep hBw (hcell 8 _ (by decide) rfl) hqb
      obtain ⟨k1, hk1⟩ : ∃ k, k = xs[i].who := ⟨_, rfl⟩
      obtain ⟨k2, hk2⟩ : ∃ k, k = xs[i].o.who := ⟨_, rfl⟩
      rw [← hk1] at c2
      rw [← hk2] at c8
      clear hBw hk1 hk2 hcell
      by_cases hs : (200 : Int) < (k1.size : Int)
      · go_wp2_with fail
        go_ret
        first | exact ⟨_, rfl, HBW.out⟩ | exact ⟨rfl, HBW.out⟩
      · by_cases hs2 : (200 : Int) < (k2.size : Int)
        · go_wp2_with fail
          go_ret
          first | exact ⟨_, rfl, HBW.out⟩ | exact ⟨rfl, HBW.out⟩ | exact ⟨.inr rfl, HBW.out⟩
        · go_wp2_with fail
          exact ⟨⟨i + 1, hlt, by go_num, HBW.out⟩, by simp [intOf]; omega⟩
    · obtain rfl : min xs.length 100 = i := by omega
      clear hBw
      by_cases q3 : ((min xs.length 100 : Nat) : Int) < (xs.length : Int)
      · have q4 : ¬ ((min xs.length 100 : Nat) : Int) < 100 := by omega
        go_wp2_with fail
        go_ret
        first | exact ⟨_, rfl, HBW.out⟩ | exact ⟨.inl rfl, HBW.out⟩
      · go_wp2_with fail
        go_ret
        first | exact ⟨_, rfl, HBW.out⟩ | exact ⟨.inl rfl, HBW.out⟩
end Go.Proofs.Ytdlbiobjnohfbaa
