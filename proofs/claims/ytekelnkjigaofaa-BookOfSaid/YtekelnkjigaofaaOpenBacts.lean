/- An argument that is a slice of acts on a book, opened. -/
import Derived.Test.YtekelnkjigaofaaOpenRows
import Derived.Test.YtekelnkjigaofaaBqC
namespace Go.Proofs.Ytekelnkjigaofaa
open Go.RowKit Go.ChangeShapes Go.WideShapes Go.ChangeAt Go.Deep
set_option linter.unusedVariables false
set_option linter.unusedSimpArgs false

/-- Kind, N, O -/
abbrev Ba := Int × Int × Od
def baV (a : Ba) : List Value := [.int .i64 a.1, .int .i64 a.2.1, .int .i64 a.2.2.id, .string a.2.2.who, .bool a.2.2.buy, .int .i64 a.2.2.item, .int .i64 a.2.2.ct, .int .i64 a.2.2.pr]
def baQ (a : Ba) : Prop := True
set_option maxRecDepth 100000 in
theorem read_ba {H : Type} {enc : TypeId × Value → H} {W : World} : ∀ fuel cs x, DataW.trod enc Try.prog W 0 (fun _ => true) true fuel 52 cs = some x → ∃ r : Ba, cs = baV r ∧ baQ r := by
  intro fuel cs x h
  obtain ⟨xs, n, _, _, hl, hlen, hf⟩ := DataW.trod_struct Try.underlying52 h
  have hc : Try.prog.cellsOf 52 = 8 := by kernel_rfl
  have c1 : Try.prog.cellsOf 3 = 1 := by kernel_rfl
  have c2 : Try.prog.cellsOf 9 = 1 := by kernel_rfl
  have c3 : Try.prog.cellsOf 4 = 1 := by kernel_rfl
  have c4 : Try.prog.cellsOf 35 = 6 := by kernel_rfl
  rw [hc] at hl
  match cs, hl, xs, hlen with
  | [v0, v1, v2, v3, v4, v5, v6, v7], _, [y0, y1, y2], _ =>
    have g0 := hf 0 _ rfl
    have g1 := hf 1 _ rfl
    have g2 := hf 2 _ rfl
    simp [c1, c4] at g0 g1 g2
    obtain ⟨k, e0, _, w0⟩ := DataW.trod_int Try.underlying3 g0
    obtain ⟨z, e1, _, w1⟩ := DataW.trod_int Try.underlying3 g1
    obtain ⟨xs2, n2, _, _, hl2, hlen2, hf2⟩ := DataW.trod_struct Try.underlying35 g2
    match xs2, hlen2 with
    | [z0, z1, z2, z3, z4, z5], _ =>
      have p0 := hf2 0 _ rfl
      have p1 := hf2 1 _ rfl
      have p2 := hf2 2 _ rfl
      have p3 := hf2 3 _ rfl
      have p4 := hf2 4 _ rfl
      have p5 := hf2 5 _ rfl
      simp [c1, c2, c3] at p0 p1 p2 p3 p4 p5
      obtain ⟨i, f0, _, _⟩ := DataW.trod_int Try.underlying3 p0
      obtain ⟨s, f1, _, hs⟩ := DataW.trod_string Try.underlying9 p1
      obtain ⟨u, f2, _⟩ := DataW.trod_bool Try.underlying4 p2
      obtain ⟨t, f3, _, _⟩ := DataW.trod_int Try.underlying3 p3
      obtain ⟨c, f4, _, _⟩ := DataW.trod_int Try.underlying3 p4
      obtain ⟨q, f5, _, _⟩ := DataW.trod_int Try.underlying3 p5
      simp only [List.cons.injEq, and_true] at e0 e1 f0 f1 f2 f3 f4 f5
      subst e0 e1 f0 f1 f2 f3 f4 f5
      exact ⟨(k, z, ⟨i, s, u, t, c, q⟩), rfl, trivial⟩
set_option maxRecDepth 100000 in
theorem open_bacts {H : Type} {enc : TypeId × Value → H} {W : World} {base : Nat} {v : Value} {d : DataW H} {p : List MemPlace}
    (hv : Value.okWide Try.prog W .any base 22 v) (h : DataW.Trod enc Try.prog W 0 (fun _ => true) true 22 v d p) :
    ∃ (A : Option Addr) (c : Nat) (xs : List Ba), v = .slice A xs.length c ∧ xs.length ≤ c ∧ c ≤ maxLen ∧ (∀ r ∈ xs, baQ r) ∧ Cells W W.heap.size A xs.length c 8 (xs.flatMap baV) :=
  open_rows baV baQ 8 (by omega) (fun _ => rfl) (0, 0, ⟨0, ⟨#[]⟩, false, 0, 0, 0⟩) Try.underlying22 (by kernel_rfl) read_ba hv h
theorem ba_at {w : World} {B c : Nat} {A : Option Addr} {xs : List Ba} (h : Cells w B A xs.length c 8 (xs.flatMap baV)) {i : Nat} (hi : i < xs.length) :
    ∃ b o, A = some ⟨b, o, none⟩ ∧ b < B ∧ w.cell? ⟨b, o + i * 8, none⟩ = some (.int .i64 xs[i].1) ∧ w.cell? ⟨b, o + i * 8 + 1, none⟩ = some (.int .i64 xs[i].2.1) ∧ w.cell? ⟨b, o + i * 8 + 2, none⟩ = some (.int .i64 xs[i].2.2.id) ∧ w.cell? ⟨b, o + i * 8 + 3, none⟩ = some (.string xs[i].2.2.who) ∧ w.cell? ⟨b, o + i * 8 + 4, none⟩ = some (.bool xs[i].2.2.buy) ∧ w.cell? ⟨b, o + i * 8 + 5, none⟩ = some (.int .i64 xs[i].2.2.item) ∧ w.cell? ⟨b, o + i * 8 + 6, none⟩ = some (.int .i64 xs[i].2.2.ct) ∧ w.cell? ⟨b, o + i * 8 + 7, none⟩ = some (.int .i64 xs[i].2.2.pr) := by
  have g := fun k hk => flat_get baV 8 (fun _ => rfl) xs i k hk
  have e : xs[i]? = some xs[i] := List.getElem?_eq_getElem hi
  have key : ∀ k u, k < 8 → (baV xs[i])[k]? = some u → ∃ b o, A = some ⟨b, o, none⟩ ∧ b < B ∧ w.cell? ⟨b, o + (i * 8 + k), none⟩ = some u := fun k u hk hu => h.2.2 (i * 8 + k) u (by rw [g k hk, e]; exact hu)
  obtain ⟨b, o, e0, hb, k0⟩ := key 0 _ (by decide) rfl
  have hall : ∀ k u, k < 8 → (baV xs[i])[k]? = some u → w.cell? ⟨b, o + (i * 8 + k), none⟩ = some u := fun k u hk hu => by
    obtain ⟨b1, o1, e1, _, h1⟩ := key k u hk hu
    rw [e0] at e1
    injection e1 with e1
    injection e1 with e3 e4
    subst e3 e4
    exact h1
  refine ⟨b, o, e0, hb, by simpa using k0, ?_, ?_, ?_, ?_, ?_, ?_, ?_⟩
  · rw [Nat.add_assoc]; exact hall 1 _ (by decide) rfl
  · rw [Nat.add_assoc]; exact hall 2 _ (by decide) rfl
  · rw [Nat.add_assoc]; exact hall 3 _ (by decide) rfl
  · rw [Nat.add_assoc]; exact hall 4 _ (by decide) rfl
  · rw [Nat.add_assoc]; exact hall 5 _ (by decide) rfl
  · rw [Nat.add_assoc]; exact hall 6 _ (by decide) rfl
  · rw [Nat.add_assoc]; exact hall 7 _ (by decide) rfl
end Go.Proofs.Ytekelnkjigaofaa
