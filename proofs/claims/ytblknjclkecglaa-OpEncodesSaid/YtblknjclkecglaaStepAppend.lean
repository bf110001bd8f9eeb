/- append onto a row of the call's own, as one step of a region that draws its order. -/
import Derived.Test.YtblknjclkecglaaAppend
import Derived.Deep.RegionHeld3
namespace Go.Proofs.Ytblknjclkecglaa
open Go.RowKit
set_option linter.unusedVariables false
set_option linter.unusedSimpArgs false

theorem step_append_row {P : Program} {w : World} {ops : Array Oper} {o : Oper} {a : Act} {K : Act → World → Prop} {Q : Exit → Act → World → Prop} {E : Prop} (hgd : o.guard = none) (s x : Operand) (t : TypeId)
    (ho : o.op = .call { callee := .builtin .append, args := #[s, x], argTypes := #[t, t] })
    (base : Nat) (e : TypeId) (i : TypeInfo) (z : Value) (size bytes : Nat) (ht : P.underlying t = some (.slice e)) (hi : P.info? e = some i) (hz : i.zero = some z)
    (hsize : i.size = size) (hby : i.bytes = bytes) (hzs : z.cells.size = size) (hsz : 0 < size)
    (vb vc n : Nat) (xs : List Value) (hs : a.eval s = .slice (some ⟨vb, 0, none⟩) n vc) (hown : w.ownsRow base e size (.slice (some ⟨vb, 0, none⟩) n vc) n xs)
    (B : Nat) (ad : Addr) (m c : Nat) (news : List Value) (hx : a.eval x = .slice (some ad) m c) (hr : Cells w B (some ad) m c size news) (h1 : ∀ u ∈ news, u.oneCell' = true)
    (h63 : n + m ≤ maxLen) (hbytes : (n + m) * bytes ≤ 140737488355328) (hbase : base ≤ w.heap.size)
    (N : Nat) (hN : n + m = N) (zs : List Value) (hZ : xs ++ news = zs)
    (h : ∀ g cap w', w'.ownsRow base e size (.slice (some ⟨g, 0, none⟩) N cap) N zs → Below base w w' → (∀ b j, b < w.heap.size → b ≠ vb → w'.cell? ⟨b, j, none⟩ = w.cell? ⟨b, j, none⟩) → K (a.put o.dst (.slice (some ⟨g, 0, none⟩) N cap)) w') :
    if Region.wanted o (yielded ops a.tmps) = true then Oper.wp P o a w K Q else E := by
  subst hN hZ
  have hw : Region.wanted o (yielded ops a.tmps) = true := by simp [Region.wanted, hgd]
  rw [if_pos hw]
  have hv : Value.slice (some ⟨vb, 0, none⟩) n vc ≠ .slice none 0 0 := by intro e; injection e with e1; cases e1
  have hlow : ∀ k, (Value.slice (some ⟨vb, 0, none⟩) n vc).ownBlock = some k → base ≤ k := fun k hk => (hown.lt k hk).1
  obtain ⟨v', w', hrun, h2, h3, h4⟩ := run_append_own (P := P) (w := w) base t o.type e i z size bytes ht hi hz hsize hby hzs hsz _ n xs hown ad m c news hr.1 (fun j u hu => by
    obtain ⟨b, q, e, _, hc⟩ := hr.2.2 j u hu
    injection e with e
    subst e
    rw [add_none]; exact hc) h1 h63 hbytes hbase
  have hv' : v' ≠ .slice none 0 0 := fun e => hv (h4.1 e).1
  obtain ⟨g, cap, rfl⟩ : ∃ g cap, v' = .slice (some ⟨g, 0, none⟩) (n + m) cap := by
    rcases h2.2 with ⟨e, _⟩ | ⟨g, cap, cur, e, _⟩
    · exact absurd e hv'
    · exact ⟨g, cap, e⟩
  unfold Oper.wp
  simp [execOp, ho, resolve, invoke, builtin, hs, hx, hrun, Result.andThen]
  exact h g cap w' h2 ((Below.refl base w).grown h3 hbase hlow) (fun b j hb hne => World.cell?_of_block (h3.block b hb (fun e => hne (by injection e))))

theorem cells4 {w : World} {b B c : Nat} {v0 v1 v2 v3 : Value} (hb : b < B) (h0 : w.cell? ⟨b, 0, none⟩ = some v0) (h1 : w.cell? ⟨b, 1, none⟩ = some v1) (h2 : w.cell? ⟨b, 2, none⟩ = some v2) (h3 : w.cell? ⟨b, 3, none⟩ = some v3) : Cells w B (some ⟨b, 0, none⟩) 2 c 2 [v0, v1, v2, v3] := by
  refine ⟨rfl, (fun e => by cases e), ?_⟩
  intro j u hu
  refine ⟨b, 0, rfl, hb, ?_⟩
  rw [Nat.zero_add]
  match j, hu with
  | 0, hu => rw [h0]; exact hu
  | 1, hu => rw [h1]; exact hu
  | 2, hu => rw [h2]; exact hu
  | 3, hu => rw [h3]; exact hu
theorem cells_zero {w : World} {ad : Addr} {B c size : Nat} : Cells w B (some ad) 0 c size [] := ⟨by simp, (fun e => by cases e), fun j u hu => by simp at hu⟩

end Go.Proofs.Ytblknjclkecglaa
