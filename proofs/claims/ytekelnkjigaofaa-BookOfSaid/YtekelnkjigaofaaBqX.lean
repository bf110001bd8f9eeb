/- Book: two rows of orders that are one; no two that stand meet. -/
import Derived.Test.YtekelnkjigaofaaBqP
import Derived.Test.YtekelnkjigaofaaBqWd
namespace Go.Proofs.Ytekelnkjigaofaa
open Go.RowKit
set_option linter.unusedVariables false
set_option linter.unusedSimpArgs false

set_option maxHeartbeats 4000000 in
set_option maxRecDepth 100000 in
theorem odNeq (y : Od) (w : World) : (binOp .neq 35 (.agg #[.int .i64 y.id, .string y.who, .bool y.buy, .int .i64 y.item, .int .i64 y.ct, .int .i64 y.pr]) (.agg #[.int .i64 y.id, .string y.who, .bool y.buy, .int .i64 y.item, .int .i64 y.ct, .int .i64 y.pr])).run Try.prog w = .ok (.bool false) w := by
  go_simp
set_option maxHeartbeats 4000000 in
set_option maxRecDepth 100000 in
theorem tdNeq (t : Td) (w : World) : (binOp .neq 54 (.agg #[.string t.buyer, .string t.seller, .int .i64 t.buy, .int .i64 t.sell, .int .i64 t.item, .int .i64 t.ct, .int .i64 t.pr, .int .i64 t.bid]) (.agg #[.string t.buyer, .string t.seller, .int .i64 t.buy, .int .i64 t.sell, .int .i64 t.item, .int .i64 t.ct, .int .i64 t.pr, .int .i64 t.bid])).run Try.prog w = .ok (.bool false) w := by
  go_simp
theorem cells_atO {w : World} {B n c : Nat} {A : Option Addr} {L : List Od} (h : Cells w B A n c 6 (flatO L)) {j k : Nat} {v : Value} (hv : (flatO L)[j * 6 + k]? = some v) : ∃ b o, A = some ⟨b, o, none⟩ ∧ b < B ∧ w.cell? ⟨b, o + (j * 6 + k), none⟩ = some v := h.2.2 _ _ hv
theorem cells_orderAt {w : World} {B c : Nat} {A : Option Addr} {L : List Od} (h : Cells w B A L.length c 6 (flatO L)) {j : Nat} (hj : j < L.length) :
    ∃ b o, A = some ⟨b, o, none⟩ ∧ b < B ∧ w.cell? ⟨b, o + j * 6, none⟩ = some (.int .i64 L[j].id) ∧ w.cell? ⟨b, o + j * 6 + 1, none⟩ = some (.string L[j].who) ∧ w.cell? ⟨b, o + j * 6 + 2, none⟩ = some (.bool L[j].buy) ∧ w.cell? ⟨b, o + j * 6 + 3, none⟩ = some (.int .i64 L[j].item) ∧ w.cell? ⟨b, o + j * 6 + 4, none⟩ = some (.int .i64 L[j].ct) ∧ w.cell? ⟨b, o + j * 6 + 5, none⟩ = some (.int .i64 L[j].pr) := by
  obtain ⟨r0, r1, r2, r3, r4, r5⟩ := flatO_at L j hj
  obtain ⟨b, o, e, hb, h0⟩ := h.2.2 _ _ r0
  have key : ∀ k v, (flatO L)[j * 6 + k]? = some v → w.cell? ⟨b, o + j * 6 + k, none⟩ = some v := fun k v hv => by
    obtain ⟨b1, o1, e1, _, h1⟩ := h.2.2 _ _ hv
    rw [e] at e1
    injection e1 with e1
    injection e1 with e2 e3
    subst e2 e3
    rw [Nat.add_assoc]; exact h1
  exact ⟨b, o, e, hb, h0, key 1 _ r1, key 2 _ r2, key 3 _ r3, key 4 _ r4, key 5 _ r5⟩
set_option maxHeartbeats 4000000 in
set_option maxRecDepth 10000 in
theorem lawOrders (B : Nat) (A A' : Option Addr) (c c' : Nat) (L : List Od) (w : World) (h : Cells w w.heap.size A L.length c 6 (flatO L)) (h' : Cells w w.heap.size A' L.length c' 6 (flatO L)) (hl : L.length ≤ 1000) :
    Calls Try.prog 11 #[.slice A L.length c, .slice A' L.length c'] w fun e w' => e = .returned (.bool true) ∧ Below w.heap.size w w' := by
  have HA := Lib.hid h
  have HA' := Lib.hid h'
  clear h h'
  go_enter Try.func11, Try.ntmps11
  go_wp2_with fail
  go_loopw [5] (fun iv wr => ∃ i : Nat, i ≤ L.length ∧ iv = .int .i64 i ∧ Below w.heap.size w wr) (fun iv _ => L.length - (intOf iv).toNat)
  case atStart => exact ⟨0, Nat.zero_le _, rfl, Below.refl _ _⟩
  case round =>
    obtain ⟨i, hil, rfl, hBw⟩ := hrel
    have HBW := Lib.hid hBw
    by_cases hlt : i < L.length
    · have q3 : (i : Int) < (L.length : Int) := by omega
      obtain ⟨b, o, rfl, hb, a0, a1, a2, a3, a4, a5⟩ := cells_orderAt HA.out hlt
      obtain ⟨b', o', rfl, hb', z0, z1, z2, z3, z4, z5⟩ := cells_orderAt HA'.out hlt
      have a0 := bkeep hBw a0 hb
      have a1 := bkeep hBw a1 hb
      have a2 := bkeep hBw a2 hb
      have a3 := bkeep hBw a3 hb
      have a4 := bkeep hBw a4 hb
      have a5 := bkeep hBw a5 hb
      have z0 := bkeep hBw z0 hb'
      have z1 := bkeep hBw z1 hb'
      have z2 := bkeep hBw z2 hb'
      have z3 := bkeep hBw z3 hb'
      have z4 := bkeep hBw z4 hb'
      have z5 := bkeep hBw z5 hb'
      obtain ⟨y, hy⟩ : ∃ y, y = L[i] := ⟨_, rfl⟩
      rw [← hy] at a0 a1 a2 a3 a4 a5 z0 z1 z2 z3 z4 z5
      have hne := odNeq y
      clear hBw hy
      go_wp2_with fail
      go_quiet (fail)
      go_wp2_with fail
      exact ⟨⟨i + 1, hlt, by go_num, b_drewN HBW.out⟩, measI hlt⟩
    · obtain rfl : L.length = i := by omega
      go_wp2_with fail
      go_ret
      exact ⟨rfl, HBW.out⟩
def Ap (L : List Od) : Prop := ∀ a ∈ L, ∀ b ∈ L, meets a b = false
theorem meets_of {o x : Od} {o' x' : Od} (h1 : o'.item = o.item) (h2 : o'.buy = o.buy) (h3 : o'.pr = o.pr) (k1 : x'.item = x.item) (k2 : x'.buy = x.buy) (k3 : x'.pr = x.pr) : meets o' x' = meets o x := by
  unfold meets meetP; rw [h1, h2, h3, k1, k2, k3]
theorem meets_symm (o x : Od) : meets o x = meets x o := by
  unfold meets meetP
  cases ho : o.buy <;> cases hx : x.buy <;> simp [eq_comm, Bool.and_comm]
theorem meets_self (o : Od) : meets o o = false := by unfold meets; simp
theorem takeN_ap {x : Od} {n : Int} {L : List Od} (h : Ap L) : Ap (takeN x n L) := by
  intro a ha b hb
  obtain ⟨a', ha', _, hca⟩ := takeN_mem ha
  obtain ⟨b', hb', _, hcb⟩ := takeN_mem hb
  have fa : a.item = a'.item ∧ a.buy = a'.buy ∧ a.pr = a'.pr := by rcases hca with ⟨_, rfl⟩ | ⟨_, _, rfl⟩ <;> exact ⟨rfl, rfl, rfl⟩
  have fb : b.item = b'.item ∧ b.buy = b'.buy ∧ b.pr = b'.pr := by rcases hcb with ⟨_, rfl⟩ | ⟨_, _, rfl⟩ <;> exact ⟨rfl, rfl, rfl⟩
  rw [meets_of fa.1 fa.2.1 fa.2.2 fb.1 fb.2.1 fb.2.2]
  exact h a' ha' b' hb'
theorem Places.ap {o : Od} {L : List Od} {T : List Td} {o1 : Od} {L1 : List Od} (h : Places o L T o1 L1) : Ap L → Ap L1 := by
  induction h with
  | done o L h => exact fun h => h
  | step o x L T o' L' h0 hb h ih => exact fun h => ih (takeN_ap h)
theorem Placed.ap {L : List Od} {last : Int} {o : Od} {T : List Td} {n e : Int} {L' : List Od} {last' : Int} (h : Placed L last o T n e L' last') (hk : Bk L last) (ha : Ap L) : Ap L' := by
  cases h with
  | bad => exact ha
  | full => exact ha
  | ok h1 h2 h3 T o1 L1 hp hl =>
    obtain ⟨_, _, _, _, _, _, _, hnm, _, _⟩ := hp.bk hk
    have ha1 := hp.ap ha
    unfold laid
    split
    · rename_i hpos
      have hn : NoneMeets o1 L1 := by
        rcases hnm with h | h
        · omega
        · exact h
      intro a ha b hb
      rcases List.mem_append.1 ha with ha2 | ha2 <;> rcases List.mem_append.1 hb with hb2 | hb2
      · exact ha1 a ha2 b hb2
      · rw [List.mem_singleton.1 hb2, meets_symm]; exact hn a ha2
      · rw [List.mem_singleton.1 ha2]; exact hn b hb2
      · rw [List.mem_singleton.1 ha2, List.mem_singleton.1 hb2]; exact meets_self _
    · exact ha1
theorem gone_ap {L : List Od} {id : Int} (h : Ap L) : Ap (goneO id L) := fun a ha b hb => h a (List.mem_filter.1 ha).1 b (List.mem_filter.1 hb).1
theorem Placed.of_r {L : List Od} {last : Int} {o : Od} {T : List Td} {n e : Int} {L' : List Od} {last' : Int} (h : PlacedR L last o T n e L' last') : Placed L last o T n e L' last' := by
  cases h with
  | bad h => exact .bad h
  | full h1 h2 h => exact .full h1 h2 h
  | ok h1 h2 h T o1 L1 hp hl => exact .ok h1 h2 h T o1 L1 hp hl
theorem Placed.det {L : List Od} {last : Int} {o : Od} {T T' : List Td} {n e n' e' : Int} {L1 L2 : List Od} {l1 l2 : Int} (hk : Bk L last) (h : Placed L last o T n e L1 l1) (h' : Placed L last o T' n' e' L2 l2) : T = T' ∧ n = n' ∧ e = e' ∧ L1 = L2 ∧ l1 = l2 := by
  cases h with
  | bad h =>
    cases h' with
    | bad => exact ⟨rfl, rfl, rfl, rfl, rfl⟩
    | full h1 h2 => exact absurd ⟨h1, h2⟩ h
    | ok h1 h2 => exact absurd ⟨h1, h2⟩ h
  | full h1 h2 h =>
    cases h' with
    | bad h3 => exact absurd ⟨h1, h2⟩ h3
    | full => exact ⟨rfl, rfl, rfl, rfl, rfl⟩
    | ok _ _ h3 => omega
  | ok h1 h2 h T o1 L1 hp hl =>
    cases h' with
    | bad h3 => exact absurd ⟨h1, h2⟩ h3
    | full _ _ h3 => omega
    | ok _ _ _ _ _ _ hp' =>
      obtain ⟨rfl, rfl, rfl⟩ := hp.det hk hp'
      exact ⟨rfl, rfl, rfl, rfl, rfl⟩
end Go.Proofs.Ytekelnkjigaofaa
