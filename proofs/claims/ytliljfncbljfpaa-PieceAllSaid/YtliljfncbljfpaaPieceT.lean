/- piece.In: what Take does. -/
import Derived.Test.YtliljfncbljfpaaPieceI
import Derived.Maps.AppendAt
namespace Go.Proofs.Ytliljfncbljfpaa
open Go.RowKit
set_option linter.unusedVariables false
set_option linter.unusedSimpArgs false

theorem Touch.of_grown {w w' : World} {row : Option Nat} (h : w.grownBy w' row) : Touch (fun k => row = some k) w w' := ⟨h.os, h.tape, h.output, h.size, fun k hk hn => h.block k hk (fun e => hn e.symm)⟩
theorem Touch.set {D : Nat → Prop} {w w' : World} (h : Touch D w w') {a : Addr} {v : Value} (ha : a.block < w.heap.size → D a.block) : Touch D w (w'.setCell a v) :=
  ⟨h.os, h.tape, h.output, by simpa [World.setCell] using h.size, fun k hk hn => (Below.heap_setCell _ _ _ _ (fun e => hn (by subst e; exact ha hk))).trans (h.block k hk hn)⟩
theorem Touch.alloc {D : Nat → Prop} {w w' : World} (h : Touch D w w') (o : Obj) : Touch D w (w'.alloc o) :=
  ⟨h.os, h.tape, h.output, Nat.le_trans h.size (by simp), fun k hk hn => (Below.heap_alloc _ _ _ (Nat.lt_of_lt_of_le hk h.size)).trans (h.block k hk hn)⟩

theorem own_set_ne {w : World} {base e size n : Nat} {v : Value} {xs : List Value} (h : w.ownsRow base e size v n xs) {a : Addr} {u : Value} (ha : ∀ g, v.ownBlock = some g → g ≠ a.block) : (w.setCell a u).ownsRow base e size v n xs :=
  Touch.own (D := fun k => k = a.block) ((Touch.refl _ w).set (fun _ => rfl)) h ha

theorem wpList_append_touch {P : Program} {w : World} {ops : Array Oper} {rest : List Oper} {o : Oper} {a : Act} {Q : Exit → Act → World → Prop} (hgd : o.guard = none) (s x : Operand) (t : TypeId)
    (ho : o.op = .call { callee := .builtin .append, args := #[s, x], argTypes := #[t, t] })
    (base : Nat) (e : TypeId) (i : TypeInfo) (z : Value) (size bytes : Nat) (ht : P.underlying t = some (.slice e)) (hi : P.info? e = some i) (hz : i.zero = some z)
    (hsize : i.size = size) (hby : i.bytes = bytes) (hzs : z.cells.size = size) (hsz : 0 < size)
    (v : Value) (n : Nat) (xs : List Value) (hs : a.eval s = v) (hown : w.ownsRow base e size v n xs)
    (B : Nat) (A : Option Addr) (m c : Nat) (news : List Value) (hx : a.eval x = .slice A m c) (hr : Cells w B A m c size news) (h1 : ∀ u ∈ news, u.oneCell' = true)
    (h63 : n + m ≤ maxLen) (hbytes : (n + m) * bytes ≤ 140737488355328) (hbase : base ≤ w.heap.size)
    (h : ∀ v' w', w'.ownsRow base e size v' (n + m) (xs ++ news) → Touch (fun k => v.ownBlock = some k) w w' → (v'.ownBlock = v.ownBlock ∨ v'.ownBlock = some w.heap.size) → wpList P ops Q rest (a.put o.dst v') w') : wpList P ops Q (o :: rest) a w := by
  cases A with
  | none =>
    obtain ⟨rfl, rfl⟩ := hr.2.1 rfl
    have hn : news = [] := List.eq_nil_of_length_eq_zero (by simpa using hr.1)
    subst hn
    refine wpList_append_own_none hgd s x t ho base e i size ht hi v n xs hs hown hx (h v w (by simpa using hown) (Touch.refl _ _) (.inl rfl))
  | some ad =>
    refine wpList_append_own_at w hgd s x t ho base e i z size bytes ht hi hz hsize hby hzs hsz v n xs hs hown ad m c news hx hr.1 (fun j u hu => ?_) h1 h63 hbytes hbase (fun v' w' h2 h3 _ h5 => h v' w' h2 (Touch.of_grown h3) h5)
    obtain ⟨b, o, e, _, hc⟩ := hr.2.2 j u hu
    injection e with e
    subst e
    rw [add_none]; exact hc

set_option maxHeartbeats 1000000 in
set_option maxRecDepth 10000 in
theorem piTakeNo (b L : Nat) (row : List Nat) (s off : Int) (A : Option Addr) (m c : Nat) (w : World) (h : Pi w b L row s) (hs : 0 ≤ s) (hs1 : s ≤ 1000000) (hl : row.length ≤ 1000000) (hm : m ≤ 1000000) (hno : off ≠ row.length ∨ s < (row.length : Int) + m) :
    Calls Try.prog 39 #[.pointer (some ⟨b, 0, none⟩), .int .i64 off, .slice A m c] w fun e w' => e = .returned (.int .i64 row.length) ∧ ∃ n, w' = w.drewN n := by
  obtain ⟨v, h0, hown, _⟩ := h.row
  obtain ⟨A1, c1, rfl, _, _, _⟩ := row_cells hown
  have h1 := h.size
  clear h hown
  by_cases ho : off = row.length
  · subst ho
    have h2 : ¬ (m : Int) ≤ s - (row.length : Int) := by omega
    clear hno
    go_enter Try.func39, Try.ntmps39
    go_wp2_with fail
    go_quiet (fail)
    go_wp2_with fail
    go_ret
    exact ⟨rfl, ⟨_, rfl⟩⟩
  · have h2 : (off == (row.length : Int)) = false := by rw [beq_eq_false_iff_ne]; exact ho
    clear hno
    go_enter Try.func39, Try.ntmps39
    go_wp2_with fail
    go_quiet (fail)
    go_wp2_with fail
    go_ret
    exact ⟨rfl, ⟨_, rfl⟩⟩

set_option maxHeartbeats 1000000 in
set_option maxRecDepth 10000 in
theorem piTake (b L : Nat) (row p : List Nat) (s : Int) (B : Nat) (A : Option Addr) (c : Nat) (w : World) (h : Pi w b L row s) (hs : 0 ≤ s) (hs1 : s ≤ 1000000) (hl : row.length ≤ 1000000) (hm : p.length ≤ 1000000) (hx : Cells w B A p.length c 1 (flatU p)) (hok : (row.length : Int) + p.length ≤ s) :
    Calls Try.prog 39 #[.pointer (some ⟨b, 0, none⟩), .int .i64 row.length, .slice A p.length c] w fun e w' => e = .returned (.int .i64 (row.length + p.length : Nat)) ∧ Pi w' b L (row ++ p) s ∧ Touch (fun k => k = b ∨ rowBlk w b = some k) w w' ∧ (rowBlk w' b = rowBlk w b ∨ rowBlk w' b = some w.heap.size) := by
  obtain ⟨i0, hi, hz0, hz1, hz2⟩ := info_parts Try.infoByte
  obtain ⟨v, h0, hown, hne⟩ := h.row
  obtain ⟨A1, c1, rfl, _, _, _⟩ := row_cells hown
  have h1 := h.size
  have f := h.free
  have f0 := f 0
  have hlow := h.low
  have hhigh := h.high
  have h2 : (p.length : Int) ≤ s - (row.length : Int) := by omega
  have hrb : rowBlk w b = (Value.slice A1 row.length c1).ownBlock := by rw [rowBlk, h0]; rfl
  have HO := Lib.hid hown
  have HX := Lib.hid hx
  have HN := Lib.hid hne
  have HR := Lib.hid hrb
  clear h hown hx hok hne hrb
  go_enter Try.func39, Try.ntmps39
  go_wp2_with fail
  go_quiet (fail)
  generalize hV : w.drewN nq = V
  have k0 : V.cell? ⟨b, 0, none⟩ = some (.slice A1 row.length c1) := by subst hV; exact h0
  have k1 : V.cell? ⟨b, 1, none⟩ = some (.int .i64 s) := by subst hV; exact h1
  have g0 : V.frozen? ⟨b, 0, none⟩ = false := by subst hV; exact f0
  have HV : Hid (w.drewN nq = V) := Lib.hid hV
  have HO1 : Hid (V.ownsRow L 5 1 (.slice A1 row.length c1) row.length (flatU row)) := by subst hV; exact HO
  have HX1 : Hid (Cells V B A p.length c 1 (flatU p)) := by subst hV; exact HX
  have hVs : L ≤ V.heap.size := by subst hV; simp; omega
  clear hV
  go_wp2_with (at_builtin; go_must (refine wpList_append_touch rfl (.tmp 35) (.tmp 36) 27 rfl L 5 i0 (.int .u8 0) 1 1 Try.underlying27 hi hz0 hz1 hz2 rfl (by decide) _ row.length (flatU row) rfl HO1.out B A p.length c (flatU p) rfl HX1.out (flatU_one _) (by unfold maxLen; omega) (by omega) (by (first | omega | (simp; done) | (simp; omega))) ?_); intro v5 w5 hown5 ht5 hb5; have HO5 := Lib.hid hown5; have c5 := ht5.cell k0 (fun e => HN.out b e rfl); have d5 := ht5.cell k1 (fun e => HN.out b e rfl); have g5 := ht5.frozen (by have := HV.out; subst this; simpa using hlow) g0 (fun e => HN.out b e rfl); clear hown5; obtain ⟨A5, cp5, rfl, -, -, -⟩ := row_cells HO5.out)
  have hV2 := HV.out
  have hne5 : ∀ g, (Value.slice A5 (row.length + p.length) cp5).ownBlock = some g → g ≠ b := by
    intro g hg
    rcases hb5 with e | e
    · exact HN.out g (e ▸ hg)
    · rw [e] at hg; injection hg with hg; subst hV2; simp at hg; omega
  go_ret
  refine ⟨ret_int (by omega), ⟨⟨_, c_set_same (h_of c5), by rw [List.length_append, flatU_app]; exact own_set_ne HO5.out hne5, hne5⟩, c_set_other (Or.inr (by decide)) d5, fun j => f_set (ht5.frozen (by subst hV2; simpa using hlow) (by subst hV2; exact f j) (fun e => HN.out b e rfl)), by have := ht5.size; subst hV2; simp at this ⊢; omega, hhigh⟩, ?_, ?_⟩
  · subst hV2
    exact Touch.set ((Touch.refl _ w).drewN nq |>.trans ht5 (fun k _ hk => .inr (HR.out.trans hk))) (fun _ => .inl rfl)
  · rw [HR.out, rowBlk, c_set_same (h_of c5)]
    rcases hb5 with e | e
    · exact .inl e
    · exact .inr (by subst hV2; exact e)

end Go.Proofs.Ytliljfncbljfpaa
