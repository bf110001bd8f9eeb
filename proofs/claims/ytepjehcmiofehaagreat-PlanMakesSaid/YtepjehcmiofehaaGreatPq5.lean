/- The document's directory, of any maps: merges, splits. The document's directory: May. The document's directory, of any maps: May. What slices.Clone (of bytes) and octet's appendNum return. What the document's own Nums returns; rows behind a call. What octet.Wr -/
import Derived.Lib.VarintBits
import Derived.Deep.Heap
import Derived.Test.YtepjehcmiofehaaGreatPq4
namespace Go.Proofs.YtepjehcmiofehaaGreat
open Go.RowKit
set_option linter.unusedVariables false
set_option linter.unusedSimpArgs false
theorem MgP.of {l : List Zn} {i : Nat} {hi : i < l.length} (h : MgP l i hi) {k : Nat} (hk : k < l.length) (hkd : l[k].id = l[i].nw) (hkf : ∀ j (hj : j < l.length), j < k → l[j].id ≠ l[i].nw) : (k = i + 1 ∨ k + 1 = i) ∧ l[k].pd = 2 ∧ l[k].nw = l[i].id ∧ l[k].ow = l[i].ow := by
  obtain ⟨k2, hk2, e1, e2, e3⟩ := h.ex
  have : k2 = k := by
    rcases Nat.lt_trichotomy k2 k with h | h | h
    · exact absurd e1 (hkf k2 hk2 h)
    · exact h
    · exact absurd hkd (e2 k hk h)
  subst this
  exact e3
theorem no_of {b : Bool} {P : Prop} (h : b = true ↔ P) (hn : ¬ P) : b = false := by
  cases b with
  | false => rfl
  | true => exact absurd (h.1 rfl) hn
end Go.Proofs.YtepjehcmiofehaaGreat
namespace Go.Proofs.YtepjehcmiofehaaGreat
open Go.RowKit
set_option linter.unusedVariables false
set_option linter.unusedSimpArgs false
def flatS : List (ByteArray × ByteArray) → List Value
  | [] => []
  | p :: r => .string p.1 :: .string p.2 :: flatS r
theorem flatS_app (xs ys : List (ByteArray × ByteArray)) : flatS (xs ++ ys) = flatS xs ++ flatS ys := by
  induction xs with
  | nil => rfl
  | cons p r ih => simp only [List.cons_append, flatS, ih]
theorem flatS_get : ∀ (xs : List (ByteArray × ByteArray)) (k : Nat) (h : k < xs.length), (flatS xs)[k * 2]? = some (.string xs[k].1) ∧ (flatS xs)[k * 2 + 1]? = some (.string xs[k].2)
  | p :: r, 0, _ => ⟨rfl, rfl⟩
  | p :: r, k + 1, h => by
    have := flatS_get r k (by simpa using h)
    simp only [flatS, List.getElem_cons_succ]
    rw [show (k + 1) * 2 = k * 2 + 1 + 1 from by omega, show k * 2 + 1 + 1 + 1 = (k * 2 + 1) + 1 + 1 from by omega]
    simpa using this
theorem Tryz.infoSpan2 : (Tryz.prog.info? 54).map (fun i => (i.zero, i.size, i.bytes)) = some (some (.agg #[.string ⟨#[]⟩, .string ⟨#[]⟩]), 2, 32) := by kernel_rfl
theorem spans_of_row {w : World} {B g c : Nat} {xs : List (ByteArray × ByteArray)} (h : w.ownsRow B 54 2 (.slice (some ⟨g, 0, none⟩) xs.length c) xs.length (flatS xs)) (hg : g < w.heap.size) : Spans w w.heap.size (some ⟨g, 0, none⟩) xs := by
  intro k hk
  obtain ⟨y0, y1⟩ := flatS_get xs k hk
  refine ⟨g, 0, rfl, hg, ?_, ?_⟩
  · rw [Nat.zero_add]; exact (h.cellAt (k * 2) (by omega)).trans y0
  · rw [Nat.zero_add]; exact (h.cellAt (k * 2 + 1) (by omega)).trans y1
theorem spans_take1 {l : List Zn} {k : Nat} (h : k < l.length) : flatS (spansZ (l.take (k + 1))) = flatS (spansZ (l.take k)) ++ [.string l[k].fr, .string l[k].tt] := by
  rw [List.take_add_one, List.getElem?_eq_getElem h, spans_app, flatS_app]
  rfl
end Go.Proofs.YtepjehcmiofehaaGreat
namespace Go.Proofs.YtepjehcmiofehaaGreat
open Go.RowKit
set_option linter.unusedVariables false
set_option linter.unusedSimpArgs false
theorem may_doc {m : Mp} : MayP m ↔ (1 ≤ m.ver ∧ m.ver ≤ 1099511627776 ∧ 1 ≤ m.nxt ∧ m.nxt ≤ 1099511627776 ∧ m.zs.length ≤ 16 ∧ (∀ i (h : i < m.zs.length), ZP m i h) ∧ allB (spansZ m.zs) = true) :=
  ⟨fun h => ⟨h.v1, h.v2, h.n1, h.n2, h.len, all_zp h.nodup h.rng h.core, h.spn⟩, fun ⟨h1, h2, h3, h4, h5, h6, h7⟩ => by
    obtain ⟨g1, g2, g3⟩ := zp_all h6
    exact ⟨h1, h2, h3, h4, h5, g1, g2, g3, h7⟩⟩
end Go.Proofs.YtepjehcmiofehaaGreat
namespace Go.Proofs.YtepjehcmiofehaaGreat
open Go.RowKit
set_option linter.unusedVariables false
set_option linter.unusedSimpArgs false
/-- bytes as cells -/
def flatU (xs : List Nat) : List Value := xs.map fun x : Nat => Value.int .u8 (x : Int)
theorem flatU_length (xs : List Nat) : (flatU xs).length = xs.length := by simp [flatU]
theorem flatU_app (xs ys : List Nat) : flatU (xs ++ ys) = flatU xs ++ flatU ys := by simp [flatU]
theorem flatU_one (xs : List Nat) : ∀ u ∈ flatU xs, u.oneCell' = true := by
  intro u hu; simp only [flatU, List.mem_map] at hu; obtain ⟨x, _, rfl⟩ := hu; rfl
theorem Tryz.infoByte : (Tryz.prog.info? 5).map (fun i => (i.zero, i.size, i.bytes)) = some (some (.int .u8 0), 1, 1) := by kernel_rfl
theorem cells1 {w : World} {b B c : Nat} {v : Value} (hb : b < B) (h0 : w.cell? ⟨b, 0, none⟩ = some v) : Cells w B (some ⟨b, 0, none⟩) 1 c 1 [v] := by
  refine ⟨rfl, (fun e => by cases e), ?_⟩
  intro j u hu
  refine ⟨b, 0, rfl, hb, ?_⟩
  rw [Nat.zero_add]
  match j, hu with
  | 0, hu => rw [h0]; exact hu
theorem octClone0 (n c : Nat) (w : World) :
    Calls Tryz.prog 64 #[.slice none n c] w fun e w' => e = .returned (.slice none 0 0) ∧ w = w' := by
  have q : ∀ (w : World) (a : Option Addr) (n c n' c' : Nat), (binOp .eql 70 (.slice a n c) (.slice none n' c')).run Tryz.prog w = .ok (.bool a.isNone) w := fun w a n c n' c' => Lib.run_eql_slice_nil w _ _ a n c n' c' Tryz.underlying70
  go_enter Tryz.func64, Tryz.ntmps64
  go_wp2_with fail
  go_ret
  exact ⟨rfl, rfl⟩
theorem octClone1 (ad : Addr) (n c : Nat) (news : List Value) (w : World) (hn : n ≤ 1000000) (hx : Cells w w.heap.size (some ad) n c 1 news) (h1 : ∀ u ∈ news, u.oneCell' = true) :
    Calls Tryz.prog 64 #[.slice (some ad) n c] w fun e w' => ∃ v', e = .returned v' ∧ w'.ownsRow w.heap.size 5 1 v' n news ∧ Below w.heap.size w w' := by
  obtain ⟨i0, hi, hz0, hz1, hz2⟩ := info_parts Tryz.infoByte
  have q : ∀ (w : World) (a : Option Addr) (n c n' c' : Nat), (binOp .eql 70 (.slice a n c) (.slice none n' c')).run Tryz.prog w = .ok (.bool a.isNone) w := fun w a n c n' c' => Lib.run_eql_slice_nil w _ _ a n c n' c' Tryz.underlying70
  have HX := Lib.hid (cells_keep (w1 := w.alloc (.cells #[] 5)) (B' := w.heap.size) hx ((Below.refl _ _).alloc (Nat.le_refl _) _) (Nat.le_refl _))
  have H1 := Lib.hid h1
  clear hx h1
  go_enter Tryz.func64, Tryz.ntmps64
  go_wp2_with (at_builtin; go_must (refine wpList_append_row rfl (.tmp 5) (.tmp 6) 70 rfl w.heap.size 5 i0 (.int .u8 0) 1 1 Tryz.underlying70 hi hz0 hz1 hz2 rfl (by decide) _ 0 [] rfl (World.ownsRow_lit w #[] 0 (Nat.le_refl _) (by decide) rfl) w.heap.size (some ad) n c news rfl HX.out H1.out (by unfold maxLen; omega) (by omega) (by (first | omega | (simp; done) | (simp; omega))) ?_); intro v1 w1 hown hb)
  simp only [Nat.zero_add, List.nil_append] at hown
  go_ret
  exact ⟨_, rfl, hown, ((Below.refl w.heap.size w).alloc (Nat.le_refl _) _).trans hb⟩
/-- a number in sevens, the lowest first -/
def enc (n : Nat) : List Nat := if h : 128 ≤ n then (n % 128 + 128) :: enc (n / 128) else [n]
decreasing_by omega
def clamp (n : Int) : Nat := (min (max n 0) 4611686018427387904).toNat
theorem or128_below : ∀ x : Fin 256, bits BinOp.or IntKind.u8 ((x.val : Nat) : Int) 128 = ((x.val % 128 + 128 : Nat) : Int) := by decide +kernel
theorem or128 (r : Nat) : bits BinOp.or IntKind.u8 ((r : Int) % 256) 128 = ((r % 128 + 128 : Nat) : Int) := by
  have h := or128_below ⟨r % 256, Nat.mod_lt _ (by decide)⟩
  have e1 : (((r % 256 : Nat)) : Int) = (r : Int) % 256 := by omega
  have e2 : r % 256 % 128 = r % 128 := by omega
  simp only [e2] at h
  rw [← e1]; exact h
theorem low256 {r : Nat} (h : ¬ 128 ≤ r) : (r : Int) % 256 = (r : Int) := by omega
theorem enc_pos (n : Nat) : 0 < (enc n).length := by
  rw [enc]; split <;> simp
theorem enc_len_pow : ∀ (k n : Nat), n < 128 ^ (k + 1) → (enc n).length ≤ k + 1
  | 0, n, h => by rw [enc]; split
                  · omega
                  · simp
  | k + 1, n, h => by
    rw [enc]; split
    · have := enc_len_pow k (n / 128) (by rw [Nat.pow_succ] at h; omega)
      simp; omega
    · simp
theorem enc_len {n : Nat} (h : n ≤ 4611686018427387904) : (enc n).length ≤ 10 := by
  have := enc_len_pow 8 n (by omega)
  omega
end Go.Proofs.YtepjehcmiofehaaGreat
namespace Go.Proofs.YtepjehcmiofehaaGreat
open Go.RowKit
set_option linter.unusedVariables false
set_option linter.unusedSimpArgs false
/-- a row of the call's own stays so behind a call -/
theorem row_below {w w' : World} {base e size n : Nat} {v : Value} {xs : List Value} (h : w.ownsRow base e size v n xs) (hb : Below w.heap.size w w') : w'.ownsRow base e size v n xs := by
  refine ⟨h.1, ?_⟩
  rcases h.2 with h0 | ⟨g, cap, cur, hv, hg, hh, hr⟩
  · exact .inl h0
  · exact .inr ⟨g, cap, cur, hv, hg, by rw [hb.block g (Array.getElem?_eq_some_iff.1 hh).1]; exact hh, hr⟩
theorem row_cells {w : World} {base e size : Nat} {v : Value} {n : Nat} {xs : List Value} (h : w.ownsRow base e size v n xs) : ∃ A cap, v = .slice A n cap ∧ n ≤ cap ∧ cap ≤ maxLen ∧ Cells w w.heap.size A n cap size xs := by
  rcases h.2 with ⟨hv, h0⟩ | ⟨g, cap, cur, hv, hg, hh, hc, hm, _⟩
  · subst h0
    have hn : xs = [] := List.eq_nil_of_length_eq_zero (by simpa using h.1)
    subst hn
    exact ⟨_, _, hv, Nat.le_refl _, by unfold maxLen; omega, h.1, fun _ => ⟨rfl, rfl⟩, fun j u hu => by simp at hu⟩
  · subst hv
    have hlt : g < w.heap.size := (Array.getElem?_eq_some_iff.1 hh).1
    refine ⟨_, _, rfl, hc, hm, h.1, (fun e => by cases e), fun j u hu => ⟨g, 0, rfl, hlt, ?_⟩⟩
    have := h.cells (g := g) rfl j u hu
    rw [add_none] at this
    exact this
/-- a slice of integers that reads as a list -/
def Ints (w : World) (B : Nat) (A : Option Addr) (l : List Int) : Prop :=
  ∀ k (h : k < l.length), ∃ b o, A = some ⟨b, o, none⟩ ∧ b < B ∧ w.cell? ⟨b, o + k, none⟩ = some (.int .i64 l[k])
def encs (l : List Int) : List Nat := l.flatMap fun n => enc (clamp n)
theorem clamp_le (n : Int) : clamp n ≤ 4611686018427387904 := by unfold clamp; omega
theorem encs_snoc {l : List Int} {k : Nat} (h : k < l.length) : encs (l.take (k + 1)) = encs (l.take k) ++ enc (clamp l[k]) := by
  unfold encs
  rw [List.take_succ_eq_append_getElem h, List.flatMap_append, List.flatMap_singleton]
theorem encs_len (l : List Int) : (encs l).length ≤ 10 * l.length := by
  induction l with
  | nil => simp [encs]
  | cons n r ih =>
    have := enc_len (clamp_le n)
    simp only [encs, List.flatMap_cons, List.length_append, List.length_cons] at ih ⊢
    omega
end Go.Proofs.YtepjehcmiofehaaGreat
namespace Go.Proofs.YtepjehcmiofehaaGreat
open Go.RowKit
set_option linter.unusedVariables false
set_option linter.unusedSimpArgs false
theorem row_set {w : World} {base e size n : Nat} {v : Value} {xs : List Value} (h : w.ownsRow base e size v n xs) {a : Addr} (ha : a.block < base) (u : Value) : (w.setCell a u).ownsRow base e size v n xs := by
  refine ⟨h.1, ?_⟩
  rcases h.2 with h0 | ⟨g, cap, cur, hv, hg, hh, hr⟩
  · exact .inl h0
  · exact .inr ⟨g, cap, cur, hv, hg, by rw [Go.Deep.blk_setCell_other w a u g (by omega)]; exact hh, hr⟩
/-- a Writer at block b, what it has laid in a row of its own from base on -/
structure Wr (w : World) (b base : Nat) (xs : List Nat) : Prop where
  row : ∃ s, w.cell? ⟨b, 0, none⟩ = some s ∧ w.ownsRow base 5 1 s xs.length (flatU xs)
  free : w.frozen? ⟨b, 0, none⟩ = false
  low : b < base
  high : base ≤ w.heap.size
set_option maxHeartbeats 1000000 in
set_option maxRecDepth 10000 in
theorem wOut (b base : Nat) (xs : List Nat) (w : World) (hxs : xs.length ≤ 1000000) (hw : Wr w b base xs) :
    Calls Tryz.prog 53 #[.pointer (some ⟨b, 0, none⟩)] w fun e w' => ∃ v', e = .returned v' ∧ w'.ownsRow w.heap.size 5 1 v' xs.length (flatU xs) ∧ Below w.heap.size w w' := by
  obtain ⟨⟨s, hs, hown⟩, hfr, hlow, hhigh⟩ := hw
  obtain ⟨A, cap, rfl, hc, hm, hx⟩ := row_cells hown
  have HX := Lib.hid hx
  clear hx hown
  go_enter Tryz.func53, Tryz.ntmps53
  cases A with
  | none =>
    go_wp2_with fail
    refine (octClone0 _ _ _).mono ?_
    rintro e w1 ⟨rfl, rfl⟩
    go_wp2_with fail
    go_ret
    have h0 := (HX.out.2.1 rfl).1
    refine ⟨_, rfl, ?_, Below.refl _ _⟩
    obtain rfl : xs = [] := List.eq_nil_of_length_eq_zero h0
    exact World.ownsRow_nil _ _ _ _
  | some ad =>
    go_wp2_with fail
    refine (octClone1 ad _ _ _ _ hxs HX.out (flatU_one _)).mono ?_
    rintro e w1 ⟨v1, rfl, hown1, hb1⟩
    have HO := Lib.hid hown1
    clear hown1
    go_wp2_with fail
    go_ret
    exact ⟨_, rfl, HO.out, hb1⟩
end Go.Proofs.YtepjehcmiofehaaGreat
