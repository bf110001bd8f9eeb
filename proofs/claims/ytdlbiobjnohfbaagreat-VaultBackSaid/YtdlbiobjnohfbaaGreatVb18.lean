/- What slices.Clone (of bytes) and octet's appendNum return. What the document's own Num and Nums return. What the document's own Nums returns; rows behind a call. What octet.Writer's Nums and Out do. octet's Writer, with frames by touched blocks. -/
import Derived.Deep.Light
import Derived.Lib.VarintBits
import Derived.Deep.Heap
import Derived.Test.YtdlbiobjnohfbaaGreatVb1
namespace Go.Proofs.YtdlbiobjnohfbaaGreat
open Go.RowKit
set_option linter.unusedVariables false
set_option linter.unusedSimpArgs false
def flatU (xs : List Nat) : List Value := xs.map fun x : Nat => Value.int .u8 (x : Int)
theorem flatU_length (xs : List Nat) : (flatU xs).length = xs.length := by simp [flatU]
theorem flatU_app (xs ys : List Nat) : flatU (xs ++ ys) = flatU xs ++ flatU ys := by simp [flatU]
theorem flatU_one (xs : List Nat) : ∀ u ∈ flatU xs, u.oneCell' = true := by
 intro u hu; simp only [flatU, List.mem_map] at hu; obtain ⟨x, _, rfl⟩ := hu; rfl
theorem Tryz.infoByte : (Tryz.prog.info? 5).map (fun i => (i.zero, i.size, i.bytes)) = some (some (.int .u8 0), 1, 1) := by kernel_rfl
theorem cells1 {w : World} {b B c : Nat} {v : Value} (hb : b < B) (h0 : w.cell? ⟨b, 0, none⟩ = some v) : Cells w B (some ⟨b, 0, none⟩) 1 c 1 [v] := by
 refine ⟨rfl, (fun e => by cases e), ?_⟩
 intro j u hu
 refine ⟨b, 0, rfl, hb, ?_⟩
 rw [Nat.zero_add]
 match j, hu with
 | 0, hu => rw [h0]; exact hu
theorem octClone0 (n c : Nat) (w : World) :
  Calls Tryz.prog 76 #[.slice none n c] w fun e w' => e = .returned (.slice none 0 0) ∧ w = w' := by
 have q : ∀ (w : World) (a : Option Addr) (n c n' c' : Nat), (binOp .eql 33 (.slice a n c) (.slice none n' c')).run Tryz.prog w = .ok (.bool a.isNone) w := fun w a n c n' c' => Lib.run_eql_slice_nil w _ _ a n c n' c' Tryz.underlying33
 go_enter Tryz.func76, Tryz.ntmps76
 go_wp2_with fail
 go_ret
 exact ⟨rfl, rfl⟩
theorem octClone1 (ad : Addr) (n c : Nat) (news : List Value) (w : World) (hn : n ≤ 1000000) (hx : Cells w w.heap.size (some ad) n c 1 news) (h1 : ∀ u ∈ news, u.oneCell' = true) :
  Calls Tryz.prog 76 #[.slice (some ad) n c] w fun e w' => ∃ v', e = .returned v' ∧ w'.ownsRow w.heap.size 5 1 v' n news ∧ Below w.heap.size w w' := by
 obtain ⟨i0, hi, hz0, hz1, hz2⟩ := info_parts Tryz.infoByte
 have q : ∀ (w : World) (a : Option Addr) (n c n' c' : Nat), (binOp .eql 33 (.slice a n c) (.slice none n' c')).run Tryz.prog w = .ok (.bool a.isNone) w := fun w a n c n' c' => Lib.run_eql_slice_nil w _ _ a n c n' c' Tryz.underlying33
 have HX := Lib.hid (cells_keep (w1 := w.alloc (.cells #[] 5)) (B' := w.heap.size) hx ((Below.refl _ _).alloc (Nat.le_refl _) _) (Nat.le_refl _))
 have H1 := Lib.hid h1
 clear hx h1
 go_enter Tryz.func76, Tryz.ntmps76
 go_wp2_with (at_builtin; go_must (refine wpList_append_row rfl (.tmp 5) (.tmp 6) 33 rfl w.heap.size 5 i0 (.int .u8 0) 1 1 Tryz.underlying33 hi hz0 hz1 hz2 rfl (by decide) _ 0 [] rfl (World.ownsRow_lit w #[] 0 (Nat.le_refl _) (by decide) rfl) w.heap.size (some ad) n c news rfl HX.out H1.out (by unfold maxLen; omega) (by omega) (by (first | omega | (simp; done) | (simp; omega))) ?_); intro v1 w1 hown hb)
 simp only [Nat.zero_add, List.nil_append] at hown
 go_ret
 exact ⟨_, rfl, hown, ((Below.refl w.heap.size w).alloc (Nat.le_refl _) _).trans hb⟩
def enc (n : Nat) : List Nat := if h : 128 ≤ n then (n % 128 + 128) :: enc (n / 128) else [n]
decreasing_by omega
def clamp (n : Int) : Nat := (min (max n 0) 4611686018427387904).toNat
theorem or128_below : ∀ x : Fin 256, bits BinOp.or IntKind.u8 ((x.val : Nat) : Int) 128 = ((x.val % 128 + 128 : Nat) : Int) := by decide +kernel
theorem or128 (r : Nat) : bits BinOp.or IntKind.u8 ((r : Int) % 256) 128 = ((r % 128 + 128 : Nat) : Int) := by
 have h := or128_below ⟨r % 256, Nat.mod_lt _ (by decide)⟩
 have e1 : (((r % 256 : Nat)) : Int) = (r : Int) % 256 := by omega
 have e2 : r % 256 % 128 = r % 128 := by omega
 simp only [e2] at h
 rw [← e1]; exact h
theorem low256 {r : Nat} (h : ¬ 128 ≤ r) : (r : Int) % 256 = (r : Int) := by omega
theorem enc_pos (n : Nat) : 0 < (enc n).length := by
 rw [enc]; split <;> simp
theorem enc_len_pow : ∀ (k n : Nat), n < 128 ^ (k + 1) → (enc n).length ≤ k + 1
  | 0, n, h => by rw [enc]; split
                  · omega
                  · simp
  | k + 1, n, h => by
    rw [enc]; split
    · have := enc_len_pow k (n / 128) (by rw [Nat.pow_succ] at h; omega)
      simp; omega
    · simp
theorem enc_len {n : Nat} (h : n ≤ 4611686018427387904) : (enc n).length ≤ 10 := by
 have := enc_len_pow 8 n (by omega)
 omega
theorem and127 {r : Nat} (h : r ≤ 4611686018427387904) : bits BinOp.and IntKind.u64 (r : Int) 127 = (r : Int) % 128 := bits_mask .u64 64 (by decide) wraps_u64 7 (by decide) (r : Int) (by omega) (by omega)
theorem or128c (r : Nat) : bits BinOp.or IntKind.u8 ((r : Int) % 128 % 256) 128 = ((r % 128 + 128 : Nat) : Int) := by
 have h := or128 (r % 128)
 have e1 : (((r % 128 : Nat)) : Int) = (r : Int) % 128 := by omega
 have e2 : r % 128 % 128 = r % 128 := by omega
 rw [e1, e2] at h; exact h
theorem or128d (r : Nat) : bits BinOp.or IntKind.u8 ((r : Int) % 128) 128 = ((r % 128 + 128 : Nat) : Int) := by
 have h := or128c r
 rw [show (r : Int) % 128 % 256 = (r : Int) % 128 from by omega] at h; exact h
set_option maxHeartbeats 1000000 in
set_option maxRecDepth 10000 in
theorem refNum (n : Int) (w : World) :
    Calls Tryz.prog 72 #[.int .i64 n] w fun e w' => ∃ v', e = .returned v' ∧ w'.ownsRow w.heap.size 5 1 v' (enc (clamp n)).length (flatU (enc (clamp n))) ∧ Below w.heap.size w w' := by
  obtain ⟨i0, hi, hz0, hz1, hz2⟩ := info_parts Tryz.infoByte
  have hcl : clamp n ≤ 4611686018427387904 := by unfold clamp; omega
  have hc0 : n ≤ 0 → clamp n = 0 := by unfold clamp; omega
  have hc1 : 0 ≤ n → n ≤ 4611686018427387904 → (clamp n : Int) = n := by unfold clamp; omega
  have hc2 : 4611686018427387904 < n → clamp n = 4611686018427387904 := by unfold clamp; omega
  generalize hr0 : clamp n = r0 at *
  have h3 : (decide (4611686018427387904 < n) = true ∧ Hid (r0 = 4611686018427387904)) ∨ (decide (4611686018427387904 < n) = false ∧ decide (0 < n) = true ∧ (0 < n ∧ n ≤ 4611686018427387904) ∧ Hid ((r0 : Int) = n)) ∨ (decide (4611686018427387904 < n) = false ∧ decide (0 < n) = false ∧ Hid (r0 = 0)) := by
    unfold Hid
    by_cases h1 : 4611686018427387904 < n
    · exact .inl ⟨by simpa using h1, hc2 h1⟩
    · by_cases h2 : 0 < n
      · exact .inr (.inl ⟨by simpa using h1, by simpa using h2, ⟨h2, by omega⟩, hc1 (by omega) (by omega)⟩)
      · exact .inr (.inr ⟨by simpa using h1, by simpa using h2, hc0 (by omega)⟩)
  clear hc0 hc1 hc2 hr0
  rcases h3 with ⟨d1, f1⟩ | ⟨d1, d2, ⟨d3, d4⟩, f1⟩ | ⟨d1, d2, f1⟩
  all_goals go_enter Tryz.func72, Tryz.ntmps72
  all_goals go_wp2_with fail
  all_goals go_loopw [3, 4] (fun i s wr => ∃ (r : Nat) (done : List Nat), i = .int .u64 r ∧ r ≤ 4611686018427387904 ∧ enc r0 = done ++ enc r ∧ Hid (wr.ownsRow w.heap.size 5 1 s done.length (flatU done)) ∧ Below w.heap.size w wr) (fun i _ _ => (intOf i).toNat)
  all_goals first
    | (have f2 := f1.out; exact ⟨r0, [], by congr 1; omega, hcl, rfl, Lib.hid (by simpa [flatU] using World.ownsRow_nil _ _ _ _), Below.refl _ _⟩)
    | skip
  all_goals obtain ⟨r, done, rfl, hr, he, HW, hB⟩ := hrel
  all_goals have hBs := hB.size
  all_goals have hlen : (enc r0).length ≤ 10 := enc_len hcl
  all_goals rw [he, List.length_append] at hlen
  all_goals by_cases h128 : 128 ≤ r
  all_goals first
    | (have h128b : (128 : Int) ≤ (r : Int) := by omega
       have e2 : enc r = (r % 128 + 128) :: enc (r / 128) := by rw [enc, dif_pos h128]
       have hand := and127 hr
       have hpos := enc_pos r
       go_wp2_with (at_builtin; go_must (refine wpList_append_row rfl (.tmp 13) (.tmp 18) 33 rfl w.heap.size 5 i0 (.int .u8 0) 1 1 Tryz.underlying33 hi hz0 hz1 hz2 rfl (by decide) _ done.length (flatU done) rfl (World.ownsRow.alloc HW.out _) _ (some ⟨wr.heap.size, 0, none⟩) 1 1 [_] rfl (cells1 (Nat.lt_succ_self _) (c_new rfl rfl)) (by intro u hu; simp at hu; subst hu; rfl) (by unfold maxLen; omega) (by omega) (by (first | omega | (simp; done) | (simp; omega))) ?_); intro v5 w5 hown5 hb5)
       have h6 := hown5
       (first | rw [or128] at h6 | rw [or128c] at h6 | rw [or128d] at h6)
       go_roundw
       case rel => exact ⟨r / 128, done ++ [r % 128 + 128], by congr 1, by omega, by rw [he, e2]; simp, Lib.hid (by simpa [flatU, List.append_assoc, Nat.add_assoc] using h6), (hB.alloc (by omega) _).trans hb5⟩
       case measure => simp [intOf]; omega)
    | (have h128b : ¬ (128 : Int) ≤ (r : Int) := by omega
       have e2 : enc r = [r] := by rw [enc, dif_neg h128]
       have hpos := enc_pos r
       go_wp2_with (at_builtin; go_must (refine wpList_append_row rfl (.tmp 22) (.tmp 25) 33 rfl w.heap.size 5 i0 (.int .u8 0) 1 1 Tryz.underlying33 hi hz0 hz1 hz2 rfl (by decide) _ done.length (flatU done) rfl (World.ownsRow.alloc HW.out _) _ (some ⟨wr.heap.size, 0, none⟩) 1 1 [_] rfl (cells1 (Nat.lt_succ_self _) (c_new rfl rfl)) (by intro u hu; simp at hu; subst hu; rfl) (by unfold maxLen; omega) (by omega) (by (first | omega | (simp; done) | (simp; omega))) ?_); intro v5 w5 hown5 hb5)
       go_ret
       refine ⟨v5, rfl, ?_, (hB.alloc (by omega) _).trans hb5⟩
       have h6 := hown5
       (try rw [low256 h128] at h6)
       first
         | (simpa [flatU, List.append_assoc, Nat.add_assoc, he, e2] using h6)
         | (have hz : r0 = 0 := by omega
            rw [hz] at he
            simpa [flatU, List.append_assoc, Nat.add_assoc, he, e2] using h6))
theorem row_below {w w' : World} {base e size n : Nat} {v : Value} {xs : List Value} (h : w.ownsRow base e size v n xs) (hb : Below w.heap.size w w') : w'.ownsRow base e size v n xs := by
 refine ⟨h.1, ?_⟩
 rcases h.2 with h0 | ⟨g, cap, cur, hv, hg, hh, hr⟩
 · exact .inl h0
 · exact .inr ⟨g, cap, cur, hv, hg, by rw [hb.block g (Array.getElem?_eq_some_iff.1 hh).1]; exact hh, hr⟩
theorem row_cells {w : World} {base e size : Nat} {v : Value} {n : Nat} {xs : List Value} (h : w.ownsRow base e size v n xs) : ∃ A cap, v = .slice A n cap ∧ n ≤ cap ∧ cap ≤ maxLen ∧ Cells w w.heap.size A n cap size xs := by
 rcases h.2 with ⟨hv, h0⟩ | ⟨g, cap, cur, hv, hg, hh, hc, hm, _⟩
 ·
  subst h0
  have hn : xs = [] := List.eq_nil_of_length_eq_zero (by simpa using h.1)
  subst hn
  exact ⟨_, _, hv, Nat.le_refl _, by unfold maxLen; omega, h.1, fun _ => ⟨rfl, rfl⟩, fun j u hu => by simp at hu⟩
 ·
  subst hv
  have hlt : g < w.heap.size := (Array.getElem?_eq_some_iff.1 hh).1
  refine ⟨_, _, rfl, hc, hm, h.1, (fun e => by cases e), fun j u hu => ⟨g, 0, rfl, hlt, ?_⟩⟩
  have := h.cells (g := g) rfl j u hu
  rw [add_none] at this
  exact this
def Ints (w : World) (B : Nat) (A : Option Addr) (l : List Int) : Prop :=
 ∀ k (h : k < l.length), ∃ b o, A = some ⟨b, o, none⟩ ∧ b < B ∧ w.cell? ⟨b, o + k, none⟩ = some (.int .i64 l[k])
def encs (l : List Int) : List Nat := l.flatMap fun n => enc (clamp n)
theorem clamp_le (n : Int) : clamp n ≤ 4611686018427387904 := by unfold clamp; omega
theorem encs_snoc {l : List Int} {k : Nat} (h : k < l.length) : encs (l.take (k + 1)) = encs (l.take k) ++ enc (clamp l[k]) := by
 unfold encs
 rw [List.take_succ_eq_append_getElem h, List.flatMap_append, List.flatMap_singleton]
theorem encs_len (l : List Int) : (encs l).length ≤ 10 * l.length := by
 induction l with
 | nil => simp [encs]
 | cons n r ih =>
  have := enc_len (clamp_le n)
  simp only [encs, List.flatMap_cons, List.length_append, List.length_cons] at ih ⊢
  omega
set_option maxHeartbeats 1000000 in
set_option maxRecDepth 10000 in
theorem refNums (A : Option Addr) (c : Nat) (l : List Int) (w : World) (hl : l.length ≤ 1000) (hx : Ints w w.heap.size A l) :
    Calls Tryz.prog 75 #[.slice A l.length c] w fun e w' => ∃ v', e = .returned v' ∧ w'.ownsRow w.heap.size 5 1 v' (encs l).length (flatU (encs l)) ∧ Below w.heap.size w w' := by
  obtain ⟨i0, hi, hz0, hz1, hz2⟩ := info_parts Tryz.infoByte
  have HX := Lib.hid hx
  clear hx
  go_enter Tryz.func75, Tryz.ntmps75
  go_wp2_with fail
  go_loopw [3, 4] (fun s i wr => ∃ k : Nat, k ≤ l.length ∧ i = .int .i64 k ∧ Hid (wr.ownsRow w.heap.size 5 1 s (encs (l.take k)).length (flatU (encs (l.take k)))) ∧ Below w.heap.size w wr) (fun _ i _ => l.length - (intOf i).toNat)
  case atStart => exact ⟨0, by omega, rfl, Lib.hid (by simpa [encs, flatU] using World.ownsRow_nil _ _ _ _), Below.refl _ _⟩
  case round =>
    obtain ⟨k, hk, rfl, HW, hB⟩ := hrel
    have hBs := hB.size
    by_cases hlt : k < l.length
    · obtain ⟨b, o, rfl, hb, h1⟩ := HX.out k hlt
      replace h1 := bkeep hB h1 hb
      have hq : (encs (l.take k)).length ≤ 10000 := by have := encs_len (l.take k); rw [List.length_take] at this; omega
      have hq2 : (enc (clamp l[k])).length ≤ 10 := enc_len (clamp_le _)
      go_wp2_with fail
      refine (refNum _ _).mono ?_
      rintro e w3 ⟨v3, rfl, hown3, hb3⟩
      have hs3 := hb3.size
      obtain ⟨A3, c3, rfl, hc3, hm3, hx3⟩ := row_cells hown3
      have HX3 := Lib.hid hx3
      have HR := Lib.hid (row_below HW.out hb3)
      have hB3 : Below w.heap.size w w3 := hB.trans (hb3.mono hBs)
      have hBs3 := hB3.size
      clear hx3 hown3
      go_wp2_with (at_builtin; go_must (refine wpList_append_row rfl (.tmp 11) (.tmp 16) 33 rfl w.heap.size 5 i0 (.int .u8 0) 1 1 Tryz.underlying33 hi hz0 hz1 hz2 rfl (by decide) _ (encs (l.take k)).length (flatU (encs (l.take k))) rfl HR.out w3.heap.size A3 (enc (clamp l[k])).length c3 (flatU (enc (clamp l[k]))) rfl HX3.out (flatU_one _) (by unfold maxLen; omega) (by omega) (by (first | omega | (simp; done) | (simp; omega))) ?_); intro v5 w5 hown5 hb5)
      rw [← flatU_app, ← encs_snoc hlt, ← List.length_append, ← encs_snoc hlt] at hown5
      first
        | (go_roundw
           case rel => exact ⟨k + 1, by omega, by go_num, Lib.hid hown5, hB3.trans hb5⟩
           case measure => simp [intOf]; omega)
        | (refine ⟨⟨k + 1, by omega, by go_num, Lib.hid hown5, hB3.trans hb5⟩, ?_⟩
           simp [intOf]; omega)
    · have hke : k = l.length := by omega
      subst hke
      have hO := HW.out
      rw [List.take_length] at hO
      have HO := Lib.hid hO
      clear hO
      go_wp2_with fail
      go_ret
      exact ⟨_, rfl, HO.out, hB⟩
theorem row_set {w : World} {base e size n : Nat} {v : Value} {xs : List Value} (h : w.ownsRow base e size v n xs) {a : Addr} (ha : a.block < base) (u : Value) : (w.setCell a u).ownsRow base e size v n xs := by
 refine ⟨h.1, ?_⟩
 rcases h.2 with h0 | ⟨g, cap, cur, hv, hg, hh, hr⟩
 · exact .inl h0
 · exact .inr ⟨g, cap, cur, hv, hg, by rw [Go.Deep.blk_setCell_other w a u g (by omega)]; exact hh, hr⟩
structure Wr (w : World) (b base : Nat) (xs : List Nat) : Prop where
 row : ∃ s, w.cell? ⟨b, 0, none⟩ = some s ∧ w.ownsRow base 5 1 s xs.length (flatU xs)
 free : w.frozen? ⟨b, 0, none⟩ = false
 low : b < base
 high : base ≤ w.heap.size
set_option maxHeartbeats 1000000 in
set_option maxRecDepth 10000 in
theorem wOut (b base : Nat) (xs : List Nat) (w : World) (hxs : xs.length ≤ 1000000) (hw : Wr w b base xs) :
  Calls Tryz.prog 39 #[.pointer (some ⟨b, 0, none⟩)] w fun e w' => ∃ v', e = .returned v' ∧ w'.ownsRow w.heap.size 5 1 v' xs.length (flatU xs) ∧ Below w.heap.size w w' := by
 obtain ⟨⟨s, hs, hown⟩, hfr, hlow, hhigh⟩ := hw
 obtain ⟨A, cap, rfl, hc, hm, hx⟩ := row_cells hown
 have HX := Lib.hid hx
 clear hx hown
 go_enter Tryz.func39, Tryz.ntmps39
 cases A with
 | none =>
  go_wp2_with fail
  refine (octClone0 _ _ _).mono ?_
  rintro e w1 ⟨rfl, rfl⟩
  go_wp2_with fail
  go_ret
  have h0 := (HX.out.2.1 rfl).1
  refine ⟨_, rfl, ?_, Below.refl _ _⟩
  obtain rfl : xs = [] := List.eq_nil_of_length_eq_zero h0
  exact World.ownsRow_nil _ _ _ _
 | some ad =>
  go_wp2_with fail
  refine (octClone1 ad _ _ _ _ hxs HX.out (flatU_one _)).mono ?_
  rintro e w1 ⟨v1, rfl, hown1, hb1⟩
  have HO := Lib.hid hown1
  clear hown1
  go_wp2_with fail
  go_ret
  exact ⟨_, rfl, HO.out, hb1⟩
def Near (w : World) (v v' : Value) : Prop := v'.ownBlock = v.ownBlock ∨ ∃ g, v'.ownBlock = some g ∧ w.heap.size ≤ g
theorem Near.refl (w : World) (v : Value) : Near w v v := .inl rfl
theorem Near.step {w w1 : World} {v v1 v2 : Value} (h : Near w v v1) (hs : w.heap.size ≤ w1.heap.size) (h2 : v2.ownBlock = v1.ownBlock ∨ v2.ownBlock = some w1.heap.size) : Near w v v2 := by
 rcases h2 with h2 | h2
 ·
  rcases h with h | ⟨g, h, hg⟩
  · exact .inl (h2.trans h)
  · exact .inr ⟨g, h2.trans h, hg⟩
 · exact .inr ⟨_, h2, hs⟩
theorem Near.trans {w w1 : World} {v v1 v2 : Value} (h : Near w v v1) (hs : w.heap.size ≤ w1.heap.size) (h2 : Near w1 v1 v2) : Near w v v2 := by
 rcases h2 with h2 | ⟨g, h2, hg⟩
 ·
  rcases h with h | ⟨g, h, hg⟩
  · exact .inl (h2.trans h)
  · exact .inr ⟨g, h2.trans h, hg⟩
 · exact .inr ⟨g, h2, by omega⟩
theorem Near.old {w : World} {v v1 : Value} (h : Near w v v1) : ∀ n, n < w.heap.size → v1.ownBlock = some n → v.ownBlock = some n := by
 intro n hn hv
 rcases h with h | ⟨g, h, hg⟩
 · exact h ▸ hv
 · rw [h] at hv; injection hv; omega
set_option maxHeartbeats 1000000 in
set_option maxRecDepth 10000 in
theorem octAppendT (v : Value) (N : Nat) (xs : List Value) (n : Int) (base : Nat) (w : World) (hN : N ≤ 1000000) (hbase : base ≤ w.heap.size) (hown : w.ownsRow base 5 1 v N xs) :
    Calls Tryz.prog 81 #[v, .int .i64 n] w fun e w' => ∃ v', e = .returned v' ∧ w'.ownsRow base 5 1 v' (N + (enc (clamp n)).length) (xs ++ flatU (enc (clamp n))) ∧ Touch (fun k => v.ownBlock = some k) w w' ∧ Near w v v' := by
  obtain ⟨i0, hi, hz0, hz1, hz2⟩ := info_parts Tryz.infoByte
  have HO := Lib.hid hown
  clear hown
  go_enter Tryz.func81, Tryz.ntmps81
  have hcl : clamp n ≤ 4611686018427387904 := by unfold clamp; omega
  have hc0 : n < 0 → clamp n = 0 := by unfold clamp; omega
  have hc1 : 0 ≤ n → n ≤ 4611686018427387904 → (clamp n : Int) = n := by unfold clamp; omega
  have hc2 : ¬ n ≤ 4611686018427387904 → clamp n = 4611686018427387904 := by unfold clamp; omega
  generalize hr0 : clamp n = r0 at *
  go_wp2_with fail
  all_goals go_loopw [0, 1] (fun s i wr => ∃ (r : Nat) (done : List Nat), i = .int .i64 r ∧ r ≤ 4611686018427387904 ∧ enc r0 = done ++ enc r ∧ Hid (wr.ownsRow base 5 1 s (N + done.length) (xs ++ flatU done)) ∧ Hid (Touch (fun k => v.ownBlock = some k) w wr) ∧ Hid (Near w v s)) (fun _ i _ => (intOf i).toNat)
  all_goals first
    | (exact ⟨r0, [], by congr 1; omega, hcl, rfl, Lib.hid (by simpa [flatU] using HO.out), Lib.hid (Touch.refl _ _), Lib.hid (Near.refl _ _)⟩)
    | skip
  all_goals obtain ⟨r, done, rfl, hr, he, HW, HT, HNr⟩ := hrel
  all_goals have hBs := HT.out.size
  all_goals have hlen : (enc r0).length ≤ 10 := enc_len hcl
  all_goals rw [he, List.length_append] at hlen
  all_goals by_cases h128 : 128 ≤ r
  all_goals first
    | (have h128b : (128 : Int) ≤ (r : Int) := by omega
       have e2 : enc r = (r % 128 + 128) :: enc (r / 128) := by rw [enc, dif_pos h128]
       have hpos := enc_pos r
       go_wp2_with (at_builtin; go_must (refine wpList_append_touch rfl (.tmp 10) (.tmp 14) 33 rfl base 5 i0 (.int .u8 0) 1 1 Tryz.underlying33 hi hz0 hz1 hz2 rfl (by decide) _ (N + done.length) (xs ++ flatU done) rfl (World.ownsRow.alloc HW.out _) _ (some ⟨wr.heap.size, 0, none⟩) 1 1 [_] rfl (cells1 (Nat.lt_succ_self _) (c_new rfl rfl)) (by intro u hu; simp at hu; subst hu; rfl) (by unfold maxLen; omega) (by omega) (by (first | omega | (simp; done) | (simp; omega))) ?_); intro v5 w5 hown5 ht5 hl5)
       refine ⟨⟨r / 128, done ++ [r % 128 + 128], by congr 1, by omega, by rw [he, e2]; simp, Lib.hid (by have h6 := hown5; rw [or128] at h6; simpa [flatU, List.append_assoc, Nat.add_assoc] using h6), Lib.hid ((HT.out.alloc _).trans ht5 (HNr.out.old)), Lib.hid (HNr.out.step (by simp; omega) hl5)⟩, ?_⟩
       simp [intOf]; omega)
    | (have h128b : ¬ (128 : Int) ≤ (r : Int) := by omega
       have e2 : enc r = [r] := by rw [enc, dif_neg h128]
       have hpos := enc_pos r
       go_wp2_with (at_builtin; go_must (refine wpList_append_touch rfl (.tmp 18) (.tmp 21) 33 rfl base 5 i0 (.int .u8 0) 1 1 Tryz.underlying33 hi hz0 hz1 hz2 rfl (by decide) _ (N + done.length) (xs ++ flatU done) rfl (World.ownsRow.alloc HW.out _) _ (some ⟨wr.heap.size, 0, none⟩) 1 1 [_] rfl (cells1 (Nat.lt_succ_self _) (c_new rfl rfl)) (by intro u hu; simp at hu; subst hu; rfl) (by unfold maxLen; omega) (by omega) (by (first | omega | (simp; done) | (simp; omega))) ?_); intro v5 w5 hown5 ht5 hl5)
       go_ret
       refine ⟨v5, rfl, ?_, (HT.out.alloc _).trans ht5 (HNr.out.old), HNr.out.step (by simp; omega) hl5⟩
       have h6 := hown5
       (try rw [low256 h128] at h6)
       first
         | (simpa [flatU, List.append_assoc, Nat.add_assoc, he, e2] using h6)
         | (have hz : r0 = 0 := by omega
            rw [hz] at he
            simpa [flatU, List.append_assoc, Nat.add_assoc, he, e2] using h6))
def wrow (w : World) (b : Nat) : Option Nat := (w.cell? ⟨b, 0, none⟩).bind Value.ownBlock
theorem wrow_of {w : World} {b : Nat} {s : Value} (h : w.cell? ⟨b, 0, none⟩ = some s) : wrow w b = s.ownBlock := by unfold wrow; rw [h]; rfl
def WNear (w : World) (b : Nat) (w' : World) : Prop := wrow w' b = wrow w b ∨ ∃ g, wrow w' b = some g ∧ w.heap.size ≤ g
theorem WNear.refl (w : World) (b : Nat) : WNear w b w := .inl rfl
theorem WNear.old {w w' : World} {b : Nat} (h : WNear w b w') : ∀ n, n < w.heap.size → wrow w' b = some n → wrow w b = some n := by
 intro n hn hv
 rcases h with h | ⟨g, h, hg⟩
 · exact h ▸ hv
 · rw [h] at hv; injection hv; omega
theorem WNear.trans {w w1 w2 : World} {b : Nat} (h : WNear w b w1) (hs : w.heap.size ≤ w1.heap.size) (h2 : WNear w1 b w2) : WNear w b w2 := by
 rcases h2 with h2 | ⟨g, h2, hg⟩
 ·
  rcases h with h | ⟨g, h, hg⟩
  · exact .inl (h2.trans h)
  · exact .inr ⟨g, h2.trans h, hg⟩
 · exact .inr ⟨g, h2, by omega⟩
theorem WNear.step {w w1 w2 w3 : World} {b : Nat} {s v : Value} (h : WNear w b w1) (hs : w.heap.size ≤ w1.heap.size) (h1 : w1.cell? ⟨b, 0, none⟩ = some s) (hn : Near w1 s v) (h3 : w3.cell? ⟨b, 0, none⟩ = some v) : WNear w b w3 := by
 refine h.trans hs ?_
 unfold WNear
 rw [wrow_of h1, wrow_of h3]
 exact hn
abbrev WD (w : World) (b : Nat) : Nat → Prop := fun k => k = b ∨ wrow w b = some k
def NumsAt (w : World) (b : Nat) (A : Option Addr) (l : List Int) : Prop :=
 ∀ k (h : k < l.length), ∃ q o, A = some ⟨q, o, none⟩ ∧ ¬ WD w b q ∧ w.cell? ⟨q, o + k, none⟩ = some (.int .i64 l[k])
set_option maxHeartbeats 1000000 in
set_option maxRecDepth 10000 in
theorem wNumsT (b base : Nat) (A : Option Addr) (c : Nat) (l : List Int) (xs : List Nat) (w : World) (hl : l.length ≤ 1000) (hxs : xs.length ≤ 100000) (hw : Wr w b base xs) (hx : NumsAt w b A l) :
    Calls Tryz.prog 36 #[.pointer (some ⟨b, 0, none⟩), .slice A l.length c] w fun e w' => e = .returned (.tuple #[]) ∧ Wr w' b base (xs ++ encs l) ∧ Touch (WD w b) w w' ∧ WNear w b w' := by
  have HX := Lib.hid hx
  have HW0 := Lib.hid hw
  clear hx hw
  go_enter Tryz.func36, Tryz.ntmps36
  go_wp2_with fail
  go_loopw [10] (fun i wr => ∃ k : Nat, k ≤ l.length ∧ i = .int .i64 k ∧ Hid (Wr wr b base (xs ++ encs (l.take k))) ∧ Hid (Touch (WD w b) w wr) ∧ Hid (WNear w b wr)) (fun i _ => l.length - (intOf i).toNat)
  case atStart => exact ⟨0, by omega, rfl, Lib.hid (by simpa [encs] using HW0.out), Lib.hid (Touch.refl _ _), Lib.hid (WNear.refl _ _)⟩
  case round =>
    obtain ⟨k, hk, rfl, HW, HT, HN⟩ := hrel
    by_cases hlt : k < l.length
    · obtain ⟨b1, o, rfl, hb, h1⟩ := HX.out k hlt
      replace h1 := HT.out.cell h1 hb
      have hq : (encs (l.take k)).length ≤ 10000 := by have := encs_len (l.take k); rw [List.length_take] at this; omega
      obtain ⟨⟨s, hs, hown⟩, hfr, hlow, hhigh⟩ := HW.out
      have HO := Lib.hid hown
      have hsz := HT.out.size
      have hsb : ¬ s.ownBlock = some b := fun e => by have := (hown.lt b e).1; omega
      clear hown
      go_wp2_with fail
      refine (octAppendT s _ _ l[k] base _ (by rw [List.length_append]; omega) hhigh HO.out).mono ?_
      rintro e w3 ⟨v3, rfl, hown3, ht3, hn3⟩
      have hs3 := ht3.size
      rw [← flatU_app, List.append_assoc, ← encs_snoc hlt, ← List.length_append, List.append_assoc, ← encs_snoc hlt] at hown3
      obtain ⟨A3, cp3, rfl, _, _, _⟩ := row_cells hown3
      have c3 := ht3.cell hs hsb
      have f3 := ht3.frozen (by omega) hfr hsb
      have HT3 : Hid (Touch (WD w b) w (w3.setCell ⟨b, 0, none⟩ (.slice A3 (xs ++ encs (l.take (k + 1))).length cp3))) := Lib.hid ((HT.out.trans ht3 (fun n h1 h2 => Or.inr (HN.out.old n h1 ((wrow_of hs).trans h2)))).set (fun _ => Or.inl rfl))
      have HN3 : Hid (WNear w b (w3.setCell ⟨b, 0, none⟩ (.slice A3 (xs ++ encs (l.take (k + 1))).length cp3))) := Lib.hid (HN.out.step (w2 := w3) hsz hs hn3 (c_set_same (h_of c3)))
      have HW3 : Hid (Wr (w3.setCell ⟨b, 0, none⟩ (.slice A3 (xs ++ encs (l.take (k + 1))).length cp3)) b base (xs ++ encs (l.take (k + 1)))) := Lib.hid ⟨⟨_, c_set_same (h_of c3), row_set hown3 hlow _⟩, f_set f3, hlow, by simp; omega⟩
      rw [List.length_append] at HW3 HT3 HN3
      clear hown3 hn3
      go_wp2_with fail
      first
        | (go_roundw
           case rel => exact ⟨k + 1, by omega, by go_num, HW3, HT3, HN3⟩
           case measure => simp [intOf]; omega)
        | (refine ⟨⟨k + 1, by omega, by go_num, HW3, HT3, HN3⟩, ?_⟩
           simp [intOf]; omega)
    · have hke : k = l.length := by omega
      subst hke
      have hO := HW.out
      rw [List.take_length] at hO
      have HO := Lib.hid hO
      clear hO
      go_wp2_with fail
      refine bodyPost_end (v := .tuple #[]) (by simp [results, Tryz.results36, go_sem]) rfl ⟨rfl, HO.out, HT.out, HN.out⟩
end Go.Proofs.YtdlbiobjnohfbaaGreat
