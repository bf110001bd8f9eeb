/- octet's Writer, with frames by touched blocks. What octet.NewReader and Reader's Good, Bad and Whole do. Numbers out of bytes: a function of the list. Both Readers, erred or not: one state, one function. A Reader beside a block that is known whole (XBlk's seco -/
import Derived.Lib.AtoiErrMem
import Derived.Test.YtdlbiobjnohfbaaGreatVp20
namespace Go.Proofs.YtdlbiobjnohfbaaGreat
open Go.RowKit
set_option linter.unusedVariables false
set_option linter.unusedSimpArgs false
def Near (w : World) (v v' : Value) : Prop := v'.ownBlock = v.ownBlock ∨ ∃ g, v'.ownBlock = some g ∧ w.heap.size ≤ g
theorem Near.refl (w : World) (v : Value) : Near w v v := .inl rfl
theorem Near.step {w w1 : World} {v v1 v2 : Value} (h : Near w v v1) (hs : w.heap.size ≤ w1.heap.size) (h2 : v2.ownBlock = v1.ownBlock ∨ v2.ownBlock = some w1.heap.size) : Near w v v2 := by
 rcases h2 with h2 | h2
 ·
  rcases h with h | ⟨g, h, hg⟩
  · exact .inl (h2.trans h)
  · exact .inr ⟨g, h2.trans h, hg⟩
 · exact .inr ⟨_, h2, hs⟩
theorem Near.trans {w w1 : World} {v v1 v2 : Value} (h : Near w v v1) (hs : w.heap.size ≤ w1.heap.size) (h2 : Near w1 v1 v2) : Near w v v2 := by
 rcases h2 with h2 | ⟨g, h2, hg⟩
 ·
  rcases h with h | ⟨g, h, hg⟩
  · exact .inl (h2.trans h)
  · exact .inr ⟨g, h2.trans h, hg⟩
 · exact .inr ⟨g, h2, by omega⟩
theorem Near.old {w : World} {v v1 : Value} (h : Near w v v1) : ∀ n, n < w.heap.size → v1.ownBlock = some n → v.ownBlock = some n := by
 intro n hn hv
 rcases h with h | ⟨g, h, hg⟩
 · exact h ▸ hv
 · rw [h] at hv; injection hv; omega
set_option maxHeartbeats 1000000 in
set_option maxRecDepth 10000 in
theorem octAppendT (v : Value) (N : Nat) (xs : List Value) (n : Int) (base : Nat) (w : World) (hN : N ≤ 1000000) (hbase : base ≤ w.heap.size) (hown : w.ownsRow base 5 1 v N xs) :
    Calls Tryz.prog 81 #[v, .int .i64 n] w fun e w' => ∃ v', e = .returned v' ∧ w'.ownsRow base 5 1 v' (N + (enc (clamp n)).length) (xs ++ flatU (enc (clamp n))) ∧ Touch (fun k => v.ownBlock = some k) w w' ∧ Near w v v' := by
  obtain ⟨i0, hi, hz0, hz1, hz2⟩ := info_parts Tryz.infoByte
  have HO := Lib.hid hown
  clear hown
  go_enter Tryz.func81, Tryz.ntmps81
  have hcl : clamp n ≤ 4611686018427387904 := by unfold clamp; omega
  have hc0 : n < 0 → clamp n = 0 := by unfold clamp; omega
  have hc1 : 0 ≤ n → n ≤ 4611686018427387904 → (clamp n : Int) = n := by unfold clamp; omega
  have hc2 : ¬ n ≤ 4611686018427387904 → clamp n = 4611686018427387904 := by unfold clamp; omega
  generalize hr0 : clamp n = r0 at *
  go_wp2_with fail
  all_goals go_loopw [0, 1] (fun s i wr => ∃ (r : Nat) (done : List Nat), i = .int .i64 r ∧ r ≤ 4611686018427387904 ∧ enc r0 = done ++ enc r ∧ Hid (wr.ownsRow base 5 1 s (N + done.length) (xs ++ flatU done)) ∧ Hid (Touch (fun k => v.ownBlock = some k) w wr) ∧ Hid (Near w v s)) (fun _ i _ => (intOf i).toNat)
  all_goals first
    | (exact ⟨r0, [], by congr 1; omega, hcl, rfl, Lib.hid (by simpa [flatU] using HO.out), Lib.hid (Touch.refl _ _), Lib.hid (Near.refl _ _)⟩)
    | skip
  all_goals obtain ⟨r, done, rfl, hr, he, HW, HT, HNr⟩ := hrel
  all_goals have hBs := HT.out.size
  all_goals have hlen : (enc r0).length ≤ 10 := enc_len hcl
  all_goals rw [he, List.length_append] at hlen
  all_goals by_cases h128 : 128 ≤ r
  all_goals first
    | (have h128b : (128 : Int) ≤ (r : Int) := by omega
       have e2 : enc r = (r % 128 + 128) :: enc (r / 128) := by rw [enc, dif_pos h128]
       have hpos := enc_pos r
       go_wp2_with (at_builtin; go_must (refine wpList_append_touch rfl (.tmp 10) (.tmp 14) 33 rfl base 5 i0 (.int .u8 0) 1 1 Tryz.underlying33 hi hz0 hz1 hz2 rfl (by decide) _ (N + done.length) (xs ++ flatU done) rfl (World.ownsRow.alloc HW.out _) _ (some ⟨wr.heap.size, 0, none⟩) 1 1 [_] rfl (cells1 (Nat.lt_succ_self _) (c_new rfl rfl)) (by intro u hu; simp at hu; subst hu; rfl) (by unfold maxLen; omega) (by omega) (by (first | omega | (simp; done) | (simp; omega))) ?_); intro v5 w5 hown5 ht5 hl5)
       refine ⟨⟨r / 128, done ++ [r % 128 + 128], by congr 1, by omega, by rw [he, e2]; simp, Lib.hid (by have h6 := hown5; rw [or128] at h6; simpa [flatU, List.append_assoc, Nat.add_assoc] using h6), Lib.hid ((HT.out.alloc _).trans ht5 (HNr.out.old)), Lib.hid (HNr.out.step (by simp; omega) hl5)⟩, ?_⟩
       simp [intOf]; omega)
    | (have h128b : ¬ (128 : Int) ≤ (r : Int) := by omega
       have e2 : enc r = [r] := by rw [enc, dif_neg h128]
       have hpos := enc_pos r
       go_wp2_with (at_builtin; go_must (refine wpList_append_touch rfl (.tmp 18) (.tmp 21) 33 rfl base 5 i0 (.int .u8 0) 1 1 Tryz.underlying33 hi hz0 hz1 hz2 rfl (by decide) _ (N + done.length) (xs ++ flatU done) rfl (World.ownsRow.alloc HW.out _) _ (some ⟨wr.heap.size, 0, none⟩) 1 1 [_] rfl (cells1 (Nat.lt_succ_self _) (c_new rfl rfl)) (by intro u hu; simp at hu; subst hu; rfl) (by unfold maxLen; omega) (by omega) (by (first | omega | (simp; done) | (simp; omega))) ?_); intro v5 w5 hown5 ht5 hl5)
       go_ret
       refine ⟨v5, rfl, ?_, (HT.out.alloc _).trans ht5 (HNr.out.old), HNr.out.step (by simp; omega) hl5⟩
       have h6 := hown5
       (try rw [low256 h128] at h6)
       first
         | (simpa [flatU, List.append_assoc, Nat.add_assoc, he, e2] using h6)
         | (have hz : r0 = 0 := by omega
            rw [hz] at he
            simpa [flatU, List.append_assoc, Nat.add_assoc, he, e2] using h6))
def wrow (w : World) (b : Nat) : Option Nat := (w.cell? ⟨b, 0, none⟩).bind Value.ownBlock
theorem wrow_of {w : World} {b : Nat} {s : Value} (h : w.cell? ⟨b, 0, none⟩ = some s) : wrow w b = s.ownBlock := by unfold wrow; rw [h]; rfl
def WNear (w : World) (b : Nat) (w' : World) : Prop := wrow w' b = wrow w b ∨ ∃ g, wrow w' b = some g ∧ w.heap.size ≤ g
theorem WNear.refl (w : World) (b : Nat) : WNear w b w := .inl rfl
theorem WNear.old {w w' : World} {b : Nat} (h : WNear w b w') : ∀ n, n < w.heap.size → wrow w' b = some n → wrow w b = some n := by
 intro n hn hv
 rcases h with h | ⟨g, h, hg⟩
 · exact h ▸ hv
 · rw [h] at hv; injection hv; omega
theorem WNear.trans {w w1 w2 : World} {b : Nat} (h : WNear w b w1) (hs : w.heap.size ≤ w1.heap.size) (h2 : WNear w1 b w2) : WNear w b w2 := by
 rcases h2 with h2 | ⟨g, h2, hg⟩
 ·
  rcases h with h | ⟨g, h, hg⟩
  · exact .inl (h2.trans h)
  · exact .inr ⟨g, h2.trans h, hg⟩
 · exact .inr ⟨g, h2, by omega⟩
theorem WNear.step {w w1 w2 w3 : World} {b : Nat} {s v : Value} (h : WNear w b w1) (hs : w.heap.size ≤ w1.heap.size) (h1 : w1.cell? ⟨b, 0, none⟩ = some s) (hn : Near w1 s v) (h3 : w3.cell? ⟨b, 0, none⟩ = some v) : WNear w b w3 := by
 refine h.trans hs ?_
 unfold WNear
 rw [wrow_of h1, wrow_of h3]
 exact hn
abbrev WD (w : World) (b : Nat) : Nat → Prop := fun k => k = b ∨ wrow w b = some k
def NumsAt (w : World) (b : Nat) (A : Option Addr) (l : List Int) : Prop :=
 ∀ k (h : k < l.length), ∃ q o, A = some ⟨q, o, none⟩ ∧ ¬ WD w b q ∧ w.cell? ⟨q, o + k, none⟩ = some (.int .i64 l[k])
set_option maxHeartbeats 1000000 in
set_option maxRecDepth 10000 in
theorem wNumsT (b base : Nat) (A : Option Addr) (c : Nat) (l : List Int) (xs : List Nat) (w : World) (hl : l.length ≤ 1000) (hxs : xs.length ≤ 100000) (hw : Wr w b base xs) (hx : NumsAt w b A l) :
    Calls Tryz.prog 36 #[.pointer (some ⟨b, 0, none⟩), .slice A l.length c] w fun e w' => e = .returned (.tuple #[]) ∧ Wr w' b base (xs ++ encs l) ∧ Touch (WD w b) w w' ∧ WNear w b w' := by
  have HX := Lib.hid hx
  have HW0 := Lib.hid hw
  clear hx hw
  go_enter Tryz.func36, Tryz.ntmps36
  go_wp2_with fail
  go_loopw [10] (fun i wr => ∃ k : Nat, k ≤ l.length ∧ i = .int .i64 k ∧ Hid (Wr wr b base (xs ++ encs (l.take k))) ∧ Hid (Touch (WD w b) w wr) ∧ Hid (WNear w b wr)) (fun i _ => l.length - (intOf i).toNat)
  case atStart => exact ⟨0, by omega, rfl, Lib.hid (by simpa [encs] using HW0.out), Lib.hid (Touch.refl _ _), Lib.hid (WNear.refl _ _)⟩
  case round =>
    obtain ⟨k, hk, rfl, HW, HT, HN⟩ := hrel
    by_cases hlt : k < l.length
    · obtain ⟨b1, o, rfl, hb, h1⟩ := HX.out k hlt
      replace h1 := HT.out.cell h1 hb
      have hq : (encs (l.take k)).length ≤ 10000 := by have := encs_len (l.take k); rw [List.length_take] at this; omega
      obtain ⟨⟨s, hs, hown⟩, hfr, hlow, hhigh⟩ := HW.out
      have HO := Lib.hid hown
      have hsz := HT.out.size
      have hsb : ¬ s.ownBlock = some b := fun e => by have := (hown.lt b e).1; omega
      clear hown
      go_wp2_with fail
      refine (octAppendT s _ _ l[k] base _ (by rw [List.length_append]; omega) hhigh HO.out).mono ?_
      rintro e w3 ⟨v3, rfl, hown3, ht3, hn3⟩
      have hs3 := ht3.size
      rw [← flatU_app, List.append_assoc, ← encs_snoc hlt, ← List.length_append, List.append_assoc, ← encs_snoc hlt] at hown3
      obtain ⟨A3, cp3, rfl, _, _, _⟩ := row_cells hown3
      have c3 := ht3.cell hs hsb
      have f3 := ht3.frozen (by omega) hfr hsb
      have HT3 : Hid (Touch (WD w b) w (w3.setCell ⟨b, 0, none⟩ (.slice A3 (xs ++ encs (l.take (k + 1))).length cp3))) := Lib.hid ((HT.out.trans ht3 (fun n h1 h2 => Or.inr (HN.out.old n h1 ((wrow_of hs).trans h2)))).set (fun _ => Or.inl rfl))
      have HN3 : Hid (WNear w b (w3.setCell ⟨b, 0, none⟩ (.slice A3 (xs ++ encs (l.take (k + 1))).length cp3))) := Lib.hid (HN.out.step (w2 := w3) hsz hs hn3 (c_set_same (h_of c3)))
      have HW3 : Hid (Wr (w3.setCell ⟨b, 0, none⟩ (.slice A3 (xs ++ encs (l.take (k + 1))).length cp3)) b base (xs ++ encs (l.take (k + 1)))) := Lib.hid ⟨⟨_, c_set_same (h_of c3), row_set hown3 hlow _⟩, f_set f3, hlow, by simp; omega⟩
      rw [List.length_append] at HW3 HT3 HN3
      clear hown3 hn3
      go_wp2_with fail
      first
        | (go_roundw
           case rel => exact ⟨k + 1, by omega, by go_num, HW3, HT3, HN3⟩
           case measure => simp [intOf]; omega)
        | (refine ⟨⟨k + 1, by omega, by go_num, HW3, HT3, HN3⟩, ?_⟩
           simp [intOf]; omega)
    · have hke : k = l.length := by omega
      subst hke
      have hO := HW.out
      rw [List.take_length] at hO
      have HO := Lib.hid hO
      clear hO
      go_wp2_with fail
      refine bodyPost_end (v := .tuple #[]) (by simp [results, Tryz.results36, go_sem]) rfl ⟨rfl, HO.out, HT.out, HN.out⟩
end Go.Proofs.YtdlbiobjnohfbaaGreat
namespace Go.Proofs.YtdlbiobjnohfbaaGreat
open Go.RowKit
set_option linter.unusedVariables false
set_option linter.unusedSimpArgs false
structure Rd (w : World) (b : Nat) (rest : List Nat) (bad : Bool) : Prop where
 row : ∃ A c, w.cell? ⟨b, 0, none⟩ = some (.slice A rest.length c) ∧ rest.length ≤ c ∧ c ≤ maxLen ∧ Cells w b A rest.length c 1 (flatU rest)
 flag : w.cell? ⟨b, 1, none⟩ = some (.bool bad)
 free : ∀ j, w.frozen? ⟨b, j, none⟩ = false
 low : b < w.heap.size
end Go.Proofs.YtdlbiobjnohfbaaGreat
namespace Go.Proofs.YtdlbiobjnohfbaaGreat
set_option linter.unusedVariables false
set_option linter.unusedSimpArgs false
def rd (i acc : Nat) : List Nat → Option (Nat × List Nat)
 | [] => none
 | b :: r => if 9 ≤ i then none else
  if 128 ≤ b then rd (i + 1) (acc + b % 128 * 128 ^ i) r
  else if (0 < i ∧ b = 0) ∨ 4611686018427387904 < acc + b * 128 ^ i then none else some (acc + b * 128 ^ i, r)
end Go.Proofs.YtdlbiobjnohfbaaGreat
namespace Go.Proofs.YtdlbiobjnohfbaaGreat
open Go.RowKit
set_option linter.unusedVariables false
set_option linter.unusedSimpArgs false
def nx : Option (List Nat) → Nat × Option (List Nat)
 | none => (0, none)
 | some r => match rd 0 0 r with
  | none => (0, none)
  | some (n, t) => (n, some t)
structure RS (w : World) (b : Nat) (st : Option (List Nat)) : Prop where
 rd : Rd w b (st.getD []) st.isNone
 len : (st.getD []).length ≤ 100000
 byt : ∀ x ∈ st.getD [], x < 256
theorem RS.bad {w : World} {b : Nat} (h : Rd w b [] true) : RS w b none := ⟨h, by simp, by simp⟩
theorem Rd.touchBelow {w w' : World} {b B : Nat} {rest : List Nat} {bad : Bool} (h : Rd w b rest bad) (hb : Below B w w') (hB : b < B) : Rd w' b rest bad := by
 obtain ⟨A, c, h0, h1, h2, h3⟩ := h.row
 exact ⟨⟨A, c, bkeep hb h0 hB, h1, h2, cells_keep h3 (hb.mono (Nat.le_of_lt hB)) (Nat.le_refl _)⟩, bkeep hb h.flag hB, fun j => bfree hb (h.free j) hB, Nat.lt_of_lt_of_le h.low hb.size⟩
theorem RS.below {w w' : World} {b B : Nat} {st : Option (List Nat)} (h : RS w b st) (hb : Below B w w') (hB : b < B) : RS w' b st := ⟨h.rd.touchBelow hb hB, h.len, h.byt⟩
theorem RS.low {w : World} {b : Nat} {st : Option (List Nat)} (h : RS w b st) : b < w.heap.size := h.rd.low
end Go.Proofs.YtdlbiobjnohfbaaGreat
namespace Go.Proofs.YtdlbiobjnohfbaaGreat
open Go.RowKit
set_option linter.unusedVariables false
set_option linter.unusedSimpArgs false
theorem RS.alloc {w : World} {b : Nat} {st : Option (List Nat)} (h : RS w b st) (o : Obj) : RS (w.alloc o) b st := h.below (B := w.heap.size) ((Below.refl _ _).alloc (Nat.le_refl _) _) h.low
end Go.Proofs.YtdlbiobjnohfbaaGreat
namespace Go.Proofs.YtdlbiobjnohfbaaGreat
open Go.RowKit
set_option linter.unusedVariables false
set_option linter.unusedSimpArgs false
def encb (l : List (List Nat)) : List Nat := l.flatMap fun x => enc x.length ++ x
theorem encb_snoc {l : List (List Nat)} {k : Nat} (h : k < l.length) : encb (l.take (k + 1)) = encb (l.take k) ++ (enc l[k].length ++ l[k]) := by
 unfold encb
 rw [List.take_succ_eq_append_getElem h, List.flatMap_append, List.flatMap_singleton]
theorem clamp_nat {n : Nat} (h : n ≤ 1000000) : clamp (n : Int) = n := by unfold clamp; omega
theorem Wr.below {w w' : World} {b base : Nat} {xs : List Nat} (h : Wr w b base xs) (hb : Below w.heap.size w w') : Wr w' b base xs := by
 obtain ⟨⟨s, hs, ho⟩, hf, hl, hh⟩ := h
 have h1 : b < w.heap.size := by omega
 exact ⟨⟨s, bkeep hb hs h1, row_below ho hb⟩, bfree hb hf h1, hl, Nat.le_trans hh hb.size⟩
def bs (s : ByteArray) : List Nat := s.data.toList.map UInt8.toNat
theorem bs_length (s : ByteArray) : (bs s).length = s.size := by simp [bs]
@[go_sem] theorem bw_cell (w : World) (e : TypeId) (s : ByteArray) (n i : Nat) : (Lib.bytesWorld w e s).cell? ⟨n, i, none⟩ = if n < w.heap.size then w.cell? ⟨n, i, none⟩ else cellElse (Lib.bytesWorld w e s) n i := by
 by_cases h : n < w.heap.size
 · rw [if_pos h]; exact Lib.bytesWorld_old w e s ⟨n, i, none⟩ h
 · rw [if_neg h]; rfl
@[go_sem] theorem bw_frozen (w : World) (e : TypeId) (s : ByteArray) (n i : Nat) : (Lib.bytesWorld w e s).frozen? ⟨n, i, none⟩ = if n < w.heap.size then w.frozen? ⟨n, i, none⟩ else frozenElse (Lib.bytesWorld w e s) n i := by
 by_cases h : n < w.heap.size
 · rw [if_pos h]; exact World.frozen?_of_block (w := w) (a := ⟨n, i, none⟩) (Lib.bytesWorld_at_old w e s n h)
 · rw [if_neg h]; rfl
@[simp, go_sem] theorem bw_size (w : World) (e : TypeId) (s : ByteArray) : (Lib.bytesWorld w e s).heap.size = w.heap.size + 1 := Lib.bytesWorld_size w e s
theorem bw_below (w : World) (e : TypeId) (s : ByteArray) : Below w.heap.size w (Lib.bytesWorld w e s) := Lib.bytesWorld_below w e s
theorem bw_cells (w : World) (e : TypeId) (s : ByteArray) (B c : Nat) (hB : w.heap.size < B) : Cells (Lib.bytesWorld w e s) B (some ⟨w.heap.size, 0, none⟩) (bs s).length c 1 (flatU (bs s)) := by
 refine ⟨by simp [flatU], (fun e => by cases e), fun j u hu => ⟨w.heap.size, 0, rfl, hB, ?_⟩⟩
 have hj : j < s.size := by have := (List.getElem?_eq_some_iff.1 hu).1; simpa [flatU, bs_length] using this
 rw [Nat.zero_add, Lib.bytesWorld_cell w e s j hj, ← hu]
 have hj2 : j < s.data.toList.length := by simpa using hj
 simp only [flatU, bs, List.map_map, List.getElem?_map, List.getElem?_eq_getElem hj2, Option.map_some, List.getD, Option.getD_some, Function.comp]
end Go.Proofs.YtdlbiobjnohfbaaGreat
namespace Go.Proofs.YtdlbiobjnohfbaaGreat
open Go.RowKit
set_option linter.unusedVariables false
set_option linter.unusedSimpArgs false
def RowsAt (w : World) (b : Nat) (A : Option Addr) (l : List (List Nat)) : Prop :=
 ∀ k (h : k < l.length), ∃ q o Ak ck, A = some ⟨q, o, none⟩ ∧ ¬ WD w b q ∧ w.cell? ⟨q, o + k, none⟩ = some (.slice Ak l[k].length ck) ∧ Cells w w.heap.size Ak l[k].length ck 1 (flatU l[k]) ∧ ∀ a, Ak = some a → ¬ WD w b a.block
set_option maxHeartbeats 2000000 in
set_option maxRecDepth 10000 in
theorem wBytesT (b base : Nat) (A : Option Addr) (c : Nat) (l : List (List Nat)) (xs : List Nat) (w : World) (hl : l.length ≤ 1000) (h1000 : ∀ x ∈ l, x.length ≤ 10000) (hxs : ∀ k, k ≤ l.length → xs.length + (encb (l.take k)).length ≤ 100000) (hw : Wr w b base xs) (hx : RowsAt w b A l) :
    Calls Tryz.prog 37 #[.pointer (some ⟨b, 0, none⟩), .slice A l.length c] w fun e w' => e = .returned (.tuple #[]) ∧ Wr w' b base (xs ++ encb l) ∧ Touch (WD w b) w w' ∧ WNear w b w' := by
  obtain ⟨i0, hi, hz0, hz1, hz2⟩ := info_parts Tryz.infoByte
  have HX := Lib.hid hx
  have HW0 := Lib.hid hw
  have H1 := Lib.hid h1000
  have H2 := Lib.hid hxs
  clear hx hw h1000 hxs
  go_enter Tryz.func37, Tryz.ntmps37
  go_wp2_with fail
  go_loopw [10] (fun i wr => ∃ k : Nat, k ≤ l.length ∧ i = .int .i64 k ∧ Hid (Wr wr b base (xs ++ encb (l.take k))) ∧ Hid (Touch (WD w b) w wr) ∧ Hid (WNear w b wr)) (fun i _ => l.length - (intOf i).toNat)
  case atStart => exact ⟨0, by omega, rfl, Lib.hid (by simpa [encb] using HW0.out), Lib.hid (Touch.refl _ _), Lib.hid (WNear.refl _ _)⟩
  case round =>
    obtain ⟨k, hk, rfl, HW, HT, HN⟩ := hrel
    by_cases hlt : k < l.length
    · obtain ⟨b1, o, Ak, ck, rfl, hb, h1, h2, h2b⟩ := HX.out k hlt
      replace h1 := HT.out.cell h1 hb
      have hsz := HT.out.size
      have hC0 := HT.out.cells h2 h2b
      have hlk : l[k].length ≤ 10000 := H1.out _ (List.getElem_mem _)
      have hq := H2.out k hk
      obtain ⟨⟨s, hs, hown⟩, hfr, hlow, hhigh⟩ := HW.out
      have HO := Lib.hid hown
      have hi1 : (k : Int) < (l.length : Int) := by omega
      have hsb : ¬ s.ownBlock = some b := fun e => by have := (hown.lt b e).1; omega
      have hAs : ∀ a, Ak = some a → a.block < w.heap.size → ¬ s.ownBlock = some a.block := fun a ha hlt2 e => h2b a ha (Or.inr (HN.out.old _ hlt2 ((wrow_of hs).trans e)))
      have hAl : l[k].length ≠ 0 → ∀ a, Ak = some a → a.block < w.heap.size := by
        intro hne a ha
        have hpos : 0 < (flatU l[k]).length := by simp [flatU]; omega
        obtain ⟨bb, oo, ee, hlt3, _⟩ := h2.2.2 0 _ (List.getElem?_eq_getElem hpos)
        rw [ee] at ha; injection ha with ha; subst ha; exact hlt3
      have hC1 : ∀ W, Touch (fun k => s.ownBlock = some k) wr W → Cells W w.heap.size Ak l[k].length ck 1 (flatU l[k]) := by
        intro W ht
        refine ⟨hC0.1, hC0.2.1, fun j u hu => ?_⟩
        obtain ⟨bb, oo, ee, hlt3, hcc⟩ := hC0.2.2 j u hu
        exact ⟨bb, oo, ee, hlt3, ht.cell hcc (hAs _ ee hlt3)⟩
      have HC1 := Lib.hid hC1
      clear hown h2 hC0 hC1 hAl hAs
      go_wp2_with fail
      refine (octAppendT s _ _ (l[k].length : Int) base _ (by rw [List.length_append]; omega) hhigh HO.out).mono ?_
      rintro e w3 ⟨v3, rfl, hown3, ht3, hn3⟩
      have hs3 := ht3.size
      rw [clamp_nat (by omega), ← flatU_app, ← List.length_append] at hown3
      have HO3 := Lib.hid hown3
      have c3 := ht3.cell hs hsb
      have f3 := ht3.frozen (by omega) hfr hsb
      have HC3 := Lib.hid (HC1.out w3 ht3)
      have hen : (enc l[k].length).length ≤ 10 := enc_len (by omega)
      have hln : (xs ++ encb (l.take k) ++ enc l[k].length).length ≤ 200000 := by simp only [List.length_append]; omega
      have hsb3 : ¬ v3.ownBlock = some b := fun e => by have := (hown3.lt b e).1; omega
      have HT3 := Lib.hid (HT.out.trans ht3 (fun n h1 h2 => (Or.inr (HN.out.old n h1 ((wrow_of hs).trans h2)) : WD w b n)))
      have HN3 := Lib.hid hn3
      clear hown3 hn3
      go_wp2_with (at_builtin; go_must (refine wpList_append_touch rfl (.tmp 21) (.tmp 22) 33 rfl base 5 i0 (.int .u8 0) 1 1 Tryz.underlying33 hi hz0 hz1 hz2 rfl (by decide) v3 _ _ rfl HO3.out w.heap.size Ak l[k].length ck (flatU l[k]) rfl HC3.out (flatU_one _) (by unfold maxLen; omega) (by omega) (by omega) ?_); intro v5 w5 hown5 ht5 hl5; have c5 := ht5.cell c3 hsb3; have f5 := ht5.frozen (by omega) f3 hsb3; have hs5 := ht5.size; have HN5 := Lib.hid (HN3.out.step hs3 hl5); have HT5 := Lib.hid (HT3.out.trans ht5 (fun n h1 h2 => (Or.inr (HN.out.old n h1 ((wrow_of hs).trans (HN3.out.old n (by omega) h2))) : WD w b n))); obtain ⟨A5, cp5, rfl, -, -, -⟩ := row_cells hown5; have HO5 := Lib.hid hown5; clear hown5)
      have e5 : xs ++ encb (l.take k) ++ enc l[k].length ++ l[k] = xs ++ encb (l.take (k + 1)) := by rw [encb_snoc hlt]; simp only [List.append_assoc]
      have hO6 := HO5.out
      rw [← flatU_app, ← List.length_append, e5] at hO6
      have hN5 := HN5.out
      rw [← List.length_append, e5] at hN5
      have HW6 : Hid (Wr (w5.setCell ⟨b, 0, none⟩ (.slice A5 (xs ++ encb (l.take (k + 1))).length cp5)) b base (xs ++ encb (l.take (k + 1)))) := Lib.hid ⟨⟨_, c_set_same (h_of c5), row_set hO6 hlow _⟩, f_set f5, hlow, by simp; omega⟩
      have HT6 : Hid (Touch (WD w b) w (w5.setCell ⟨b, 0, none⟩ (.slice A5 (xs ++ encb (l.take (k + 1))).length cp5))) := Lib.hid (HT5.out.set (fun _ => Or.inl rfl))
      have HN6 : Hid (WNear w b (w5.setCell ⟨b, 0, none⟩ (.slice A5 (xs ++ encb (l.take (k + 1))).length cp5))) := Lib.hid (HN.out.step (w2 := w5) hsz hs hN5 (c_set_same (h_of c5)))
      rw [← e5, List.length_append] at HW6 HT6 HN6
      rw [e5] at HW6
      simp only [List.append_assoc, List.length_append] at HW6 HT6 HN6
      clear hO6 hN5
      first
        | (go_roundw
           case rel => exact ⟨k + 1, by omega, by go_num, HW6, HT6, HN6⟩
           case measure => simp [intOf]; omega)
        | (refine ⟨⟨k + 1, by omega, by go_num, HW6, HT6, HN6⟩, ?_⟩
           simp [intOf]; omega)
    · have hke : k = l.length := by omega
      subst hke
      have hO := HW.out
      rw [List.take_length] at hO
      have HO := Lib.hid hO
      clear hO
      go_wp2_with fail
      refine bodyPost_end (v := .tuple #[]) (by simp [results, Tryz.results37, go_sem]) rfl ⟨rfl, HO.out, HT.out, HN.out⟩
end Go.Proofs.YtdlbiobjnohfbaaGreat
